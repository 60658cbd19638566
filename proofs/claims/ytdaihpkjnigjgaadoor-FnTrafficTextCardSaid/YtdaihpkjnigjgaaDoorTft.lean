/- A traffic's text read, by the program: readPlace, ReadTraffic. -/
import Derived.Test.YtdaihpkjnigjgaaDoorTfs
import Derived.Test.YtdaihpkjnigjgaaDoorTfL
import Derived.Test.YtdaihpkjnigjgaaDoorRdS
namespace Go.Proofs.YtdaihpkjnigjgaaDoor
open Go.RowKit Go.Shelf
set_option maxHeartbeats 4000000
set_option maxRecDepth 100000
set_option linter.unusedVariables false
set_option linter.unusedSimpArgs false
theorem frT_set {g : Nat} {a b : Value} {w : World} (h : Fr g [a, b] w) (u : Value) : Fr g [a, u] (w.setCell ⟨g, 1, none⟩ u) := by
  obtain ⟨c0, c1, f0, f1⟩ := h.o2
  refine ⟨by rw [World.size_setCell]; exact h.1, fun j v hj => ?_⟩
  rw [World.frozen?_setCell]
  match j, hj with
  | 0, hj => simp at hj; subst hj; exact ⟨by rw [World.cell?_setCell_other _ _ _ _ (by simp)]; exact c0, f0⟩
  | 1, hj => simp at hj; subst hj; exact ⟨World.cell?_setCell_same _ _ _ c1, f1⟩
  | j + 2, hj => simp at hj
theorem frT_far {g : Nat} {l : List Value} {w : World} (h : Fr g l w) (p : Addr) (u : Value) (hp : p.block ≠ g) : Fr g l (w.setCell p u) := by
  refine ⟨by rw [World.size_setCell]; exact h.1, fun i v hi => ?_⟩
  obtain ⟨c, f⟩ := h.2 i v hi
  rw [World.frozen?_setCell]
  refine ⟨?_, f⟩
  rw [World.cell?_setCell_far _ _ _ _ hp]
  exact c
theorem frT_kept {g : Nat} {l : List Value} {w w' : World} {r : Option Nat} (h : Fr g l w) (hg : w.grownBy w' r) (hr : r ≠ some g) : Fr g l w' := by
  refine ⟨Nat.lt_of_lt_of_le h.1 hg.size, fun i v hi => ?_⟩
  obtain ⟨c, f⟩ := h.2 i v hi
  exact ⟨hg.cell c (fun e => hr e.symm), by rw [World.frozen?_of_block (w := w) (hg.block g h.1 (fun e => hr e.symm))]; exact f⟩
/-- what is told of a word read loosely -/
theorem rp_nil : RpW [] 0 false := ⟨⟨by decide, by decide⟩, fun q _ _ h => by unfold wdP at h; simp at h⟩
theorem rp_split {u0 : List UInt8} {c : UInt8} {q : Int} (h : u0 ++ [c] = wdP q) : u0 = Lib.itoa (q / 3) ∧ c = chP (q % 3) := by
  unfold wdP at h
  obtain ⟨h1, h2⟩ := List.append_inj' h rfl
  exact ⟨h1, by simpa using h2⟩
theorem rp_ok {u0 : List UInt8} {c : UInt8} {n ph : Int} (h : RcW u0 n true) (hph : (c = 114 ∧ ph = 0) ∨ (c = 104 ∧ ph = 1) ∨ (c = 99 ∧ ph = 2)) : RpW (u0 ++ [c]) (3 * n + ph) true := by
  have hr := h.1
  refine ⟨⟨by omega, by omega⟩, fun q q0 q1 hu => ⟨?_, rfl⟩⟩
  obtain ⟨h1, h2⟩ := rp_split hu
  have h3 := (h.2 (q / 3) (by omega) (by omega) h1).1
  have hm : q % 3 = 0 ∨ q % 3 = 1 ∨ q % 3 = 2 := by omega
  have k0 : chP 0 = 114 := rfl
  have k1 : chP 1 = 104 := rfl
  have k2 : chP 2 = 99 := rfl
  rcases hm with hm | hm | hm <;> rw [hm] at h2 <;> simp only [k0, k1, k2] at h2 <;> rcases hph with ⟨e, f⟩ | ⟨e, f⟩ | ⟨e, f⟩ <;> first | omega | (rw [h2] at e; exact absurd e (by decide))
theorem rp_no1 {u0 : List UInt8} {c : UInt8} {n : Int} (h : RcW u0 n false) : RpW (u0 ++ [c]) 0 false := by
  refine ⟨⟨by decide, by decide⟩, fun q q0 q1 hu => ?_⟩
  obtain ⟨h1, h2⟩ := rp_split hu
  exact absurd (h.2 (q / 3) (by omega) (by omega) h1).2 (by decide)
theorem rp_no2 {u0 : List UInt8} {c : UInt8} (h1 : c ≠ 114) (h2 : c ≠ 104) (h3 : c ≠ 99) : RpW (u0 ++ [c]) 0 false := by
  refine ⟨⟨by decide, by decide⟩, fun q q0 q1 hu => ?_⟩
  obtain ⟨_, h4⟩ := rp_split hu
  have hm : q % 3 = 0 ∨ q % 3 = 1 ∨ q % 3 = 2 := by omega
  rcases hm with hm | hm | hm <;> rw [hm] at h4
  · exact absurd h4 h1
  · exact absurd h4 h2
  · exact absurd h4 h3
theorem ixR_0 : Lib.indexByte [114, 104, 99] 114 = 0 := rfl
theorem ixR_1 : Lib.indexByte [114, 104, 99] 104 = 1 := rfl
theorem ixR_2 : Lib.indexByte [114, 104, 99] 99 = 2 := rfl
theorem ixR_no {c : UInt8} (h1 : c ≠ 114) (h2 : c ≠ 104) (h3 : c ≠ 99) : Lib.indexByte [114, 104, 99] c = -1 := by
  have e1 : ((114 : UInt8) == c) = false := by simpa using fun h => h1 h.symm
  have e2 : ((104 : UInt8) == c) = false := by simpa using fun h => h2 h.symm
  have e3 : ((99 : UInt8) == c) = false := by simpa using fun h => h3 h.symm
  simp [Lib.indexByte, e1, e2, e3]
def ReadsP (w : World) (u : List UInt8) (e : Ending) (w' : World) : Prop := Later w w' ∧ ∃ p b, RpW u p b ∧ e = .returned (.tuple #[.int .i64 p, .bool b])
theorem i_IndexR (c : UInt8) (w : World) : Calls Tryd.prog 50 #[.string ⟨#[114, 104, 99]⟩, .int .u8 c.toNat] w fun e w' => e = .returned (.int .i64 (Lib.indexByte [114, 104, 99] c)) ∧ w = w' :=
  (Any.strings_IndexByte Tryd.lays137 ⟨#[114, 104, 99]⟩ (c.toNat : Int) w).mono fun e w' ⟨h, k⟩ => ⟨by
    rw [h]
    have : ((c.toNat : Int)).toNat.toUInt8 = c := by rw [Int.toNat_natCast]; simp
    rw [this], k.symm⟩
theorem i_readPlace (s : ByteArray) (w : World) (hs : s.size ≤ 1048576) (he : Errs w) : Calls Tryd.prog 27 #[.string s] w (ReadsP w s.data.toList) := by
  have HE := Lib.hid he
  clear he
  obtain ⟨l, hl⟩ : ∃ l, l = s.data.toList := ⟨_, rfl⟩
  have hlen : l.length = s.size := by rw [hl]; rfl
  rw [← hl]
  unfold ReadsP
  by_cases hz : s.size = 0
  · have HX : Hid (RpW l 0 false) := Lib.hid (by rw [List.length_eq_zero_iff.1 (by omega : l.length = 0)]; exact rp_nil)
    have h1 : IntKind.i64.wrap ((s.size : Int) - 1) = -1 := by rw [hz]; rfl
    clear hl hlen hz
    go_enter Tryd.func27, Tryd.ntmps27
    go_wp2_with fail
    refine bodyPost_ret (v := .tuple #[.int .i64 0, .bool false]) (by simp [results, Tryd.results27, go_sem, *]) rfl ⟨(by repeat (first | (with_reducible exact Later.refl _) | (with_reducible exact Hid.out (by assumption)) | (with_reducible refine Later.alloc ?_ _) | (with_reducible refine Later.setCell ?_ (by simp; omega) _) | (with_reducible refine Later.setCell ?_ (by simp) _) | (with_reducible refine Later.drewN ?_ _) | (with_reducible refine Later.drew ?_) | (with_reducible refine Later.trans ?_ (Hid.out (by assumption))))), 0, false, HX.out, rfl⟩
  · obtain ⟨m, hm⟩ : ∃ m, s.size = m + 1 := ⟨s.size - 1, by omega⟩
    have h1 : IntKind.i64.wrap ((s.size : Int) - 1) = (m : Int) := by rw [IntWalk.i64_in _ (by omega)]; omega
    have h2 : ¬ (m : Int) < 0 := by omega
    have h3 : (0 : Int) ≤ m := by omega
    have h4 : (m : Int) ≤ s.size := by omega
    have h5 : (m : Int) < s.size := by omega
    have h6 : m < s.size := by omega
    obtain ⟨u0, hu0⟩ : ∃ u0, u0 = s.extract 0 m := ⟨_, rfl⟩
    obtain ⟨c, hc⟩ : ∃ c, c = s[m]'h6 := ⟨_, rfl⟩
    have hcut : l = u0.data.toList ++ [c] := by
      have e0 : u0.data.toList = l.take m := by
        rw [hu0, Lib.extract_data, hl]; simp
      have e1 : l[m]'(by omega) = c := by rw [hc]; subst hl; rfl
      have e2 : l.take (m + 1) = l := List.take_of_length_le (by omega)
      have e3 : l.take (m + 1) = l.take m ++ [l[m]'(by omega)] := List.take_succ_eq_append_getElem (by omega)
      rw [e2, e1] at e3
      rw [e0]; exact e3
    have husz : u0.size ≤ 281474976710656 := by rw [hu0, ByteArray.size_extract]; omega
    have HCUT := Lib.hid hcut
    have HRC := Lib.hid (rc_of u0.data.toList)
    have HU := Lib.hid hu0; have HC := Lib.hid hc
    clear hl hlen hcut hz
    obtain ⟨n, hn⟩ : ∃ n, n = rcV u0.data.toList := ⟨_, rfl⟩
    obtain ⟨bo, hbo⟩ : ∃ b, b = rcB u0.data.toList := ⟨_, rfl⟩
    have HRO : Hid (∀ W, Errs W → Calls Tryd.prog 26 #[.string u0] W fun e w' => e = .returned (.tuple #[.int .i64 n, .bool bo]) ∧ Later W w') := Lib.hid (fun W h => by rw [hn, hbo]; exact i_readCount u0 W husz h)
    rw [← hn, ← hbo] at HRC
    clear hn hbo husz
    have hnr := HRC.out.1
    clear hu0
    have hph : c = 114 ∨ c = 104 ∨ c = 99 ∨ (c ≠ 114 ∧ c ≠ 104 ∧ c ≠ 99) := by
      by_cases a1 : c = 114
      · exact .inl a1
      · by_cases a2 : c = 104
        · exact .inr (.inl a2)
        · by_cases a3 : c = 99
          · exact .inr (.inr (.inl a3))
          · exact .inr (.inr (.inr ⟨a1, a2, a3⟩))
    obtain ⟨ph, hph0, HI⟩ : ∃ ph, ph = Lib.indexByte [114, 104, 99] c ∧ Hid (∀ W, Calls Tryd.prog 50 #[.string ⟨#[114, 104, 99]⟩, .int .u8 c.toNat] W fun e w' => e = .returned (.int .i64 ph) ∧ W = w') := ⟨_, rfl, Lib.hid (fun W => i_IndexR c W)⟩
    cases bo
    · have HX : Hid (RpW l 0 false) := Lib.hid (by rw [HCUT.out]; exact rp_no1 HRC.out)
      clear hph hph0 hc
      go_enter Tryd.func27, Tryd.ntmps27
      go_wp2_with (first | (go_at_call 26; rw [← HU.out]; refine (HRO.out _ HE.out).mono ?_; rintro e w1 ⟨rfl, hb⟩; have H1 := Lib.hid hb; clear hb) | (go_at_call 50; rw [← HC.out]; refine (HI.out _).mono ?_; rintro e w' ⟨rfl, rfl⟩))
      refine bodyPost_ret (v := .tuple #[.int .i64 0, .bool false]) (by simp [results, Tryd.results27, go_sem, *]) rfl ⟨(by repeat (first | (with_reducible exact Later.refl _) | (with_reducible exact Hid.out (by assumption)) | (with_reducible refine Later.alloc ?_ _) | (with_reducible refine Later.setCell ?_ (by simp; omega) _) | (with_reducible refine Later.setCell ?_ (by simp) _) | (with_reducible refine Later.drewN ?_ _) | (with_reducible refine Later.drew ?_) | (with_reducible refine Later.trans ?_ (Hid.out (by assumption))))), 0, false, HX.out, rfl⟩
    · have hcase : (∃ k : Nat, ph = (k : Int) ∧ k ≤ 2 ∧ RpW l (3 * n + (k : Int)) true) ∨ (ph = -1 ∧ RpW l 0 false) := by
        rw [HCUT.out]
        rcases hph with h | h | h | ⟨g1, g2, g3⟩
        · exact .inl ⟨0, by rw [hph0, h, ixR_0]; rfl, by omega, rp_ok HRC.out (.inl ⟨h, rfl⟩)⟩
        · exact .inl ⟨1, by rw [hph0, h, ixR_1]; rfl, by omega, rp_ok HRC.out (.inr (.inl ⟨h, rfl⟩))⟩
        · exact .inl ⟨2, by rw [hph0, h, ixR_2]; rfl, by omega, rp_ok HRC.out (.inr (.inr ⟨h, rfl⟩))⟩
        · exact .inr ⟨by rw [hph0, ixR_no g1 g2 g3], rp_no2 g1 g2 g3⟩
      clear hph hph0 hc
      rcases hcase with ⟨k, rfl, hk, hx⟩ | ⟨rfl, hx⟩
      · have HX := Lib.hid hx
        have k3 : ¬ (k : Int) < 0 := by omega
        clear hx
        go_enter Tryd.func27, Tryd.ntmps27
        go_wp2_with (first | (go_at_call 26; rw [← HU.out]; refine (HRO.out _ HE.out).mono ?_; rintro e w1 ⟨rfl, hb⟩; have H1 := Lib.hid hb; clear hb) | (go_at_call 50; rw [← HC.out]; refine (HI.out _).mono ?_; rintro e w' ⟨rfl, rfl⟩) | (go_at_call 43; refine (i_placeIn _ _ _ (by omega) (by omega) (by omega) (by omega)).mono ?_; rintro e w' ⟨rfl, rfl⟩))
        refine bodyPost_ret (v := .tuple #[.int .i64 (3 * n + (k : Int)), .bool true]) (by simp [results, Tryd.results27, go_sem, *]) rfl ⟨(by repeat (first | (with_reducible exact Later.refl _) | (with_reducible exact Hid.out (by assumption)) | (with_reducible refine Later.alloc ?_ _) | (with_reducible refine Later.setCell ?_ (by simp; omega) _) | (with_reducible refine Later.setCell ?_ (by simp) _) | (with_reducible refine Later.drewN ?_ _) | (with_reducible refine Later.drew ?_) | (with_reducible refine Later.trans ?_ (Hid.out (by assumption))))), _, true, HX.out, rfl⟩
      · have HX := Lib.hid hx
        clear hx
        go_enter Tryd.func27, Tryd.ntmps27
        go_wp2_with (first | (go_at_call 26; rw [← HU.out]; refine (HRO.out _ HE.out).mono ?_; rintro e w1 ⟨rfl, hb⟩; have H1 := Lib.hid hb; clear hb) | (go_at_call 50; rw [← HC.out]; refine (HI.out _).mono ?_; rintro e w' ⟨rfl, rfl⟩))
        refine bodyPost_ret (v := .tuple #[.int .i64 0, .bool false]) (by simp [results, Tryd.results27, go_sem, *]) rfl ⟨(by repeat (first | (with_reducible exact Later.refl _) | (with_reducible exact Hid.out (by assumption)) | (with_reducible refine Later.alloc ?_ _) | (with_reducible refine Later.setCell ?_ (by simp; omega) _) | (with_reducible refine Later.setCell ?_ (by simp) _) | (with_reducible refine Later.drewN ?_ _) | (with_reducible refine Later.drew ?_) | (with_reducible refine Later.trans ?_ (Hid.out (by assumption))))), 0, false, HX.out, rfl⟩
end Go.Proofs.YtdaihpkjnigjgaaDoor
