/- A traffic's text read, by the model: l10Place, ReadTraffic. -/
import Derived.Test.YtdaihpkjnigjgaaDoorTfu
import Derived.Test.YtdaihpkjnigjgaaDoorTfS
import Derived.Test.YtdaihpkjnigjgaaDoorNmS
import Derived.Test.YtdaihpkjnigjgaaDoorTxS
namespace Go.Proofs.YtdaihpkjnigjgaaDoor
open Go.RowKit Go.Shelf
set_option maxHeartbeats 4000000
set_option maxRecDepth 100000
set_option linter.unusedVariables false
set_option linter.unusedSimpArgs false
def ReadsQ (w : World) (u : List UInt8) (e : Ending) (w' : World) : Prop := Later w w' ∧ ((∃ p : Int, 0 ≤ p ∧ p < 4000000000000 ∧ u = wdP p ∧ e = .returned (.tuple #[.int .i64 p, .bool true])) ∨ ((∀ p : Int, 0 ≤ p → p < 24 → u ≠ wdP p) ∧ ∃ p, InR p ∧ e = .returned (.tuple #[.int .i64 p, .bool false])))
theorem wdP_len2 {p : Int} (h : 0 ≤ p) : 2 ≤ (wdP p).length := by
  unfold wdP
  rw [List.length_append, itoa_nn _ (by omega)]
  have := (dec_read ((p / 3).toNat + 1) (p / 3).toNat (by omega)).2.2
  have h1 : (Lib.decDigits (p / 3).toNat).length ≠ 0 := fun h => this (List.length_eq_zero_iff.1 h)
  simp; omega
theorem q_ok {u0 : List UInt8} {c : UInt8} {v : Nat} {ph : Int} (h : Lib.decDigits v = u0) (hph : (c = 114 ∧ ph = 0) ∨ (c = 104 ∧ ph = 1) ∨ (c = 99 ∧ ph = 2)) : u0 ++ [c] = wdP (3 * (v : Int) + ph) := by
  have h1 : (3 * (v : Int) + ph) / 3 = (v : Int) := by rcases hph with ⟨_, e⟩ | ⟨_, e⟩ | ⟨_, e⟩ <;> omega
  have h2 : (3 * (v : Int) + ph) % 3 = ph := by rcases hph with ⟨_, e⟩ | ⟨_, e⟩ | ⟨_, e⟩ <;> omega
  unfold wdP
  rw [h1, h2, itoa_nat, h]
  congr 2
  rcases hph with ⟨e, f⟩ | ⟨e, f⟩ | ⟨e, f⟩ <;> rw [e, f] <;> rfl
theorem q_no1 {u0 : List UInt8} {c : UInt8} (h : ¬ IsN u0) : ∀ p : Int, 0 ≤ p → p < 24 → u0 ++ [c] ≠ wdP p := by
  intro p h0 h1 e
  obtain ⟨a, _⟩ := rp_split e
  exact h ⟨(p / 3).toNat, by omega, by rw [a, itoa_nn _ (by omega)]⟩
theorem q_no2 {u0 : List UInt8} {c : UInt8} (h1 : c ≠ 114) (h2 : c ≠ 104) (h3 : c ≠ 99) : ∀ p : Int, 0 ≤ p → p < 24 → u0 ++ [c] ≠ wdP p := by
  intro p g0 g1 e
  have := (rp_no2 (u0 := u0) h1 h2 h3).2 p g0 g1 e
  exact absurd this.2 (by decide)
theorem s_l10Place (s : ByteArray) (w : World) (hs : s.size ≤ 1048576) : Calls Tryd.prog 32 #[.string s] w (ReadsQ w s.data.toList) := by
  obtain ⟨l, hl⟩ : ∃ l, l = s.data.toList := ⟨_, rfl⟩
  have hlen : l.length = s.size := by rw [hl]; rfl
  rw [← hl]
  unfold ReadsQ
  by_cases hz : s.size < 2
  · have HX : Hid (∀ p : Int, 0 ≤ p → p < 24 → l ≠ wdP p) := Lib.hid (fun p h0 _ e => by have := wdP_len2 h0; rw [← e] at this; omega)
    have hzi : (s.size : Int) < 2 := by omega
    clear hl hlen hz
    go_enter Tryd.func32, Tryd.ntmps32
    go_wp2_with fail
    refine bodyPost_ret (v := .tuple #[.int .i64 0, .bool false]) (by simp [results, Tryd.results32, go_sem, *]) rfl ⟨(by repeat (first | (with_reducible exact Later.refl _) | (with_reducible exact Hid.out (by assumption)) | (with_reducible refine Later.alloc ?_ _) | (with_reducible refine Later.setCell ?_ (by simp; omega) _) | (with_reducible refine Later.setCell ?_ (by simp) _) | (with_reducible refine Later.drewN ?_ _) | (with_reducible refine Later.drew ?_) | (with_reducible refine Later.trans ?_ (Hid.out (by assumption))))), .inr ⟨HX.out, 0, ⟨by decide, by decide⟩, rfl⟩⟩
  · obtain ⟨m, hm⟩ : ∃ m, s.size = m + 1 := ⟨s.size - 1, by omega⟩
    have hzi : ¬ (s.size : Int) < 2 := by omega
    have h1 : IntKind.i64.wrap ((s.size : Int) - 1) = (m : Int) := by rw [IntWalk.i64_in _ (by omega)]; omega
    have h3 : (0 : Int) ≤ m := by omega
    have h4 : (m : Int) ≤ s.size := by omega
    have h5 : (m : Int) < s.size := by omega
    have h6 : m < s.size := by omega
    obtain ⟨u0, hu0⟩ : ∃ u0, u0 = s.extract 0 m := ⟨_, rfl⟩
    obtain ⟨c, hc⟩ : ∃ c, c = s[m]'h6 := ⟨_, rfl⟩
    have hcut : l = u0.data.toList ++ [c] := by
      have e0 : u0.data.toList = l.take m := by
        rw [hu0, Lib.extract_data, hl]; simp
      have e1 : l[m]'(by omega) = c := by rw [hc]; subst hl; rfl
      have e2 : l.take (m + 1) = l := List.take_of_length_le (by omega)
      have e3 : l.take (m + 1) = l.take m ++ [l[m]'(by omega)] := List.take_succ_eq_append_getElem (by omega)
      rw [e2, e1] at e3
      rw [e0]; exact e3
    have husz : u0.size ≤ 1048576 := by rw [hu0, ByteArray.size_extract]; omega
    have HCUT := Lib.hid hcut
    have HU := Lib.hid hu0; have HC := Lib.hid hc
    have HSV : Hid (∀ W, Calls Tryd.prog 31 #[.string u0] W (ReadsN W u0.data.toList)) := Lib.hid (fun W => s_Value u0 W husz)
    clear hl hlen hcut hz husz hu0
    have key : ∀ k : Nat, (c.toNat == k) = decide (c.toNat = k) := fun k => by rw [Bool.eq_iff_iff]; simp
    have hph : (c = 114 ∧ ((c.toNat : Int) == 114) = true) ∨ (c = 104 ∧ ((c.toNat : Int) == 114) = false ∧ ((c.toNat : Int) == 104) = true) ∨ (c = 99 ∧ ((c.toNat : Int) == 114) = false ∧ ((c.toNat : Int) == 104) = false ∧ ((c.toNat : Int) == 99) = true) ∨ ((c ≠ 114 ∧ c ≠ 104 ∧ c ≠ 99) ∧ ((c.toNat : Int) == 114) = false ∧ ((c.toNat : Int) == 104) = false ∧ ((c.toNat : Int) == 99) = false) := by
      have n1 : c = 114 ↔ (c.toNat : Int) = 114 := ⟨fun h => by rw [h]; rfl, fun h => by apply UInt8.toNat_inj.1; have : c.toNat = 114 := by omega
                                                                                         rw [this]; rfl⟩
      have n2 : c = 104 ↔ (c.toNat : Int) = 104 := ⟨fun h => by rw [h]; rfl, fun h => by apply UInt8.toNat_inj.1; have : c.toNat = 104 := by omega
                                                                                         rw [this]; rfl⟩
      have n3 : c = 99 ↔ (c.toNat : Int) = 99 := ⟨fun h => by rw [h]; rfl, fun h => by apply UInt8.toNat_inj.1; have : c.toNat = 99 := by omega
                                                                                       rw [this]; rfl⟩
      simp only [beq_iff_eq, beq_eq_false_iff_ne, ne_eq, ← n1, ← n2, ← n3]
      by_cases a1 : c = 114
      · exact .inl ⟨a1, a1⟩
      · by_cases a2 : c = 104
        · exact .inr (.inl ⟨a2, a1, a2⟩)
        · by_cases a3 : c = 99
          · exact .inr (.inr (.inl ⟨a3, a1, a2, a3⟩))
          · exact .inr (.inr (.inr ⟨⟨a1, a2, a3⟩, a1, a2, a3⟩))
    clear key
    have HCC : Hid (s[m]'h6 = c) := Lib.hid hc.symm
    have hcs : s[m]'h6 = c := hc.symm
    clear hc
    go_enter Tryd.func32, Tryd.ntmps32
    go_wp2_with fail
    rw [← HU.out]
    refine (HSV.out _).mono ?_
    rintro e w1 ⟨hb, hres⟩
    have H1 := Lib.hid hb
    clear hb
    have fin : ∃ (v : Nat) (g : Bool), v < 1000000000000 ∧ e = .returned (.tuple #[.int .i64 (v : Int), .bool g]) ∧ Hid ((g = true → Lib.decDigits v = u0.data.toList) ∧ (g = false → ¬ IsN u0.data.toList)) := by
      rcases hres with ⟨v, h1, h2, h3⟩ | ⟨h1, v, h2, h3⟩
      · exact ⟨v, true, h1, h3, Lib.hid ⟨fun _ => h2, fun h => by cases h⟩⟩
      · exact ⟨v, false, h2, h3, Lib.hid ⟨fun h => (by cases h), fun _ => h1⟩⟩
    obtain ⟨v, g, hv, rfl, HG⟩ := fin
    clear hres
    obtain ⟨y, hy⟩ : ∃ y : Int, y = 3 * (v : Int) := ⟨_, rfl⟩
    have w0 : IntKind.i64.wrap (3 * (v : Int)) = y := by rw [hy, IntWalk.i64_in _ (by omega)]
    have w1' : IntKind.i64.wrap (y + 1) = y + 1 := IntWalk.i64_in _ (by omega)
    have w2' : IntKind.i64.wrap (y + 2) = y + 2 := IntWalk.i64_in _ (by omega)
    have w3' : IntKind.i64.wrap y = y := IntWalk.i64_in _ (by omega)
    have HY := Lib.hid hy
    have FIN : Hid (∀ ph : Int, (c = 114 ∧ ph = 0) ∨ (c = 104 ∧ ph = 1) ∨ (c = 99 ∧ ph = 2) → ((∃ p : Int, 0 ≤ p ∧ p < 4000000000000 ∧ l = wdP p ∧ Ending.returned (.tuple #[.int .i64 (y + ph), .bool g]) = .returned (.tuple #[.int .i64 p, .bool true])) ∨ ((∀ p : Int, 0 ≤ p → p < 24 → l ≠ wdP p) ∧ ∃ p, InR p ∧ Ending.returned (.tuple #[.int .i64 (y + ph), .bool g]) = .returned (.tuple #[.int .i64 p, .bool false])))) := Lib.hid (fun ph hph => by
      have hp3 : 0 ≤ ph ∧ ph ≤ 2 := by rcases hph with ⟨_, e⟩ | ⟨_, e⟩ | ⟨_, e⟩ <;> omega
      cases g
      · exact .inr ⟨by rw [HCUT.out]; exact q_no1 (HG.out.2 rfl), _, ⟨by omega, by omega⟩, rfl⟩
      · exact .inl ⟨y + ph, by omega, by omega, by rw [HCUT.out, hy]; exact q_ok (HG.out.1 rfl) hph, rfl⟩)
    clear hy
    rcases hph with ⟨a1, e1⟩ | ⟨a1, e1, e2⟩ | ⟨a1, e1, e2, e3⟩ | ⟨⟨a1, a2, a3⟩, e1, e2, e3⟩
    · have HF := Lib.hid (FIN.out 0 (.inl ⟨a1, rfl⟩))
      rw [Int.add_zero] at HF
      have HI := Lib.hid a1
      clear a1 FIN
      go_wp2_with fail
      refine bodyPost_ret (v := .tuple #[.int .i64 y, .bool g]) (by simp [results, Tryd.results32, go_sem, *]) rfl ⟨(by repeat (first | (with_reducible exact Later.refl _) | (with_reducible exact Hid.out (by assumption)) | (with_reducible refine Later.alloc ?_ _) | (with_reducible refine Later.setCell ?_ (by simp; omega) _) | (with_reducible refine Later.setCell ?_ (by simp) _) | (with_reducible refine Later.drewN ?_ _) | (with_reducible refine Later.drew ?_) | (with_reducible refine Later.trans ?_ (Hid.out (by assumption))))), HF.out⟩
    · have HF := Lib.hid (FIN.out 1 (.inr (.inl ⟨a1, rfl⟩)))
      have HI := Lib.hid a1
      clear a1 FIN
      go_wp2_with fail
      refine bodyPost_ret (v := .tuple #[.int .i64 (y + 1), .bool g]) (by simp [results, Tryd.results32, go_sem, *]) rfl ⟨(by repeat (first | (with_reducible exact Later.refl _) | (with_reducible exact Hid.out (by assumption)) | (with_reducible refine Later.alloc ?_ _) | (with_reducible refine Later.setCell ?_ (by simp; omega) _) | (with_reducible refine Later.setCell ?_ (by simp) _) | (with_reducible refine Later.drewN ?_ _) | (with_reducible refine Later.drew ?_) | (with_reducible refine Later.trans ?_ (Hid.out (by assumption))))), HF.out⟩
    · have HF := Lib.hid (FIN.out 2 (.inr (.inr ⟨a1, rfl⟩)))
      have HI := Lib.hid a1
      clear a1 FIN
      go_wp2_with fail
      refine bodyPost_ret (v := .tuple #[.int .i64 (y + 2), .bool g]) (by simp [results, Tryd.results32, go_sem, *]) rfl ⟨(by repeat (first | (with_reducible exact Later.refl _) | (with_reducible exact Hid.out (by assumption)) | (with_reducible refine Later.alloc ?_ _) | (with_reducible refine Later.setCell ?_ (by simp; omega) _) | (with_reducible refine Later.setCell ?_ (by simp) _) | (with_reducible refine Later.drewN ?_ _) | (with_reducible refine Later.drew ?_) | (with_reducible refine Later.trans ?_ (Hid.out (by assumption))))), HF.out⟩
    · have HX : Hid (∀ p : Int, 0 ≤ p → p < 24 → l ≠ wdP p) := Lib.hid (by rw [HCUT.out]; exact q_no2 a1 a2 a3)
      clear a1 a2 a3 FIN
      go_wp2_with fail
      refine bodyPost_ret (v := .tuple #[.int .i64 0, .bool false]) (by simp [results, Tryd.results32, go_sem, *]) rfl ⟨(by repeat (first | (with_reducible exact Later.refl _) | (with_reducible exact Hid.out (by assumption)) | (with_reducible refine Later.alloc ?_ _) | (with_reducible refine Later.setCell ?_ (by simp; omega) _) | (with_reducible refine Later.setCell ?_ (by simp) _) | (with_reducible refine Later.drewN ?_ _) | (with_reducible refine Later.drew ?_) | (with_reducible refine Later.trans ?_ (Hid.out (by assumption))))), .inr ⟨HX.out, 0, ⟨by decide, by decide⟩, rfl⟩⟩
end Go.Proofs.YtdaihpkjnigjgaaDoor
