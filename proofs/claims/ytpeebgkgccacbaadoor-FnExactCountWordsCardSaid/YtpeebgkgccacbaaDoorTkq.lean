/- The laws' helpers on tokens that came in: sizes and copies. -/
import Derived.Test.YtpeebgkgccacbaaDoorTkO
import Derived.Test.YtpeebgkgccacbaaDoorTkF
import Derived.OwnWalk
namespace Go.Proofs.YtpeebgkgccacbaaDoor
open Go.RowKit Go.Shelf
set_option maxHeartbeats 4000000
set_option maxRecDepth 100000
set_option linter.unusedVariables false
set_option linter.unusedSimpArgs false
theorem info_tknQ : (Tryd.prog.info? 33).map (fun i => (i.zero, i.size, i.bytes)) = some (some (.agg #[.int .i64 0, .string ⟨#[]⟩]), 2, 24) := by kernel_rfl
theorem l_toToken (k : Int) (t : List UInt8) (w : World) : Calls Tryd.prog 36 #[.agg #[.int .i64 k, .string (tx t)]] w fun e w' => e = .returned (.agg #[.int .i64 k, .string (tx t)]) ∧ Later w w' := by
  obtain ⟨s, hs⟩ : ∃ s, s = tx t := ⟨_, rfl⟩
  rw [← hs]
  clear hs
  go_enter Tryd.func36, Tryd.ntmps36
  go_wp2_with fail
  refine bodyPost_ret (v := .agg #[.int .i64 k, .string s]) (by simp [results, Tryd.results36, go_sem, *]) rfl ⟨rfl, ?_⟩
  exact (by repeat (first | (with_reducible exact Later.refl _) | (with_reducible exact Hid.out (by assumption)) | (with_reducible refine Later.setCell ?_ (by simp; omega) _) | (with_reducible refine Later.setCell ?_ (by simp) _) | (with_reducible refine Later.alloc ?_ _) | (with_reducible refine Later.drewN ?_ _) | (with_reducible refine Later.drew ?_)))
theorem l_szToken (k : Int) (t : List UInt8) (l : Nat) (w : World) (hl : l ≤ 1048576) (ht : t.length ≤ maxLen) : Calls Tryd.prog 35 #[.agg #[.int .i64 k, .string (tx t)], .int .i64 l] w fun e w' => e = .returned (.int .i64 (if t.length ≤ l then ((l - t.length : Nat) : Int) else -1)) ∧ Later w w' := by
  have hz : (tx t).size = t.length := rfl
  unfold maxLen at ht
  obtain ⟨s, hs⟩ : ∃ s, s = tx t := ⟨_, rfl⟩
  rw [← hs] at hz ⊢
  clear hs
  by_cases h : t.length ≤ l
  · rw [if_pos h]
    have e1 : IntKind.i64.wrap ((l : Int) - (s.size : Int)) = ((l - t.length : Nat) : Int) := by rw [hz, show (l : Int) - (t.length : Int) = ((l - t.length : Nat) : Int) by omega]; exact IntWalk.i64_in _ (by omega)
    obtain ⟨r, hr⟩ : ∃ r, r = l - t.length := ⟨_, rfl⟩
    rw [← hr] at e1 ⊢
    have hr2 : r ≤ 1048576 := by omega
    clear hr hz
    go_enter Tryd.func35, Tryd.ntmps35
    go_wp2_with fail
    go_ret
    exact ⟨rfl, (by repeat (first | (with_reducible exact Later.refl _) | (with_reducible exact Hid.out (by assumption)) | (with_reducible refine Later.alloc ?_ _) | (with_reducible refine Later.setCell ?_ (by simp; omega) _) | (with_reducible refine Later.setCell ?_ (by simp) _) | (with_reducible refine Later.drewN ?_ _) | (with_reducible refine Later.drew ?_) | (with_reducible refine Later.trans ?_ (Hid.out (by assumption)))))⟩
  · rw [if_neg h]
    have e1 : IntKind.i64.wrap ((l : Int) - (s.size : Int)) = -((t.length - l : Nat) : Int) := by rw [hz, show (l : Int) - (t.length : Int) = -((t.length - l : Nat) : Int) by omega]; exact IntWalk.i64_in _ (by omega)
    obtain ⟨r, hr⟩ : ∃ r, r = t.length - l := ⟨_, rfl⟩
    rw [← hr] at e1
    have hr2 : 1 ≤ r := by omega
    have hr3 : decide (-(r : Int) < 0) = true := by simp; omega
    have hr4 : -(r : Int) < 0 := by omega
    clear hr hz
    go_enter Tryd.func35, Tryd.ntmps35
    go_wp2_with fail
    go_ret
    exact ⟨rfl, (by repeat (first | (with_reducible exact Later.refl _) | (with_reducible exact Hid.out (by assumption)) | (with_reducible refine Later.alloc ?_ _) | (with_reducible refine Later.setCell ?_ (by simp; omega) _) | (with_reducible refine Later.setCell ?_ (by simp) _) | (with_reducible refine Later.drewN ?_ _) | (with_reducible refine Later.drew ?_) | (with_reducible refine Later.trans ?_ (Hid.out (by assumption)))))⟩
/-- what szTokenS tells: -1, or all texts are short -/
def SzT (n : Nat) (L : List Tkn) (e : Ending) : Prop := e = .returned (.int .i64 (-1)) ∨ (∃ r : Nat, e = .returned (.int .i64 r) ∧ r ≤ 1048576 ∧ n ≤ 1048576 ∧ ∀ j, j < n → (tsx L j).length ≤ 1048576)
theorem l_szTokenS (a : Option Addr) (n cap : Nat) (L : List Tkn) (w : World) (hs : Tko w a n L) :
    Calls Tryd.prog 37 #[.slice a n cap, .int .i64 1048576] w fun e w' => SzT n L e ∧ Later w w' := by
  have HS := Lib.hid hs
  have hn := hs.2.1
  clear hs
  by_cases h : n ≤ 1048576
  · have e1 : IntKind.i64.wrap (1048576 - (n : Int)) = ((1048576 - n : Nat) : Int) := by rw [show 1048576 - (n : Int) = ((1048576 - n : Nat) : Int) by omega]; exact IntWalk.i64_in _ (by omega)
    obtain ⟨l0, hl0⟩ : ∃ r, r = 1048576 - n := ⟨_, rfl⟩
    rw [← hl0] at e1
    have hl1 : l0 ≤ 1048576 := by omega
    clear hl0
    go_enter Tryd.func37, Tryd.ntmps37
    go_wp2_with fail
    go_loopw [1, 5] (fun m i wr => ∃ k l : Nat, i = .int .i64 k ∧ k ≤ n ∧ m = .int .i64 l ∧ l ≤ 1048576 ∧ Later w wr ∧ Hid (∀ j, j < k → (tsx L j).length ≤ 1048576)) (fun _ i _ => n - (intOf i).toNat)
    case atStart => exact ⟨0, l0, rfl, by omega, rfl, hl1, Later.refl _, Lib.hid (by intro j h; omega)⟩
    case round =>
      obtain ⟨k, l, rfl, hk, rfl, hl, hb, HI⟩ := hrel
      have B3 := Lib.hid hb
      by_cases hlt : k < n
      · obtain ⟨b, off, rfl, hc, hd⟩ := (HS.out.later hb).2.2.1 k hlt
        have hml := (HS.out.2.2.2 _ (kx_mem L k (by rw [HS.out.1]; exact hlt))).2
        have SZ := Lib.hid (fun W => l_szToken (tkx L k) (tsx L k) l W hl hml)
        obtain ⟨x, hx⟩ : ∃ x, x = tkx L k := ⟨_, rfl⟩
        obtain ⟨y, hy⟩ : ∃ y, y = tx (tsx L k) := ⟨_, rfl⟩
        rw [← hx] at hc SZ; rw [← hy] at hd SZ
        have HL : Hid (∀ j, j < k + 1 → j < k ∨ j = k) := Lib.hid (fun j hj => by omega)
        by_cases hle : (tsx L k).length ≤ l
        · rw [if_pos hle] at SZ
          have HLE := Lib.hid hle
          obtain ⟨r, hr⟩ : ∃ r, r = l - (tsx L k).length := ⟨_, rfl⟩
          rw [← hr] at SZ
          have hr2 : r ≤ 1048576 := by omega
          clear hx hy hb hml hle hr
          go_wp2_with (go_at_call 35; refine (SZ.out _).mono ?_; rintro e w4 ⟨rfl, hb⟩; have H4 := Lib.hid hb; clear hb)
          go_roundw
          case rel => exact ⟨k + 1, r, by go_num, by omega, rfl, hr2, (by repeat (first | (with_reducible exact Later.refl _) | (with_reducible exact Hid.out (by assumption)) | (with_reducible refine Later.alloc ?_ _) | (with_reducible refine Later.setCell ?_ (by simp; omega) _) | (with_reducible refine Later.setCell ?_ (by simp) _) | (with_reducible refine Later.drewN ?_ _) | (with_reducible refine Later.drew ?_) | (with_reducible refine Later.trans ?_ (Hid.out (by assumption))))), Lib.hid (by
            intro j hj
            rcases HL.out j hj with h1 | rfl
            · exact HI.out j h1
            · have := HLE.out; omega)⟩
          case measure => simp [intOf]; omega
        · rw [if_neg hle] at SZ
          clear hx hy hb hml hle
          go_wp2_with (go_at_call 35; refine (SZ.out _).mono ?_; rintro e w4 ⟨rfl, hb⟩; have H4 := Lib.hid hb; clear hb)
          go_ret
          exact ⟨.inl rfl, (by repeat (first | (with_reducible exact Later.refl _) | (with_reducible exact Hid.out (by assumption)) | (with_reducible refine Later.alloc ?_ _) | (with_reducible refine Later.setCell ?_ (by simp; omega) _) | (with_reducible refine Later.setCell ?_ (by simp) _) | (with_reducible refine Later.drewN ?_ _) | (with_reducible refine Later.drew ?_) | (with_reducible refine Later.trans ?_ (Hid.out (by assumption)))))⟩
      · obtain rfl : k = n := by omega
        clear hb
        go_wp2_with fail
        go_ret
        exact ⟨.inr ⟨l, rfl, hl, h, HI.out⟩, B3.out⟩
  · have e1 : IntKind.i64.wrap (1048576 - (n : Int)) = -((n - 1048576 : Nat) : Int) := by rw [show 1048576 - (n : Int) = -((n - 1048576 : Nat) : Int) by omega]; exact IntWalk.i64_in _ (by omega)
    obtain ⟨r, hr⟩ : ∃ r, r = n - 1048576 := ⟨_, rfl⟩
    rw [← hr] at e1
    have hr3 : decide (-(r : Int) < 0) = true := by simp; omega
    have hr4 : -(r : Int) < 0 := by omega
    clear hr
    go_enter Tryd.func37, Tryd.ntmps37
    go_wp2_with fail
    go_ret
    exact ⟨.inl rfl, Later.refl _⟩
/-- a copy of which the first k tokens are there -/
def cpT (L : List Tkn) (m k : Nat) : List Tkn := (List.range m).map fun j => if j < k then (tkx L j, tsx L j) else (0, [])
theorem cpT_len (L : List Tkn) (m k : Nat) : (cpT L m k).length = m := by simp [cpT]
theorem cpT_at (L : List Tkn) (m k j : Nat) (h : j < m) : (cpT L m k).getD j (0, []) = if j < k then (tkx L j, tsx L j) else (0, []) := by
  rw [List.getD_eq_getElem?_getD]; simp [cpT, h]
theorem cpT_full (L : List Tkn) (m : Nat) (h : L.length = m) : cpT L m m = L := by
  apply List.ext_getElem
  · rw [cpT_len, h]
  · intro j h1 h2
    have := cpT_at L m m j (by omega)
    rw [List.getD_eq_getElem?_getD, List.getElem?_eq_getElem h1, if_pos (by omega)] at this
    rw [kx_at L j h2]
    simpa using this
theorem cpT_set (L : List Tkn) (m k : Nat) (hk : k < m) : ((tcl (cpT L m k)).set (k * 2) (.int .i64 (tkx L k))).set (k * 2 + 1) (.string (tx (tsx L k))) = tcl (cpT L m (k + 1)) := by
  apply List.ext_getElem?
  intro i
  by_cases hi : i < m * 2
  · rw [List.getElem?_set, List.getElem?_set, List.length_set, tcl_len, cpT_len, tcl_get _ i (by rw [cpT_len]; exact hi), tcl_get _ i (by rw [cpT_len]; exact hi)]
    have hj : i / 2 < m := by omega
    have g1 : tkx (cpT L m k) (i / 2) = (if i / 2 < k then (tkx L (i / 2), tsx L (i / 2)) else (0, [])).1 := by unfold tkx; rw [cpT_at L m k _ hj]; rfl
    have g2 : tsx (cpT L m k) (i / 2) = (if i / 2 < k then (tkx L (i / 2), tsx L (i / 2)) else (0, [])).2 := by unfold tsx; rw [cpT_at L m k _ hj]; rfl
    have g3 : tkx (cpT L m (k + 1)) (i / 2) = (if i / 2 < k + 1 then (tkx L (i / 2), tsx L (i / 2)) else (0, [])).1 := by unfold tkx; rw [cpT_at L m (k + 1) _ hj]; rfl
    have g4 : tsx (cpT L m (k + 1)) (i / 2) = (if i / 2 < k + 1 then (tkx L (i / 2), tsx L (i / 2)) else (0, [])).2 := by unfold tsx; rw [cpT_at L m (k + 1) _ hj]; rfl
    rw [g1, g2, g3, g4]
    by_cases e1 : k * 2 + 1 = i
    · subst e1
      have c : (k * 2 + 1) / 2 = k := by omega
      rw [if_pos rfl, if_pos (by omega), if_neg (by omega), c, if_pos (by omega)]
    · rw [if_neg e1]
      by_cases e2 : k * 2 = i
      · subst e2
        have c : k * 2 / 2 = k := by omega
        rw [if_pos rfl, if_pos (by omega), if_pos (by omega), c, if_pos (by omega)]
      · rw [if_neg e2]
        by_cases c : i / 2 < k
        · have c2 : i / 2 < k + 1 := by omega
          simp only [if_pos c, if_pos c2]
        · have c2 : ¬ i / 2 < k + 1 := by omega
          simp only [if_neg c, if_neg c2]
  · rw [List.getElem?_eq_none (by simp [tcl_len, cpT_len]; omega), List.getElem?_eq_none (by simp [tcl_len, cpT_len]; omega)]
theorem madeT (L : List Tkn) (n : Nat) : (madeCells (Value.cells (.agg #[.int .i64 0, .string ⟨#[]⟩])) (n * 2)).toList = tcl (cpT L n 0) := by
  apply List.ext_getElem?
  intro j
  by_cases h : j < n * 2
  · rw [tcl_get _ j (by rw [cpT_len]; exact h)]
    have hc : (cpT L n 0).getD (j / 2) (0, []) = (0, []) := by rw [cpT_at L n 0 _ (by omega), if_neg (by omega)]
    unfold tkx tsx
    rw [hc]
    have e : j % 2 = 0 ∨ j % 2 = 1 := by omega
    rcases e with e | e <;> simp [madeCells, Value.cells, h, e, tx]
  · rw [List.getElem?_eq_none (by simp [madeCells]; omega), List.getElem?_eq_none (by rw [tcl_len, cpT_len]; omega)]
/-- a copy of a list of tokens -/
def CopiedT (w : World) (n : Nat) (L : List Tkn) (e : Ending) (w' : World) : Prop :=
  ∃ g, e = .returned (.slice (some ⟨g, 0, none⟩) n n) ∧ w.heap.size ≤ g ∧ g < w'.heap.size ∧ Tks w' (some ⟨g, 0, none⟩) n L ∧ Later w w'
theorem l_toTokenS (a : Option Addr) (n cap : Nat) (L : List Tkn) (w : World) (hs : Tks w a n L) (hn : n ≤ 1048576) :
    Calls Tryd.prog 38 #[.slice a n cap] w (CopiedT w n L) := by
  have HS := Lib.hid hs
  have HL := Lib.hid hs.1
  have HI2 := Lib.hid hs.2.2.2
  clear hs
  obtain ⟨i0, hi, hz0, hz1, hz2⟩ := info_parts info_tknQ
  have HI := Lib.hid hi; clear hi
  have HZ0 := Lib.hid hz0; clear hz0
  have HZ1 := Lib.hid hz1; clear hz1
  have HZ2 := Lib.hid hz2; clear hz2
  go_enter Tryd.func38, Tryd.ntmps38
  go_wp2_with (refine wpList_make_full _ rfl _ _ _ rfl w.heap.size 33 i0 (.agg #[.int .i64 0, .string ⟨#[]⟩]) 2 Tryd.underlying24 HI.out HZ0.out HZ1.out _ _ _ _ n rfl rfl rfl rfl (by rw [HZ2.out]; omega) (by unfold maxLen; omega) (Nat.le_refl _) ?_; intro w1 hown hgrow)
  have HO : Hid (w1.ownsRow w.heap.size 33 2 (.slice (some ⟨w.heap.size, 0, none⟩) n n) n (tcl (cpT L n 0))) := Lib.hid (by rw [← madeT]; exact hown)
  have HB : Hid (Later w w1) := Lib.hid ((Below.refl _ _).grown hgrow (Nat.le_refl _) (by simp))
  clear hown hgrow
  go_loopw [4] (fun i wr => ∃ k : Nat, k ≤ n ∧ i = .int .i64 k ∧ wr.ownsRow w.heap.size 33 2 (.slice (some ⟨w.heap.size, 0, none⟩) n n) n (tcl (cpT L n k)) ∧ Later w wr) (fun i _ => n - (intOf i).toNat)
  case atStart => exact ⟨0, by omega, rfl, HO.out, HB.out⟩
  case round =>
    clear HO HB
    obtain ⟨k, hk, rfl, ho, hb⟩ := hrel
    have HR := Lib.hid ho
    have HW := Lib.hid hb
    have hsz := (ho.lt w.heap.size rfl).2
    clear ho hb
    by_cases hlt : k < n
    · obtain ⟨b', off', rfl, c0, c1⟩ := (HS.out.later HW.out).2.2.1 k hlt
      have TT := Lib.hid (fun W => l_toToken (tkx L k) (tsx L k) W)
      have HSET := Lib.hid (cpT_set L n k hlt)
      obtain ⟨x, hx⟩ : ∃ x, x = tkx L k := ⟨_, rfl⟩
      obtain ⟨y, hy⟩ : ∃ y, y = tx (tsx L k) := ⟨_, rfl⟩
      rw [← hx] at c0 TT HSET; rw [← hy] at c1 TT HSET
      clear hx hy
      go_wp2_with fail
      refine (TT.out _).mono ?_
      rintro e w2 ⟨rfl, hb2⟩
      have H2 := Lib.hid (Later.trans HW.out hb2)
      have R2 := Lib.hid (HR.out.kept (row := none) (grown_of_later hb2 none) (.inr (fun e => by cases e)))
      have hsz2 : w.heap.size < w2.heap.size := (R2.out.lt w.heap.size rfl).2
      have gt : ∀ j, j < n * 2 → w2.cell? ⟨w.heap.size, j, none⟩ = some (if j % 2 = 0 then .int .i64 (tkx (cpT L n k) (j / 2)) else .string (tx (tsx (cpT L n k) (j / 2)))) := fun j hj => by rw [R2.out.cellAt j hj, tcl_get _ j (by rw [cpT_len]; exact hj)]
      have u0 := gt (k * 2) (by omega)
      have u1 := gt (k * 2 + 1) (by omega)
      rw [if_pos (by omega)] at u0
      rw [if_neg (by omega)] at u1
      have g0 : w2.frozen? ⟨w.heap.size, k * 2, none⟩ = false := R2.out.frozenAt _
      have g1 : w2.frozen? ⟨w.heap.size, k * 2 + 1, none⟩ = false := R2.out.frozenAt _
      generalize tkx (cpT L n k) (k * 2 / 2) = z0 at u0
      generalize tx (tsx (cpT L n k) ((k * 2 + 1) / 2)) = z1 at u1
      clear hb2 c0 c1 gt HR
      go_wp2_with fail
      go_roundw
      case rel =>
        exact ⟨k + 1, by omega, by go_num, by rw [← HSET.out]; exact ((R2.out.stored _ _).1.stored _ _).1, (by repeat (first | (with_reducible exact Hid.out (by assumption)) | (with_reducible refine Later.setCell ?_ (Nat.le_refl _) _) | (with_reducible refine Later.drewN ?_ _) | (with_reducible refine Later.drew ?_)))⟩
      case measure => simp [intOf]; omega
    · obtain rfl : k = n := by omega
      have hlt2 := hsz
      have HF := Lib.hid (cpT_full L k HL.out)
      go_wp2
      go_ret
      refine ⟨w.heap.size, rfl, Nat.le_refl _, hlt2, ?_, HW.out⟩
      have ho : OwnK wr w.heap.size 33 (.slice (some ⟨w.heap.size, 0, none⟩) k k) L := ⟨by have h1 := HR.out; rw [HF.out] at h1; rw [HL.out]; exact h1, HI2.out⟩
      obtain ⟨a2, c2, e, _, ht, _⟩ := ho.tks
      rw [HL.out] at ht
      cases e
      exact ht
end Go.Proofs.YtpeebgkgccacbaaDoor
