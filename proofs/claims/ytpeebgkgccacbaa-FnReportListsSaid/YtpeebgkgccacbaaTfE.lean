/- The walks of the exact laws of chapter 10 (gen/gen_tf.py). -/
import Derived.Test.YtpeebgkgccacbaaTfL
import Derived.Test.YtpeebgkgccacbaaTfR
import Derived.Test.YtpeebgkgccacbaaRow
import Derived.Test.YtpeebgkgccacbaaHeld
namespace Go.Proofs.Ytpeebgkgccacbaa
open Go.RowKit
set_option maxHeartbeats 4000000
set_option maxRecDepth 100000
set_option linter.unusedVariables false
set_option linter.unusedSimpArgs false
theorem szT_big {n : Nat} (h : 1048576 < n) : szT n = -1 := by unfold szT; rw [if_neg (by omega)]
theorem szT_ok {n : Nat} (h : n ≤ 1048576) : szT n = 1048576 - (n : Int) := by unfold szT; rw [if_pos h]
theorem ht_box2 {l : List (Nat × Nat × Value)} {w0 W : World} (h : Held l w0 W) (v0 v1 : Value) (T : TypeId) : Held ((W.heap.size, 0, v0) :: (W.heap.size, 1, v1) :: l) w0 (W.alloc (.cells #[v0, v1] T)) :=
  held_more (held_more (h.alloc _) _ _ _ (cl_new _ _ _ _ _ _ rfl rfl) (by simp)) _ _ _ (cl_new _ _ _ _ _ _ rfl rfl) (by simp)
theorem ht_grown {l : List (Nat × Nat × Value)} {w0 w1 w2 : World} {r : Option Nat} (h : Held l w0 w1) (g : w1.grownBy w2 r) (hr : ∀ x ∈ l, r ≠ some x.1) (hw : ∀ k, r = some k → w0.heap.size ≤ k) : Held l w0 w2 :=
  ⟨fun x hx => ⟨Nat.lt_of_lt_of_le (h.1 x hx).1 g.size, g.cell (h.1 x hx).2 (fun e => hr x hx e.symm)⟩, Below.grown h.2 g h.2.size hw⟩
theorem own_keptT {w w' : World} {base : Nat} {v : Value} {l : List Int} {row : Option Nat} (h : Own w base v l) (hg : w.grownBy w' row) (hr : ∀ k, v.ownBlock = some k → row ≠ some k) : Own w' base v l := by
  refine ⟨h.1.kept hg ?_, h.2⟩
  cases hv : v.ownBlock with
  | none => exact .inl rfl
  | some k => exact .inr (fun e => hr k hv e.symm)
theorem own_slT {w : World} {base n cap : Nat} {a : Option Addr} {l : List Int} (h : Own w base (.slice a n cap) l) : Sl w a n l := by
  obtain ⟨a', c', e, s, _⟩ := h.sl
  cases e; exact s
theorem alL_le (B : Int) (l : List Int) (h : l.length ≤ 4) : (alL B l l.length).length ≤ 1000 := Nat.le_trans (alL_len _ _ _) (by omega)
theorem udV_le (B : Int) (l : List Int) (t : Int) : (udV B l t).length ≤ 1000 := by
  unfold udV
  by_cases h : thE B l t = 0
  · rw [if_pos h]
    obtain ⟨hv, _⟩ := thE_ok h
    obtain ⟨_, b2, _, _, _⟩ := (tfB_iff B l).1 hv
    exact Nat.le_trans (ulM_len _ _ _) (by omega)
  · rw [if_neg h]; simp
theorem usV_le (B : Int) (l : List Int) : (usV B l).length ≤ 1000 := by
  unfold usV
  cases h : tfB B l
  · simp
  · obtain ⟨_, b2, _, _, _⟩ := (tfB_iff B l).1 h
    rw [if_pos rfl, ldL_len]; omega
theorem awV_le (B : Int) (l : List Int) : (awV B l).length ≤ 1000 := by
  unfold awV
  cases h : sfB B l
  · simp
  · obtain ⟨_, _, _, b4, _⟩ := (tfB_iff B l).1 (sfB_tf h)
    rw [if_pos rfl]; exact alL_le B l b4
theorem mtV_le (B : Int) (l : List Int) (t : Int) : (mtV B l t).length ≤ 1000 := by
  unfold mtV
  by_cases h : thE B l t = 0
  · rw [if_pos h, mvL_len]
    obtain ⟨hv, _⟩ := thE_ok h
    obtain ⟨_, _, _, b4, _⟩ := (tfB_iff B l).1 hv
    omega
  · rw [if_neg h]; simp
theorem rvV_le (B : Int) (l ts : List Int) : (rvV B l ts).length ≤ 1000 := by
  unfold rvV
  by_cases h : rnE B l ts = 0
  · rw [if_pos h, rnL_len]
    cases hv : tfB B l
    · rw [rnE_1 hv] at h; simp at h
    · obtain ⟨_, _, _, b4, _⟩ := (tfB_iff B l).1 hv
      omega
  · rw [if_neg h]; simp
theorem row_nil {k : IntKind} {w : World} {a : Option Addr} {len cap : Nat} {zs : List Int} (h : IsRow k w a len cap zs) : len ≤ cap := by
  rcases h with ⟨rfl, rfl, rfl, rfl⟩ | ⟨x, rfl, hl, _⟩
  · exact Nat.le_refl _
  · exact hl

end Go.Proofs.Ytpeebgkgccacbaa
