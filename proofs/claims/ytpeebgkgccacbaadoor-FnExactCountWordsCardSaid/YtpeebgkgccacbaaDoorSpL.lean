/- Lines of a layout's text, strictly. No program in sight. -/
import Derived.Test.YtpeebgkgccacbaaDoorSpM
import Derived.Test.YtpeebgkgccacbaaDoorNmM
namespace Go.Proofs.YtpeebgkgccacbaaDoor
open Go
set_option linter.unusedSimpArgs false
set_option linter.unusedVariables false
theorem spl_ne (c : UInt8) (l : List UInt8) : spl c l ≠ [] := by
  cases l with
  | nil => simp [spl]
  | cons x r => rw [spl_cons]; split <;> simp
theorem spl_le (c : UInt8) (l : List UInt8) : ∀ y ∈ spl c l, y.length ≤ l.length := by
  induction l with
  | nil => intro y hy; simp [spl] at hy; simp [hy]
  | cons x r ih =>
    intro y hy
    rw [spl_cons] at hy
    split at hy
    · rcases List.mem_cons.1 hy with rfl | hy
      · simp
      · have := ih y hy; simp; omega
    · cases hs : spl c r with
      | nil => exact absurd hs (spl_ne c r)
      | cons a t =>
        rw [hs] at hy ih
        simp at hy
        rcases hy with rfl | hy
        · have := ih a (by simp); simp; omega
        · have := ih y (by simp [hy]); simp; omega
theorem spl_count (c : UInt8) (l : List UInt8) : (spl c l).length ≤ l.length + 1 := by
  induction l with
  | nil => simp [spl]
  | cons x r ih =>
    rw [spl_cons]
    split
    · simp; omega
    · simp; omega
/-- the pieces put together again -/
theorem spl_join (c : UInt8) (l : List UInt8) : ∀ a t, spl c l = a :: t → l = a ++ Lib.joinTail [c] t := by
  induction l with
  | nil => intro a t h; simp [spl] at h; obtain ⟨rfl, rfl⟩ := h; simp [Lib.joinTail]
  | cons x r ih =>
    intro a t h
    rw [spl_cons] at h
    cases hs : spl c r with
    | nil => exact absurd hs (spl_ne c r)
    | cons b u =>
      rw [hs] at h
      have hr := ih b u hs
      split at h
      · rename_i hx
        simp at h
        obtain ⟨rfl, rfl⟩ := h
        rw [hx]
        simp [Lib.joinTail]
        rw [hr]
        simp [Lib.joinTail]
      · simp at h
        obtain ⟨rfl, rfl⟩ := h
        rw [hr]; simp
/-- 'the words W are those of the segment x', whether valid or not -/
def IsWords (W : List (List UInt8)) (x : Sg) : Prop := W.length = 7 ∧ kndB x.k = true ∧ W.getD 0 [] = kNm x.k ∧ ∀ j, j < 6 → IsZ (W.getD (j + 1) []) (x.at (j + 1))
theorem kNm_inj {a b : Int} (ha : kndB a = true) (hb : kndB b = true) (h : kNm a = kNm b) : a = b := by
  have ka : a = 0 ∨ a = 1 ∨ a = 2 ∨ a = 3 ∨ a = 4 := by unfold kndB at ha; simp at ha; omega
  have kb : b = 0 ∨ b = 1 ∨ b = 2 ∨ b = 3 ∨ b = 4 := by unfold kndB at hb; simp at hb; omega
  rcases ka with rfl | rfl | rfl | rfl | rfl <;> rcases kb with rfl | rfl | rfl | rfl | rfl <;> first | rfl | (exfalso; revert h; decide)
theorem isWords_inj {W : List (List UInt8)} {x y : Sg} (hx : IsWords W x) (hy : IsWords W y) : x = y := by
  obtain ⟨_, x1, x2, x3⟩ := hx
  obtain ⟨_, y1, y2, y3⟩ := hy
  have hk := kNm_inj x1 y1 (x2.symm.trans y2)
  have e := fun j hj => isZ_inj (x3 j hj) (y3 j hj)
  have e0 := e 0 (by omega); have e1 := e 1 (by omega); have e2 := e 2 (by omega); have e3 := e 3 (by omega); have e4 := e 4 (by omega); have e5 := e 5 (by omega)
  cases x; cases y
  simp [Sg.at] at e0 e1 e2 e3 e4 e5 hk
  simp [*]
/-- a line of which the words are a segment's is that segment's text -/
theorem isWords_text {l : List UInt8} {x : Sg} (h : IsWords (spl 32 l) x) : l = segTx x := by
  obtain ⟨h7, _, h0, hz⟩ := h
  have hj := spl_join 32 l
  generalize spl 32 l = W at h7 h0 hz hj
  match W, h7 with
  | [a, b, c, d, e, f, g], _ =>
    have z0 := (hz 0 (by omega)).2.2; have z1 := (hz 1 (by omega)).2.2; have z2 := (hz 2 (by omega)).2.2; have z3 := (hz 3 (by omega)).2.2; have z4 := (hz 4 (by omega)).2.2; have z5 := (hz 5 (by omega)).2.2
    simp [Sg.at] at z0 z1 z2 z3 z4 z5 h0
    rw [hj _ _ rfl, segTx_eq, h0, ← z0, ← z1, ← z2, ← z3, ← z4, ← z5]
    simp [Lib.joinTail]
end Go.Proofs.YtpeebgkgccacbaaDoor
