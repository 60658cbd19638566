/- Slices of segments of the call's own; segments appended. -/
import Derived.Test.YtdgiehcfelgcgaaDoorSgs
import Derived.Test.YtdgiehcfelgcgaaDoorGrown
import Derived.WalkSmall
import Derived.Deep.DeepMust
namespace Go.Proofs.YtdgiehcfelgcgaaDoor
open Go.RowKit
set_option maxHeartbeats 2000000
set_option linter.unusedVariables false
set_option linter.unusedSimpArgs false
/-- the cells of a list of segments -/
def sg7 (x : Sg) : List Value := [.int .i64 x.k, .int .i64 x.l, .int .i64 x.r, .int .i64 x.a, .int .i64 x.b, .int .i64 x.c, .int .i64 x.d]
def sgVals : List Sg → List Value
  | [] => []
  | x :: L => sg7 x ++ sgVals L
theorem sgVals_len (L : List Sg) : (sgVals L).length = L.length * 7 := by
  induction L with
  | nil => rfl
  | cons x L ih => simp [sgVals, sg7, ih]; omega
theorem sgVals_app (L M : List Sg) : sgVals (L ++ M) = sgVals L ++ sgVals M := by
  induction L with
  | nil => rfl
  | cons x L ih => simp [sgVals, ih]
theorem sgVals_get (L : List Sg) : ∀ k j, k < L.length → j < 7 → (sgVals L)[k * 7 + j]? = some (.int .i64 ((sx L k).at j)) := by
  induction L with
  | nil => intro k j hk; simp at hk
  | cons x L ih =>
    intro k j hk hj
    cases k with
    | zero =>
      have hj' : j = 0 ∨ j = 1 ∨ j = 2 ∨ j = 3 ∨ j = 4 ∨ j = 5 ∨ j = 6 := by omega
      rcases hj' with rfl | rfl | rfl | rfl | rfl | rfl | rfl <;> rfl
    | succ k =>
      have h := ih k j (by simpa using hk) hj
      unfold sgVals
      rw [List.getElem?_append_right (by simp [sg7]; omega)]
      have e : (k + 1) * 7 + j - (sg7 x).length = k * 7 + j := by simp [sg7]; omega
      rw [e, h]
      simp [sx]
theorem sgVals_flt (L : List Sg) (j : Nat) (hj : j < L.length * 7) : (sgVals L)[j]? = some (.int .i64 (flt L j)) := by
  have h := sgVals_get L (j / 7) (j % 7) (by omega) (by omega)
  have e : j / 7 * 7 + j % 7 = j := by omega
  rw [e] at h
  exact h
theorem inS {k l r a b c d : Int} (hk : -9223372036854775808 ≤ k ∧ k ≤ 9223372036854775807) (hl : -9223372036854775808 ≤ l ∧ l ≤ 9223372036854775807) (hr : -9223372036854775808 ≤ r ∧ r ≤ 9223372036854775807) (ha : -9223372036854775808 ≤ a ∧ a ≤ 9223372036854775807) (hb : -9223372036854775808 ≤ b ∧ b ≤ 9223372036854775807) (hc : -9223372036854775808 ≤ c ∧ c ≤ 9223372036854775807) (hd : -9223372036854775808 ≤ d ∧ d ≤ 9223372036854775807) : (Sg.mk k l r a b c d).In := by
  intro j
  unfold Sg.at
  split <;> assumption
end Go.Proofs.YtdgiehcfelgcgaaDoor
