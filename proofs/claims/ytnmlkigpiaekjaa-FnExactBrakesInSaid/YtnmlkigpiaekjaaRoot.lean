/- Contracts of the roots. -/
import Derived.Test.YtnmlkigpiaekjaaNum
import Derived.Outline
import Derived.WalkMore
namespace Go.Proofs.Ytnmlkigpiaekjaa
open Go.RowKit
set_option maxHeartbeats 400000
set_option linter.unusedVariables false
theorem sq_succ (m : Int) : (m + 1) * (m + 1) = m * m + 2 * m + 1 := by rw [Int.add_mul, Int.mul_add]; omega
theorem mid_bd (m : Int) (h0 : 0 ≤ m) (h : m ≤ 1000000) : 0 ≤ m * m ∧ m * m ≤ 1000000000000 := ⟨sq_nn m, sq_mono m 1000000 h0 h⟩
theorem rootErr_in (n : Int) (h1 : 0 ≤ n) (h2 : n ≤ 1000000000000) : rootErr n = 0 := by unfold rootErr; rw [if_pos ⟨h1, h2⟩]
theorem rootErr_out (n : Int) (h : n < 0 ∨ 1000000000000 < n) : rootErr n = 2 := by unfold rootErr; rw [if_neg (by omega)]
end Go.Proofs.Ytnmlkigpiaekjaa
