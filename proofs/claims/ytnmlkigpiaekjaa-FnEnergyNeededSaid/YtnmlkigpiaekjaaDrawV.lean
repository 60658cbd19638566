/- Drawn values: whatever is drawn, it is an int64, and nothing that was there is touched. -/
import Derived.Test.YtnmlkigpiaekjaaDraw0
namespace Go.Proofs.Ytnmlkigpiaekjaa
open Go.RowKit
set_option maxHeartbeats 2000000
set_option linter.unusedVariables false
set_option linter.unusedSimpArgs false
theorem mul_bd (x y : Int) (h1 : -500000 ≤ x) (h2 : x ≤ 500000) (h3 : 0 ≤ y) (h4 : y ≤ 1000000) : -500000000000 ≤ x * y ∧ x * y ≤ 500000000000 := by
  have a : x * y ≤ 500000 * y := Int.mul_le_mul_of_nonneg_right h2 h3
  have b : -500000 * y ≤ x * y := Int.mul_le_mul_of_nonneg_right h1 h3
  omega
end Go.Proofs.Ytnmlkigpiaekjaa
