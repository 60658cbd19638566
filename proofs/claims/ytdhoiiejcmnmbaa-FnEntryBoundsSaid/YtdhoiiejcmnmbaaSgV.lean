/- Contracts of chapter 3: positions, heights and beginnings: the model's functions. -/
import Derived.Test.YtdhoiiejcmnmbaaSgUT
import Derived.Test.YtdhoiiejcmnmbaaDivD
import Derived.BigQuiet
import Derived.Deep.QuietTactic
namespace Go.Proofs.Ytdhoiiejcmnmbaa
open Go.RowKit
set_option maxHeartbeats 2000000
set_option linter.unusedVariables false
set_option linter.unusedSimpArgs false
theorem ret_3i' {a b c d e f : Int} (h : a = d) (k : b = e) (l : c = f) : Ending.returned (.tuple #[.int .i64 a, .int .i64 b, .int .i64 c]) = .returned (.tuple #[.int .i64 d, .int .i64 e, .int .i64 f]) := by rw [h, k, l]
theorem mul_rise' (x y : Int) (h1 : -100000 ≤ x) (h2 : x ≤ 100000) (h3 : 0 ≤ y) (h4 : y ≤ 200000) : -20000000000 ≤ x * y ∧ x * y ≤ 20000000000 := by
  have a : x * y ≤ 100000 * y := Int.mul_le_mul_of_nonneg_right h2 h3
  have b : -100000 * y ≤ x * y := Int.mul_le_mul_of_nonneg_right h1 h3
  omega
theorem s_Floor' (a b : Int) (w : World) (h1 : -1000000000000 ≤ a) (h2 : a ≤ 1000000000000) (h3 : 1 ≤ b) (h4 : b ≤ 1000000000000) :
    Calls Try.prog 75 #[.int .i64 a, .int .i64 b] w fun e w' => e = .returned (.int .i64 (flo a b)) ∧ w' = w := (s_Floor a b w h1 h2 (by omega) h4 (by omega)).mono fun _ _ ⟨h, k⟩ => ⟨h, k.symm⟩
end Go.Proofs.Ytdhoiiejcmnmbaa
