/- Contracts of the laws' own helpers on intervals. -/
import Derived.Test.YtkhhoajoionlfaaDoorIvN
namespace Go.Proofs.YtkhhoajoionlfaaDoor
open Go.RowKit
set_option maxHeartbeats 2000000
set_option linter.unusedVariables false
set_option linter.unusedSimpArgs false
theorem l_eqInterval (a b c d : Int) (w : World) : Calls Tryd.prog 47 #[.agg #[.int .i64 a, .int .i64 b], .agg #[.int .i64 c, .int .i64 d]] w fun e w' => e = .returned (.bool (a == c && b == d)) ∧ Later w w' := by
  go_enter Tryd.func47, Tryd.ntmps47
  go_wp2
  all_goals
    go_ret
    exact ⟨ret_b (by simp_all), ((Later.refl _).alloc _).alloc _⟩
end Go.Proofs.YtkhhoajoionlfaaDoor
