/- Segments that hold, of the model. -/
import Derived.Test.YtdhoiiejcmnmbaaSg2
namespace Go.Proofs.Ytdhoiiejcmnmbaa
open Go.RowKit
set_option maxHeartbeats 2000000
set_option linter.unusedVariables false
set_option linter.unusedSimpArgs false
theorem s_l03Holds (x : Sg) (w : World) : Calls Try.prog 134 #[.agg #[.int .i64 x.k, .int .i64 x.l, .int .i64 x.r, .int .i64 x.a, .int .i64 x.b, .int .i64 x.c, .int .i64 x.d]] w fun e w' => e = .returned (.bool (decide (x.k = 1) || decide (x.k = 3) || decide (x.k = 4))) ∧ Later w w' := by
  have key : ∀ p q r : Bool, decide (x.k = 1) = p → decide (x.k = 3) = q → decide (x.k = 4) = r → Hid ((decide (x.k = 1) || decide (x.k = 3) || decide (x.k = 4)) = (p || q || r)) := by
    rintro p q r rfl rfl rfl; exact Lib.hid rfl
  cases h1 : decide (x.k = 1) <;> cases h3 : decide (x.k = 3) <;> cases h4 : decide (x.k = 4)
  all_goals
    have K := key _ _ _ h1 h3 h4
    clear key
    have e1 := (show (x.k == 1) = decide (x.k = 1) from rfl).trans h1
    have e3 := (show (x.k == 3) = decide (x.k = 3) from rfl).trans h3
    have e4 := (show (x.k == 4) = decide (x.k = 4) from rfl).trans h4
    clear h1 h3 h4
    go_enter Try.func134, Try.ntmps134
    go_wp2
    go_ret
    exact ⟨ret_b (by first | rfl | (rw [K.out]; rfl)), (by repeat (first | exact Later.refl _ | refine Later.alloc ?_ _ | refine Later.drewN ?_ _ | refine Later.drew ?_ | refine Later.trans ?_ (Hid.out (by assumption))))⟩
end Go.Proofs.Ytdhoiiejcmnmbaa
