/- Contracts of chapter 1's divisions, of the program and of the model. -/
import Derived.Test.YtnmlkigpiaekjaaDivD
namespace Go.Proofs.Ytnmlkigpiaekjaa
open Go.RowKit
set_option maxHeartbeats 2000000
set_option linter.unusedVariables false
set_option linter.unusedSimpArgs false
theorem s_Ceil (a b : Int) (w : World) (h1 : -1000000000000 ≤ a) (h2 : a ≤ 1000000000000) (h3 : -1000000000000 ≤ b) (h4 : b ≤ 1000000000000) (h0 : b ≠ 0) :
    Calls Try.prog 60 #[.int .i64 a, .int .i64 b] w fun e w' => e = .returned (.int .i64 (cei a b)) ∧ w = w' := by
  have hb := flo_bd (-a) b 1000000000000 (by omega) (by omega)
  have hc := cei_eq a b h0
  have H := Lib.hid hc; clear hc
  go_enter Try.func60, Try.ntmps60
  go_wp2_with (go_at_call 86; refine (s_Floor _ _ _ (by omega) (by omega) h3 h4 h0).mono ?_; rintro e w' ⟨rfl, rfl⟩)
  go_ret
  exact ⟨ret_i64 (H.out).symm, rfl⟩
end Go.Proofs.Ytnmlkigpiaekjaa
