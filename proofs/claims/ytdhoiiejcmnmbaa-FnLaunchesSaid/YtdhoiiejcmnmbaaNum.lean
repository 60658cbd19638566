/- Contracts of chapter 1's divisions, of the program and of the model. -/
import Derived.Test.YtdhoiiejcmnmbaaDivD
namespace Go.Proofs.Ytdhoiiejcmnmbaa
open Go.RowKit
set_option maxHeartbeats 2000000
set_option linter.unusedVariables false
set_option linter.unusedSimpArgs false
theorem s_Ceil (a b : Int) (w : World) (h1 : -1000000000000 ≤ a) (h2 : a ≤ 1000000000000) (h3 : -1000000000000 ≤ b) (h4 : b ≤ 1000000000000) (h0 : b ≠ 0) :
    Calls Try.prog 70 #[.int .i64 a, .int .i64 b] w fun e w' => e = .returned (.int .i64 (cei a b)) ∧ w = w' := by
  have hb := flo_bd (-a) b 1000000000000 (by omega) (by omega)
  have hc := cei_eq a b h0
  have H := Lib.hid hc; clear hc
  go_enter Try.func70, Try.ntmps70
  go_wp2_with (go_at_call 75; refine (s_Floor _ _ _ (by omega) (by omega) h3 h4 h0).mono ?_; rintro e w' ⟨rfl, rfl⟩)
  go_ret
  exact ⟨ret_i64 (H.out).symm, rfl⟩
theorem i_DivideUp (a b : Int) (w : World) : Calls Try.prog 65 #[.int .i64 a, .int .i64 b] w fun e w' => e = .returned (.tuple #[.int .i64 (divU a b), .int .i64 (divErr a b)]) ∧ w = w' := by
  by_cases h : divErr a b = 0
  · obtain ⟨h1, h2, h3, h4, h0⟩ := divErr_0 a b h
    have hb := tdiv_bd a b _ h1 h2
    have e0 : (divErr a b != 0) = false := by simp [h]
    have H := Lib.hid h; clear h
    go_enter Try.func65, Try.ntmps65
    go_wp2_with (go_at_call 105; refine (i_divisionError _ _ _).mono ?_; rintro e w' ⟨rfl, rfl⟩)
    all_goals
      go_ret2
      have h := H.out
      exact ⟨ret_2i (by unfold divU cei; simp_all) (by simp_all), rfl⟩
  · have e0 : (divErr a b != 0) = true := by simp [h]
    have H := Lib.hid h; clear h
    go_enter Try.func65, Try.ntmps65
    go_wp2_with (go_at_call 105; refine (i_divisionError _ _ _).mono ?_; rintro e w' ⟨rfl, rfl⟩)
    go_ret2
    have h := H.out
    exact ⟨ret_2i (by unfold divU; simp_all) rfl, rfl⟩
end Go.Proofs.Ytdhoiiejcmnmbaa
