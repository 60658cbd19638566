/- Contracts of chapter 1's divisions that later chapters use: rounded down. -/
import Derived.Test.YtnmlkigpiaekjaaNum0
namespace Go.Proofs.Ytnmlkigpiaekjaa
open Go.RowKit
set_option maxHeartbeats 2000000
set_option linter.unusedVariables false
set_option linter.unusedSimpArgs false
theorem s_Floor (a b : Int) (w : World) (h1 : -1000000000000 ≤ a) (h2 : a ≤ 1000000000000) (h3 : -1000000000000 ≤ b) (h4 : b ≤ 1000000000000) (h0 : b ≠ 0) :
    Calls Try.prog 86 #[.int .i64 a, .int .i64 b] w fun e w' => e = .returned (.int .i64 (flo a b)) ∧ w = w' := by
  have hb := tdiv_bd a b _ h1 h2
  go_enter Try.func86, Try.ntmps86
  go_wp2
  all_goals
    go_ret
    exact ⟨ret_i64 (by unfold flo; simp_all), rfl⟩
theorem divErr_0 (a b : Int) (h : divErr a b = 0) : -1000000000000 ≤ a ∧ a ≤ 1000000000000 ∧ -1000000000000 ≤ b ∧ b ≤ 1000000000000 ∧ b ≠ 0 := by
  unfold divErr at h
  split at h
  · omega
  · rename_i h1
    have h2 : isVB a = true ∧ isVB b = true := by simpa using h1
    rw [isVB_iff, isVB_iff] at h2
    split at h <;> omega
end Go.Proofs.Ytnmlkigpiaekjaa
