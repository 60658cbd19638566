/- Contracts of chapter 2: the program's own methods on intervals. -/
import Derived.Test.YtpadigebbgcopaaNum0
import Derived.Test.YtpadigebbgcopaaIvM
import Derived.Test.YtpadigebbgcopaaLater
import Derived.OwnWalk
import Derived.Outline
import Derived.Laws.ResultCell
namespace Go.Proofs.Ytpadigebbgcopaa
open Go.RowKit
set_option maxHeartbeats 2000000
set_option linter.unusedVariables false
set_option linter.unusedSimpArgs false
theorem i_isValid (a b : Int) (w : World) : Calls Try.prog 44 #[.agg #[.int .i64 a, .int .i64 b]] w fun e w' => e = .returned (.bool (ivB a b)) ∧ Later w w' := by
  go_enter Try.func44, Try.ntmps44
  go_wp2_with (go_at_call 54; refine (i_isValue _ _).mono ?_; rintro e w' ⟨rfl, rfl⟩)
  all_goals
    go_ret
    exact ⟨ret_b (by unfold ivB; simp_all), (Later.refl _).alloc _⟩
theorem bounds_of_ivB {a b : Int} (h : ivB a b = true) : -1000000000000 ≤ a ∧ a ≤ 1000000000000 ∧ -1000000000000 ≤ b ∧ b ≤ 1000000000000 ∧ a ≤ b := by
  rw [ivB_iff] at h; omega
theorem i_withValues (a b : Int) (w : World) :
    Calls Try.prog 48 #[.agg #[.int .i64 a, .int .i64 b]] w fun e w' => e = .returned (.tuple #[.agg #[.int .i64 (wvL a b), .int .i64 (wvH a b)], .int .i64 (wvE a b)]) ∧ Later w w' := by
  have key : ∀ p q, isVB a = p → isVB b = q → Hid (wvL a b = (if p && q then a else 0) ∧ wvH a b = (if p && q then b else 0) ∧ wvE a b = (if p && q then 0 else 2)) := by
    rintro p q rfl rfl; exact Lib.hid ⟨rfl, rfl, rfl⟩
  cases hA : isVB a <;> cases hB : isVB b
  all_goals
    have K := key _ _ hA hB
    clear key
    go_enter Try.func48, Try.ntmps48
    go_wp2_with (go_at_call 54; refine (i_isValue _ _).mono ?_; rintro e w' ⟨rfl, rfl⟩)
    obtain ⟨k1, k2, k3⟩ := K.out
    refine bodyPost_ret (v := .tuple #[.agg #[.int .i64 (wvL a b), .int .i64 (wvH a b)], .int .i64 (wvE a b)]) (by simp [results, Try.results48, go_sem, k1, k2, k3]) rfl ⟨rfl, ?_⟩
    exact ((Later.refl _).alloc _).alloc _
end Go.Proofs.Ytpadigebbgcopaa
