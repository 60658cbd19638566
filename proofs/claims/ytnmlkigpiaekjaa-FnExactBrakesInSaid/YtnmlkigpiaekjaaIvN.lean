/- Contracts of chapter 2 that later chapters use: valid intervals, intervals within others. -/
import Derived.Test.YtnmlkigpiaekjaaNum0
import Derived.Test.YtnmlkigpiaekjaaIvM
import Derived.Test.YtnmlkigpiaekjaaLater
import Derived.OwnWalk
import Derived.Outline
import Derived.Laws.ResultCell
namespace Go.Proofs.Ytnmlkigpiaekjaa
open Go.RowKit
set_option maxHeartbeats 2000000
set_option linter.unusedVariables false
set_option linter.unusedSimpArgs false
theorem i_isValid (a b : Int) (w : World) : Calls Try.prog 96 #[.agg #[.int .i64 a, .int .i64 b]] w fun e w' => e = .returned (.bool (ivB a b)) ∧ Later w w' := by
  go_enter Try.func96, Try.ntmps96
  go_wp2_with (go_at_call 110; refine (i_isValue _ _).mono ?_; rintro e w' ⟨rfl, rfl⟩)
  all_goals
    go_ret
    exact ⟨ret_b (by unfold ivB; simp_all), (Later.refl _).alloc _⟩
theorem bounds_of_ivB {a b : Int} (h : ivB a b = true) : -1000000000000 ≤ a ∧ a ≤ 1000000000000 ∧ -1000000000000 ≤ b ∧ b ≤ 1000000000000 ∧ a ≤ b := by
  rw [ivB_iff] at h; omega
def winB (v : Bool) (a b c d : Int) : Bool := v && decide (c ≤ a) && decide (b ≤ d)
theorem i_IsWithin (a b c d : Int) (w : World) :
    Calls Try.prog 74 #[.agg #[.int .i64 a, .int .i64 b], .agg #[.int .i64 c, .int .i64 d]] w fun e w' => e = .returned (.bool (winB (ivB a b && ivB c d) a b c d)) ∧ Later w w' := by
  cases h1 : ivB a b <;> cases h2 : ivB c d
  all_goals
    go_enter Try.func74, Try.ntmps74
    go_wp2_with (go_at_call 96; refine (i_isValid _ _ _).mono ?_; rintro e w1 ⟨rfl, hb⟩; obtain ⟨H, hcc, hff, hzz⟩ := later_facts hb; clear hb; (try simp at hzz); have hz0 : w.heap.size < w1.heap.size := (by omega); (try (have hz1 : w.heap.size + 1 < w1.heap.size := (by omega))); (try (have hz2 : w.heap.size + 1 + 1 < w1.heap.size := (by omega))))
    all_goals
      go_ret
      exact ⟨ret_b (by simp [winB, *] <;> omega), (by repeat (first | exact Later.refl _ | refine Later.setCell ?_ (by simp; omega) _ | refine Later.setCell ?_ (by simp) _ | refine Later.alloc ?_ _ | refine Later.trans ?_ (Hid.out (by assumption))))⟩
theorem s_IsInterval (a b : Int) (w : World) : Calls Try.prog 100 #[.agg #[.int .i64 a, .int .i64 b]] w fun e w' => e = .returned (.bool (ivB a b)) ∧ Later w w' := by
  go_enter Try.func100, Try.ntmps100
  go_wp2_with (go_at_call 114; refine (s_Is _ _).mono ?_; rintro e w' ⟨rfl, rfl⟩)
  all_goals
    go_ret
    exact ⟨ret_b (by unfold ivB; simp_all), (Later.refl _).alloc _⟩
end Go.Proofs.Ytnmlkigpiaekjaa
