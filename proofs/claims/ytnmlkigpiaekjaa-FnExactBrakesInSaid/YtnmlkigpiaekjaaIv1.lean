/- Contracts of chapter 2: the program's operations on intervals. -/
import Derived.Test.YtnmlkigpiaekjaaIv0
namespace Go.Proofs.Ytnmlkigpiaekjaa
open Go.RowKit
set_option maxHeartbeats 2000000
set_option linter.unusedVariables false
set_option linter.unusedSimpArgs false
theorem i_plus (a b c d : Int) (w : World) (ha : -1000000000000 ≤ a) (ha' : a ≤ 1000000000000) (hb : -1000000000000 ≤ b) (hb' : b ≤ 1000000000000) (hc : -1000000000000 ≤ c) (hc' : c ≤ 1000000000000) (hd : -1000000000000 ≤ d) (hd' : d ≤ 1000000000000) :
    Calls Try.prog 77 #[.agg #[.int .i64 a, .int .i64 b], .agg #[.int .i64 c, .int .i64 d]] w fun e w' => e = .returned (.agg #[.int .i64 (a + c), .int .i64 (b + d)]) ∧ Later w w' := by
  go_enter Try.func77, Try.ntmps77
  go_wp2
  all_goals
    refine bodyPost_ret (v := .agg #[.int .i64 (a + c), .int .i64 (b + d)]) (by simp [results, Try.results77, go_sem]) rfl ⟨rfl, ?_⟩
    exact (((Later.refl _).alloc _).alloc _).alloc _
theorem i_minus (a b c d : Int) (w : World) (ha : -1000000000000 ≤ a) (ha' : a ≤ 1000000000000) (hb : -1000000000000 ≤ b) (hb' : b ≤ 1000000000000) (hc : -1000000000000 ≤ c) (hc' : c ≤ 1000000000000) (hd : -1000000000000 ≤ d) (hd' : d ≤ 1000000000000) :
    Calls Try.prog 98 #[.agg #[.int .i64 a, .int .i64 b], .agg #[.int .i64 c, .int .i64 d]] w fun e w' => e = .returned (.agg #[.int .i64 (a - d), .int .i64 (b - c)]) ∧ Later w w' := by
  go_enter Try.func98, Try.ntmps98
  go_wp2
  all_goals
    refine bodyPost_ret (v := .agg #[.int .i64 (a - d), .int .i64 (b - c)]) (by simp [results, Try.results98, go_sem]) rfl ⟨rfl, ?_⟩
    exact (((Later.refl _).alloc _).alloc _).alloc _
theorem i_common (a b c d : Int) (w : World) (ha : -1000000000000 ≤ a) (ha' : a ≤ 1000000000000) (hb : -1000000000000 ≤ b) (hb' : b ≤ 1000000000000) (hc : -1000000000000 ≤ c) (hc' : c ≤ 1000000000000) (hd : -1000000000000 ≤ d) (hd' : d ≤ 1000000000000) :
    Calls Try.prog 102 #[.agg #[.int .i64 a, .int .i64 b], .agg #[.int .i64 c, .int .i64 d]] w fun e w' => e = .returned (.agg #[.int .i64 (max a c), .int .i64 (min b d)]) ∧ Later w w' := by
  go_enter Try.func102, Try.ntmps102
  go_wp2
  all_goals
    refine bodyPost_ret (v := .agg #[.int .i64 (max a c), .int .i64 (min b d)]) (by simp [results, Try.results102, go_sem] <;> omega) rfl ⟨rfl, ?_⟩
    exact (((Later.refl _).alloc _).alloc _).alloc _
end Go.Proofs.Ytnmlkigpiaekjaa
