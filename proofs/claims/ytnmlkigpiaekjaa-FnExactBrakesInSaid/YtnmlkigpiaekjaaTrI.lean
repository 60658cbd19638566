/- Contracts of chapter 9: places along a run, the last energy of one, sets of brakes, of the program. -/
import Derived.Test.YtnmlkigpiaekjaaTrM
import Derived.Test.YtnmlkigpiaekjaaWd
import Derived.Test.YtnmlkigpiaekjaaSgI
import Derived.Test.YtnmlkigpiaekjaaOwnS
namespace Go.Proofs.Ytnmlkigpiaekjaa
open Go.RowKit
set_option maxHeartbeats 4000000
set_option linter.unusedVariables false
set_option linter.unusedSimpArgs false
theorem sgs_at {w : World} {b off n : Nat} {L : List Sg} (h : Sgs w (some ⟨b, off, none⟩) n L) (k : Nat) (hk : k < n) : SgAt w b (off + k * 7) (sx L k) := by
  obtain ⟨b', off', e, _, h⟩ := h.at k hk
  cases e
  exact h
theorem i_indexAlong (a : Option Addr) (n cap : Nat) (f k r : Nat) (w : World) (h0 : 0 < n) (h24 : n ≤ 24) (hf : f ≤ 24) (hk : k ≤ 24) (hr : r = (f + k) % n) :
    Calls Try.prog 68 #[.agg #[.slice a n cap], .int .i64 f, .int .i64 k] w fun e w' => e = .returned (.int .i64 (r : Int)) ∧ Later w w' := by
  have hmod : ((f : Int) + (k : Int)).tmod (n : Int) = (r : Int) := by
    rw [Int.tmod_eq_emod_of_nonneg (by omega), hr, Int.natCast_emod, Int.natCast_add]
  have hwr : IntKind.i64.wrap ((f : Int) + (k : Int)) = (f : Int) + (k : Int) := IntWalk.i64_in _ (by omega)
  have hn0 : ¬ n = 0 := by omega
  have hrn : r < n := by rw [hr]; exact Nat.mod_lt _ h0
  clear hr h0
  go_enter Try.func68, Try.ntmps68
  go_wp2_with fail
  go_ret
  exact ⟨ret_i64 rfl, (by repeat (first | (with_reducible exact Later.refl _) | (with_reducible exact Hid.out (by assumption)) | (with_reducible refine Later.alloc ?_ _) | (with_reducible refine Later.setCell ?_ (by simp; omega) _) | (with_reducible refine Later.setCell ?_ (by simp) _) | (with_reducible refine Later.drewN ?_ _) | (with_reducible refine Later.drew ?_) | (with_reducible refine Later.trans ?_ (Hid.out (by assumption)))))⟩
end Go.Proofs.Ytnmlkigpiaekjaa
