/- The length of a track, of the model. -/
import Derived.Test.YtehinlecppbjeaaSgU
namespace Go.Proofs.Ytehinlecppbjeaa
open Go.RowKit
set_option maxHeartbeats 2000000
set_option linter.unusedVariables false
set_option linter.unusedSimpArgs false
/-- the sum of all lengths, where they are those of valid segments -/
theorem s_Total (a : Option Addr) (n cap : Nat) (L : List Sg) (w : World) (hs : Sgs w a n L) (ho : okB L L.length = true) (h24 : n ≤ 24) :
    Calls Try.prog 73 #[.agg #[.slice a n cap]] w fun e w' => e = .returned (.int .i64 (totL L)) ∧ Later w w' := by
  have HS := Lib.hid hs
  have HL := Lib.hid hs.1
  have HO := Lib.hid ho
  clear hs ho
  go_enter Try.func73, Try.ntmps73
  go_wp2_with fail
  go_loop [3, 4] (fun hh i => ∃ k : Nat, k ≤ n ∧ i = .int .i64 k ∧ hh = .int .i64 (upL L k)) (fun _ i => n - (intOf i).toNat)
  case atStart => exact ⟨0, by omega, rfl, by rw [upL_0]⟩
  case round =>
    obtain ⟨k, hk, rfl, rfl⟩ := hrel
    obtain ⟨_, _, bd1, bd2⟩ := up_bd L k (by rw [HL.out]; exact hk) (okB_le L L.length k (by rw [HL.out]; exact hk) HO.out)
    by_cases hlt : k < n
    · obtain ⟨b', off', rfl, hb', hc⟩ := HS.out.at k hlt
      obtain ⟨c0, c1, c2, c3, c4, c5, c6⟩ := hc
      have hr := (sgB_iff _).1 (okB_at L L.length k (Nat.le_refl _) (by rw [HL.out]; exact hlt) HO.out)
      have r1 := hr.2.1.1; have r2 := hr.2.1.2
      clear hr
      go_wp2
      go_round
      case rel => exact ⟨k + 1, by omega, by go_num, by rw [upL_succ L k (by rw [HL.out]; exact hlt)]⟩
      case measure => simp [intOf]; omega
    · obtain rfl : k = n := by omega
      clear bd1 bd2
      go_wp2
      go_ret
      exact ⟨ret_i64 (by unfold totL; rw [HL.out]), (by repeat (first | exact Later.refl _ | exact Hid.out (by assumption) | refine Later.set_at ?_ ?_ _ _ | refine Later.alloc ?_ _ | refine Later.drewN ?_ _ | refine Later.drew ?_ | refine Later.trans ?_ (Hid.out (by assumption))))⟩
end Go.Proofs.Ytehinlecppbjeaa
