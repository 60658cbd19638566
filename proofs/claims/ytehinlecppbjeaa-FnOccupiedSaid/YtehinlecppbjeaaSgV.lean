/- Contracts of chapter 3: positions, heights and beginnings: the model's functions. -/
import Derived.Test.YtehinlecppbjeaaSgUT
import Derived.Test.YtehinlecppbjeaaDivD
import Derived.BigQuiet
import Derived.Deep.QuietTactic
namespace Go.Proofs.Ytehinlecppbjeaa
open Go.RowKit
set_option maxHeartbeats 2000000
set_option linter.unusedVariables false
set_option linter.unusedSimpArgs false
theorem s_l03At (a : Option Addr) (n cap : Nat) (L : List Sg) (p : Int) (k : Nat) (w : World) (hs : Sgs w a n L) (hp : -9223372036854775808 ≤ p) (hp2 : p ≤ 9223372036854775807) (hv : layB L = true) (h : IsAt L p k) :
    Calls Try.prog 136 #[.agg #[.slice a n cap], .int .i64 p] w fun e w' => e = .returned (.tuple #[.int .i64 k, .int .i64 (p - upL L k)]) ∧ Later w w' := by
  have HS := Lib.hid hs
  have HL := Lib.hid hs.1
  have hn := hs.2.1
  have HO := Lib.hid ((layB_iff L).1 hv).2.2.1
  have h24 := ((layB_iff L).1 hv).2.1
  rw [HL.out] at h24
  obtain ⟨k1, k2, k3⟩ := h
  rw [HL.out] at k1
  rw [upL_succ L k (by rw [HL.out]; exact k1)] at k3
  have MONO : ∀ j, j ≤ k → Hid (upL L j ≤ upL L k) := fun j hj => Lib.hid (upL_mono L j k hj (by rw [HL.out]; omega) HO.out)
  have MM := Lib.hid MONO
  clear hs hv MONO
  go_enter Try.func136, Try.ntmps136
  go_wp2_with fail
  go_loop [1, 6] (fun d i => ∃ j : Nat, j ≤ k ∧ i = .int .i64 j ∧ d = .int .i64 (p - upL L j)) (fun _ i => k - (intOf i).toNat)
  case atStart => exact ⟨0, by omega, rfl, by rw [upL_0]; simp⟩
  case round =>
    obtain ⟨j, hj, rfl, rfl⟩ := hrel
    obtain ⟨b', off', rfl, hb', hc⟩ := HS.out.at j (by omega)
    obtain ⟨c0, c1, c2, c3, c4, c5, c6⟩ := hc
    obtain ⟨_, _, bd1, bd2⟩ := up_bd L j (by rw [HL.out]; omega) (okB_le L L.length j (by rw [HL.out]; omega) HO.out)
    have hr := (sgB_iff _).1 (okB_at L L.length j (Nat.le_refl _) (by rw [HL.out]; omega) HO.out)
    have r1 := hr.2.1.1; have r2 := hr.2.1.2
    clear hr
    by_cases hlt : j < k
    · have hm := (MM.out (j + 1) (by omega)).out
      rw [upL_succ L j (by rw [HL.out]; omega)] at hm
      have hge : (sx L j).l ≤ p - upL L j := by omega
      clear hm
      go_wp2
      go_round
      case rel => exact ⟨j + 1, by omega, by go_num, by rw [upL_succ L j (by rw [HL.out]; omega)]; go_num⟩
      case measure => simp [intOf]; omega
    · obtain rfl : j = k := by omega
      have hlt2 : p - upL L j < (sx L j).l := by omega
      go_wp2
      go_ret2
      exact ⟨rfl, (by repeat (first | exact Later.refl _ | exact Hid.out (by assumption) | refine Later.set_at ?_ ?_ _ _ | refine Later.alloc ?_ _ | refine Later.drewN ?_ _ | refine Later.drew ?_ | refine Later.trans ?_ (Hid.out (by assumption))))⟩
theorem ret_3i' {a b c d e f : Int} (h : a = d) (k : b = e) (l : c = f) : Ending.returned (.tuple #[.int .i64 a, .int .i64 b, .int .i64 c]) = .returned (.tuple #[.int .i64 d, .int .i64 e, .int .i64 f]) := by rw [h, k, l]
theorem mul_rise' (x y : Int) (h1 : -100000 ≤ x) (h2 : x ≤ 100000) (h3 : 0 ≤ y) (h4 : y ≤ 200000) : -20000000000 ≤ x * y ∧ x * y ≤ 20000000000 := by
  have a : x * y ≤ 100000 * y := Int.mul_le_mul_of_nonneg_right h2 h3
  have b : -100000 * y ≤ x * y := Int.mul_le_mul_of_nonneg_right h1 h3
  omega
end Go.Proofs.Ytehinlecppbjeaa
