/- Contracts of the roots. -/
import Derived.Test.YthheoeeobikkhaaNum
import Derived.Outline
import Derived.WalkMore
namespace Go.Proofs.Ythheoeeobikkhaa
open Go.RowKit
set_option maxHeartbeats 400000
set_option linter.unusedVariables false
theorem sq_succ (m : Int) : (m + 1) * (m + 1) = m * m + 2 * m + 1 := by rw [Int.add_mul, Int.mul_add]; omega
theorem mid_bd (m : Int) (h0 : 0 ≤ m) (h : m ≤ 1000000) : 0 ≤ m * m ∧ m * m ≤ 1000000000000 := ⟨sq_nn m, sq_mono m 1000000 h0 h⟩
theorem i_RootDown_in (n : Int) (w : World) (h1 : 0 ≤ n) (h2 : n ≤ 1000000000000) :
    Calls Try.prog 55 #[.int .i64 n] w fun e w' => e = .returned (.tuple #[.int .i64 (rootD n), .int .i64 0]) ∧ w = w' := by
  go_enter Try.func55, Try.ntmps55
  go_wp2
  go_step3
  go_wp2
  go_step3
  go_wp2
  go_loop [4, 5] (fun l h => ∃ lo hi : Int, l = .int .i64 lo ∧ h = .int .i64 hi ∧ 0 ≤ lo ∧ lo ≤ hi ∧ hi ≤ 1000000 ∧ lo * lo ≤ n ∧ n < (hi + 1) * (hi + 1)) (fun l h => (intOf h - intOf l).toNat)
  case atStart => exact ⟨_, _, rfl, rfl, by omega, by omega, by omega, by omega, by omega⟩
  case round =>
    obtain ⟨lo, hi, rfl, rfl, g1, g2, g3, g4, g5⟩ := hrel
    obtain ⟨m1, m2⟩ := mid_bd ((lo + hi + 1) / 2) (by omega) (by omega)
    have G4 := Lib.hid g4; clear g4
    have G5 := Lib.hid g5; clear g5
    have HM := Lib.hid (rootD_eq n ((lo + hi + 1) / 2))
    go_wp2
    · go_ret2
      have hq : (lo + hi + 1) / 2 * ((lo + hi + 1) / 2) = n := by simpa using ‹(_ == n) = true›
      refine ⟨ret_2i (HM.out ⟨by omega, by omega, ?_⟩) rfl, rfl⟩
      rw [sq_succ]; omega
    · go_round
      case rel => exact ⟨_, _, rfl, rfl, by omega, by omega, by omega, by omega, G5.out⟩
      case measure => simp [intOf]; omega
    · go_round
      case rel =>
        refine ⟨_, _, rfl, rfl, by omega, ?_, by omega, G4.out, ?_⟩
        · have hne : ¬ (lo + hi + 1) / 2 * ((lo + hi + 1) / 2) = n := by simpa using ‹(_ == n) = false›
          omega
        · have hne : ¬ (lo + hi + 1) / 2 * ((lo + hi + 1) / 2) = n := by simpa using ‹(_ == n) = false›
          rw [show (lo + hi + 1) / 2 - 1 + 1 = (lo + hi + 1) / 2 by omega]; omega
      case measure => simp [intOf]; omega
    · go_ret2
      obtain rfl : hi = lo := by omega
      exact ⟨ret_2i (rootD_eq n hi ⟨g1, G4.out, G5.out⟩) rfl, rfl⟩
theorem rootErr_in (n : Int) (h1 : 0 ≤ n) (h2 : n ≤ 1000000000000) : rootErr n = 0 := by unfold rootErr; rw [if_pos ⟨h1, h2⟩]
theorem rootErr_out (n : Int) (h : n < 0 ∨ 1000000000000 < n) : rootErr n = 2 := by unfold rootErr; rw [if_neg (by omega)]
theorem i_RootDown (n : Int) (w : World) :
    Calls Try.prog 55 #[.int .i64 n] w fun e w' => e = .returned (.tuple #[.int .i64 (rootDR n), .int .i64 (rootErr n)]) ∧ w = w' := by
  by_cases h : 0 ≤ n ∧ n ≤ 1000000000000
  · obtain ⟨h1, h2⟩ := h
    exact (i_RootDown_in n w h1 h2).mono fun e w' ⟨he, hw⟩ => ⟨by rw [he]; exact ret_2i (by unfold rootDR; rw [if_pos (rootErr_in n h1 h2)]) (rootErr_in n h1 h2).symm, hw⟩
  · have e2 := rootErr_out n (by omega)
    have E := Lib.hid e2; clear e2
    by_cases h1 : n < 0
    · clear h
      go_enter Try.func55, Try.ntmps55
      go_wp2
      go_step3
      go_wp2
      rw [Exit.noGoto_ret]
      go_ret2
      exact ⟨ret_2i (by unfold rootDR; rw [if_neg (by rw [E.out]; decide)]) E.out.symm, rfl⟩
    · have h2 : 1000000000000 < n := by omega
      clear h
      go_enter Try.func55, Try.ntmps55
      go_wp2
      go_step3
      go_wp2
      rw [Exit.noGoto_ret]
      go_ret2
      exact ⟨ret_2i (by unfold rootDR; rw [if_neg (by rw [E.out]; decide)]) E.out.symm, rfl⟩
theorem i_RootUp (n : Int) (w : World) :
    Calls Try.prog 56 #[.int .i64 n] w fun e w' => e = .returned (.tuple #[.int .i64 (rootUR n), .int .i64 (rootErr n)]) ∧ w = w' := by
  by_cases h : 0 ≤ n ∧ n ≤ 1000000000000
  · obtain ⟨h1, h2⟩ := h
    have e0 := rootErr_in n h1 h2
    have E := Lib.hid e0; clear e0
    have D : Hid (rootDR n = rootD n) := Lib.hid (by unfold rootDR; rw [if_pos E.out])
    have U : Hid (rootUR n = rootU n) := Lib.hid (by unfold rootUR; rw [if_pos E.out])
    have hb : 0 ≤ rootDR n ∧ rootDR n ≤ 1000000 := by rw [D.out]; exact rootD_bd n h1 h2
    obtain ⟨b1, b2⟩ := hb
    obtain ⟨m1, m2⟩ := mid_bd _ b1 b2
    have e1 : (rootErr n != 0) = false := by simp [E.out]
    go_enter Try.func56, Try.ntmps56
    go_wp2_with (go_at_call 55; refine (i_RootDown _ _).mono ?_; rintro e w' ⟨rfl, rfl⟩)
    · go_ret2
      refine ⟨ret_2i ?_ E.out.symm, rfl⟩
      have hc : rootDR n * rootDR n < n := by assumption
      rw [U.out, D.out]; rw [D.out] at hc; unfold rootU; rw [if_pos hc]
    · go_ret2
      refine ⟨ret_2i ?_ E.out.symm, rfl⟩
      have hc : n ≤ rootDR n * rootDR n := by assumption
      rw [U.out, D.out]; rw [D.out] at hc; unfold rootU; rw [if_neg (by omega)]
  · have e2 := rootErr_out n (by omega)
    have e1 : (rootErr n != 0) = true := by simp [e2]
    have E := Lib.hid e2; clear e2
    clear h
    go_enter Try.func56, Try.ntmps56
    go_wp2_with (go_at_call 55; refine (i_RootDown _ _).mono ?_; rintro e w' ⟨rfl, rfl⟩)
    go_ret2
    exact ⟨ret_2i (by unfold rootUR; rw [if_neg (by rw [E.out]; decide)]) rfl, rfl⟩
theorem s_Root (n : Int) (w : World) (h1 : 0 ≤ n) (h2 : n ≤ 1000000000000) :
    Calls Try.prog 57 #[.int .i64 n] w fun e w' => e = .returned (.int .i64 (rootD n)) ∧ w = w' := by
  go_enter Try.func57, Try.ntmps57
  go_wp2
  go_loop [3, 4] (fun l h => ∃ lo hi : Int, l = .int .i64 lo ∧ h = .int .i64 hi ∧ 0 ≤ lo ∧ lo < hi ∧ hi ≤ 1000001 ∧ lo * lo ≤ n ∧ n < hi * hi) (fun l h => (intOf h - intOf l).toNat)
  case atStart => exact ⟨_, _, rfl, rfl, by omega, by omega, by omega, by omega, by omega⟩
  case round =>
    obtain ⟨lo, hi, rfl, rfl, g1, g2, g3, g4, g5⟩ := hrel
    obtain ⟨m1, m2⟩ := mid_bd ((lo + hi) / 2) (by omega) (by omega)
    have G4 := Lib.hid g4; clear g4
    have G5 := Lib.hid g5; clear g5
    go_wp2
    · go_round
      case rel => exact ⟨_, _, rfl, rfl, by omega, by omega, by omega, by omega, G5.out⟩
      case measure => simp [intOf]; omega
    · go_round
      case rel => exact ⟨_, _, rfl, rfl, by omega, by omega, by omega, G4.out, by omega⟩
      case measure => simp [intOf]; omega
    · go_ret
      obtain rfl : hi = lo + 1 := by omega
      exact ⟨ret_i64 (rootD_eq n lo ⟨g1, G4.out, G5.out⟩), rfl⟩
theorem s_RootUp0 (n : Int) (w : World) (h1 : 0 ≤ n) (h2 : n ≤ 1000000000000) :
    Calls Try.prog 58 #[.int .i64 n] w fun e w' => e = .returned (.int .i64 (rootU n)) ∧ w = w' := by
  obtain ⟨b1, b2⟩ := rootD_bd n h1 h2
  obtain ⟨m1, m2⟩ := mid_bd _ b1 b2
  go_enter Try.func58, Try.ntmps58
  go_wp2_with (go_at_call 57; refine (s_Root _ _ h1 h2).mono ?_; rintro e w' ⟨rfl, rfl⟩)
  · go_ret
    have hc : rootD n * rootD n < n := by assumption
    exact ⟨ret_i64 (by unfold rootU; rw [if_pos hc]), rfl⟩
  · go_ret
    have hc : n ≤ rootD n * rootD n := by assumption
    exact ⟨ret_i64 (by unfold rootU; rw [if_neg (by omega)]), rfl⟩
end Go.Proofs.Ythheoeeobikkhaa
