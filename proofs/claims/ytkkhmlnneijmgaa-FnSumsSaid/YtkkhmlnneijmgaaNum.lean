/- Contracts of chapter 1's functions of numbers, of the program and of the model. -/
import Derived.Test.YtkkhmlnneijmgaaProg
import Derived.Test.YtkkhmlnneijmgaaMath
import Derived.WalkKit
import Derived.ProofKit
import Derived.Handy
import Derived.Lib.Hide
namespace Go.Proofs.Ytkkhmlnneijmgaa
open Go.RowKit
set_option maxHeartbeats 400000
set_option linter.unusedVariables false

theorem ret_i64 {a b : Int} (h : a = b) : Ending.returned (.int .i64 a) = .returned (.int .i64 b) := by rw [h]
theorem ret_b {a b : Bool} (h : a = b) : Ending.returned (.bool a) = .returned (.bool b) := by rw [h]
theorem ret_2i {a b c d : Int} (h : a = c) (k : b = d) : Ending.returned (.tuple #[.int .i64 a, .int .i64 b]) = .returned (.tuple #[.int .i64 c, .int .i64 d]) := by rw [h, k]

theorem i_isValue (n : Int) (w : World) : Calls Try.prog 39 #[.int .i64 n] w fun e w' => e = .returned (.bool (isVB n)) ∧ w = w' := by
  go_enter Try.func39, Try.ntmps39
  go_wp2
  all_goals
    go_ret
    exact ⟨ret_b (by unfold isVB; first | (simp_all; done) | (simp_all; omega)), rfl⟩
theorem s_In (n a b : Int) (w : World) : Calls Try.prog 37 #[.int .i64 n, .int .i64 a, .int .i64 b] w fun e w' => e = .returned (.bool (decide (a ≤ n) && decide (n ≤ b))) ∧ w = w' := by
  go_enter Try.func37, Try.ntmps37
  go_wp2
  all_goals
    go_ret
    exact ⟨ret_b (by first | (simp_all; done) | (simp_all; omega)), rfl⟩
theorem s_Is (n : Int) (w : World) : Calls Try.prog 40 #[.int .i64 n] w fun e w' => e = .returned (.bool (isVB n)) ∧ w = w' := by
  go_enter Try.func40, Try.ntmps40
  go_wp2_with (go_at_call 37; refine (s_In _ _ _ _).mono ?_; rintro e w' ⟨rfl, rfl⟩)
  go_ret
  exact ⟨rfl, rfl⟩
theorem s_Floor (a b : Int) (w : World) (h1 : -1000000000000 ≤ a) (h2 : a ≤ 1000000000000) (h3 : -1000000000000 ≤ b) (h4 : b ≤ 1000000000000) (h0 : b ≠ 0) :
    Calls Try.prog 47 #[.int .i64 a, .int .i64 b] w fun e w' => e = .returned (.int .i64 (flo a b)) ∧ w = w' := by
  have hb := tdiv_bd a b _ h1 h2
  go_enter Try.func47, Try.ntmps47
  go_wp2
  all_goals
    go_ret
    exact ⟨ret_i64 (by unfold flo; simp_all), rfl⟩
theorem s_Ceil (a b : Int) (w : World) (h1 : -1000000000000 ≤ a) (h2 : a ≤ 1000000000000) (h3 : -1000000000000 ≤ b) (h4 : b ≤ 1000000000000) (h0 : b ≠ 0) :
    Calls Try.prog 46 #[.int .i64 a, .int .i64 b] w fun e w' => e = .returned (.int .i64 (cei a b)) ∧ w = w' := by
  have hb := flo_bd (-a) b 1000000000000 (by omega) (by omega)
  have hc := cei_eq a b h0
  have H := Lib.hid hc; clear hc
  go_enter Try.func46, Try.ntmps46
  go_wp2_with (go_at_call 47; refine (s_Floor _ _ _ (by omega) (by omega) h3 h4 h0).mono ?_; rintro e w' ⟨rfl, rfl⟩)
  go_ret
  exact ⟨ret_i64 (H.out).symm, rfl⟩
theorem i_divisionError (a b : Int) (w : World) : Calls Try.prog 34 #[.int .i64 a, .int .i64 b] w fun e w' => e = .returned (.int .i64 (divErr a b)) ∧ w = w' := by
  go_enter Try.func34, Try.ntmps34
  go_wp2_with (go_at_call 39; refine (i_isValue _ _).mono ?_; rintro e w' ⟨rfl, rfl⟩)
  all_goals
    go_ret
    exact ⟨ret_i64 (by unfold divErr; simp_all), rfl⟩
theorem divErr_0 (a b : Int) (h : divErr a b = 0) : -1000000000000 ≤ a ∧ a ≤ 1000000000000 ∧ -1000000000000 ≤ b ∧ b ≤ 1000000000000 ∧ b ≠ 0 := by
  unfold divErr at h
  split at h
  · omega
  · rename_i h1
    have h2 : isVB a = true ∧ isVB b = true := by simpa using h1
    rw [isVB_iff, isVB_iff] at h2
    split at h <;> omega
theorem i_DivideDown (a b : Int) (w : World) : Calls Try.prog 14 #[.int .i64 a, .int .i64 b] w fun e w' => e = .returned (.tuple #[.int .i64 (divD a b), .int .i64 (divErr a b)]) ∧ w = w' := by
  by_cases h : divErr a b = 0
  · obtain ⟨h1, h2, h3, h4, h0⟩ := divErr_0 a b h
    have hb := tdiv_bd a b _ h1 h2
    have e0 : (divErr a b != 0) = false := by simp [h]
    have H := Lib.hid h; clear h
    go_enter Try.func14, Try.ntmps14
    go_wp2_with (go_at_call 34; refine (i_divisionError _ _ _).mono ?_; rintro e w' ⟨rfl, rfl⟩)
    all_goals
      go_ret2
      have h := H.out
      exact ⟨ret_2i (by unfold divD flo; simp_all) (by simp_all), rfl⟩
  · have e0 : (divErr a b != 0) = true := by simp [h]
    have H := Lib.hid h; clear h
    go_enter Try.func14, Try.ntmps14
    go_wp2_with (go_at_call 34; refine (i_divisionError _ _ _).mono ?_; rintro e w' ⟨rfl, rfl⟩)
    go_ret2
    have h := H.out
    exact ⟨ret_2i (by unfold divD; simp_all) rfl, rfl⟩
theorem i_DivideUp (a b : Int) (w : World) : Calls Try.prog 15 #[.int .i64 a, .int .i64 b] w fun e w' => e = .returned (.tuple #[.int .i64 (divU a b), .int .i64 (divErr a b)]) ∧ w = w' := by
  by_cases h : divErr a b = 0
  · obtain ⟨h1, h2, h3, h4, h0⟩ := divErr_0 a b h
    have hb := tdiv_bd a b _ h1 h2
    have e0 : (divErr a b != 0) = false := by simp [h]
    have H := Lib.hid h; clear h
    go_enter Try.func15, Try.ntmps15
    go_wp2_with (go_at_call 34; refine (i_divisionError _ _ _).mono ?_; rintro e w' ⟨rfl, rfl⟩)
    all_goals
      go_ret2
      have h := H.out
      exact ⟨ret_2i (by unfold divU cei; simp_all) (by simp_all), rfl⟩
  · have e0 : (divErr a b != 0) = true := by simp [h]
    have H := Lib.hid h; clear h
    go_enter Try.func15, Try.ntmps15
    go_wp2_with (go_at_call 34; refine (i_divisionError _ _ _).mono ?_; rintro e w' ⟨rfl, rfl⟩)
    go_ret2
    have h := H.out
    exact ⟨ret_2i (by unfold divU; simp_all) rfl, rfl⟩
theorem s_Divide_d (a b : Int) (w : World) : Calls Try.prog 35 #[.int .i64 a, .int .i64 b, .bool false] w fun e w' => e = .returned (.tuple #[.int .i64 (divD a b), .int .i64 (divErr a b)]) ∧ w = w' := by
  by_cases h : divErr a b = 0
  · obtain ⟨h1, h2, h3, h4, h0⟩ := divErr_0 a b h
    have b1 := (isVB_iff a).2 ⟨h1, h2⟩
    have b2 := (isVB_iff b).2 ⟨h3, h4⟩
    have b3 : (b == 0) = false := by simp [h0]
    have H := Lib.hid h; clear h
    go_enter Try.func35, Try.ntmps35
    go_wp2_with (first | (go_at_call 40; refine (s_Is _ _).mono ?_; rintro e w' ⟨rfl, rfl⟩) | (go_at_call 47; refine (s_Floor _ _ _ h1 h2 h3 h4 h0).mono ?_; rintro e w' ⟨rfl, rfl⟩))
    go_ret2
    have h := H.out
    exact ⟨ret_2i (by unfold divD; simp_all) h.symm, rfl⟩
  · have H := Lib.hid h; clear h
    by_cases b1 : isVB a = true
    · by_cases b2 : isVB b = true
      · have h0 : (b == 0) = true := by
          have h := H.out; unfold divErr at h; simp_all
        go_enter Try.func35, Try.ntmps35
        go_wp2_with (go_at_call 40; refine (s_Is _ _).mono ?_; rintro e w' ⟨rfl, rfl⟩)
        go_ret2
        have h := H.out
        exact ⟨ret_2i (by unfold divD; simp_all) (by unfold divErr; simp_all), rfl⟩
      · have b3 : isVB b = false := by simpa using b2
        clear b2
        go_enter Try.func35, Try.ntmps35
        go_wp2_with (go_at_call 40; refine (s_Is _ _).mono ?_; rintro e w' ⟨rfl, rfl⟩)
        go_ret2
        have h := H.out
        exact ⟨ret_2i (by unfold divD; simp_all) (by unfold divErr; simp_all), rfl⟩
    · have b3 : isVB a = false := by simpa using b1
      clear b1
      go_enter Try.func35, Try.ntmps35
      go_wp2_with (go_at_call 40; refine (s_Is _ _).mono ?_; rintro e w' ⟨rfl, rfl⟩)
      go_ret2
      have h := H.out
      exact ⟨ret_2i (by unfold divD; simp_all) (by unfold divErr; simp_all), rfl⟩
theorem s_Divide_u (a b : Int) (w : World) : Calls Try.prog 35 #[.int .i64 a, .int .i64 b, .bool true] w fun e w' => e = .returned (.tuple #[.int .i64 (divU a b), .int .i64 (divErr a b)]) ∧ w = w' := by
  by_cases h : divErr a b = 0
  · obtain ⟨h1, h2, h3, h4, h0⟩ := divErr_0 a b h
    have b1 := (isVB_iff a).2 ⟨h1, h2⟩
    have b2 := (isVB_iff b).2 ⟨h3, h4⟩
    have b3 : (b == 0) = false := by simp [h0]
    have H := Lib.hid h; clear h
    go_enter Try.func35, Try.ntmps35
    go_wp2_with (first | (go_at_call 40; refine (s_Is _ _).mono ?_; rintro e w' ⟨rfl, rfl⟩) | (go_at_call 46; refine (s_Ceil _ _ _ h1 h2 h3 h4 h0).mono ?_; rintro e w' ⟨rfl, rfl⟩))
    go_ret2
    have h := H.out
    exact ⟨ret_2i (by unfold divU; simp_all) h.symm, rfl⟩
  · have H := Lib.hid h; clear h
    by_cases b1 : isVB a = true
    · by_cases b2 : isVB b = true
      · have h0 : (b == 0) = true := by
          have h := H.out; unfold divErr at h; simp_all
        go_enter Try.func35, Try.ntmps35
        go_wp2_with (go_at_call 40; refine (s_Is _ _).mono ?_; rintro e w' ⟨rfl, rfl⟩)
        go_ret2
        have h := H.out
        exact ⟨ret_2i (by unfold divU; simp_all) (by unfold divErr; simp_all), rfl⟩
      · have b3 : isVB b = false := by simpa using b2
        clear b2
        go_enter Try.func35, Try.ntmps35
        go_wp2_with (go_at_call 40; refine (s_Is _ _).mono ?_; rintro e w' ⟨rfl, rfl⟩)
        go_ret2
        have h := H.out
        exact ⟨ret_2i (by unfold divU; simp_all) (by unfold divErr; simp_all), rfl⟩
    · have b3 : isVB a = false := by simpa using b1
      clear b1
      go_enter Try.func35, Try.ntmps35
      go_wp2_with (go_at_call 40; refine (s_Is _ _).mono ?_; rintro e w' ⟨rfl, rfl⟩)
      go_ret2
      have h := H.out
      exact ⟨ret_2i (by unfold divU; simp_all) (by unfold divErr; simp_all), rfl⟩
theorem s_DivideDown (a b : Int) (w : World) : Calls Try.prog 16 #[.int .i64 a, .int .i64 b] w fun e w' => e = .returned (.tuple #[.int .i64 (divD a b), .int .i64 (divErr a b)]) ∧ w = w' := by
  go_enter Try.func16, Try.ntmps16
  go_wp2_with (go_at_call 35; refine (s_Divide_d _ _ _).mono ?_; rintro e w' ⟨rfl, rfl⟩)
  go_ret2
  exact ⟨rfl, rfl⟩
theorem s_DivideUp (a b : Int) (w : World) : Calls Try.prog 27 #[.int .i64 a, .int .i64 b] w fun e w' => e = .returned (.tuple #[.int .i64 (divU a b), .int .i64 (divErr a b)]) ∧ w = w' := by
  go_enter Try.func27, Try.ntmps27
  go_wp2_with (go_at_call 35; refine (s_Divide_u _ _ _).mono ?_; rintro e w' ⟨rfl, rfl⟩)
  go_ret2
  exact ⟨rfl, rfl⟩
end Go.Proofs.Ytkkhmlnneijmgaa
