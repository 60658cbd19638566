/- Contracts of chapter 2: the model's functions. -/
import Derived.Test.YtpadigebbgcopaaIv3
import Derived.RegionTactic
import Derived.ChangeAlike
import Derived.BigQuiet
import Derived.Deep.QuietTactic
namespace Go.Proofs.Ytpadigebbgcopaa
open Go.RowKit
set_option maxHeartbeats 2000000
set_option linter.unusedVariables false
set_option linter.unusedSimpArgs false
theorem s_IsInterval (a b : Int) (w : World) : Calls Try.prog 35 #[.agg #[.int .i64 a, .int .i64 b]] w fun e w' => e = .returned (.bool (ivB a b)) ∧ Later w w' := by
  go_enter Try.func35, Try.ntmps35
  go_wp2_with (go_at_call 53; refine (s_Is _ _).mono ?_; rintro e w' ⟨rfl, rfl⟩)
  all_goals
    go_ret
    exact ⟨ret_b (by unfold ivB; simp_all), (Later.refl _).alloc _⟩
theorem s_Result (a b : Int) (w : World) :
    Calls Try.prog 42 #[.int .i64 a, .int .i64 b] w fun e w' => e = .returned (.tuple #[.agg #[.int .i64 (wvL a b), .int .i64 (wvH a b)], .int .i64 (wvE a b)]) ∧ Later w w' := by
  have key : ∀ p q, isVB a = p → isVB b = q → Hid (wvL a b = (if p && q then a else 0) ∧ wvH a b = (if p && q then b else 0) ∧ wvE a b = (if p && q then 0 else 2)) := by
    rintro p q rfl rfl; exact Lib.hid ⟨rfl, rfl, rfl⟩
  cases hA : isVB a <;> cases hB : isVB b
  all_goals
    have K := key _ _ hA hB
    clear key
    go_enter Try.func42, Try.ntmps42
    go_wp2_with (go_at_call 53; refine (s_Is _ _).mono ?_; rintro e w' ⟨rfl, rfl⟩)
    obtain ⟨k1, k2, k3⟩ := K.out
    refine bodyPost_ret (v := .tuple #[.agg #[.int .i64 (wvL a b), .int .i64 (wvH a b)], .int .i64 (wvE a b)]) (by simp [results, Try.results42, go_sem, k1, k2, k3]) rfl ⟨rfl, ?_⟩
    exact ((Later.refl _).alloc _)
theorem s_AddIntervals (a b c d : Int) (w : World) :
    Calls Try.prog 17 #[.agg #[.int .i64 a, .int .i64 b], .agg #[.int .i64 c, .int .i64 d]] w fun e w' => e = .returned (.tuple #[.agg #[.int .i64 (opL (ivB a b && ivB c d) (a + c) (b + d)), .int .i64 (opH (ivB a b && ivB c d) (a + c) (b + d))], .int .i64 (opE (ivB a b && ivB c d) (a + c) (b + d))]) ∧ Later w w' := by
  by_cases h1 : ivB a b = true
  · by_cases h2 : ivB c d = true
    · obtain ⟨g1, g2, g3, g4, g5⟩ := bounds_of_ivB h1
      obtain ⟨g6, g7, g8, g9, g10⟩ := bounds_of_ivB h2
      go_enter Try.func17, Try.ntmps17
      go_wp2_with (first | (go_at_call 35; refine (s_IsInterval _ _ _).mono ?_; rintro e w1 ⟨rfl, hb⟩; obtain ⟨H, hcc, hff, hzz⟩ := later_facts hb; clear hb; (try simp at hzz); (try simp only [World.heap_drewN, World.cell?_drewN, World.frozen?_drewN] at hcc hff); have hz0 : w.heap.size < w1.heap.size := (by omega); (try (have hz1 : w.heap.size + 1 < w1.heap.size := (by omega))); (try (have hz2 : w.heap.size + 1 + 1 < w1.heap.size := (by omega)))) | (go_at_call 42; refine (s_Result _ _ _).mono ?_; rintro e w1 ⟨rfl, hb⟩; obtain ⟨H, hcc, hff, hzz⟩ := later_facts hb; clear hb; (try simp at hzz); (try simp only [World.heap_drewN, World.cell?_drewN, World.frozen?_drewN] at hcc hff); have hz0 : w.heap.size < w1.heap.size := (by omega); (try (have hz1 : w.heap.size + 1 < w1.heap.size := (by omega))); (try (have hz2 : w.heap.size + 1 + 1 < w1.heap.size := (by omega)))))
      all_goals
        refine bodyPost_ret (v := .tuple #[.agg #[.int .i64 (opL (ivB a b && ivB c d) (a + c) (b + d)), .int .i64 (opH (ivB a b && ivB c d) (a + c) (b + d))], .int .i64 (opE (ivB a b && ivB c d) (a + c) (b + d))]) (by simp [results, Try.results17, go_sem, opL, opH, opE, *] <;> omega) rfl ⟨(by first | rfl | simp only [h1]), ?_⟩
        exact (by repeat (first | exact Later.refl _ | refine Later.setCell ?_ (by simp; omega) _ | refine Later.setCell ?_ (by simp) _ | refine Later.alloc ?_ _ | refine Later.drewN ?_ _ | refine Later.drew ?_ | refine Later.trans ?_ (Hid.out (by assumption))))

    · have h2 : ivB c d = false := by simpa using h2
      go_enter Try.func17, Try.ntmps17
      go_wp2_with (first | (go_at_call 35; refine (s_IsInterval _ _ _).mono ?_; rintro e w1 ⟨rfl, hb⟩; obtain ⟨H, hcc, hff, hzz⟩ := later_facts hb; clear hb; (try simp at hzz); (try simp only [World.heap_drewN, World.cell?_drewN, World.frozen?_drewN] at hcc hff); have hz0 : w.heap.size < w1.heap.size := (by omega); (try (have hz1 : w.heap.size + 1 < w1.heap.size := (by omega))); (try (have hz2 : w.heap.size + 1 + 1 < w1.heap.size := (by omega)))) | (go_at_call 42; refine (s_Result _ _ _).mono ?_; rintro e w1 ⟨rfl, hb⟩; obtain ⟨H, hcc, hff, hzz⟩ := later_facts hb; clear hb; (try simp at hzz); (try simp only [World.heap_drewN, World.cell?_drewN, World.frozen?_drewN] at hcc hff); have hz0 : w.heap.size < w1.heap.size := (by omega); (try (have hz1 : w.heap.size + 1 < w1.heap.size := (by omega))); (try (have hz2 : w.heap.size + 1 + 1 < w1.heap.size := (by omega)))))
      all_goals
        refine bodyPost_ret (v := .tuple #[.agg #[.int .i64 (opL (ivB a b && ivB c d) (a + c) (b + d)), .int .i64 (opH (ivB a b && ivB c d) (a + c) (b + d))], .int .i64 (opE (ivB a b && ivB c d) (a + c) (b + d))]) (by simp [results, Try.results17, go_sem, opL, opH, opE, *] <;> omega) rfl ⟨(by first | rfl | simp only [h1]), ?_⟩
        exact (by repeat (first | exact Later.refl _ | refine Later.setCell ?_ (by simp; omega) _ | refine Later.setCell ?_ (by simp) _ | refine Later.alloc ?_ _ | refine Later.drewN ?_ _ | refine Later.drew ?_ | refine Later.trans ?_ (Hid.out (by assumption))))

  · have h1 : ivB a b = false := by simpa using h1
    go_enter Try.func17, Try.ntmps17
    go_wp2_with (first | (go_at_call 35; refine (s_IsInterval _ _ _).mono ?_; rintro e w1 ⟨rfl, hb⟩; obtain ⟨H, hcc, hff, hzz⟩ := later_facts hb; clear hb; (try simp at hzz); (try simp only [World.heap_drewN, World.cell?_drewN, World.frozen?_drewN] at hcc hff); have hz0 : w.heap.size < w1.heap.size := (by omega); (try (have hz1 : w.heap.size + 1 < w1.heap.size := (by omega))); (try (have hz2 : w.heap.size + 1 + 1 < w1.heap.size := (by omega)))) | (go_at_call 42; refine (s_Result _ _ _).mono ?_; rintro e w1 ⟨rfl, hb⟩; obtain ⟨H, hcc, hff, hzz⟩ := later_facts hb; clear hb; (try simp at hzz); (try simp only [World.heap_drewN, World.cell?_drewN, World.frozen?_drewN] at hcc hff); have hz0 : w.heap.size < w1.heap.size := (by omega); (try (have hz1 : w.heap.size + 1 < w1.heap.size := (by omega))); (try (have hz2 : w.heap.size + 1 + 1 < w1.heap.size := (by omega)))))
    all_goals
      refine bodyPost_ret (v := .tuple #[.agg #[.int .i64 (opL (ivB a b && ivB c d) (a + c) (b + d)), .int .i64 (opH (ivB a b && ivB c d) (a + c) (b + d))], .int .i64 (opE (ivB a b && ivB c d) (a + c) (b + d))]) (by simp [results, Try.results17, go_sem, opL, opH, opE, *] <;> omega) rfl ⟨(by first | rfl | simp only [h1]), ?_⟩
      exact (by repeat (first | exact Later.refl _ | refine Later.setCell ?_ (by simp; omega) _ | refine Later.setCell ?_ (by simp) _ | refine Later.alloc ?_ _ | refine Later.drewN ?_ _ | refine Later.drew ?_ | refine Later.trans ?_ (Hid.out (by assumption))))

theorem s_SubtractIntervals (a b c d : Int) (w : World) :
    Calls Try.prog 19 #[.agg #[.int .i64 a, .int .i64 b], .agg #[.int .i64 c, .int .i64 d]] w fun e w' => e = .returned (.tuple #[.agg #[.int .i64 (opL (ivB a b && ivB c d) (a - d) (b - c)), .int .i64 (opH (ivB a b && ivB c d) (a - d) (b - c))], .int .i64 (opE (ivB a b && ivB c d) (a - d) (b - c))]) ∧ Later w w' := by
  by_cases h1 : ivB a b = true
  · by_cases h2 : ivB c d = true
    · obtain ⟨g1, g2, g3, g4, g5⟩ := bounds_of_ivB h1
      obtain ⟨g6, g7, g8, g9, g10⟩ := bounds_of_ivB h2
      go_enter Try.func19, Try.ntmps19
      go_wp2_with (first | (go_at_call 35; refine (s_IsInterval _ _ _).mono ?_; rintro e w1 ⟨rfl, hb⟩; obtain ⟨H, hcc, hff, hzz⟩ := later_facts hb; clear hb; (try simp at hzz); (try simp only [World.heap_drewN, World.cell?_drewN, World.frozen?_drewN] at hcc hff); have hz0 : w.heap.size < w1.heap.size := (by omega); (try (have hz1 : w.heap.size + 1 < w1.heap.size := (by omega))); (try (have hz2 : w.heap.size + 1 + 1 < w1.heap.size := (by omega)))) | (go_at_call 42; refine (s_Result _ _ _).mono ?_; rintro e w1 ⟨rfl, hb⟩; obtain ⟨H, hcc, hff, hzz⟩ := later_facts hb; clear hb; (try simp at hzz); (try simp only [World.heap_drewN, World.cell?_drewN, World.frozen?_drewN] at hcc hff); have hz0 : w.heap.size < w1.heap.size := (by omega); (try (have hz1 : w.heap.size + 1 < w1.heap.size := (by omega))); (try (have hz2 : w.heap.size + 1 + 1 < w1.heap.size := (by omega)))))
      all_goals
        refine bodyPost_ret (v := .tuple #[.agg #[.int .i64 (opL (ivB a b && ivB c d) (a - d) (b - c)), .int .i64 (opH (ivB a b && ivB c d) (a - d) (b - c))], .int .i64 (opE (ivB a b && ivB c d) (a - d) (b - c))]) (by simp [results, Try.results19, go_sem, opL, opH, opE, *] <;> omega) rfl ⟨(by first | rfl | simp only [h1]), ?_⟩
        exact (by repeat (first | exact Later.refl _ | refine Later.setCell ?_ (by simp; omega) _ | refine Later.setCell ?_ (by simp) _ | refine Later.alloc ?_ _ | refine Later.drewN ?_ _ | refine Later.drew ?_ | refine Later.trans ?_ (Hid.out (by assumption))))

    · have h2 : ivB c d = false := by simpa using h2
      go_enter Try.func19, Try.ntmps19
      go_wp2_with (first | (go_at_call 35; refine (s_IsInterval _ _ _).mono ?_; rintro e w1 ⟨rfl, hb⟩; obtain ⟨H, hcc, hff, hzz⟩ := later_facts hb; clear hb; (try simp at hzz); (try simp only [World.heap_drewN, World.cell?_drewN, World.frozen?_drewN] at hcc hff); have hz0 : w.heap.size < w1.heap.size := (by omega); (try (have hz1 : w.heap.size + 1 < w1.heap.size := (by omega))); (try (have hz2 : w.heap.size + 1 + 1 < w1.heap.size := (by omega)))) | (go_at_call 42; refine (s_Result _ _ _).mono ?_; rintro e w1 ⟨rfl, hb⟩; obtain ⟨H, hcc, hff, hzz⟩ := later_facts hb; clear hb; (try simp at hzz); (try simp only [World.heap_drewN, World.cell?_drewN, World.frozen?_drewN] at hcc hff); have hz0 : w.heap.size < w1.heap.size := (by omega); (try (have hz1 : w.heap.size + 1 < w1.heap.size := (by omega))); (try (have hz2 : w.heap.size + 1 + 1 < w1.heap.size := (by omega)))))
      all_goals
        refine bodyPost_ret (v := .tuple #[.agg #[.int .i64 (opL (ivB a b && ivB c d) (a - d) (b - c)), .int .i64 (opH (ivB a b && ivB c d) (a - d) (b - c))], .int .i64 (opE (ivB a b && ivB c d) (a - d) (b - c))]) (by simp [results, Try.results19, go_sem, opL, opH, opE, *] <;> omega) rfl ⟨(by first | rfl | simp only [h1]), ?_⟩
        exact (by repeat (first | exact Later.refl _ | refine Later.setCell ?_ (by simp; omega) _ | refine Later.setCell ?_ (by simp) _ | refine Later.alloc ?_ _ | refine Later.drewN ?_ _ | refine Later.drew ?_ | refine Later.trans ?_ (Hid.out (by assumption))))

  · have h1 : ivB a b = false := by simpa using h1
    go_enter Try.func19, Try.ntmps19
    go_wp2_with (first | (go_at_call 35; refine (s_IsInterval _ _ _).mono ?_; rintro e w1 ⟨rfl, hb⟩; obtain ⟨H, hcc, hff, hzz⟩ := later_facts hb; clear hb; (try simp at hzz); (try simp only [World.heap_drewN, World.cell?_drewN, World.frozen?_drewN] at hcc hff); have hz0 : w.heap.size < w1.heap.size := (by omega); (try (have hz1 : w.heap.size + 1 < w1.heap.size := (by omega))); (try (have hz2 : w.heap.size + 1 + 1 < w1.heap.size := (by omega)))) | (go_at_call 42; refine (s_Result _ _ _).mono ?_; rintro e w1 ⟨rfl, hb⟩; obtain ⟨H, hcc, hff, hzz⟩ := later_facts hb; clear hb; (try simp at hzz); (try simp only [World.heap_drewN, World.cell?_drewN, World.frozen?_drewN] at hcc hff); have hz0 : w.heap.size < w1.heap.size := (by omega); (try (have hz1 : w.heap.size + 1 < w1.heap.size := (by omega))); (try (have hz2 : w.heap.size + 1 + 1 < w1.heap.size := (by omega)))))
    all_goals
      refine bodyPost_ret (v := .tuple #[.agg #[.int .i64 (opL (ivB a b && ivB c d) (a - d) (b - c)), .int .i64 (opH (ivB a b && ivB c d) (a - d) (b - c))], .int .i64 (opE (ivB a b && ivB c d) (a - d) (b - c))]) (by simp [results, Try.results19, go_sem, opL, opH, opE, *] <;> omega) rfl ⟨(by first | rfl | simp only [h1]), ?_⟩
      exact (by repeat (first | exact Later.refl _ | refine Later.setCell ?_ (by simp; omega) _ | refine Later.setCell ?_ (by simp) _ | refine Later.alloc ?_ _ | refine Later.drewN ?_ _ | refine Later.drew ?_ | refine Later.trans ?_ (Hid.out (by assumption))))

theorem s_HullOf (a b c d : Int) (w : World) :
    Calls Try.prog 31 #[.agg #[.int .i64 a, .int .i64 b], .agg #[.int .i64 c, .int .i64 d]] w fun e w' => e = .returned (.tuple #[.agg #[.int .i64 (opL (ivB a b && ivB c d) (min a c) (max b d)), .int .i64 (opH (ivB a b && ivB c d) (min a c) (max b d))], .int .i64 (opE (ivB a b && ivB c d) (min a c) (max b d))]) ∧ Later w w' := by
  by_cases h1 : ivB a b = true
  · by_cases h2 : ivB c d = true
    · by_cases q1 : c < a <;> by_cases q2 : b < d
      · have E1 : Hid (min a c = c) := Lib.hid (by omega)
        have E2 : Hid (max b d = d) := Lib.hid (by omega)
        go_enter Try.func31, Try.ntmps31
        go_wp2_with (first | (go_at_call 35; refine (s_IsInterval _ _ _).mono ?_; rintro e w1 ⟨rfl, hb⟩; obtain ⟨H, hcc, hff, hzz⟩ := later_facts hb; clear hb; (try simp at hzz); (try simp only [World.heap_drewN, World.cell?_drewN, World.frozen?_drewN] at hcc hff); have hz0 : w.heap.size < w1.heap.size := (by omega); (try (have hz1 : w.heap.size + 1 < w1.heap.size := (by omega))); (try (have hz2 : w.heap.size + 1 + 1 < w1.heap.size := (by omega)))) | (go_at_call 42; refine (s_Result _ _ _).mono ?_; rintro e w1 ⟨rfl, hb⟩; obtain ⟨H, hcc, hff, hzz⟩ := later_facts hb; clear hb; (try simp at hzz); (try simp only [World.heap_drewN, World.cell?_drewN, World.frozen?_drewN] at hcc hff); have hz0 : w.heap.size < w1.heap.size := (by omega); (try (have hz1 : w.heap.size + 1 < w1.heap.size := (by omega))); (try (have hz2 : w.heap.size + 1 + 1 < w1.heap.size := (by omega)))))
        have e1 := E1.out; have e2 := E2.out
        all_goals
          refine bodyPost_ret (v := .tuple #[.agg #[.int .i64 (opL (ivB a b && ivB c d) (min a c) (max b d)), .int .i64 (opH (ivB a b && ivB c d) (min a c) (max b d))], .int .i64 (opE (ivB a b && ivB c d) (min a c) (max b d))]) (by simp [results, Try.results31, go_sem, opL, opH, opE, *] <;> omega) rfl ⟨(by first | rfl | simp only [h1]), ?_⟩
          exact (by repeat (first | exact Later.refl _ | refine Later.setCell ?_ (by simp; omega) _ | refine Later.setCell ?_ (by simp) _ | refine Later.alloc ?_ _ | refine Later.drewN ?_ _ | refine Later.drew ?_ | refine Later.trans ?_ (Hid.out (by assumption))))

      · have E1 : Hid (min a c = c) := Lib.hid (by omega)
        have E2 : Hid (max b d = b) := Lib.hid (by omega)
        have q2 : d ≤ b := by omega
        go_enter Try.func31, Try.ntmps31
        go_wp2_with (first | (go_at_call 35; refine (s_IsInterval _ _ _).mono ?_; rintro e w1 ⟨rfl, hb⟩; obtain ⟨H, hcc, hff, hzz⟩ := later_facts hb; clear hb; (try simp at hzz); (try simp only [World.heap_drewN, World.cell?_drewN, World.frozen?_drewN] at hcc hff); have hz0 : w.heap.size < w1.heap.size := (by omega); (try (have hz1 : w.heap.size + 1 < w1.heap.size := (by omega))); (try (have hz2 : w.heap.size + 1 + 1 < w1.heap.size := (by omega)))) | (go_at_call 42; refine (s_Result _ _ _).mono ?_; rintro e w1 ⟨rfl, hb⟩; obtain ⟨H, hcc, hff, hzz⟩ := later_facts hb; clear hb; (try simp at hzz); (try simp only [World.heap_drewN, World.cell?_drewN, World.frozen?_drewN] at hcc hff); have hz0 : w.heap.size < w1.heap.size := (by omega); (try (have hz1 : w.heap.size + 1 < w1.heap.size := (by omega))); (try (have hz2 : w.heap.size + 1 + 1 < w1.heap.size := (by omega)))))
        have e1 := E1.out; have e2 := E2.out
        all_goals
          refine bodyPost_ret (v := .tuple #[.agg #[.int .i64 (opL (ivB a b && ivB c d) (min a c) (max b d)), .int .i64 (opH (ivB a b && ivB c d) (min a c) (max b d))], .int .i64 (opE (ivB a b && ivB c d) (min a c) (max b d))]) (by simp [results, Try.results31, go_sem, opL, opH, opE, *] <;> omega) rfl ⟨(by first | rfl | simp only [h1]), ?_⟩
          exact (by repeat (first | exact Later.refl _ | refine Later.setCell ?_ (by simp; omega) _ | refine Later.setCell ?_ (by simp) _ | refine Later.alloc ?_ _ | refine Later.drewN ?_ _ | refine Later.drew ?_ | refine Later.trans ?_ (Hid.out (by assumption))))

      · have E1 : Hid (min a c = a) := Lib.hid (by omega)
        have E2 : Hid (max b d = d) := Lib.hid (by omega)
        have q1 : a ≤ c := by omega
        go_enter Try.func31, Try.ntmps31
        go_wp2_with (first | (go_at_call 35; refine (s_IsInterval _ _ _).mono ?_; rintro e w1 ⟨rfl, hb⟩; obtain ⟨H, hcc, hff, hzz⟩ := later_facts hb; clear hb; (try simp at hzz); (try simp only [World.heap_drewN, World.cell?_drewN, World.frozen?_drewN] at hcc hff); have hz0 : w.heap.size < w1.heap.size := (by omega); (try (have hz1 : w.heap.size + 1 < w1.heap.size := (by omega))); (try (have hz2 : w.heap.size + 1 + 1 < w1.heap.size := (by omega)))) | (go_at_call 42; refine (s_Result _ _ _).mono ?_; rintro e w1 ⟨rfl, hb⟩; obtain ⟨H, hcc, hff, hzz⟩ := later_facts hb; clear hb; (try simp at hzz); (try simp only [World.heap_drewN, World.cell?_drewN, World.frozen?_drewN] at hcc hff); have hz0 : w.heap.size < w1.heap.size := (by omega); (try (have hz1 : w.heap.size + 1 < w1.heap.size := (by omega))); (try (have hz2 : w.heap.size + 1 + 1 < w1.heap.size := (by omega)))))
        have e1 := E1.out; have e2 := E2.out
        all_goals
          refine bodyPost_ret (v := .tuple #[.agg #[.int .i64 (opL (ivB a b && ivB c d) (min a c) (max b d)), .int .i64 (opH (ivB a b && ivB c d) (min a c) (max b d))], .int .i64 (opE (ivB a b && ivB c d) (min a c) (max b d))]) (by simp [results, Try.results31, go_sem, opL, opH, opE, *] <;> omega) rfl ⟨(by first | rfl | simp only [h1]), ?_⟩
          exact (by repeat (first | exact Later.refl _ | refine Later.setCell ?_ (by simp; omega) _ | refine Later.setCell ?_ (by simp) _ | refine Later.alloc ?_ _ | refine Later.drewN ?_ _ | refine Later.drew ?_ | refine Later.trans ?_ (Hid.out (by assumption))))

      · have E1 : Hid (min a c = a) := Lib.hid (by omega)
        have E2 : Hid (max b d = b) := Lib.hid (by omega)
        have q1 : a ≤ c := by omega
        have q2 : d ≤ b := by omega
        go_enter Try.func31, Try.ntmps31
        go_wp2_with (first | (go_at_call 35; refine (s_IsInterval _ _ _).mono ?_; rintro e w1 ⟨rfl, hb⟩; obtain ⟨H, hcc, hff, hzz⟩ := later_facts hb; clear hb; (try simp at hzz); (try simp only [World.heap_drewN, World.cell?_drewN, World.frozen?_drewN] at hcc hff); have hz0 : w.heap.size < w1.heap.size := (by omega); (try (have hz1 : w.heap.size + 1 < w1.heap.size := (by omega))); (try (have hz2 : w.heap.size + 1 + 1 < w1.heap.size := (by omega)))) | (go_at_call 42; refine (s_Result _ _ _).mono ?_; rintro e w1 ⟨rfl, hb⟩; obtain ⟨H, hcc, hff, hzz⟩ := later_facts hb; clear hb; (try simp at hzz); (try simp only [World.heap_drewN, World.cell?_drewN, World.frozen?_drewN] at hcc hff); have hz0 : w.heap.size < w1.heap.size := (by omega); (try (have hz1 : w.heap.size + 1 < w1.heap.size := (by omega))); (try (have hz2 : w.heap.size + 1 + 1 < w1.heap.size := (by omega)))))
        have e1 := E1.out; have e2 := E2.out
        all_goals
          refine bodyPost_ret (v := .tuple #[.agg #[.int .i64 (opL (ivB a b && ivB c d) (min a c) (max b d)), .int .i64 (opH (ivB a b && ivB c d) (min a c) (max b d))], .int .i64 (opE (ivB a b && ivB c d) (min a c) (max b d))]) (by simp [results, Try.results31, go_sem, opL, opH, opE, *] <;> omega) rfl ⟨(by first | rfl | simp only [h1]), ?_⟩
          exact (by repeat (first | exact Later.refl _ | refine Later.setCell ?_ (by simp; omega) _ | refine Later.setCell ?_ (by simp) _ | refine Later.alloc ?_ _ | refine Later.drewN ?_ _ | refine Later.drew ?_ | refine Later.trans ?_ (Hid.out (by assumption))))


    · have h2 : ivB c d = false := by simpa using h2
      go_enter Try.func31, Try.ntmps31
      go_wp2_with (first | (go_at_call 35; refine (s_IsInterval _ _ _).mono ?_; rintro e w1 ⟨rfl, hb⟩; obtain ⟨H, hcc, hff, hzz⟩ := later_facts hb; clear hb; (try simp at hzz); (try simp only [World.heap_drewN, World.cell?_drewN, World.frozen?_drewN] at hcc hff); have hz0 : w.heap.size < w1.heap.size := (by omega); (try (have hz1 : w.heap.size + 1 < w1.heap.size := (by omega))); (try (have hz2 : w.heap.size + 1 + 1 < w1.heap.size := (by omega)))) | (go_at_call 42; refine (s_Result _ _ _).mono ?_; rintro e w1 ⟨rfl, hb⟩; obtain ⟨H, hcc, hff, hzz⟩ := later_facts hb; clear hb; (try simp at hzz); (try simp only [World.heap_drewN, World.cell?_drewN, World.frozen?_drewN] at hcc hff); have hz0 : w.heap.size < w1.heap.size := (by omega); (try (have hz1 : w.heap.size + 1 < w1.heap.size := (by omega))); (try (have hz2 : w.heap.size + 1 + 1 < w1.heap.size := (by omega)))))
      all_goals
        refine bodyPost_ret (v := .tuple #[.agg #[.int .i64 (opL (ivB a b && ivB c d) (min a c) (max b d)), .int .i64 (opH (ivB a b && ivB c d) (min a c) (max b d))], .int .i64 (opE (ivB a b && ivB c d) (min a c) (max b d))]) (by simp [results, Try.results31, go_sem, opL, opH, opE, *] <;> omega) rfl ⟨(by first | rfl | simp only [h1]), ?_⟩
        exact (by repeat (first | exact Later.refl _ | refine Later.setCell ?_ (by simp; omega) _ | refine Later.setCell ?_ (by simp) _ | refine Later.alloc ?_ _ | refine Later.drewN ?_ _ | refine Later.drew ?_ | refine Later.trans ?_ (Hid.out (by assumption))))

  · have h1 : ivB a b = false := by simpa using h1
    go_enter Try.func31, Try.ntmps31
    go_wp2_with (first | (go_at_call 35; refine (s_IsInterval _ _ _).mono ?_; rintro e w1 ⟨rfl, hb⟩; obtain ⟨H, hcc, hff, hzz⟩ := later_facts hb; clear hb; (try simp at hzz); (try simp only [World.heap_drewN, World.cell?_drewN, World.frozen?_drewN] at hcc hff); have hz0 : w.heap.size < w1.heap.size := (by omega); (try (have hz1 : w.heap.size + 1 < w1.heap.size := (by omega))); (try (have hz2 : w.heap.size + 1 + 1 < w1.heap.size := (by omega)))) | (go_at_call 42; refine (s_Result _ _ _).mono ?_; rintro e w1 ⟨rfl, hb⟩; obtain ⟨H, hcc, hff, hzz⟩ := later_facts hb; clear hb; (try simp at hzz); (try simp only [World.heap_drewN, World.cell?_drewN, World.frozen?_drewN] at hcc hff); have hz0 : w.heap.size < w1.heap.size := (by omega); (try (have hz1 : w.heap.size + 1 < w1.heap.size := (by omega))); (try (have hz2 : w.heap.size + 1 + 1 < w1.heap.size := (by omega)))))
    all_goals
      refine bodyPost_ret (v := .tuple #[.agg #[.int .i64 (opL (ivB a b && ivB c d) (min a c) (max b d)), .int .i64 (opH (ivB a b && ivB c d) (min a c) (max b d))], .int .i64 (opE (ivB a b && ivB c d) (min a c) (max b d))]) (by simp [results, Try.results31, go_sem, opL, opH, opE, *] <;> omega) rfl ⟨(by first | rfl | simp only [h1]), ?_⟩
      exact (by repeat (first | exact Later.refl _ | refine Later.setCell ?_ (by simp; omega) _ | refine Later.setCell ?_ (by simp) _ | refine Later.alloc ?_ _ | refine Later.drewN ?_ _ | refine Later.drew ?_ | refine Later.trans ?_ (Hid.out (by assumption))))

theorem wv_valid {x y : Int} (h1 : -1000000000000 ≤ x) (h2 : x ≤ 1000000000000) (h3 : -1000000000000 ≤ y) (h4 : y ≤ 1000000000000) : wvE x y = 0 ∧ wvL x y = x ∧ wvH x y = y := by
  have e1 := (isVB_iff x).2 ⟨h1, h2⟩
  have e2 := (isVB_iff y).2 ⟨h3, h4⟩
  simp [wvE, wvL, wvH, e1, e2]
theorem s_CommonPart (a b c d : Int) (w : World) :
    Calls Try.prog 29 #[.agg #[.int .i64 a, .int .i64 b], .agg #[.int .i64 c, .int .i64 d]] w fun e w' => e = .returned (.tuple #[.agg #[.int .i64 (cpL (ivB a b && ivB c d) (max a c) (min b d)), .int .i64 (cpH (ivB a b && ivB c d) (max a c) (min b d))], .int .i64 (cpE (ivB a b && ivB c d) (max a c) (min b d))]) ∧ Later w w' := by
  by_cases h1 : ivB a b = true
  · by_cases h2 : ivB c d = true
    · obtain ⟨g1, g2, g3, g4, g5⟩ := bounds_of_ivB h1
      obtain ⟨g6, g7, g8, g9, g10⟩ := bounds_of_ivB h2
      by_cases q1 : a < c <;> by_cases q2 : d < b
      · have E1 : Hid (max a c = c) := Lib.hid (by omega)
        have E2 : Hid (min b d = d) := Lib.hid (by omega)
        have q3 : c ≤ d := by omega
        obtain ⟨e3, e4, e5⟩ := @wv_valid c d (by omega) (by omega) (by omega) (by omega)
        go_enter Try.func29, Try.ntmps29
        go_wp2_with (go_at_call 35; refine (s_IsInterval _ _ _).mono ?_; rintro e w1 ⟨rfl, hb⟩; obtain ⟨H, hcc, hff, hzz⟩ := later_facts hb; clear hb; (try simp at hzz); (try simp only [World.heap_drewN, World.cell?_drewN, World.frozen?_drewN] at hcc hff); have hz0 : w.heap.size < w1.heap.size := (by omega); (try (have hz1 : w.heap.size + 1 < w1.heap.size := (by omega))); (try (have hz2 : w.heap.size + 1 + 1 < w1.heap.size := (by omega))))
        go_quiet (fail)
        go_wp2_with (go_at_call 42; refine (s_Result _ _ _).mono ?_; rintro e w1 ⟨rfl, hb⟩; obtain ⟨H, hcc, hff, hzz⟩ := later_facts hb; clear hb; (try simp at hzz); (try simp only [World.heap_drewN, World.cell?_drewN, World.frozen?_drewN] at hcc hff); have hz0 : w.heap.size < w1.heap.size := (by omega); (try (have hz1 : w.heap.size + 1 < w1.heap.size := (by omega))); (try (have hz2 : w.heap.size + 1 + 1 < w1.heap.size := (by omega))))
        have e1 := E1.out; have e2 := E2.out
        all_goals
          refine bodyPost_ret (v := .tuple #[.agg #[.int .i64 (cpL (ivB a b && ivB c d) (max a c) (min b d)), .int .i64 (cpH (ivB a b && ivB c d) (max a c) (min b d))], .int .i64 (cpE (ivB a b && ivB c d) (max a c) (min b d))]) (by simp [results, Try.results29, go_sem, cpL, cpH, cpE, *] <;> omega) rfl ⟨(by first | rfl | simp only [h1]), ?_⟩
          exact (by repeat (first | exact Later.refl _ | refine Later.setCell ?_ (by simp; omega) _ | refine Later.setCell ?_ (by simp) _ | refine Later.alloc ?_ _ | refine Later.drewN ?_ _ | refine Later.drew ?_ | refine Later.trans ?_ (Hid.out (by assumption))))

      · have E1 : Hid (max a c = c) := Lib.hid (by omega)
        have E2 : Hid (min b d = b) := Lib.hid (by omega)
        have q2 : b ≤ d := by omega
        by_cases q3 : b < c
        · go_enter Try.func29, Try.ntmps29
          go_wp2_with (go_at_call 35; refine (s_IsInterval _ _ _).mono ?_; rintro e w1 ⟨rfl, hb⟩; obtain ⟨H, hcc, hff, hzz⟩ := later_facts hb; clear hb; (try simp at hzz); (try simp only [World.heap_drewN, World.cell?_drewN, World.frozen?_drewN] at hcc hff); have hz0 : w.heap.size < w1.heap.size := (by omega); (try (have hz1 : w.heap.size + 1 < w1.heap.size := (by omega))); (try (have hz2 : w.heap.size + 1 + 1 < w1.heap.size := (by omega))))
          go_quiet (fail)
          go_wp2_with (go_at_call 42; refine (s_Result _ _ _).mono ?_; rintro e w1 ⟨rfl, hb⟩; obtain ⟨H, hcc, hff, hzz⟩ := later_facts hb; clear hb; (try simp at hzz); (try simp only [World.heap_drewN, World.cell?_drewN, World.frozen?_drewN] at hcc hff); have hz0 : w.heap.size < w1.heap.size := (by omega); (try (have hz1 : w.heap.size + 1 < w1.heap.size := (by omega))); (try (have hz2 : w.heap.size + 1 + 1 < w1.heap.size := (by omega))))
          have e1 := E1.out; have e2 := E2.out
          all_goals
            refine bodyPost_ret (v := .tuple #[.agg #[.int .i64 (cpL (ivB a b && ivB c d) (max a c) (min b d)), .int .i64 (cpH (ivB a b && ivB c d) (max a c) (min b d))], .int .i64 (cpE (ivB a b && ivB c d) (max a c) (min b d))]) (by simp [results, Try.results29, go_sem, cpL, cpH, cpE, *] <;> omega) rfl ⟨(by first | rfl | simp only [h1]), ?_⟩
            exact (by repeat (first | exact Later.refl _ | refine Later.setCell ?_ (by simp; omega) _ | refine Later.setCell ?_ (by simp) _ | refine Later.alloc ?_ _ | refine Later.drewN ?_ _ | refine Later.drew ?_ | refine Later.trans ?_ (Hid.out (by assumption))))

        · have q3 : c ≤ b := by omega
          obtain ⟨e3, e4, e5⟩ := @wv_valid c b (by omega) (by omega) (by omega) (by omega)
          go_enter Try.func29, Try.ntmps29
          go_wp2_with (go_at_call 35; refine (s_IsInterval _ _ _).mono ?_; rintro e w1 ⟨rfl, hb⟩; obtain ⟨H, hcc, hff, hzz⟩ := later_facts hb; clear hb; (try simp at hzz); (try simp only [World.heap_drewN, World.cell?_drewN, World.frozen?_drewN] at hcc hff); have hz0 : w.heap.size < w1.heap.size := (by omega); (try (have hz1 : w.heap.size + 1 < w1.heap.size := (by omega))); (try (have hz2 : w.heap.size + 1 + 1 < w1.heap.size := (by omega))))
          go_quiet (fail)
          go_wp2_with (go_at_call 42; refine (s_Result _ _ _).mono ?_; rintro e w1 ⟨rfl, hb⟩; obtain ⟨H, hcc, hff, hzz⟩ := later_facts hb; clear hb; (try simp at hzz); (try simp only [World.heap_drewN, World.cell?_drewN, World.frozen?_drewN] at hcc hff); have hz0 : w.heap.size < w1.heap.size := (by omega); (try (have hz1 : w.heap.size + 1 < w1.heap.size := (by omega))); (try (have hz2 : w.heap.size + 1 + 1 < w1.heap.size := (by omega))))
          have e1 := E1.out; have e2 := E2.out
          all_goals
            refine bodyPost_ret (v := .tuple #[.agg #[.int .i64 (cpL (ivB a b && ivB c d) (max a c) (min b d)), .int .i64 (cpH (ivB a b && ivB c d) (max a c) (min b d))], .int .i64 (cpE (ivB a b && ivB c d) (max a c) (min b d))]) (by simp [results, Try.results29, go_sem, cpL, cpH, cpE, *] <;> omega) rfl ⟨(by first | rfl | simp only [h1]), ?_⟩
            exact (by repeat (first | exact Later.refl _ | refine Later.setCell ?_ (by simp; omega) _ | refine Later.setCell ?_ (by simp) _ | refine Later.alloc ?_ _ | refine Later.drewN ?_ _ | refine Later.drew ?_ | refine Later.trans ?_ (Hid.out (by assumption))))

      · have E1 : Hid (max a c = a) := Lib.hid (by omega)
        have E2 : Hid (min b d = d) := Lib.hid (by omega)
        have q1 : c ≤ a := by omega
        by_cases q3 : d < a
        · go_enter Try.func29, Try.ntmps29
          go_wp2_with (go_at_call 35; refine (s_IsInterval _ _ _).mono ?_; rintro e w1 ⟨rfl, hb⟩; obtain ⟨H, hcc, hff, hzz⟩ := later_facts hb; clear hb; (try simp at hzz); (try simp only [World.heap_drewN, World.cell?_drewN, World.frozen?_drewN] at hcc hff); have hz0 : w.heap.size < w1.heap.size := (by omega); (try (have hz1 : w.heap.size + 1 < w1.heap.size := (by omega))); (try (have hz2 : w.heap.size + 1 + 1 < w1.heap.size := (by omega))))
          go_quiet (fail)
          go_wp2_with (go_at_call 42; refine (s_Result _ _ _).mono ?_; rintro e w1 ⟨rfl, hb⟩; obtain ⟨H, hcc, hff, hzz⟩ := later_facts hb; clear hb; (try simp at hzz); (try simp only [World.heap_drewN, World.cell?_drewN, World.frozen?_drewN] at hcc hff); have hz0 : w.heap.size < w1.heap.size := (by omega); (try (have hz1 : w.heap.size + 1 < w1.heap.size := (by omega))); (try (have hz2 : w.heap.size + 1 + 1 < w1.heap.size := (by omega))))
          have e1 := E1.out; have e2 := E2.out
          all_goals
            refine bodyPost_ret (v := .tuple #[.agg #[.int .i64 (cpL (ivB a b && ivB c d) (max a c) (min b d)), .int .i64 (cpH (ivB a b && ivB c d) (max a c) (min b d))], .int .i64 (cpE (ivB a b && ivB c d) (max a c) (min b d))]) (by simp [results, Try.results29, go_sem, cpL, cpH, cpE, *] <;> omega) rfl ⟨(by first | rfl | simp only [h1]), ?_⟩
            exact (by repeat (first | exact Later.refl _ | refine Later.setCell ?_ (by simp; omega) _ | refine Later.setCell ?_ (by simp) _ | refine Later.alloc ?_ _ | refine Later.drewN ?_ _ | refine Later.drew ?_ | refine Later.trans ?_ (Hid.out (by assumption))))

        · have q3 : a ≤ d := by omega
          obtain ⟨e3, e4, e5⟩ := @wv_valid a d (by omega) (by omega) (by omega) (by omega)
          go_enter Try.func29, Try.ntmps29
          go_wp2_with (go_at_call 35; refine (s_IsInterval _ _ _).mono ?_; rintro e w1 ⟨rfl, hb⟩; obtain ⟨H, hcc, hff, hzz⟩ := later_facts hb; clear hb; (try simp at hzz); (try simp only [World.heap_drewN, World.cell?_drewN, World.frozen?_drewN] at hcc hff); have hz0 : w.heap.size < w1.heap.size := (by omega); (try (have hz1 : w.heap.size + 1 < w1.heap.size := (by omega))); (try (have hz2 : w.heap.size + 1 + 1 < w1.heap.size := (by omega))))
          go_quiet (fail)
          go_wp2_with (go_at_call 42; refine (s_Result _ _ _).mono ?_; rintro e w1 ⟨rfl, hb⟩; obtain ⟨H, hcc, hff, hzz⟩ := later_facts hb; clear hb; (try simp at hzz); (try simp only [World.heap_drewN, World.cell?_drewN, World.frozen?_drewN] at hcc hff); have hz0 : w.heap.size < w1.heap.size := (by omega); (try (have hz1 : w.heap.size + 1 < w1.heap.size := (by omega))); (try (have hz2 : w.heap.size + 1 + 1 < w1.heap.size := (by omega))))
          have e1 := E1.out; have e2 := E2.out
          all_goals
            refine bodyPost_ret (v := .tuple #[.agg #[.int .i64 (cpL (ivB a b && ivB c d) (max a c) (min b d)), .int .i64 (cpH (ivB a b && ivB c d) (max a c) (min b d))], .int .i64 (cpE (ivB a b && ivB c d) (max a c) (min b d))]) (by simp [results, Try.results29, go_sem, cpL, cpH, cpE, *] <;> omega) rfl ⟨(by first | rfl | simp only [h1]), ?_⟩
            exact (by repeat (first | exact Later.refl _ | refine Later.setCell ?_ (by simp; omega) _ | refine Later.setCell ?_ (by simp) _ | refine Later.alloc ?_ _ | refine Later.drewN ?_ _ | refine Later.drew ?_ | refine Later.trans ?_ (Hid.out (by assumption))))

      · have E1 : Hid (max a c = a) := Lib.hid (by omega)
        have E2 : Hid (min b d = b) := Lib.hid (by omega)
        have q1 : c ≤ a := by omega
        have q2 : b ≤ d := by omega
        have q3 : a ≤ b := by omega
        obtain ⟨e3, e4, e5⟩ := @wv_valid a b (by omega) (by omega) (by omega) (by omega)
        go_enter Try.func29, Try.ntmps29
        go_wp2_with (go_at_call 35; refine (s_IsInterval _ _ _).mono ?_; rintro e w1 ⟨rfl, hb⟩; obtain ⟨H, hcc, hff, hzz⟩ := later_facts hb; clear hb; (try simp at hzz); (try simp only [World.heap_drewN, World.cell?_drewN, World.frozen?_drewN] at hcc hff); have hz0 : w.heap.size < w1.heap.size := (by omega); (try (have hz1 : w.heap.size + 1 < w1.heap.size := (by omega))); (try (have hz2 : w.heap.size + 1 + 1 < w1.heap.size := (by omega))))
        go_quiet (fail)
        go_wp2_with (go_at_call 42; refine (s_Result _ _ _).mono ?_; rintro e w1 ⟨rfl, hb⟩; obtain ⟨H, hcc, hff, hzz⟩ := later_facts hb; clear hb; (try simp at hzz); (try simp only [World.heap_drewN, World.cell?_drewN, World.frozen?_drewN] at hcc hff); have hz0 : w.heap.size < w1.heap.size := (by omega); (try (have hz1 : w.heap.size + 1 < w1.heap.size := (by omega))); (try (have hz2 : w.heap.size + 1 + 1 < w1.heap.size := (by omega))))
        have e1 := E1.out; have e2 := E2.out
        all_goals
          refine bodyPost_ret (v := .tuple #[.agg #[.int .i64 (cpL (ivB a b && ivB c d) (max a c) (min b d)), .int .i64 (cpH (ivB a b && ivB c d) (max a c) (min b d))], .int .i64 (cpE (ivB a b && ivB c d) (max a c) (min b d))]) (by simp [results, Try.results29, go_sem, cpL, cpH, cpE, *] <;> omega) rfl ⟨(by first | rfl | simp only [h1]), ?_⟩
          exact (by repeat (first | exact Later.refl _ | refine Later.setCell ?_ (by simp; omega) _ | refine Later.setCell ?_ (by simp) _ | refine Later.alloc ?_ _ | refine Later.drewN ?_ _ | refine Later.drew ?_ | refine Later.trans ?_ (Hid.out (by assumption))))


    · have h2 : ivB c d = false := by simpa using h2
      go_enter Try.func29, Try.ntmps29
      go_wp2_with (go_at_call 35; refine (s_IsInterval _ _ _).mono ?_; rintro e w1 ⟨rfl, hb⟩; obtain ⟨H, hcc, hff, hzz⟩ := later_facts hb; clear hb; (try simp at hzz); (try simp only [World.heap_drewN, World.cell?_drewN, World.frozen?_drewN] at hcc hff); have hz0 : w.heap.size < w1.heap.size := (by omega); (try (have hz1 : w.heap.size + 1 < w1.heap.size := (by omega))); (try (have hz2 : w.heap.size + 1 + 1 < w1.heap.size := (by omega))))
      all_goals
        refine bodyPost_ret (v := .tuple #[.agg #[.int .i64 (cpL (ivB a b && ivB c d) (max a c) (min b d)), .int .i64 (cpH (ivB a b && ivB c d) (max a c) (min b d))], .int .i64 (cpE (ivB a b && ivB c d) (max a c) (min b d))]) (by simp [results, Try.results29, go_sem, cpL, cpH, cpE, *] <;> omega) rfl ⟨(by first | rfl | simp only [h1]), ?_⟩
        exact (by repeat (first | exact Later.refl _ | refine Later.setCell ?_ (by simp; omega) _ | refine Later.setCell ?_ (by simp) _ | refine Later.alloc ?_ _ | refine Later.drewN ?_ _ | refine Later.drew ?_ | refine Later.trans ?_ (Hid.out (by assumption))))

  · have h1 : ivB a b = false := by simpa using h1
    go_enter Try.func29, Try.ntmps29
    go_wp2_with (go_at_call 35; refine (s_IsInterval _ _ _).mono ?_; rintro e w1 ⟨rfl, hb⟩; obtain ⟨H, hcc, hff, hzz⟩ := later_facts hb; clear hb; (try simp at hzz); (try simp only [World.heap_drewN, World.cell?_drewN, World.frozen?_drewN] at hcc hff); have hz0 : w.heap.size < w1.heap.size := (by omega); (try (have hz1 : w.heap.size + 1 < w1.heap.size := (by omega))); (try (have hz2 : w.heap.size + 1 + 1 < w1.heap.size := (by omega))))
    all_goals
      refine bodyPost_ret (v := .tuple #[.agg #[.int .i64 (cpL (ivB a b && ivB c d) (max a c) (min b d)), .int .i64 (cpH (ivB a b && ivB c d) (max a c) (min b d))], .int .i64 (cpE (ivB a b && ivB c d) (max a c) (min b d))]) (by simp [results, Try.results29, go_sem, cpL, cpH, cpE, *] <;> omega) rfl ⟨(by first | rfl | simp only [h1]), ?_⟩
      exact (by repeat (first | exact Later.refl _ | refine Later.setCell ?_ (by simp; omega) _ | refine Later.setCell ?_ (by simp) _ | refine Later.alloc ?_ _ | refine Later.drewN ?_ _ | refine Later.drew ?_ | refine Later.trans ?_ (Hid.out (by assumption))))

theorem s_IsWithin (a b c d : Int) (w : World) :
    Calls Try.prog 34 #[.agg #[.int .i64 a, .int .i64 b], .agg #[.int .i64 c, .int .i64 d]] w fun e w' => e = .returned (.bool (winB (ivB a b && ivB c d) a b c d)) ∧ Later w w' := by
  cases h1 : ivB a b <;> cases h2 : ivB c d
  all_goals
    go_enter Try.func34, Try.ntmps34
    go_wp2_with (go_at_call 35; refine (s_IsInterval _ _ _).mono ?_; rintro e w1 ⟨rfl, hb⟩; obtain ⟨H, hcc, hff, hzz⟩ := later_facts hb; clear hb; (try simp at hzz); (try simp only [World.heap_drewN, World.cell?_drewN, World.frozen?_drewN] at hcc hff); have hz0 : w.heap.size < w1.heap.size := (by omega); (try (have hz1 : w.heap.size + 1 < w1.heap.size := (by omega))); (try (have hz2 : w.heap.size + 1 + 1 < w1.heap.size := (by omega))))
    all_goals
      go_ret
      exact ⟨ret_b (by simp [winB, *] <;> omega), (by repeat (first | exact Later.refl _ | refine Later.setCell ?_ (by simp; omega) _ | refine Later.setCell ?_ (by simp) _ | refine Later.alloc ?_ _ | refine Later.drewN ?_ _ | refine Later.drew ?_ | refine Later.trans ?_ (Hid.out (by assumption))))⟩
theorem s_CompareIntervals (a b c d : Int) (w : World) :
    Calls Try.prog 33 #[.agg #[.int .i64 a, .int .i64 b], .agg #[.int .i64 c, .int .i64 d]] w fun e w' => e = .returned (.tuple #[.int .i64 (ordV (ivB a b && ivB c d) a b c d), .int .i64 (ordE (ivB a b && ivB c d))]) ∧ Later w w' := by
  cases h1 : ivB a b <;> cases h2 : ivB c d
  all_goals
    go_enter Try.func33, Try.ntmps33
    go_wp2_with (go_at_call 35; refine (s_IsInterval _ _ _).mono ?_; rintro e w1 ⟨rfl, hb⟩; obtain ⟨H, hcc, hff, hzz⟩ := later_facts hb; clear hb; (try simp at hzz); (try simp only [World.heap_drewN, World.cell?_drewN, World.frozen?_drewN] at hcc hff); have hz0 : w.heap.size < w1.heap.size := (by omega); (try (have hz1 : w.heap.size + 1 < w1.heap.size := (by omega))); (try (have hz2 : w.heap.size + 1 + 1 < w1.heap.size := (by omega))))
    all_goals
      go_ret2
      exact ⟨ret_2i (by simp [ordV] <;> omega) (by simp [ordE]), (by repeat (first | exact Later.refl _ | refine Later.setCell ?_ (by simp; omega) _ | refine Later.setCell ?_ (by simp) _ | refine Later.alloc ?_ _ | refine Later.drewN ?_ _ | refine Later.drew ?_ | refine Later.trans ?_ (Hid.out (by assumption))))⟩
theorem s_ScaleInterval (a b k : Int) (w : World) :
    Calls Try.prog 26 #[.agg #[.int .i64 a, .int .i64 b], .int .i64 k] w fun e w' => e = .returned (.tuple #[.agg #[.int .i64 (scL (ivB a b) a b k), .int .i64 (scH (ivB a b) a b k)], .int .i64 (scE (ivB a b) a b k)]) ∧ Later w w' := by
  by_cases h1 : ivB a b = true
  · obtain ⟨g1, g2, g3, g4, g5⟩ := bounds_of_ivB h1
    by_cases hk : -1000000 ≤ k ∧ k ≤ 1000000
    · have e1 : scV k = true := by simp [scV, hk]
      obtain ⟨k1, k2⟩ := hk
      obtain ⟨m1, m2⟩ := mulk_bd a k g1 g2 k1 k2
      obtain ⟨m3, m4⟩ := mulk_bd b k g3 g4 k1 k2
      by_cases m5 : b * k < a * k
      · have m6 : min (a * k) (b * k) = b * k := by omega
        have m7 : max (a * k) (b * k) = a * k := by omega
        have m8 : ¬ a * k < b * k := by omega
        go_enter Try.func26, Try.ntmps26
        go_wp2_with (first | (go_at_call 35; refine (s_IsInterval _ _ _).mono ?_; rintro e w1 ⟨rfl, hb⟩; obtain ⟨H, hcc, hff, hzz⟩ := later_facts hb; clear hb; (try simp at hzz); (try simp only [World.heap_drewN, World.cell?_drewN, World.frozen?_drewN] at hcc hff); have hz0 : w.heap.size < w1.heap.size := (by omega); (try (have hz1 : w.heap.size + 1 < w1.heap.size := (by omega))); (try (have hz2 : w.heap.size + 1 + 1 < w1.heap.size := (by omega)))) | (go_at_call 50; refine (s_In _ _ _ _).mono ?_; rintro e w' ⟨rfl, rfl⟩) | (go_at_call 42; refine (s_Result _ _ _).mono ?_; rintro e w1 ⟨rfl, hb⟩; obtain ⟨H, hcc, hff, hzz⟩ := later_facts hb; clear hb; (try simp at hzz); (try simp only [World.heap_drewN, World.cell?_drewN, World.frozen?_drewN] at hcc hff); have hz0 : w.heap.size < w1.heap.size := (by omega); (try (have hz1 : w.heap.size + 1 < w1.heap.size := (by omega))); (try (have hz2 : w.heap.size + 1 + 1 < w1.heap.size := (by omega)))))
        refine bodyPost_ret (v := .tuple #[.agg #[.int .i64 (scL (ivB a b) a b k), .int .i64 (scH (ivB a b) a b k)], .int .i64 (scE (ivB a b) a b k)]) (by simp [results, Try.results26, go_sem, scE, scL, scH, *] <;> omega) rfl ⟨(by first | rfl | simp only [h1]), ?_⟩
        exact (by repeat (first | exact Later.refl _ | refine Later.setCell ?_ (by simp; omega) _ | refine Later.setCell ?_ (by simp) _ | refine Later.alloc ?_ _ | refine Later.drewN ?_ _ | refine Later.drew ?_ | refine Later.trans ?_ (Hid.out (by assumption))))

      · by_cases m8 : a * k < b * k
        · have m6 : min (a * k) (b * k) = a * k := by omega
          have m7 : max (a * k) (b * k) = b * k := by omega
          go_enter Try.func26, Try.ntmps26
          go_wp2_with (first | (go_at_call 35; refine (s_IsInterval _ _ _).mono ?_; rintro e w1 ⟨rfl, hb⟩; obtain ⟨H, hcc, hff, hzz⟩ := later_facts hb; clear hb; (try simp at hzz); (try simp only [World.heap_drewN, World.cell?_drewN, World.frozen?_drewN] at hcc hff); have hz0 : w.heap.size < w1.heap.size := (by omega); (try (have hz1 : w.heap.size + 1 < w1.heap.size := (by omega))); (try (have hz2 : w.heap.size + 1 + 1 < w1.heap.size := (by omega)))) | (go_at_call 50; refine (s_In _ _ _ _).mono ?_; rintro e w' ⟨rfl, rfl⟩) | (go_at_call 42; refine (s_Result _ _ _).mono ?_; rintro e w1 ⟨rfl, hb⟩; obtain ⟨H, hcc, hff, hzz⟩ := later_facts hb; clear hb; (try simp at hzz); (try simp only [World.heap_drewN, World.cell?_drewN, World.frozen?_drewN] at hcc hff); have hz0 : w.heap.size < w1.heap.size := (by omega); (try (have hz1 : w.heap.size + 1 < w1.heap.size := (by omega))); (try (have hz2 : w.heap.size + 1 + 1 < w1.heap.size := (by omega)))))
          refine bodyPost_ret (v := .tuple #[.agg #[.int .i64 (scL (ivB a b) a b k), .int .i64 (scH (ivB a b) a b k)], .int .i64 (scE (ivB a b) a b k)]) (by simp [results, Try.results26, go_sem, scE, scL, scH, *] <;> omega) rfl ⟨(by first | rfl | simp only [h1]), ?_⟩
          exact (by repeat (first | exact Later.refl _ | refine Later.setCell ?_ (by simp; omega) _ | refine Later.setCell ?_ (by simp) _ | refine Later.alloc ?_ _ | refine Later.drewN ?_ _ | refine Later.drew ?_ | refine Later.trans ?_ (Hid.out (by assumption))))

        · have m6 : min (a * k) (b * k) = a * k := by omega
          have m7 : max (a * k) (b * k) = a * k := by omega
          have m5 : a * k ≤ b * k := by omega
          have m8 : b * k ≤ a * k := by omega
          go_enter Try.func26, Try.ntmps26
          go_wp2_with (first | (go_at_call 35; refine (s_IsInterval _ _ _).mono ?_; rintro e w1 ⟨rfl, hb⟩; obtain ⟨H, hcc, hff, hzz⟩ := later_facts hb; clear hb; (try simp at hzz); (try simp only [World.heap_drewN, World.cell?_drewN, World.frozen?_drewN] at hcc hff); have hz0 : w.heap.size < w1.heap.size := (by omega); (try (have hz1 : w.heap.size + 1 < w1.heap.size := (by omega))); (try (have hz2 : w.heap.size + 1 + 1 < w1.heap.size := (by omega)))) | (go_at_call 50; refine (s_In _ _ _ _).mono ?_; rintro e w' ⟨rfl, rfl⟩) | (go_at_call 42; refine (s_Result _ _ _).mono ?_; rintro e w1 ⟨rfl, hb⟩; obtain ⟨H, hcc, hff, hzz⟩ := later_facts hb; clear hb; (try simp at hzz); (try simp only [World.heap_drewN, World.cell?_drewN, World.frozen?_drewN] at hcc hff); have hz0 : w.heap.size < w1.heap.size := (by omega); (try (have hz1 : w.heap.size + 1 < w1.heap.size := (by omega))); (try (have hz2 : w.heap.size + 1 + 1 < w1.heap.size := (by omega)))))
          refine bodyPost_ret (v := .tuple #[.agg #[.int .i64 (scL (ivB a b) a b k), .int .i64 (scH (ivB a b) a b k)], .int .i64 (scE (ivB a b) a b k)]) (by simp [results, Try.results26, go_sem, scE, scL, scH, *] <;> omega) rfl ⟨(by first | rfl | simp only [h1]), ?_⟩
          exact (by repeat (first | exact Later.refl _ | refine Later.setCell ?_ (by simp; omega) _ | refine Later.setCell ?_ (by simp) _ | refine Later.alloc ?_ _ | refine Later.drewN ?_ _ | refine Later.drew ?_ | refine Later.trans ?_ (Hid.out (by assumption))))

    · have e1 : scV k = false := by unfold scV; rw [Bool.eq_false_iff, Ne]; simp; omega
      by_cases k1 : k < -1000000
      · have d1 : decide (-1000000 ≤ k) = false := by simp; omega
        go_enter Try.func26, Try.ntmps26
        go_wp2_with (first | (go_at_call 35; refine (s_IsInterval _ _ _).mono ?_; rintro e w1 ⟨rfl, hb⟩; obtain ⟨H, hcc, hff, hzz⟩ := later_facts hb; clear hb; (try simp at hzz); (try simp only [World.heap_drewN, World.cell?_drewN, World.frozen?_drewN] at hcc hff); have hz0 : w.heap.size < w1.heap.size := (by omega); (try (have hz1 : w.heap.size + 1 < w1.heap.size := (by omega))); (try (have hz2 : w.heap.size + 1 + 1 < w1.heap.size := (by omega)))) | (go_at_call 50; refine (s_In _ _ _ _).mono ?_; rintro e w' ⟨rfl, rfl⟩) | (go_at_call 42; refine (s_Result _ _ _).mono ?_; rintro e w1 ⟨rfl, hb⟩; obtain ⟨H, hcc, hff, hzz⟩ := later_facts hb; clear hb; (try simp at hzz); (try simp only [World.heap_drewN, World.cell?_drewN, World.frozen?_drewN] at hcc hff); have hz0 : w.heap.size < w1.heap.size := (by omega); (try (have hz1 : w.heap.size + 1 < w1.heap.size := (by omega))); (try (have hz2 : w.heap.size + 1 + 1 < w1.heap.size := (by omega)))))
        refine bodyPost_ret (v := .tuple #[.agg #[.int .i64 (scL (ivB a b) a b k), .int .i64 (scH (ivB a b) a b k)], .int .i64 (scE (ivB a b) a b k)]) (by simp [results, Try.results26, go_sem, scE, scL, scH, *] <;> omega) rfl ⟨(by first | rfl | simp only [h1]), ?_⟩
        exact (by repeat (first | exact Later.refl _ | refine Later.setCell ?_ (by simp; omega) _ | refine Later.setCell ?_ (by simp) _ | refine Later.alloc ?_ _ | refine Later.drewN ?_ _ | refine Later.drew ?_ | refine Later.trans ?_ (Hid.out (by assumption))))

      · have d1 : decide (k ≤ 1000000) = false := by simp; omega
        have k1 : -1000000 ≤ k := by omega
        go_enter Try.func26, Try.ntmps26
        go_wp2_with (first | (go_at_call 35; refine (s_IsInterval _ _ _).mono ?_; rintro e w1 ⟨rfl, hb⟩; obtain ⟨H, hcc, hff, hzz⟩ := later_facts hb; clear hb; (try simp at hzz); (try simp only [World.heap_drewN, World.cell?_drewN, World.frozen?_drewN] at hcc hff); have hz0 : w.heap.size < w1.heap.size := (by omega); (try (have hz1 : w.heap.size + 1 < w1.heap.size := (by omega))); (try (have hz2 : w.heap.size + 1 + 1 < w1.heap.size := (by omega)))) | (go_at_call 50; refine (s_In _ _ _ _).mono ?_; rintro e w' ⟨rfl, rfl⟩) | (go_at_call 42; refine (s_Result _ _ _).mono ?_; rintro e w1 ⟨rfl, hb⟩; obtain ⟨H, hcc, hff, hzz⟩ := later_facts hb; clear hb; (try simp at hzz); (try simp only [World.heap_drewN, World.cell?_drewN, World.frozen?_drewN] at hcc hff); have hz0 : w.heap.size < w1.heap.size := (by omega); (try (have hz1 : w.heap.size + 1 < w1.heap.size := (by omega))); (try (have hz2 : w.heap.size + 1 + 1 < w1.heap.size := (by omega)))))
        refine bodyPost_ret (v := .tuple #[.agg #[.int .i64 (scL (ivB a b) a b k), .int .i64 (scH (ivB a b) a b k)], .int .i64 (scE (ivB a b) a b k)]) (by simp [results, Try.results26, go_sem, scE, scL, scH, *] <;> omega) rfl ⟨(by first | rfl | simp only [h1]), ?_⟩
        exact (by repeat (first | exact Later.refl _ | refine Later.setCell ?_ (by simp; omega) _ | refine Later.setCell ?_ (by simp) _ | refine Later.alloc ?_ _ | refine Later.drewN ?_ _ | refine Later.drew ?_ | refine Later.trans ?_ (Hid.out (by assumption))))

  · have h1 : ivB a b = false := by simpa using h1
    go_enter Try.func26, Try.ntmps26
    go_wp2_with (first | (go_at_call 35; refine (s_IsInterval _ _ _).mono ?_; rintro e w1 ⟨rfl, hb⟩; obtain ⟨H, hcc, hff, hzz⟩ := later_facts hb; clear hb; (try simp at hzz); (try simp only [World.heap_drewN, World.cell?_drewN, World.frozen?_drewN] at hcc hff); have hz0 : w.heap.size < w1.heap.size := (by omega); (try (have hz1 : w.heap.size + 1 < w1.heap.size := (by omega))); (try (have hz2 : w.heap.size + 1 + 1 < w1.heap.size := (by omega)))) | (go_at_call 50; refine (s_In _ _ _ _).mono ?_; rintro e w' ⟨rfl, rfl⟩) | (go_at_call 42; refine (s_Result _ _ _).mono ?_; rintro e w1 ⟨rfl, hb⟩; obtain ⟨H, hcc, hff, hzz⟩ := later_facts hb; clear hb; (try simp at hzz); (try simp only [World.heap_drewN, World.cell?_drewN, World.frozen?_drewN] at hcc hff); have hz0 : w.heap.size < w1.heap.size := (by omega); (try (have hz1 : w.heap.size + 1 < w1.heap.size := (by omega))); (try (have hz2 : w.heap.size + 1 + 1 < w1.heap.size := (by omega)))))
    refine bodyPost_ret (v := .tuple #[.agg #[.int .i64 (scL (ivB a b) a b k), .int .i64 (scH (ivB a b) a b k)], .int .i64 (scE (ivB a b) a b k)]) (by simp [results, Try.results26, go_sem, scE, scL, scH, *] <;> omega) rfl ⟨(by first | rfl | simp only [h1]), ?_⟩
    exact (by repeat (first | exact Later.refl _ | refine Later.setCell ?_ (by simp; omega) _ | refine Later.setCell ?_ (by simp) _ | refine Later.alloc ?_ _ | refine Later.drewN ?_ _ | refine Later.drew ?_ | refine Later.trans ?_ (Hid.out (by assumption))))

end Go.Proofs.Ytpadigebbgcopaa
