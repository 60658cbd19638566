/- Contracts of chapter 3: segments that are valid, segments that hold: the model's functions. -/
import Derived.Test.YtnmlkigpiaekjaaIvN
import Derived.Test.YtnmlkigpiaekjaaSgM
import Derived.RegionTactic
import Derived.ChangeAlike
import Derived.BigQuiet
import Derived.Deep.QuietTactic
namespace Go.Proofs.Ytnmlkigpiaekjaa
open Go.RowKit
set_option maxHeartbeats 2000000
set_option linter.unusedVariables false
set_option linter.unusedSimpArgs false
theorem s_In' (n a b : Int) (w : World) : Calls Try.prog 73 #[.int .i64 n, .int .i64 a, .int .i64 b] w fun e w' => e = .returned (.bool (decide (a ≤ n) && decide (n ≤ b))) ∧ w' = w := (s_In n a b w).mono fun _ _ ⟨h, k⟩ => ⟨h, k.symm⟩
def absI (n : Int) : Int := if n < 0 then -n else n
theorem s_Abs' (n : Int) (w : World) (h0 : -1000000000000 ≤ n) (h1 : n ≤ 1000000000000) : Calls Try.prog 94 #[.int .i64 n] w fun e w' => e = .returned (.int .i64 (absI n)) ∧ w' = w := by
  go_enter Try.func94, Try.ntmps94
  go_wp2
  all_goals
    go_ret
    exact ⟨ret_i64 (by unfold absI; omega), rfl⟩
theorem win_eq (n a b : Int) (h0 : 0 ≤ n) (h1 : n ≤ 20000) : (ivB a b && decide (n ≤ a) && decide (b ≤ 20000)) = rngB n a b := by
  rw [Bool.eq_iff_iff]
  unfold rngB
  simp [ivB_iff]
  omega
theorem s_Within (n a b : Int) (h0 : 0 ≤ n) (h1 : n ≤ 20000) (w : World) :
    Calls Try.prog 79 #[.agg #[.int .i64 a, .int .i64 b], .int .i64 n, .int .i64 20000] w fun e w' => e = .returned (.bool (rngB n a b)) ∧ Later w w' := by
  have E := Lib.hid (win_eq n a b h0 h1)
  clear h0 h1
  cases h : ivB a b
  all_goals
    go_enter Try.func79, Try.ntmps79
    go_wp2_with (go_at_call 100; refine (s_IsInterval _ _ _).mono ?_; rintro e w1 ⟨rfl, hb⟩; obtain ⟨H, hcc, hff, hzz⟩ := later_facts hb; clear hb; (try simp at hzz); (try simp only [World.heap_drewN, World.cell?_drewN, World.frozen?_drewN] at hcc hff); have hz0 : w.heap.size < w1.heap.size := (by omega))
    all_goals
      go_ret
      exact ⟨ret_b (by rw [← E.out, h]; first | (simp_all; done) | (simp_all; omega)), (by repeat (first | exact Later.refl _ | refine Later.alloc ?_ _ | refine Later.drewN ?_ _ | refine Later.drew ?_ | refine Later.trans ?_ (Hid.out (by assumption))))⟩
theorem s_IsSegment (x : Sg) (w : World) : Calls Try.prog 72 #[.agg #[.int .i64 x.k, .int .i64 x.l, .int .i64 x.r, .int .i64 x.a, .int .i64 x.b, .int .i64 x.c, .int .i64 x.d]] w fun e w' => e = .returned (.bool (sgB x)) ∧ Later w w' := by
  by_cases hk : 0 ≤ x.k ∧ x.k ≤ 4
  · by_cases hl : 1 ≤ x.l ∧ x.l ≤ 200000
    · by_cases hr : -100000 ≤ x.r ∧ x.r ≤ 100000
      · by_cases ha : absI x.r ≤ x.l
        · have ha0 : ¬ (absI x.r > x.l) := by omega
          have S0 : Hid (sgB x = (rngB 0 x.a x.b && frcB x.k x.c x.d)) := Lib.hid (by
            have q1 : kndB x.k = true := by unfold kndB; simp [hk]
            have q2 : lenB x.l = true := by unfold lenB; simp [hl]
            have q3 : slpB x.r x.l = true := by unfold absI at ha; unfold slpB; simp [hr]; split at ha <;> omega
            unfold sgB; rw [q1, q2, q3]; simp)
          obtain ⟨k1, k2⟩ := hk; obtain ⟨l1, l2⟩ := hl; obtain ⟨r1, r2⟩ := hr
          by_cases h0 : x.k = 0
          · have F : Hid (frcB x.k x.c x.d = (decide (x.c = 0) && decide (x.d = 0))) := Lib.hid (by unfold frcB; rw [if_pos h0])
            have e0 : (x.k == 0) = true := by simp [h0]
            cases h1 : rngB 0 x.a x.b
            all_goals
              go_enter Try.func72, Try.ntmps72
              go_wp2_with fail
              go_quiet ((first
      | (go_at_call 73; exact Calls.quiet_of_same (s_In' _ _ _ _))
      | (go_at_call 94; exact Calls.quiet_of_same (s_Abs' _ _ (by omega) (by omega)))))
              go_wp2_with (go_at_call 79; refine (s_Within _ _ _ (by omega) (by omega) _).mono ?_; rintro e w1 ⟨rfl, hb⟩; obtain ⟨H, hcc, hff, hzz⟩ := later_facts hb; clear hb; (try simp at hzz); (try simp only [World.heap_drewN, World.cell?_drewN, World.frozen?_drewN] at hcc hff); have hz0 : w.heap.size < w1.heap.size := (by omega))
              all_goals
                go_ret
                exact ⟨ret_b (by rw [S0.out, F.out, h1]; first | (simp_all; done) | (simp_all; omega)), (by repeat (first | exact Later.refl _ | refine Later.alloc ?_ _ | refine Later.drewN ?_ _ | refine Later.drew ?_ | refine Later.trans ?_ (Hid.out (by assumption))))⟩

          · have F : Hid (frcB x.k x.c x.d = rngB 1 x.c x.d) := Lib.hid (by unfold frcB; rw [if_neg h0])
            have e0 : (x.k == 0) = false := by simp [h0]
            cases h1 : rngB 0 x.a x.b
            all_goals
              go_enter Try.func72, Try.ntmps72
              go_wp2_with fail
              go_quiet ((first
      | (go_at_call 73; exact Calls.quiet_of_same (s_In' _ _ _ _))
      | (go_at_call 94; exact Calls.quiet_of_same (s_Abs' _ _ (by omega) (by omega)))))
              go_wp2_with (go_at_call 79; refine (s_Within _ _ _ (by omega) (by omega) _).mono ?_; rintro e w1 ⟨rfl, hb⟩; obtain ⟨H, hcc, hff, hzz⟩ := later_facts hb; clear hb; (try simp at hzz); (try simp only [World.heap_drewN, World.cell?_drewN, World.frozen?_drewN] at hcc hff); have hz0 : w.heap.size < w1.heap.size := (by omega))
              all_goals
                go_ret
                exact ⟨ret_b (by rw [S0.out, F.out, h1]; simp), (by repeat (first | exact Later.refl _ | refine Later.alloc ?_ _ | refine Later.drewN ?_ _ | refine Later.drew ?_ | refine Later.trans ?_ (Hid.out (by assumption))))⟩

        · have S0 : Hid (sgB x = false) := Lib.hid (by
            have q3 : slpB x.r x.l = false := by unfold absI at ha; unfold slpB; simp [hr]; intros; split at ha <;> omega
            unfold sgB; rw [q3]; simp)
          have ha0 : absI x.r > x.l := by omega
          obtain ⟨k1, k2⟩ := hk; obtain ⟨l1, l2⟩ := hl; obtain ⟨r1, r2⟩ := hr
          go_enter Try.func72, Try.ntmps72
          go_wp2_with fail
          go_quiet ((first
      | (go_at_call 73; exact Calls.quiet_of_same (s_In' _ _ _ _))
      | (go_at_call 94; exact Calls.quiet_of_same (s_Abs' _ _ (by omega) (by omega)))))
          go_wp2_with (go_at_call 79; refine (s_Within _ _ _ (by omega) (by omega) _).mono ?_; rintro e w1 ⟨rfl, hb⟩; obtain ⟨H, hcc, hff, hzz⟩ := later_facts hb; clear hb; (try simp at hzz); (try simp only [World.heap_drewN, World.cell?_drewN, World.frozen?_drewN] at hcc hff); have hz0 : w.heap.size < w1.heap.size := (by omega))
          all_goals
            go_ret
            exact ⟨ret_b (by rw [S0.out]), (by repeat (first | exact Later.refl _ | refine Later.alloc ?_ _ | refine Later.drewN ?_ _ | refine Later.drew ?_ | refine Later.trans ?_ (Hid.out (by assumption))))⟩

      · have S0 : Hid (sgB x = false) := Lib.hid (by rw [sgB_no]; omega)
        have c3 : (decide (-100000 ≤ x.r) && decide (x.r ≤ 100000)) = false := by simpa using hr
        obtain ⟨k1, k2⟩ := hk; obtain ⟨l1, l2⟩ := hl
        go_enter Try.func72, Try.ntmps72
        go_wp2_with fail
        go_quiet ((first
      | (go_at_call 73; exact Calls.quiet_of_same (s_In' _ _ _ _))
      | (go_at_call 94; exact Calls.quiet_of_same (s_Abs' _ _ (by omega) (by omega)))))
        go_wp2_with (go_at_call 79; refine (s_Within _ _ _ (by omega) (by omega) _).mono ?_; rintro e w1 ⟨rfl, hb⟩; obtain ⟨H, hcc, hff, hzz⟩ := later_facts hb; clear hb; (try simp at hzz); (try simp only [World.heap_drewN, World.cell?_drewN, World.frozen?_drewN] at hcc hff); have hz0 : w.heap.size < w1.heap.size := (by omega))
        all_goals
          go_ret
          exact ⟨ret_b (by rw [S0.out]), (by repeat (first | exact Later.refl _ | refine Later.alloc ?_ _ | refine Later.drewN ?_ _ | refine Later.drew ?_ | refine Later.trans ?_ (Hid.out (by assumption))))⟩

    · have S0 : Hid (sgB x = false) := Lib.hid (by rw [sgB_no]; omega)
      have c2 : (decide (1 ≤ x.l) && decide (x.l ≤ 200000)) = false := by simpa using hl
      obtain ⟨k1, k2⟩ := hk
      go_enter Try.func72, Try.ntmps72
      go_wp2_with fail
      go_quiet ((first
      | (go_at_call 73; exact Calls.quiet_of_same (s_In' _ _ _ _))
      | (go_at_call 94; exact Calls.quiet_of_same (s_Abs' _ _ (by omega) (by omega)))))
      go_wp2_with (go_at_call 79; refine (s_Within _ _ _ (by omega) (by omega) _).mono ?_; rintro e w1 ⟨rfl, hb⟩; obtain ⟨H, hcc, hff, hzz⟩ := later_facts hb; clear hb; (try simp at hzz); (try simp only [World.heap_drewN, World.cell?_drewN, World.frozen?_drewN] at hcc hff); have hz0 : w.heap.size < w1.heap.size := (by omega))
      all_goals
        go_ret
        exact ⟨ret_b (by rw [S0.out]), (by repeat (first | exact Later.refl _ | refine Later.alloc ?_ _ | refine Later.drewN ?_ _ | refine Later.drew ?_ | refine Later.trans ?_ (Hid.out (by assumption))))⟩

  · have S0 : Hid (sgB x = false) := Lib.hid (by rw [sgB_no]; omega)
    have c1 : (decide (0 ≤ x.k) && decide (x.k ≤ 4)) = false := by simpa using hk
    go_enter Try.func72, Try.ntmps72
    go_wp2_with fail
    go_quiet ((first
      | (go_at_call 73; exact Calls.quiet_of_same (s_In' _ _ _ _))
      | (go_at_call 94; exact Calls.quiet_of_same (s_Abs' _ _ (by omega) (by omega)))))
    go_wp2_with (go_at_call 79; refine (s_Within _ _ _ (by omega) (by omega) _).mono ?_; rintro e w1 ⟨rfl, hb⟩; obtain ⟨H, hcc, hff, hzz⟩ := later_facts hb; clear hb; (try simp at hzz); (try simp only [World.heap_drewN, World.cell?_drewN, World.frozen?_drewN] at hcc hff); have hz0 : w.heap.size < w1.heap.size := (by omega))
    all_goals
      go_ret
      exact ⟨ret_b (by rw [S0.out]), (by repeat (first | exact Later.refl _ | refine Later.alloc ?_ _ | refine Later.drewN ?_ _ | refine Later.drew ?_ | refine Later.trans ?_ (Hid.out (by assumption))))⟩

end Go.Proofs.Ytnmlkigpiaekjaa
