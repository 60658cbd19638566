/- Contracts of chapter 8: launches, lifts, trains that turn back: the model's functions. -/
import Derived.Test.YtdhoiiejcmnmbaaLnM
import Derived.Test.YtdhoiiejcmnmbaaLnJ
import Derived.Test.YtdhoiiejcmnmbaaBrS
namespace Go.Proofs.Ytdhoiiejcmnmbaa
open Go.RowKit
set_option maxHeartbeats 4000000
set_option linter.unusedVariables false
set_option linter.unusedSimpArgs false
set_option maxRecDepth 100000 in
theorem s_LaunchForce (x : Sg) (a b t : Int) (w : World) :
    Calls Try.prog 21 #[.agg #[.int .i64 x.k, .int .i64 x.l, .int .i64 x.r, .int .i64 x.a, .int .i64 x.b, .int .i64 x.c, .int .i64 x.d], .agg #[.int .i64 a, .int .i64 b], .int .i64 t] w fun e w' => e = .returned (.tuple #[.int .i64 (lfV x a b t), .int .i64 (lfE x a b t)]) ∧ Later w w' := by
  cases h : sgB x
  · have e1 : lfE x a b t = 1 := by unfold lfE; rw [h]; rfl
    have e2 : lfV x a b t = 0 := by unfold lfV; rw [e1]; rfl
    rw [e1, e2]
    clear e1 e2
    go_enter Try.func21, Try.ntmps21
    go_wp2_with (go_at_call 67; refine (s_IsSegment x _).mono ?_; rintro e w1 ⟨rfl, hb⟩; obtain ⟨H, hcc, hff, hzz⟩ := later_facts hb; clear hb; (try simp at hzz); have hz0 : w.heap.size < w1.heap.size := (by omega); (try (have hz1 : w.heap.size + 1 < w1.heap.size := (by omega))); (try (have hz2 : w.heap.size + 1 + 1 < w1.heap.size := (by omega))))
    go_ret2
    exact ⟨rfl, (by repeat (first | (with_reducible exact Later.refl _) | (with_reducible exact Hid.out (by assumption)) | (with_reducible refine Later.alloc ?_ _) | (with_reducible refine Later.setCell ?_ (by simp; omega) _) | (with_reducible refine Later.setCell ?_ (by simp) _) | (with_reducible refine Later.drewN ?_ _) | (with_reducible refine Later.drew ?_) | (with_reducible refine Later.trans ?_ (Hid.out (by assumption)))))⟩
  cases h2 : enB a b
  · have e1 : lfE x a b t = 1 := by unfold lfE; rw [h, h2]; rfl
    have e2 : lfV x a b t = 0 := by unfold lfV; rw [e1]; rfl
    rw [e1, e2]
    clear e1 e2
    go_enter Try.func21, Try.ntmps21
    go_wp2_with (first | (go_at_call 67; refine (s_IsSegment x _).mono ?_; rintro e w1 ⟨rfl, hb⟩; obtain ⟨H, hcc, hff, hzz⟩ := later_facts hb; clear hb; (try simp at hzz); have hz0 : w.heap.size < w1.heap.size := (by omega); (try (have hz1 : w.heap.size + 1 < w1.heap.size := (by omega))); (try (have hz2 : w.heap.size + 1 + 1 < w1.heap.size := (by omega)))) | (go_at_call 68; refine (s_IsEnergy _ _ _).mono ?_; rintro e w1 ⟨rfl, hb⟩; obtain ⟨H, hcc, hff, hzz⟩ := later_facts hb; clear hb; (try simp at hzz); have hz0 : w.heap.size < w1.heap.size := (by omega); (try (have hz1 : w.heap.size + 1 < w1.heap.size := (by omega))); (try (have hz2 : w.heap.size + 1 + 1 < w1.heap.size := (by omega)))))
    go_ret2
    exact ⟨rfl, (by repeat (first | (with_reducible exact Later.refl _) | (with_reducible exact Hid.out (by assumption)) | (with_reducible refine Later.alloc ?_ _) | (with_reducible refine Later.setCell ?_ (by simp; omega) _) | (with_reducible refine Later.setCell ?_ (by simp) _) | (with_reducible refine Later.drewN ?_ _) | (with_reducible refine Later.drew ?_) | (with_reducible refine Later.trans ?_ (Hid.out (by assumption)))))⟩
  have hb : (sgB x && enB a b) = true := by rw [h, h2]; rfl
  by_cases ht : 0 ≤ t ∧ t ≤ 10000000000
  · obtain ⟨t1, t2⟩ := ht
    have t3 : (decide (0 ≤ t) && decide (t ≤ 10000000000)) = true := by simp; exact ⟨t1, t2⟩
    by_cases hk : x.k = 2
    · have hkb : (x.k != 2) = false := by simpa using hk
      have HQ := lf_cases x a b t h h2 ⟨t1, t2⟩ hk
      have HC := fun w => s_Change x w h
      have hcd := ch_bd x h
      obtain ⟨c4, c5, c6⟩ := (enB_iff a b).1 h2
      obtain ⟨l1, l2⟩ := ((sgB_iff x).1 h).2.1
      have hwl : IntKind.i64.wrap (2 * x.l) = 2 * x.l := IntWalk.i64_in _ ⟨by omega, by omega⟩
      have hw1 : IntKind.i64.wrap (t - a) = t - a := IntWalk.i64_in _ ⟨by omega, by omega⟩
      have hw2 : IntKind.i64.wrap (t - a - chL x) = t - a - chL x := IntWalk.i64_in _ ⟨by omega, by omega⟩
      have HD := fun w => s_CeilB (t - a - chL x) (2 * x.l) w (by omega) (by omega) (by omega) (by omega) (by omega)
      have hq0 : cei (t - (a + chL x)) (2 * x.l) = cei (t - a - chL x) (2 * x.l) := by rw [show t - (a + chL x) = t - a - chL x by omega]
      have HQ := HQ _ rfl
      rw [hq0] at HQ
      have HFL : ∀ W : World, (Instr.field 25 (.agg #[.int .i64 (chL x), .int .i64 (chH x)]) 0).run Try.prog W = .ok (.int .i64 (chL x)) W := fun W => by kernel_rfl
      generalize chL x = y at *
      generalize chH x = z at *
      have hqb : -4000000000000000001 ≤ cei (t - a - y) (2 * x.l) ∧ cei (t - a - y) (2 * x.l) ≤ 4000000000000000001 := by
        have := flo_bd (-(t - a - y)) (2 * x.l) 4000000000000000000 (by omega) (by omega)
        rw [cei_eq _ _ (by omega)]; omega
      generalize cei (t - a - y) (2 * x.l) = q at *
      clear hcd c4 c5 c6 hb hq0 hk
      obtain ⟨mq, hmq⟩ : ∃ mq, mq = max 0 q := ⟨_, rfl⟩
      go_enter Try.func21, Try.ntmps21
      go_upto_region 1 with (fail)
      refine into (Held [(w.heap.size + 1, 0, .int .i64 a), (w.heap.size + 1, 1, .int .i64 b), (w.heap.size, 0, .int .i64 x.k), (w.heap.size, 1, .int .i64 x.l), (w.heap.size, 2, .int .i64 x.r), (w.heap.size, 3, .int .i64 x.a), (w.heap.size, 4, .int .i64 x.b), (w.heap.size, 5, .int .i64 x.c), (w.heap.size, 6, .int .i64 x.d)] w) (by first | exact (held_box (held_box (held_start w) (w.heap.size) [.int .i64 x.k, .int .i64 x.l, .int .i64 x.r, .int .i64 x.a, .int .i64 x.b, .int .i64 x.c, .int .i64 x.d] _ (by first | rfl | simp)) (w.heap.size + 1) [.int .i64 a, .int .i64 b] _ (by first | rfl | simp)) | simpa using (held_box (held_box (held_start w) (w.heap.size) [.int .i64 x.k, .int .i64 x.l, .int .i64 x.r, .int .i64 x.a, .int .i64 x.b, .int .i64 x.c, .int .i64 x.d] _ (by first | rfl | simp)) (w.heap.size + 1) [.int .i64 a, .int .i64 b] _ (by first | rfl | simp))) ?_
      intro W hW
      obtain ⟨p0, p1, p2, p3, p4, p5, p6, p7, p8, _⟩ := Held.s9 hW
      have z0 := Held.lt hW (w.heap.size) 0 (.int .i64 x.k) (by simp)
      have z1 := Held.lt hW (w.heap.size + 1) 0 (.int .i64 a) (by simp)
      have HW := Lib.hid (Held.is hW)
      go_upto_region 7 with (first | (go_at_call 67; refine (s_IsSegment x _).mono ?_; rintro e w1 ⟨rfl, hb⟩; obtain ⟨H, hcc, hff, hzz⟩ := later_facts hb; clear hb; (try simp at hzz); have hz0 : w.heap.size < w1.heap.size := (by omega); (try (have hz1 : w.heap.size + 1 < w1.heap.size := (by omega))); (try (have hz2 : w.heap.size + 1 + 1 < w1.heap.size := (by omega)))) | (go_at_call 68; refine (s_IsEnergy _ _ _).mono ?_; rintro e w1 ⟨rfl, hb⟩; obtain ⟨H, hcc, hff, hzz⟩ := later_facts hb; clear hb; (try simp at hzz); have hz0 : w.heap.size < w1.heap.size := (by omega); (try (have hz1 : w.heap.size + 1 < w1.heap.size := (by omega))); (try (have hz2 : w.heap.size + 1 + 1 < w1.heap.size := (by omega)))) | (go_at_call 69; refine (s_In _ _ _ _).mono ?_; rintro e w' ⟨rfl, rfl⟩))
      refine into (Held [(w.heap.size + 1, 0, .int .i64 a), (w.heap.size + 1, 1, .int .i64 b), (w.heap.size, 0, .int .i64 x.k), (w.heap.size, 1, .int .i64 x.l), (w.heap.size, 2, .int .i64 x.r), (w.heap.size, 3, .int .i64 x.a), (w.heap.size, 4, .int .i64 x.b), (w.heap.size, 5, .int .i64 x.c), (w.heap.size, 6, .int .i64 x.d)] w) (Held.later hW (by repeat (first | (with_reducible exact Later.refl _) | (with_reducible exact Hid.out (by assumption)) | (with_reducible refine Later.alloc ?_ _) | (with_reducible refine Later.setCell ?_ (by simp; omega) _) | (with_reducible refine Later.setCell ?_ (by simp) _) | (with_reducible refine Later.drewN ?_ _) | (with_reducible refine Later.drew ?_) | (with_reducible refine Later.trans ?_ (Hid.out (by assumption)))))) ?_
      clear p0 p1 p2 p3 p4 p5 p6 p7 p8
      clear z0 z1
      intro W hW
      go_cut [8] (fun s W => s = .int .i64 mq ∧ Held [(w.heap.size + 1, 0, .int .i64 a), (w.heap.size + 1, 1, .int .i64 b), (w.heap.size, 0, .int .i64 x.k), (w.heap.size, 1, .int .i64 x.l), (w.heap.size, 2, .int .i64 x.r), (w.heap.size, 3, .int .i64 x.a), (w.heap.size, 4, .int .i64 x.b), (w.heap.size, 5, .int .i64 x.c), (w.heap.size, 6, .int .i64 x.d)] w W)
      case first =>
        by_cases hqn : q < 0
        · have hmm : max 0 q = 0 := by omega
          have hm0 : mq = 0 := by omega
          have hq1 : ¬ 0 < q := by omega
          have hq2 : ¬ 0 ≤ q := by omega
          subst hm0
          clear hmq HQ
          go_region_held3 (fun w' => w'.cell? ⟨w.heap.size + 1, 0, none⟩ = some (.int .i64 a) ∧ w'.cell? ⟨w.heap.size + 1, 1, none⟩ = some (.int .i64 b) ∧ w'.cell? ⟨w.heap.size, 0, none⟩ = some (.int .i64 x.k) ∧ w'.cell? ⟨w.heap.size, 1, none⟩ = some (.int .i64 x.l) ∧ w'.cell? ⟨w.heap.size, 2, none⟩ = some (.int .i64 x.r) ∧ w'.cell? ⟨w.heap.size, 3, none⟩ = some (.int .i64 x.a) ∧ w'.cell? ⟨w.heap.size, 4, none⟩ = some (.int .i64 x.b) ∧ w'.cell? ⟨w.heap.size, 5, none⟩ = some (.int .i64 x.c) ∧ w'.cell? ⟨w.heap.size, 6, none⟩ = some (.int .i64 x.d) ∧ Held [(w.heap.size + 1, 0, .int .i64 a), (w.heap.size + 1, 1, .int .i64 b), (w.heap.size, 0, .int .i64 x.k), (w.heap.size, 1, .int .i64 x.l), (w.heap.size, 2, .int .i64 x.r), (w.heap.size, 3, .int .i64 x.a), (w.heap.size, 4, .int .i64 x.b), (w.heap.size, 5, .int .i64 x.c), (w.heap.size, 6, .int .i64 x.d)] w w') (exact Held.s9 (Held.later hW (by repeat (first | exact Later.refl _ | refine Later.drew ?_ | refine Later.drewN ?_ _ | refine Later.alloc ?_ _ | refine Later.trans ?_ (Hid.out (by assumption))))))
            (first | (go_at_call 62; refine (HC _).mono ?_; rintro e w1 ⟨rfl, hb⟩; have H := Lib.hid hb; clear hb) | (go_at_call 70; refine (HD _).mono ?_; rintro e w1 ⟨rfl, rfl⟩))
          all_goals
            go_wp2_with fail
            all_goals
              go_meet
              exact ⟨by first | rfl | exact congrArg (Value.int .i64) (by omega), Held.later hW (by repeat (first | exact Later.refl _ | refine Later.drew ?_ | refine Later.drewN ?_ _ | refine Later.alloc ?_ _ | refine Later.trans ?_ (Hid.out (by assumption))))⟩
        · have hmm : max 0 q = q := by omega
          have hm0 : q = mq := by omega
          have hq2 : 0 ≤ q := by omega
          subst hm0
          clear hmq HQ
          go_region_held3 (fun w' => w'.cell? ⟨w.heap.size + 1, 0, none⟩ = some (.int .i64 a) ∧ w'.cell? ⟨w.heap.size + 1, 1, none⟩ = some (.int .i64 b) ∧ w'.cell? ⟨w.heap.size, 0, none⟩ = some (.int .i64 x.k) ∧ w'.cell? ⟨w.heap.size, 1, none⟩ = some (.int .i64 x.l) ∧ w'.cell? ⟨w.heap.size, 2, none⟩ = some (.int .i64 x.r) ∧ w'.cell? ⟨w.heap.size, 3, none⟩ = some (.int .i64 x.a) ∧ w'.cell? ⟨w.heap.size, 4, none⟩ = some (.int .i64 x.b) ∧ w'.cell? ⟨w.heap.size, 5, none⟩ = some (.int .i64 x.c) ∧ w'.cell? ⟨w.heap.size, 6, none⟩ = some (.int .i64 x.d) ∧ Held [(w.heap.size + 1, 0, .int .i64 a), (w.heap.size + 1, 1, .int .i64 b), (w.heap.size, 0, .int .i64 x.k), (w.heap.size, 1, .int .i64 x.l), (w.heap.size, 2, .int .i64 x.r), (w.heap.size, 3, .int .i64 x.a), (w.heap.size, 4, .int .i64 x.b), (w.heap.size, 5, .int .i64 x.c), (w.heap.size, 6, .int .i64 x.d)] w w') (exact Held.s9 (Held.later hW (by repeat (first | exact Later.refl _ | refine Later.drew ?_ | refine Later.drewN ?_ _ | refine Later.alloc ?_ _ | refine Later.trans ?_ (Hid.out (by assumption))))))
            (first | (go_at_call 62; refine (HC _).mono ?_; rintro e w1 ⟨rfl, hb⟩; have H := Lib.hid hb; clear hb) | (go_at_call 70; refine (HD _).mono ?_; rintro e w1 ⟨rfl, rfl⟩))
          all_goals
            go_wp2_with fail
            all_goals
              go_meet
              exact ⟨by first | rfl | exact congrArg (Value.int .i64) (by omega), Held.later hW (by repeat (first | exact Later.refl _ | refine Later.drew ?_ | refine Later.drewN ?_ _ | refine Later.alloc ?_ _ | refine Later.trans ?_ (Hid.out (by assumption))))⟩
      case rest =>
        obtain ⟨rfl, hW⟩ := hcut
        have HW2 := Lib.hid (Held.is hW)
        obtain ⟨p0, p1, p2, p3, p4, p5, p6, p7, p8, _⟩ := Held.s9 hW
        have z0 := Held.lt hW (w.heap.size) 0 (.int .i64 x.k) (by simp)
        have z1 := Held.lt hW (w.heap.size + 1) 0 (.int .i64 a) (by simp)
        rcases HQ with ⟨k1, k2, k3, k4⟩ | ⟨k1, k2, k3, k4⟩ | ⟨k1, k2, k3, k4⟩
        · have K := Lib.hid (And.intro k3 k4)
          clear k3 k4
          obtain rfl : mq = q := by omega
          have n1 : ¬ x.c < mq := by omega
          clear hmq
          go_wp2_with fail
          all_goals
            go_ret2
            exact ⟨by rw [K.out.1, K.out.2]; first | rfl | simp [*], HW2.out⟩
        · have K := Lib.hid (And.intro k3 k4)
          clear k3 k4
          have n1 : x.c < mq := by omega
          clear hmq
          go_wp2_with fail
          all_goals
            go_ret2
            exact ⟨by rw [K.out.1, K.out.2]; first | rfl | simp [*], HW2.out⟩
        · have K := Lib.hid (And.intro k3 k4)
          clear k3 k4
          obtain rfl : mq = 0 := by omega
          have n1 : ¬ x.c < 0 := by omega
          clear hmq
          go_wp2_with fail
          all_goals
            go_ret2
            exact ⟨by rw [K.out.1, K.out.2]; first | rfl | simp [*], HW2.out⟩
    · have hkb : (x.k != 2) = true := by simpa using hk
      have e1 : lfE x a b t = 5 := by unfold lfE; rw [if_pos hb, if_pos ⟨t1, t2⟩, if_neg hk]
      have e2 : lfV x a b t = 0 := by unfold lfV; rw [e1]; rfl
      rw [e1, e2]
      clear e1 e2 hb hk
      go_enter Try.func21, Try.ntmps21
      go_upto_region 1 with (fail)
      refine into (Held [(w.heap.size + 1, 0, .int .i64 a), (w.heap.size + 1, 1, .int .i64 b), (w.heap.size, 0, .int .i64 x.k), (w.heap.size, 1, .int .i64 x.l), (w.heap.size, 2, .int .i64 x.r), (w.heap.size, 3, .int .i64 x.a), (w.heap.size, 4, .int .i64 x.b), (w.heap.size, 5, .int .i64 x.c), (w.heap.size, 6, .int .i64 x.d)] w) (by first | exact (held_box (held_box (held_start w) (w.heap.size) [.int .i64 x.k, .int .i64 x.l, .int .i64 x.r, .int .i64 x.a, .int .i64 x.b, .int .i64 x.c, .int .i64 x.d] _ (by first | rfl | simp)) (w.heap.size + 1) [.int .i64 a, .int .i64 b] _ (by first | rfl | simp)) | simpa using (held_box (held_box (held_start w) (w.heap.size) [.int .i64 x.k, .int .i64 x.l, .int .i64 x.r, .int .i64 x.a, .int .i64 x.b, .int .i64 x.c, .int .i64 x.d] _ (by first | rfl | simp)) (w.heap.size + 1) [.int .i64 a, .int .i64 b] _ (by first | rfl | simp))) ?_
      intro W hW
      obtain ⟨p0, p1, p2, p3, p4, p5, p6, p7, p8, _⟩ := Held.s9 hW
      have z0 := Held.lt hW (w.heap.size) 0 (.int .i64 x.k) (by simp)
      have z1 := Held.lt hW (w.heap.size + 1) 0 (.int .i64 a) (by simp)
      have HW := Lib.hid (Held.is hW)
      go_wp2_with (first | (go_at_call 67; refine (s_IsSegment x _).mono ?_; rintro e w1 ⟨rfl, hb⟩; obtain ⟨H, hcc, hff, hzz⟩ := later_facts hb; clear hb; (try simp at hzz); have hz0 : w.heap.size < w1.heap.size := (by omega); (try (have hz1 : w.heap.size + 1 < w1.heap.size := (by omega))); (try (have hz2 : w.heap.size + 1 + 1 < w1.heap.size := (by omega)))) | (go_at_call 68; refine (s_IsEnergy _ _ _).mono ?_; rintro e w1 ⟨rfl, hb⟩; obtain ⟨H, hcc, hff, hzz⟩ := later_facts hb; clear hb; (try simp at hzz); have hz0 : w.heap.size < w1.heap.size := (by omega); (try (have hz1 : w.heap.size + 1 < w1.heap.size := (by omega))); (try (have hz2 : w.heap.size + 1 + 1 < w1.heap.size := (by omega)))) | (go_at_call 69; refine (s_In _ _ _ _).mono ?_; rintro e w' ⟨rfl, rfl⟩))
      go_ret2
      exact ⟨rfl, (by repeat (first | (with_reducible exact Later.refl _) | (with_reducible exact Hid.out (by assumption)) | (with_reducible refine Later.alloc ?_ _) | (with_reducible refine Later.setCell ?_ (by simp; omega) _) | (with_reducible refine Later.setCell ?_ (by simp) _) | (with_reducible refine Later.drewN ?_ _) | (with_reducible refine Later.drew ?_) | (with_reducible refine Later.trans ?_ (Hid.out (by assumption)))))⟩
  · have e1 : lfE x a b t = 2 := by unfold lfE; rw [if_pos hb, if_neg ht]
    have e2 : lfV x a b t = 0 := by unfold lfV; rw [e1]; rfl
    have t3 : (decide (0 ≤ t) && decide (t ≤ 10000000000)) = false := by
      rw [Bool.eq_false_iff]; simp; omega
    rw [e1, e2]
    clear e1 e2 hb
    go_enter Try.func21, Try.ntmps21
    go_wp2_with (first | (go_at_call 67; refine (s_IsSegment x _).mono ?_; rintro e w1 ⟨rfl, hb⟩; obtain ⟨H, hcc, hff, hzz⟩ := later_facts hb; clear hb; (try simp at hzz); have hz0 : w.heap.size < w1.heap.size := (by omega); (try (have hz1 : w.heap.size + 1 < w1.heap.size := (by omega))); (try (have hz2 : w.heap.size + 1 + 1 < w1.heap.size := (by omega)))) | (go_at_call 68; refine (s_IsEnergy _ _ _).mono ?_; rintro e w1 ⟨rfl, hb⟩; obtain ⟨H, hcc, hff, hzz⟩ := later_facts hb; clear hb; (try simp at hzz); have hz0 : w.heap.size < w1.heap.size := (by omega); (try (have hz1 : w.heap.size + 1 < w1.heap.size := (by omega))); (try (have hz2 : w.heap.size + 1 + 1 < w1.heap.size := (by omega)))) | (go_at_call 69; refine (s_In _ _ _ _).mono ?_; rintro e w' ⟨rfl, rfl⟩))
    go_ret2
    exact ⟨rfl, (by repeat (first | (with_reducible exact Later.refl _) | (with_reducible exact Hid.out (by assumption)) | (with_reducible refine Later.alloc ?_ _) | (with_reducible refine Later.setCell ?_ (by simp; omega) _) | (with_reducible refine Later.setCell ?_ (by simp) _) | (with_reducible refine Later.drewN ?_ _) | (with_reducible refine Later.drew ?_) | (with_reducible refine Later.trans ?_ (Hid.out (by assumption)))))⟩
set_option maxRecDepth 100000 in
theorem s_TurnDistance (x : Sg) (a b : Int) (w : World) :
    Calls Try.prog 25 #[.agg #[.int .i64 x.k, .int .i64 x.l, .int .i64 x.r, .int .i64 x.a, .int .i64 x.b, .int .i64 x.c, .int .i64 x.d], .agg #[.int .i64 a, .int .i64 b]] w fun e w' => e = .returned (.tuple #[.agg #[.int .i64 (tdL x a b), .int .i64 (tdH x a b)], .int .i64 (tdE x a b)]) ∧ Later w w' := by
  cases h : sgB x
  · have e1 : tdE x a b = 1 := by unfold tdE; rw [h]; rfl
    have e2 : tdL x a b = 0 := by unfold tdL; rw [e1]; rfl
    have e3 : tdH x a b = 0 := by unfold tdH; rw [e1]; rfl
    rw [e1, e2, e3]
    clear e1 e2 e3
    go_enter Try.func25, Try.ntmps25
    go_wp2_with (go_at_call 67; refine (s_IsSegment x _).mono ?_; rintro e w1 ⟨rfl, hb⟩; obtain ⟨H, hcc, hff, hzz⟩ := later_facts hb; clear hb; (try simp at hzz); have hz0 : w.heap.size < w1.heap.size := (by omega); (try (have hz1 : w.heap.size + 1 < w1.heap.size := (by omega))); (try (have hz2 : w.heap.size + 1 + 1 < w1.heap.size := (by omega))))
    refine bodyPost_ret (v := .tuple #[.agg #[.int .i64 0, .int .i64 0], .int .i64 1]) (by simp [results, Try.results25, go_sem, *]) rfl ⟨rfl, (by repeat (first | (with_reducible exact Later.refl _) | (with_reducible exact Hid.out (by assumption)) | (with_reducible refine Later.alloc ?_ _) | (with_reducible refine Later.setCell ?_ (by simp; omega) _) | (with_reducible refine Later.setCell ?_ (by simp) _) | (with_reducible refine Later.drewN ?_ _) | (with_reducible refine Later.drew ?_) | (with_reducible refine Later.trans ?_ (Hid.out (by assumption)))))⟩
  cases h2 : enB a b
  · have e1 : tdE x a b = 1 := by unfold tdE; rw [h, h2]; rfl
    have e2 : tdL x a b = 0 := by unfold tdL; rw [e1]; rfl
    have e3 : tdH x a b = 0 := by unfold tdH; rw [e1]; rfl
    rw [e1, e2, e3]
    clear e1 e2 e3
    go_enter Try.func25, Try.ntmps25
    go_wp2_with (first | (go_at_call 67; refine (s_IsSegment x _).mono ?_; rintro e w1 ⟨rfl, hb⟩; obtain ⟨H, hcc, hff, hzz⟩ := later_facts hb; clear hb; (try simp at hzz); have hz0 : w.heap.size < w1.heap.size := (by omega); (try (have hz1 : w.heap.size + 1 < w1.heap.size := (by omega))); (try (have hz2 : w.heap.size + 1 + 1 < w1.heap.size := (by omega)))) | (go_at_call 68; refine (s_IsEnergy _ _ _).mono ?_; rintro e w1 ⟨rfl, hb⟩; obtain ⟨H, hcc, hff, hzz⟩ := later_facts hb; clear hb; (try simp at hzz); have hz0 : w.heap.size < w1.heap.size := (by omega); (try (have hz1 : w.heap.size + 1 < w1.heap.size := (by omega))); (try (have hz2 : w.heap.size + 1 + 1 < w1.heap.size := (by omega)))))
    refine bodyPost_ret (v := .tuple #[.agg #[.int .i64 0, .int .i64 0], .int .i64 1]) (by simp [results, Try.results25, go_sem, *]) rfl ⟨rfl, (by repeat (first | (with_reducible exact Later.refl _) | (with_reducible exact Hid.out (by assumption)) | (with_reducible refine Later.alloc ?_ _) | (with_reducible refine Later.setCell ?_ (by simp; omega) _) | (with_reducible refine Later.setCell ?_ (by simp) _) | (with_reducible refine Later.drewN ?_ _) | (with_reducible refine Later.drew ?_) | (with_reducible refine Later.trans ?_ (Hid.out (by assumption)))))⟩
  have hb : (sgB x && enB a b) = true := by rw [h, h2]; rfl
  have hc := ch_bd x h
  have hev := (ch_even x).2
  have e := (enB_iff a b).1 h2
  have HC := fun w => s_Change x w h
  by_cases hn : b + chH x < 0
  · have e1 : tdE x a b = 0 := by unfold tdE; rw [if_pos hb, if_pos hn]
    have e2 : tdL x a b = flo (a * x.l) (-chL x) := by unfold tdL okV; rw [e1]; rfl
    have e3 : tdH x a b = cei (b * x.l) (-chH x) := by unfold tdH okV; rw [e1]; rfl
    rw [e1, e2, e3]
    obtain ⟨l1, l2⟩ := ((sgB_iff x).1 h).2.1
    have m1 := nn_mul a x.l (by omega) (by omega) l1 l2
    have m2 := nn_mul b x.l (by omega) (by omega) l1 l2
    obtain ⟨A, hA⟩ : ∃ A, A = a * x.l := ⟨_, rfl⟩
    obtain ⟨B, hB⟩ : ∃ B, B = b * x.l := ⟨_, rfl⟩
    rw [← hA] at m1; rw [← hB] at m2
    have v1 : IntKind.i64.wrap (a * x.l) = A := by rw [← hA]; exact IntWalk.i64_in _ ⟨by omega, by omega⟩
    have v2 : IntKind.i64.wrap (b * x.l) = B := by rw [← hB]; exact IntWalk.i64_in _ ⟨by omega, by omega⟩
    rw [← hA, ← hB]
    generalize chL x = y at *
    generalize chH x = z at *
    have HFl := fun w => s_FloorB A (-y) w (by omega) (by omega) (by omega) (by omega) (by omega)
    have HCe := fun w => s_CeilB B (-z) w (by omega) (by omega) (by omega) (by omega) (by omega)
    have v3 : IntKind.i64.wrap (-y) = -y := IntWalk.i64_in _ ⟨by omega, by omega⟩
    have v4 : IntKind.i64.wrap (-z) = -z := IntWalk.i64_in _ ⟨by omega, by omega⟩
    have v5 : IntKind.i64.wrap (b + z) = b + z := IntWalk.i64_in _ ⟨by omega, by omega⟩
    have n1 : ¬ -2 < z := by omega
    have n2 : ¬ 0 ≤ b + z := by omega
    generalize flo A (-y) = fA at *
    generalize cei B (-z) = cB at *
    clear e1 e2 e3 hb m1 m2 hc e hn hA hB hev
    go_enter Try.func25, Try.ntmps25
    go_upto_region 1 with (fail)
    refine into (fun W => Held [(w.heap.size + 1, 0, .int .i64 a), (w.heap.size + 1, 1, .int .i64 b), (w.heap.size, 0, .int .i64 x.k), (w.heap.size, 1, .int .i64 x.l), (w.heap.size, 2, .int .i64 x.r), (w.heap.size, 3, .int .i64 x.a), (w.heap.size, 4, .int .i64 x.b), (w.heap.size, 5, .int .i64 x.c), (w.heap.size, 6, .int .i64 x.d)] w W ∧ Fr (w.heap.size + 1 + 1) [.int .i64 0, .int .i64 0] W) ⟨?_, ?_⟩ ?_
    · exact ((held_box (held_box (held_start w) (w.heap.size) [.int .i64 x.k, .int .i64 x.l, .int .i64 x.r, .int .i64 x.a, .int .i64 x.b, .int .i64 x.c, .int .i64 x.d] _ (by first | rfl | simp)) (w.heap.size + 1) [.int .i64 a, .int .i64 b] _ (by first | rfl | simp))).alloc _
    · have F := fr_alloc (X := ((w.alloc (.cells [(.int .i64 x.k : Value), .int .i64 x.l, .int .i64 x.r, .int .i64 x.a, .int .i64 x.b, .int .i64 x.c, .int .i64 x.d].toArray 27)).alloc (.cells [(.int .i64 a : Value), .int .i64 b].toArray 25))) (l := [.int .i64 0, .int .i64 0]) (T := 25) (Later.refl _)
      simp only [World.size_alloc] at F
      exact F
    rintro W ⟨hW, hF⟩
    obtain ⟨p0, p1, p2, p3, p4, p5, p6, p7, p8, _⟩ := Held.s9 hW
    have z0 := Held.lt hW (w.heap.size) 0 (.int .i64 x.k) (by simp)
    have z1 := Held.lt hW (w.heap.size + 1) 0 (.int .i64 a) (by simp)
    obtain ⟨r0, r1, r2, r3⟩ := Fr.o2 hF
    have zr := Fr.lt hF
    have HW := Lib.hid (Held.is hW)
    go_upto_region 4 with (first | (go_at_call 67; refine (s_IsSegment x _).mono ?_; rintro e w1 ⟨rfl, hb⟩; obtain ⟨H, hcc, hff, hzz⟩ := later_facts hb; clear hb; (try simp at hzz); have hz0 : w.heap.size < w1.heap.size := (by omega); (try (have hz1 : w.heap.size + 1 < w1.heap.size := (by omega))); (try (have hz2 : w.heap.size + 1 + 1 < w1.heap.size := (by omega)))) | (go_at_call 68; refine (s_IsEnergy _ _ _).mono ?_; rintro e w1 ⟨rfl, hb⟩; obtain ⟨H, hcc, hff, hzz⟩ := later_facts hb; clear hb; (try simp at hzz); have hz0 : w.heap.size < w1.heap.size := (by omega); (try (have hz1 : w.heap.size + 1 < w1.heap.size := (by omega))); (try (have hz2 : w.heap.size + 1 + 1 < w1.heap.size := (by omega)))) | (go_at_call 62; refine (HC _).mono ?_; rintro e w7 ⟨rfl, hb⟩; have H7 : Hid (Later W w7) := Lib.hid (Later.trans (by repeat (first | (with_reducible exact Later.refl _) | (with_reducible exact Hid.out (by assumption)) | (with_reducible refine Later.alloc ?_ _) | (with_reducible refine Later.setCell ?_ (by simp; omega) _) | (with_reducible refine Later.setCell ?_ (by simp) _) | (with_reducible refine Later.drewN ?_ _) | (with_reducible refine Later.drew ?_) | (with_reducible refine Later.trans ?_ (Hid.out (by assumption))))) hb); obtain ⟨H, hcc, hff, hzz⟩ := later_facts hb; clear hb; have hy0 : w.heap.size < w7.heap.size := (by omega); have hy1 : w.heap.size + 1 < w7.heap.size := (by omega); have hy2 : w.heap.size + 1 + 1 < w7.heap.size := (by omega)))
    have hgz : w.heap.size + 1 + 1 < w7.heap.size := by have := H7.out.size; omega
    refine into (fun W => Held ((w7.heap.size, 0, .int .i64 y) :: (w7.heap.size, 1, .int .i64 z) :: [(w.heap.size + 1, 0, .int .i64 a), (w.heap.size + 1, 1, .int .i64 b), (w.heap.size, 0, .int .i64 x.k), (w.heap.size, 1, .int .i64 x.l), (w.heap.size, 2, .int .i64 x.r), (w.heap.size, 3, .int .i64 x.a), (w.heap.size, 4, .int .i64 x.b), (w.heap.size, 5, .int .i64 x.c), (w.heap.size, 6, .int .i64 x.d)]) w W ∧ Fr (w.heap.size + 1 + 1) [.int .i64 0, .int .i64 0] W) ⟨held_box (Held.later hW (by repeat (first | exact H7.out | refine Later.drew ?_ | refine Later.drewN ?_ _))) w7.heap.size [.int .i64 y, .int .i64 z] _ rfl, fr_later hF ((by repeat (first | exact H7.out | refine Later.alloc ?_ _ | refine Later.drew ?_ | refine Later.drewN ?_ _)))⟩ ?_
    clear p0 p1 p2 p3 p4 p5 p6 p7 p8 r0 r1 r2 r3
    clear hcc hff hzz H
    rintro W' ⟨hW, F⟩
    clear hF
    have hW : Held [(w7.heap.size, 0, .int .i64 y), (w7.heap.size, 1, .int .i64 z), (w.heap.size + 1, 0, .int .i64 a), (w.heap.size + 1, 1, .int .i64 b), (w.heap.size, 1, .int .i64 x.l)] w W' := ⟨fun x hx => hW.1 x (by simp at hx ⊢; rcases hx with rfl | rfl | rfl | rfl | rfl <;> simp), hW.2⟩
    obtain ⟨r0, r1, r2, r3⟩ := Fr.o2 F
    have z3 := hW.lt w7.heap.size 0 (.int .i64 y) (by simp)
    have ne1 : ¬ w7.heap.size = w.heap.size + 1 + 1 := by omega
    have ne2 : ¬ w.heap.size + 1 + 1 = w7.heap.size := by omega
    have hls : ∀ yy ∈ ([(w7.heap.size, 0, .int .i64 y), (w7.heap.size, 1, .int .i64 z), (w.heap.size + 1, 0, .int .i64 a), (w.heap.size + 1, 1, .int .i64 b), (w.heap.size, 1, .int .i64 x.l)] : List (Nat × Nat × Value)), yy.1 ≠ w.heap.size + 1 + 1 := by
      intro yy hx; simp at hx; rcases hx with rfl | rfl | rfl | rfl | rfl <;> simp <;> omega
    obtain ⟨u0, u1, u2, u3, u4, _⟩ := Held.s5 hW
    go_upto_region 6 with fail
    clear u0 u1 u2 u3 u4
    go_region_held3 (fun w' => w'.cell? ⟨w7.heap.size, 0, none⟩ = some (.int .i64 y) ∧ w'.cell? ⟨w7.heap.size, 1, none⟩ = some (.int .i64 z) ∧ w'.cell? ⟨w.heap.size + 1, 0, none⟩ = some (.int .i64 a) ∧ w'.cell? ⟨w.heap.size + 1, 1, none⟩ = some (.int .i64 b) ∧ w'.cell? ⟨w.heap.size, 1, none⟩ = some (.int .i64 x.l) ∧ Held [(w7.heap.size, 0, .int .i64 y), (w7.heap.size, 1, .int .i64 z), (w.heap.size + 1, 0, .int .i64 a), (w.heap.size + 1, 1, .int .i64 b), (w.heap.size, 1, .int .i64 x.l)] w w') ((refine Held.s5 ?_; (repeat (first | refine Held.drew ?_ | refine Held.drewN ?_ _ | refine Held.setNe ?_ _ _ hls (by simp <;> omega))); refine Held.later hW ?_; repeat (first | exact Later.refl _ | refine Later.drew ?_ | refine Later.drewN ?_ _ | refine Later.alloc ?_ _ | refine Later.trans ?_ (Hid.out (by assumption)))))
      (first | (go_at_call 75; refine (HFl _).mono ?_; rintro e w' ⟨rfl, rfl⟩) | (go_at_call 70; refine (HCe _).mono ?_; rintro e w' ⟨rfl, rfl⟩))
    all_goals
      go_wp2_with fail
      refine bodyPost_ret (v := .tuple #[.agg #[.int .i64 fA, .int .i64 cB], .int .i64 0]) (by simp [results, Try.results25, go_sem, *]) rfl ⟨rfl, (by repeat (first | exact Held.is hW | refine Later.drew ?_ | refine Later.drewN ?_ _ | refine Later.setCell ?_ (by simp <;> omega) _))⟩
  · have e1 : tdE x a b = 5 := by unfold tdE; rw [if_pos hb, if_neg hn]
    have e2 : tdL x a b = 0 := by unfold tdL; rw [e1]; rfl
    have e3 : tdH x a b = 0 := by unfold tdH; rw [e1]; rfl
    rw [e1, e2, e3]
    generalize chL x = y at *
    generalize chH x = z at *
    by_cases hz : -2 < z
    · clear e1 e2 e3 hb hev
      go_enter Try.func25, Try.ntmps25
      go_upto_region 1 with (fail)
      refine into (fun W => Held [(w.heap.size + 1, 0, .int .i64 a), (w.heap.size + 1, 1, .int .i64 b), (w.heap.size, 0, .int .i64 x.k), (w.heap.size, 1, .int .i64 x.l), (w.heap.size, 2, .int .i64 x.r), (w.heap.size, 3, .int .i64 x.a), (w.heap.size, 4, .int .i64 x.b), (w.heap.size, 5, .int .i64 x.c), (w.heap.size, 6, .int .i64 x.d)] w W ∧ Fr (w.heap.size + 1 + 1) [.int .i64 0, .int .i64 0] W) ⟨?_, ?_⟩ ?_
      · exact ((held_box (held_box (held_start w) (w.heap.size) [.int .i64 x.k, .int .i64 x.l, .int .i64 x.r, .int .i64 x.a, .int .i64 x.b, .int .i64 x.c, .int .i64 x.d] _ (by first | rfl | simp)) (w.heap.size + 1) [.int .i64 a, .int .i64 b] _ (by first | rfl | simp))).alloc _
      · have F := fr_alloc (X := ((w.alloc (.cells [(.int .i64 x.k : Value), .int .i64 x.l, .int .i64 x.r, .int .i64 x.a, .int .i64 x.b, .int .i64 x.c, .int .i64 x.d].toArray 27)).alloc (.cells [(.int .i64 a : Value), .int .i64 b].toArray 25))) (l := [.int .i64 0, .int .i64 0]) (T := 25) (Later.refl _)
        simp only [World.size_alloc] at F
        exact F
      rintro W ⟨hW, hF⟩
      obtain ⟨p0, p1, p2, p3, p4, p5, p6, p7, p8, _⟩ := Held.s9 hW
      have z0 := Held.lt hW (w.heap.size) 0 (.int .i64 x.k) (by simp)
      have z1 := Held.lt hW (w.heap.size + 1) 0 (.int .i64 a) (by simp)
      obtain ⟨r0, r1, r2, r3⟩ := Fr.o2 hF
      have zr := Fr.lt hF
      have HW := Lib.hid (Held.is hW)
      go_wp2_with (first | (go_at_call 67; refine (s_IsSegment x _).mono ?_; rintro e w1 ⟨rfl, hb⟩; obtain ⟨H, hcc, hff, hzz⟩ := later_facts hb; clear hb; (try simp at hzz); have hz0 : w.heap.size < w1.heap.size := (by omega); (try (have hz1 : w.heap.size + 1 < w1.heap.size := (by omega))); (try (have hz2 : w.heap.size + 1 + 1 < w1.heap.size := (by omega)))) | (go_at_call 68; refine (s_IsEnergy _ _ _).mono ?_; rintro e w1 ⟨rfl, hb⟩; obtain ⟨H, hcc, hff, hzz⟩ := later_facts hb; clear hb; (try simp at hzz); have hz0 : w.heap.size < w1.heap.size := (by omega); (try (have hz1 : w.heap.size + 1 < w1.heap.size := (by omega))); (try (have hz2 : w.heap.size + 1 + 1 < w1.heap.size := (by omega)))) | (go_at_call 62; refine (HC _).mono ?_; rintro e w7 ⟨rfl, hb⟩; have H7 : Hid (Later W w7) := Lib.hid (Later.trans (by repeat (first | (with_reducible exact Later.refl _) | (with_reducible exact Hid.out (by assumption)) | (with_reducible refine Later.alloc ?_ _) | (with_reducible refine Later.setCell ?_ (by simp; omega) _) | (with_reducible refine Later.setCell ?_ (by simp) _) | (with_reducible refine Later.drewN ?_ _) | (with_reducible refine Later.drew ?_) | (with_reducible refine Later.trans ?_ (Hid.out (by assumption))))) hb); obtain ⟨H, hcc, hff, hzz⟩ := later_facts hb; clear hb; have hy0 : w.heap.size < w7.heap.size := (by omega); have hy1 : w.heap.size + 1 < w7.heap.size := (by omega); have hy2 : w.heap.size + 1 + 1 < w7.heap.size := (by omega)))
      refine bodyPost_ret (v := .tuple #[.agg #[.int .i64 0, .int .i64 0], .int .i64 5]) (by simp [results, Try.results25, go_sem, *]) rfl ⟨rfl, (by repeat (first | (with_reducible exact Later.refl _) | (with_reducible exact Hid.out (by assumption)) | (with_reducible refine Later.alloc ?_ _) | (with_reducible refine Later.setCell ?_ (by simp; omega) _) | (with_reducible refine Later.setCell ?_ (by simp) _) | (with_reducible refine Later.drewN ?_ _) | (with_reducible refine Later.drew ?_) | (with_reducible refine Later.trans ?_ (Hid.out (by assumption)))))⟩
    · have n2 : 0 ≤ b + z := by omega
      have v5 : IntKind.i64.wrap (b + z) = b + z := IntWalk.i64_in _ ⟨by omega, by omega⟩
      clear e1 e2 e3 hb hev
      go_enter Try.func25, Try.ntmps25
      go_upto_region 1 with (fail)
      refine into (fun W => Held [(w.heap.size + 1, 0, .int .i64 a), (w.heap.size + 1, 1, .int .i64 b), (w.heap.size, 0, .int .i64 x.k), (w.heap.size, 1, .int .i64 x.l), (w.heap.size, 2, .int .i64 x.r), (w.heap.size, 3, .int .i64 x.a), (w.heap.size, 4, .int .i64 x.b), (w.heap.size, 5, .int .i64 x.c), (w.heap.size, 6, .int .i64 x.d)] w W ∧ Fr (w.heap.size + 1 + 1) [.int .i64 0, .int .i64 0] W) ⟨?_, ?_⟩ ?_
      · exact ((held_box (held_box (held_start w) (w.heap.size) [.int .i64 x.k, .int .i64 x.l, .int .i64 x.r, .int .i64 x.a, .int .i64 x.b, .int .i64 x.c, .int .i64 x.d] _ (by first | rfl | simp)) (w.heap.size + 1) [.int .i64 a, .int .i64 b] _ (by first | rfl | simp))).alloc _
      · have F := fr_alloc (X := ((w.alloc (.cells [(.int .i64 x.k : Value), .int .i64 x.l, .int .i64 x.r, .int .i64 x.a, .int .i64 x.b, .int .i64 x.c, .int .i64 x.d].toArray 27)).alloc (.cells [(.int .i64 a : Value), .int .i64 b].toArray 25))) (l := [.int .i64 0, .int .i64 0]) (T := 25) (Later.refl _)
        simp only [World.size_alloc] at F
        exact F
      rintro W ⟨hW, hF⟩
      obtain ⟨p0, p1, p2, p3, p4, p5, p6, p7, p8, _⟩ := Held.s9 hW
      have z0 := Held.lt hW (w.heap.size) 0 (.int .i64 x.k) (by simp)
      have z1 := Held.lt hW (w.heap.size + 1) 0 (.int .i64 a) (by simp)
      obtain ⟨r0, r1, r2, r3⟩ := Fr.o2 hF
      have zr := Fr.lt hF
      have HW := Lib.hid (Held.is hW)
      go_wp2_with (first | (go_at_call 67; refine (s_IsSegment x _).mono ?_; rintro e w1 ⟨rfl, hb⟩; obtain ⟨H, hcc, hff, hzz⟩ := later_facts hb; clear hb; (try simp at hzz); have hz0 : w.heap.size < w1.heap.size := (by omega); (try (have hz1 : w.heap.size + 1 < w1.heap.size := (by omega))); (try (have hz2 : w.heap.size + 1 + 1 < w1.heap.size := (by omega)))) | (go_at_call 68; refine (s_IsEnergy _ _ _).mono ?_; rintro e w1 ⟨rfl, hb⟩; obtain ⟨H, hcc, hff, hzz⟩ := later_facts hb; clear hb; (try simp at hzz); have hz0 : w.heap.size < w1.heap.size := (by omega); (try (have hz1 : w.heap.size + 1 < w1.heap.size := (by omega))); (try (have hz2 : w.heap.size + 1 + 1 < w1.heap.size := (by omega)))) | (go_at_call 62; refine (HC _).mono ?_; rintro e w7 ⟨rfl, hb⟩; have H7 : Hid (Later W w7) := Lib.hid (Later.trans (by repeat (first | (with_reducible exact Later.refl _) | (with_reducible exact Hid.out (by assumption)) | (with_reducible refine Later.alloc ?_ _) | (with_reducible refine Later.setCell ?_ (by simp; omega) _) | (with_reducible refine Later.setCell ?_ (by simp) _) | (with_reducible refine Later.drewN ?_ _) | (with_reducible refine Later.drew ?_) | (with_reducible refine Later.trans ?_ (Hid.out (by assumption))))) hb); obtain ⟨H, hcc, hff, hzz⟩ := later_facts hb; clear hb; have hy0 : w.heap.size < w7.heap.size := (by omega); have hy1 : w.heap.size + 1 < w7.heap.size := (by omega); have hy2 : w.heap.size + 1 + 1 < w7.heap.size := (by omega)))
      refine bodyPost_ret (v := .tuple #[.agg #[.int .i64 0, .int .i64 0], .int .i64 5]) (by simp [results, Try.results25, go_sem, *]) rfl ⟨rfl, (by repeat (first | (with_reducible exact Later.refl _) | (with_reducible exact Hid.out (by assumption)) | (with_reducible refine Later.alloc ?_ _) | (with_reducible refine Later.setCell ?_ (by simp; omega) _) | (with_reducible refine Later.setCell ?_ (by simp) _) | (with_reducible refine Later.drewN ?_ _) | (with_reducible refine Later.drew ?_) | (with_reducible refine Later.trans ?_ (Hid.out (by assumption)))))⟩
set_option maxRecDepth 100000 in
theorem s_LiftTime (x : Sg) (w : World) :
    Calls Try.prog 28 #[.agg #[.int .i64 x.k, .int .i64 x.l, .int .i64 x.r, .int .i64 x.a, .int .i64 x.b, .int .i64 x.c, .int .i64 x.d]] w fun e w' => e = .returned (.tuple #[.agg #[.int .i64 (ltL x), .int .i64 (ltH x)], .int .i64 (ltE x)]) ∧ Later w w' := by
  cases h : sgB x
  · have e1 : ltE x = 1 := by unfold ltE; rw [h]; rfl
    have e2 : ltL x = 0 := by unfold ltL; rw [e1]; rfl
    have e3 : ltH x = 0 := by unfold ltH; rw [e1]; rfl
    rw [e1, e2, e3]
    clear e1 e2 e3
    go_enter Try.func28, Try.ntmps28
    go_wp2_with (go_at_call 67; refine (s_IsSegment x _).mono ?_; rintro e w1 ⟨rfl, hb⟩; obtain ⟨H, hcc, hff, hzz⟩ := later_facts hb; clear hb; (try simp at hzz); have hz0 : w.heap.size < w1.heap.size := (by omega); (try (have hz1 : w.heap.size + 1 < w1.heap.size := (by omega))); (try (have hz2 : w.heap.size + 1 + 1 < w1.heap.size := (by omega))))
    refine bodyPost_ret (v := .tuple #[.agg #[.int .i64 0, .int .i64 0], .int .i64 1]) (by simp [results, Try.results28, go_sem, *]) rfl ⟨rfl, (by repeat (first | (with_reducible exact Later.refl _) | (with_reducible exact Hid.out (by assumption)) | (with_reducible refine Later.alloc ?_ _) | (with_reducible refine Later.setCell ?_ (by simp; omega) _) | (with_reducible refine Later.setCell ?_ (by simp) _) | (with_reducible refine Later.drewN ?_ _) | (with_reducible refine Later.drew ?_) | (with_reducible refine Later.trans ?_ (Hid.out (by assumption)))))⟩
  · by_cases hk : x.k = 1
    · have hkb : (x.k != 1) = false := by simpa using hk
      have e1 : ltE x = 0 := by unfold ltE; rw [h, if_pos rfl, if_pos hk]
      have e2 : ltL x = flo (1000 * x.l) x.d := by unfold ltL okV; rw [e1]; rfl
      have e3 : ltH x = cei (1000 * x.l) x.c := by unfold ltH okV; rw [e1]; rfl
      rw [e1, e2, e3]
      have g := (sgB_iff x).1 h
      obtain ⟨l1, l2⟩ := g.2.1
      have f := g.2.2.2.2.2 (by omega)
      have v1 : IntKind.i64.wrap (1000 * x.l) = 1000 * x.l := IntWalk.i64_in _ ⟨by omega, by omega⟩
      have HFl := fun w => s_FloorB (1000 * x.l) x.d w (by omega) (by omega) (by omega) (by omega) (by omega)
      have HCe := fun w => s_CeilB (1000 * x.l) x.c w (by omega) (by omega) (by omega) (by omega) (by omega)
      generalize flo (1000 * x.l) x.d = fA at *
      generalize cei (1000 * x.l) x.c = cB at *
      clear e1 e2 e3 g f hk
      go_enter Try.func28, Try.ntmps28
      go_upto_region 1 with (fail)
      refine into (fun W => Held [(w.heap.size, 0, .int .i64 x.k), (w.heap.size, 1, .int .i64 x.l), (w.heap.size, 2, .int .i64 x.r), (w.heap.size, 3, .int .i64 x.a), (w.heap.size, 4, .int .i64 x.b), (w.heap.size, 5, .int .i64 x.c), (w.heap.size, 6, .int .i64 x.d)] w W ∧ Fr (w.heap.size + 1) [.int .i64 0, .int .i64 0] W) ⟨?_, ?_⟩ ?_
      · exact ((held_box (held_start w) (w.heap.size) [.int .i64 x.k, .int .i64 x.l, .int .i64 x.r, .int .i64 x.a, .int .i64 x.b, .int .i64 x.c, .int .i64 x.d] _ (by first | rfl | simp))).alloc _
      · have F := fr_alloc (X := (w.alloc (.cells [(.int .i64 x.k : Value), .int .i64 x.l, .int .i64 x.r, .int .i64 x.a, .int .i64 x.b, .int .i64 x.c, .int .i64 x.d].toArray 27))) (l := [.int .i64 0, .int .i64 0]) (T := 25) (Later.refl _)
        simp only [World.size_alloc] at F
        exact F
      rintro W ⟨hW, hF⟩
      obtain ⟨p0, p1, p2, p3, p4, p5, p6, _⟩ := Held.s7 hW
      have z0 := Held.lt hW (w.heap.size) 0 (.int .i64 x.k) (by simp)
      obtain ⟨r0, r1, r2, r3⟩ := Fr.o2 hF
      have zr := Fr.lt hF
      have HW := Lib.hid (Held.is hW)
      go_upto_region 5 with (go_at_call 67; refine (s_IsSegment x _).mono ?_; rintro e w1 ⟨rfl, hb⟩; obtain ⟨H, hcc, hff, hzz⟩ := later_facts hb; clear hb; (try simp at hzz); have hz0 : w.heap.size < w1.heap.size := (by omega); (try (have hz1 : w.heap.size + 1 < w1.heap.size := (by omega))); (try (have hz2 : w.heap.size + 1 + 1 < w1.heap.size := (by omega))))
      refine into (fun W => Held [(w.heap.size, 0, .int .i64 x.k), (w.heap.size, 1, .int .i64 x.l), (w.heap.size, 2, .int .i64 x.r), (w.heap.size, 3, .int .i64 x.a), (w.heap.size, 4, .int .i64 x.b), (w.heap.size, 5, .int .i64 x.c), (w.heap.size, 6, .int .i64 x.d)] w W ∧ Fr (w.heap.size + 1) [.int .i64 0, .int .i64 0] W) ⟨Held.later hW (by repeat (first | (with_reducible exact Later.refl _) | (with_reducible exact Hid.out (by assumption)) | (with_reducible refine Later.alloc ?_ _) | (with_reducible refine Later.setCell ?_ (by simp; omega) _) | (with_reducible refine Later.setCell ?_ (by simp) _) | (with_reducible refine Later.drewN ?_ _) | (with_reducible refine Later.drew ?_) | (with_reducible refine Later.trans ?_ (Hid.out (by assumption))))), fr_later hF (by repeat (first | (with_reducible exact Later.refl _) | (with_reducible exact Hid.out (by assumption)) | (with_reducible refine Later.alloc ?_ _) | (with_reducible refine Later.setCell ?_ (by simp; omega) _) | (with_reducible refine Later.setCell ?_ (by simp) _) | (with_reducible refine Later.drewN ?_ _) | (with_reducible refine Later.drew ?_) | (with_reducible refine Later.trans ?_ (Hid.out (by assumption)))))⟩ ?_
      clear p0 p1 p2 p3 p4 p5 p6 r0 r1 r2 r3
      clear hcc hff hzz H
      rintro W' ⟨hW, F⟩
      clear hF
      have hW : Held [(w.heap.size, 1, .int .i64 x.l), (w.heap.size, 5, .int .i64 x.c), (w.heap.size, 6, .int .i64 x.d)] w W' := ⟨fun x hx => hW.1 x (by simp at hx ⊢; rcases hx with rfl | rfl | rfl <;> simp), hW.2⟩
      obtain ⟨r0, r1, r2, r3⟩ := Fr.o2 F
      have hls : ∀ yy ∈ ([(w.heap.size, 1, .int .i64 x.l), (w.heap.size, 5, .int .i64 x.c), (w.heap.size, 6, .int .i64 x.d)] : List (Nat × Nat × Value)), yy.1 ≠ w.heap.size + 1 := by
        intro yy hx; simp at hx; rcases hx with rfl | rfl | rfl <;> simp <;> omega
      go_region_held3 (fun w' => w'.cell? ⟨w.heap.size, 1, none⟩ = some (.int .i64 x.l) ∧ w'.cell? ⟨w.heap.size, 5, none⟩ = some (.int .i64 x.c) ∧ w'.cell? ⟨w.heap.size, 6, none⟩ = some (.int .i64 x.d) ∧ Held [(w.heap.size, 1, .int .i64 x.l), (w.heap.size, 5, .int .i64 x.c), (w.heap.size, 6, .int .i64 x.d)] w w') ((refine Held.s3 ?_; (repeat (first | refine Held.drew ?_ | refine Held.drewN ?_ _ | refine Held.setNe ?_ _ _ hls (by simp <;> omega))); refine Held.later hW ?_; repeat (first | exact Later.refl _ | refine Later.drew ?_ | refine Later.drewN ?_ _ | refine Later.alloc ?_ _ | refine Later.trans ?_ (Hid.out (by assumption)))))
        (first | (go_at_call 75; refine (HFl _).mono ?_; rintro e w' ⟨rfl, rfl⟩) | (go_at_call 70; refine (HCe _).mono ?_; rintro e w' ⟨rfl, rfl⟩))
      all_goals
        go_wp2_with fail
        refine bodyPost_ret (v := .tuple #[.agg #[.int .i64 fA, .int .i64 cB], .int .i64 0]) (by simp [results, Try.results28, go_sem, *]) rfl ⟨rfl, (by repeat (first | exact Held.is hW | refine Later.drew ?_ | refine Later.drewN ?_ _ | refine Later.setCell ?_ (by simp <;> omega) _))⟩
    · have hkb : (x.k != 1) = true := by simpa using hk
      have e1 : ltE x = 5 := by unfold ltE; rw [h, if_pos rfl, if_neg hk]
      have e2 : ltL x = 0 := by unfold ltL; rw [e1]; rfl
      have e3 : ltH x = 0 := by unfold ltH; rw [e1]; rfl
      rw [e1, e2, e3]
      clear e1 e2 e3 hk
      go_enter Try.func28, Try.ntmps28
      go_upto_region 1 with (fail)
      refine into (fun W => Held [(w.heap.size, 0, .int .i64 x.k), (w.heap.size, 1, .int .i64 x.l), (w.heap.size, 2, .int .i64 x.r), (w.heap.size, 3, .int .i64 x.a), (w.heap.size, 4, .int .i64 x.b), (w.heap.size, 5, .int .i64 x.c), (w.heap.size, 6, .int .i64 x.d)] w W ∧ Fr (w.heap.size + 1) [.int .i64 0, .int .i64 0] W) ⟨?_, ?_⟩ ?_
      · exact ((held_box (held_start w) (w.heap.size) [.int .i64 x.k, .int .i64 x.l, .int .i64 x.r, .int .i64 x.a, .int .i64 x.b, .int .i64 x.c, .int .i64 x.d] _ (by first | rfl | simp))).alloc _
      · have F := fr_alloc (X := (w.alloc (.cells [(.int .i64 x.k : Value), .int .i64 x.l, .int .i64 x.r, .int .i64 x.a, .int .i64 x.b, .int .i64 x.c, .int .i64 x.d].toArray 27))) (l := [.int .i64 0, .int .i64 0]) (T := 25) (Later.refl _)
        simp only [World.size_alloc] at F
        exact F
      rintro W ⟨hW, hF⟩
      obtain ⟨p0, p1, p2, p3, p4, p5, p6, _⟩ := Held.s7 hW
      have z0 := Held.lt hW (w.heap.size) 0 (.int .i64 x.k) (by simp)
      obtain ⟨r0, r1, r2, r3⟩ := Fr.o2 hF
      have zr := Fr.lt hF
      have HW := Lib.hid (Held.is hW)
      go_wp2_with (go_at_call 67; refine (s_IsSegment x _).mono ?_; rintro e w1 ⟨rfl, hb⟩; obtain ⟨H, hcc, hff, hzz⟩ := later_facts hb; clear hb; (try simp at hzz); have hz0 : w.heap.size < w1.heap.size := (by omega); (try (have hz1 : w.heap.size + 1 < w1.heap.size := (by omega))); (try (have hz2 : w.heap.size + 1 + 1 < w1.heap.size := (by omega))))
      refine bodyPost_ret (v := .tuple #[.agg #[.int .i64 0, .int .i64 0], .int .i64 5]) (by simp [results, Try.results28, go_sem, *]) rfl ⟨rfl, (by repeat (first | (with_reducible exact Later.refl _) | (with_reducible exact Hid.out (by assumption)) | (with_reducible refine Later.alloc ?_ _) | (with_reducible refine Later.setCell ?_ (by simp; omega) _) | (with_reducible refine Later.setCell ?_ (by simp) _) | (with_reducible refine Later.drewN ?_ _) | (with_reducible refine Later.drew ?_) | (with_reducible refine Later.trans ?_ (Hid.out (by assumption)))))⟩
end Go.Proofs.Ytdhoiiejcmnmbaa
