/- Contracts of chapter 8: launches, lifts, trains that turn back: of the program. -/
import Derived.Test.YtdhoiiejcmnmbaaLnI
import Derived.Test.YtdhoiiejcmnmbaaIvo
import Derived.Test.YtdhoiiejcmnmbaaNum
import Derived.Test.YtdhoiiejcmnmbaaBrJ
namespace Go.Proofs.Ytdhoiiejcmnmbaa
open Go.RowKit
set_option maxHeartbeats 4000000
set_option linter.unusedVariables false
set_option linter.unusedSimpArgs false
theorem lf_cases (x : Sg) (a b t : Int) (h : sgB x = true) (h2 : enB a b = true) (ht : 0 ≤ t ∧ t ≤ 10000000000) (hk : x.k = 2) : ∀ q, q = cei (t - (a + chL x)) (2 * x.l) →
    (0 ≤ q ∧ q ≤ x.c ∧ lfV x a b t = q ∧ lfE x a b t = 0) ∨ (0 ≤ q ∧ x.c < q ∧ lfV x a b t = 0 ∧ lfE x a b t = 4) ∨ (q < 0 ∧ 0 ≤ x.c ∧ lfV x a b t = 0 ∧ lfE x a b t = 0) := by
  rintro q rfl
  have g := (fc_bd x h).1
  have e : lfE x a b t = if lfF x a t ≤ x.c then 0 else 4 := by unfold lfE; rw [h, h2]; simp only [Bool.and_self, if_true]; rw [if_pos ht, if_pos hk]
  unfold lfV okV
  rw [e]
  unfold lfF
  generalize cei (t - (a + chL x)) (2 * x.l) = q
  rcases lt_or_geI q 0 with d | d
  · refine .inr (.inr ⟨d, g, ?_, ?_⟩)
    · rw [show max 0 q = 0 by omega]; simp
    · rw [show max 0 q = 0 by omega, if_pos g]
  · rw [show max 0 q = q by omega]
    by_cases c : q ≤ x.c
    · rw [if_pos c]; exact .inl ⟨d, c, by simp, rfl⟩
    · rw [if_neg c]; exact .inr (.inl ⟨d, by omega, by simp, rfl⟩)
theorem i_DivideUp_ok (a b : Int) (w : World) (h1 : -1000000000000 ≤ a) (h2 : a ≤ 1000000000000) (h3 : 0 < b) (h4 : b ≤ 1000000000000) : Calls Try.prog 65 #[.int .i64 a, .int .i64 b] w fun e w' => e = .returned (.tuple #[.int .i64 (cei a b), .int .i64 0]) ∧ Later w w' := by
  have e : divErr a b = 0 := by
    unfold divErr
    rw [if_neg (by rw [isVB_no, isVB_no]; omega), if_neg (by omega)]
  have h := i_DivideUp a b w
  unfold divU at h
  rw [e] at h
  exact h.mono fun e w' ⟨he, hw⟩ => ⟨he, by rw [← hw]; exact Later.refl _⟩
set_option maxRecDepth 100000 in
theorem i_LaunchForce (x : Sg) (a b t : Int) (w : World) :
    Calls Try.prog 20 #[.agg #[.int .i64 x.k, .int .i64 x.l, .int .i64 x.r, .int .i64 x.a, .int .i64 x.b, .int .i64 x.c, .int .i64 x.d], .agg #[.int .i64 a, .int .i64 b], .int .i64 t] w fun e w' => e = .returned (.tuple #[.int .i64 (lfV x a b t), .int .i64 (lfE x a b t)]) ∧ Later w w' := by
  cases h : sgB x
  · have e1 : lfE x a b t = 1 := by unfold lfE; rw [h]; rfl
    have e2 : lfV x a b t = 0 := by unfold lfV; rw [e1]; rfl
    rw [e1, e2]
    clear e1 e2
    go_enter Try.func20, Try.ntmps20
    go_wp2_with (go_at_call 63; refine (i_IsSegment x _).mono ?_; rintro e w1 ⟨rfl, hb⟩; obtain ⟨H, hcc, hff, hzz⟩ := later_facts hb; clear hb; (try simp at hzz); have hz0 : w.heap.size < w1.heap.size := (by omega); (try (have hz1 : w.heap.size + 1 < w1.heap.size := (by omega))); (try (have hz2 : w.heap.size + 1 + 1 < w1.heap.size := (by omega))))
    go_ret2
    exact ⟨rfl, (by repeat (first | (with_reducible exact Later.refl _) | (with_reducible exact Hid.out (by assumption)) | (with_reducible refine Later.alloc ?_ _) | (with_reducible refine Later.setCell ?_ (by simp; omega) _) | (with_reducible refine Later.setCell ?_ (by simp) _) | (with_reducible refine Later.drewN ?_ _) | (with_reducible refine Later.drew ?_) | (with_reducible refine Later.trans ?_ (Hid.out (by assumption)))))⟩
  cases h2 : enB a b
  · have e1 : lfE x a b t = 1 := by unfold lfE; rw [h, h2]; rfl
    have e2 : lfV x a b t = 0 := by unfold lfV; rw [e1]; rfl
    rw [e1, e2]
    clear e1 e2
    go_enter Try.func20, Try.ntmps20
    go_wp2_with (first | (go_at_call 63; refine (i_IsSegment x _).mono ?_; rintro e w1 ⟨rfl, hb⟩; obtain ⟨H, hcc, hff, hzz⟩ := later_facts hb; clear hb; (try simp at hzz); have hz0 : w.heap.size < w1.heap.size := (by omega); (try (have hz1 : w.heap.size + 1 < w1.heap.size := (by omega))); (try (have hz2 : w.heap.size + 1 + 1 < w1.heap.size := (by omega)))) | (go_at_call 64; refine (i_IsEnergy _ _ _).mono ?_; rintro e w1 ⟨rfl, hb⟩; obtain ⟨H, hcc, hff, hzz⟩ := later_facts hb; clear hb; (try simp at hzz); have hz0 : w.heap.size < w1.heap.size := (by omega); (try (have hz1 : w.heap.size + 1 < w1.heap.size := (by omega))); (try (have hz2 : w.heap.size + 1 + 1 < w1.heap.size := (by omega)))))
    go_ret2
    exact ⟨rfl, (by repeat (first | (with_reducible exact Later.refl _) | (with_reducible exact Hid.out (by assumption)) | (with_reducible refine Later.alloc ?_ _) | (with_reducible refine Later.setCell ?_ (by simp; omega) _) | (with_reducible refine Later.setCell ?_ (by simp) _) | (with_reducible refine Later.drewN ?_ _) | (with_reducible refine Later.drew ?_) | (with_reducible refine Later.trans ?_ (Hid.out (by assumption)))))⟩
  have hb : (sgB x && enB a b) = true := by rw [h, h2]; rfl
  by_cases ht : 0 ≤ t ∧ t ≤ 10000000000
  · obtain ⟨t1, t2⟩ := ht
    have t3 : ¬ t < 0 := by omega
    have t4 : ¬ 10000000000 < t := by omega
    by_cases hk : x.k = 2
    · have hkb : (x.k != 2) = false := by simpa using hk
      have HQ := lf_cases x a b t h h2 ⟨t1, t2⟩ hk
      have HC := fun w => i_coasted x a b w h h2
      have hcd := ch_bd x h
      obtain ⟨c4, c5, c6⟩ := (enB_iff a b).1 h2
      obtain ⟨l1, l2⟩ := ((sgB_iff x).1 h).2.1
      have hwl : IntKind.i64.wrap (2 * x.l) = 2 * x.l := IntWalk.i64_in _ ⟨by omega, by omega⟩
      obtain ⟨p, hp⟩ : ∃ p, p = a + chL x := ⟨_, rfl⟩
      obtain ⟨p', hp'⟩ : ∃ p', p' = b + chH x := ⟨_, rfl⟩
      have hp1 : -20000000000 ≤ p ∧ p ≤ 20000000000 := by omega
      obtain ⟨q1, q2⟩ := hp1
      rw [← hp, ← hp'] at HC
      rw [← hp] at HQ
      have hwt : IntKind.i64.wrap (t - p) = t - p := IntWalk.i64_in _ ⟨by omega, by omega⟩
      have HD := fun w => i_DivideUp_ok (t - p) (2 * x.l) w (by omega) (by omega) (by omega) (by omega)
      have HQ := HQ _ rfl
      generalize cei (t - p) (2 * x.l) = q at *
      have hfl : (Instr.field 25 (.agg #[.int .i64 p, .int .i64 p']) 0).run Try.prog = (Instr.field 25 (.agg #[.int .i64 p, .int .i64 p']) 0).run Try.prog := rfl
      have HFL : ∀ W : World, (Instr.field 25 (.agg #[.int .i64 p, .int .i64 p']) 0).run Try.prog W = .ok (.int .i64 p) W := fun W => by kernel_rfl
      clear hfl hp hp' hcd c4 c5 c6 hb hk
      go_enter Try.func20, Try.ntmps20
      go_upto_region 1 with (fail)
      refine into (Held [(w.heap.size + 1, 0, .int .i64 a), (w.heap.size + 1, 1, .int .i64 b), (w.heap.size, 0, .int .i64 x.k), (w.heap.size, 1, .int .i64 x.l), (w.heap.size, 2, .int .i64 x.r), (w.heap.size, 3, .int .i64 x.a), (w.heap.size, 4, .int .i64 x.b), (w.heap.size, 5, .int .i64 x.c), (w.heap.size, 6, .int .i64 x.d)] w) (by first | exact (held_box (held_box (held_start w) (w.heap.size) [.int .i64 x.k, .int .i64 x.l, .int .i64 x.r, .int .i64 x.a, .int .i64 x.b, .int .i64 x.c, .int .i64 x.d] _ (by first | rfl | simp)) (w.heap.size + 1) [.int .i64 a, .int .i64 b] _ (by first | rfl | simp)) | simpa using (held_box (held_box (held_start w) (w.heap.size) [.int .i64 x.k, .int .i64 x.l, .int .i64 x.r, .int .i64 x.a, .int .i64 x.b, .int .i64 x.c, .int .i64 x.d] _ (by first | rfl | simp)) (w.heap.size + 1) [.int .i64 a, .int .i64 b] _ (by first | rfl | simp))) ?_
      intro W hW
      obtain ⟨p0, p1, p2, p3, p4, p5, p6, p7, p8, _⟩ := Held.s9 hW
      have z0 := Held.lt hW (w.heap.size) 0 (.int .i64 x.k) (by simp)
      have z1 := Held.lt hW (w.heap.size + 1) 0 (.int .i64 a) (by simp)
      have HW := Lib.hid (Held.is hW)
      go_upto_region 7 with (first | (go_at_call 63; refine (i_IsSegment x _).mono ?_; rintro e w1 ⟨rfl, hb⟩; obtain ⟨H, hcc, hff, hzz⟩ := later_facts hb; clear hb; (try simp at hzz); have hz0 : w.heap.size < w1.heap.size := (by omega); (try (have hz1 : w.heap.size + 1 < w1.heap.size := (by omega))); (try (have hz2 : w.heap.size + 1 + 1 < w1.heap.size := (by omega)))) | (go_at_call 64; refine (i_IsEnergy _ _ _).mono ?_; rintro e w1 ⟨rfl, hb⟩; obtain ⟨H, hcc, hff, hzz⟩ := later_facts hb; clear hb; (try simp at hzz); have hz0 : w.heap.size < w1.heap.size := (by omega); (try (have hz1 : w.heap.size + 1 < w1.heap.size := (by omega))); (try (have hz2 : w.heap.size + 1 + 1 < w1.heap.size := (by omega)))))
      refine into (Held [(w.heap.size + 1, 0, .int .i64 a), (w.heap.size + 1, 1, .int .i64 b), (w.heap.size, 0, .int .i64 x.k), (w.heap.size, 1, .int .i64 x.l), (w.heap.size, 2, .int .i64 x.r), (w.heap.size, 3, .int .i64 x.a), (w.heap.size, 4, .int .i64 x.b), (w.heap.size, 5, .int .i64 x.c), (w.heap.size, 6, .int .i64 x.d)] w) (Held.later hW (by repeat (first | (with_reducible exact Later.refl _) | (with_reducible exact Hid.out (by assumption)) | (with_reducible refine Later.alloc ?_ _) | (with_reducible refine Later.setCell ?_ (by simp; omega) _) | (with_reducible refine Later.setCell ?_ (by simp) _) | (with_reducible refine Later.drewN ?_ _) | (with_reducible refine Later.drew ?_) | (with_reducible refine Later.trans ?_ (Hid.out (by assumption)))))) ?_
      clear p0 p1 p2 p3 p4 p5 p6 p7 p8
      clear z0 z1
      intro W hW
      go_cut [8] (fun s W => s = .int .i64 q ∧ Held [(w.heap.size + 1, 0, .int .i64 a), (w.heap.size + 1, 1, .int .i64 b), (w.heap.size, 0, .int .i64 x.k), (w.heap.size, 1, .int .i64 x.l), (w.heap.size, 2, .int .i64 x.r), (w.heap.size, 3, .int .i64 x.a), (w.heap.size, 4, .int .i64 x.b), (w.heap.size, 5, .int .i64 x.c), (w.heap.size, 6, .int .i64 x.d)] w W)
      case first =>
        go_region_held3 (fun w' => w'.cell? ⟨w.heap.size + 1, 0, none⟩ = some (.int .i64 a) ∧ w'.cell? ⟨w.heap.size + 1, 1, none⟩ = some (.int .i64 b) ∧ w'.cell? ⟨w.heap.size, 0, none⟩ = some (.int .i64 x.k) ∧ w'.cell? ⟨w.heap.size, 1, none⟩ = some (.int .i64 x.l) ∧ w'.cell? ⟨w.heap.size, 2, none⟩ = some (.int .i64 x.r) ∧ w'.cell? ⟨w.heap.size, 3, none⟩ = some (.int .i64 x.a) ∧ w'.cell? ⟨w.heap.size, 4, none⟩ = some (.int .i64 x.b) ∧ w'.cell? ⟨w.heap.size, 5, none⟩ = some (.int .i64 x.c) ∧ w'.cell? ⟨w.heap.size, 6, none⟩ = some (.int .i64 x.d) ∧ Held [(w.heap.size + 1, 0, .int .i64 a), (w.heap.size + 1, 1, .int .i64 b), (w.heap.size, 0, .int .i64 x.k), (w.heap.size, 1, .int .i64 x.l), (w.heap.size, 2, .int .i64 x.r), (w.heap.size, 3, .int .i64 x.a), (w.heap.size, 4, .int .i64 x.b), (w.heap.size, 5, .int .i64 x.c), (w.heap.size, 6, .int .i64 x.d)] w w') (exact Held.s9 (Held.later hW (by repeat (first | exact Later.refl _ | refine Later.drew ?_ | refine Later.drewN ?_ _ | refine Later.alloc ?_ _ | refine Later.trans ?_ (Hid.out (by assumption))))))
          (first | (go_at_call 66; refine (HC _).mono ?_; rintro e w1 ⟨rfl, hb⟩; have H := Lib.hid hb; clear hb) | (go_at_call 65; refine (HD _).mono ?_; rintro e w1 ⟨rfl, hb⟩; have H := Lib.hid hb; clear hb))
        all_goals
          go_wp2_with fail
          go_meet
          exact ⟨rfl, Held.later hW (by repeat (first | exact Later.refl _ | refine Later.drew ?_ | refine Later.drewN ?_ _ | refine Later.alloc ?_ _ | refine Later.trans ?_ (Hid.out (by assumption))))⟩
      case rest =>
        obtain ⟨rfl, hW⟩ := hcut
        have HW2 := Lib.hid (Held.is hW)
        obtain ⟨p0, p1, p2, p3, p4, p5, p6, p7, p8, _⟩ := Held.s9 hW
        have z0 := Held.lt hW (w.heap.size) 0 (.int .i64 x.k) (by simp)
        have z1 := Held.lt hW (w.heap.size + 1) 0 (.int .i64 a) (by simp)
        rcases HQ with ⟨k1, k2, k3, k4⟩ | ⟨k1, k2, k3, k4⟩ | ⟨k1, k2, k3, k4⟩
        · have K := Lib.hid (And.intro k3 k4)
          clear k3 k4
          have n1 : ¬ x.c < q := by omega
          have m1 : max q 0 = q := by omega
          have m2 : ¬ q < 0 := by omega
          go_wp2_with fail
          all_goals
            go_ret2
            exact ⟨by rw [K.out.1, K.out.2]; first | rfl | simp [*] | (rw [m1]), HW2.out⟩
        · have K := Lib.hid (And.intro k3 k4)
          clear k3 k4
          have m1 : max q 0 = q := by omega
          have m2 : ¬ q < 0 := by omega
          go_wp2_with fail
          all_goals
            go_ret2
            exact ⟨by rw [K.out.1, K.out.2]; first | rfl | simp [*] | (rw [m1]), HW2.out⟩
        · have K := Lib.hid (And.intro k3 k4)
          clear k3 k4
          have m1 : max q 0 = 0 := by omega
          have n1 : ¬ x.c < 0 := by omega
          go_wp2_with fail
          all_goals
            go_ret2
            exact ⟨by rw [K.out.1, K.out.2]; first | rfl | simp [*] | (rw [m1]), HW2.out⟩
    · have hkb : (x.k != 2) = true := by simpa using hk
      have e1 : lfE x a b t = 5 := by unfold lfE; rw [if_pos hb, if_pos ⟨t1, t2⟩, if_neg hk]
      have e2 : lfV x a b t = 0 := by unfold lfV; rw [e1]; rfl
      rw [e1, e2]
      clear e1 e2 hb hk
      go_enter Try.func20, Try.ntmps20
      go_upto_region 1 with (fail)
      refine into (Held [(w.heap.size + 1, 0, .int .i64 a), (w.heap.size + 1, 1, .int .i64 b), (w.heap.size, 0, .int .i64 x.k), (w.heap.size, 1, .int .i64 x.l), (w.heap.size, 2, .int .i64 x.r), (w.heap.size, 3, .int .i64 x.a), (w.heap.size, 4, .int .i64 x.b), (w.heap.size, 5, .int .i64 x.c), (w.heap.size, 6, .int .i64 x.d)] w) (by first | exact (held_box (held_box (held_start w) (w.heap.size) [.int .i64 x.k, .int .i64 x.l, .int .i64 x.r, .int .i64 x.a, .int .i64 x.b, .int .i64 x.c, .int .i64 x.d] _ (by first | rfl | simp)) (w.heap.size + 1) [.int .i64 a, .int .i64 b] _ (by first | rfl | simp)) | simpa using (held_box (held_box (held_start w) (w.heap.size) [.int .i64 x.k, .int .i64 x.l, .int .i64 x.r, .int .i64 x.a, .int .i64 x.b, .int .i64 x.c, .int .i64 x.d] _ (by first | rfl | simp)) (w.heap.size + 1) [.int .i64 a, .int .i64 b] _ (by first | rfl | simp))) ?_
      intro W hW
      obtain ⟨p0, p1, p2, p3, p4, p5, p6, p7, p8, _⟩ := Held.s9 hW
      have z0 := Held.lt hW (w.heap.size) 0 (.int .i64 x.k) (by simp)
      have z1 := Held.lt hW (w.heap.size + 1) 0 (.int .i64 a) (by simp)
      have HW := Lib.hid (Held.is hW)
      go_wp2_with (first | (go_at_call 63; refine (i_IsSegment x _).mono ?_; rintro e w1 ⟨rfl, hb⟩; obtain ⟨H, hcc, hff, hzz⟩ := later_facts hb; clear hb; (try simp at hzz); have hz0 : w.heap.size < w1.heap.size := (by omega); (try (have hz1 : w.heap.size + 1 < w1.heap.size := (by omega))); (try (have hz2 : w.heap.size + 1 + 1 < w1.heap.size := (by omega)))) | (go_at_call 64; refine (i_IsEnergy _ _ _).mono ?_; rintro e w1 ⟨rfl, hb⟩; obtain ⟨H, hcc, hff, hzz⟩ := later_facts hb; clear hb; (try simp at hzz); have hz0 : w.heap.size < w1.heap.size := (by omega); (try (have hz1 : w.heap.size + 1 < w1.heap.size := (by omega))); (try (have hz2 : w.heap.size + 1 + 1 < w1.heap.size := (by omega)))))
      go_ret2
      exact ⟨rfl, (by repeat (first | (with_reducible exact Later.refl _) | (with_reducible exact Hid.out (by assumption)) | (with_reducible refine Later.alloc ?_ _) | (with_reducible refine Later.setCell ?_ (by simp; omega) _) | (with_reducible refine Later.setCell ?_ (by simp) _) | (with_reducible refine Later.drewN ?_ _) | (with_reducible refine Later.drew ?_) | (with_reducible refine Later.trans ?_ (Hid.out (by assumption)))))⟩
  · have e1 : lfE x a b t = 2 := by unfold lfE; rw [if_pos hb, if_neg ht]
    have e2 : lfV x a b t = 0 := by unfold lfV; rw [e1]; rfl
    rw [e1, e2]
    clear e1 e2 hb
    by_cases t1 : t < 0
    · go_enter Try.func20, Try.ntmps20
      go_wp2_with (first | (go_at_call 63; refine (i_IsSegment x _).mono ?_; rintro e w1 ⟨rfl, hb⟩; obtain ⟨H, hcc, hff, hzz⟩ := later_facts hb; clear hb; (try simp at hzz); have hz0 : w.heap.size < w1.heap.size := (by omega); (try (have hz1 : w.heap.size + 1 < w1.heap.size := (by omega))); (try (have hz2 : w.heap.size + 1 + 1 < w1.heap.size := (by omega)))) | (go_at_call 64; refine (i_IsEnergy _ _ _).mono ?_; rintro e w1 ⟨rfl, hb⟩; obtain ⟨H, hcc, hff, hzz⟩ := later_facts hb; clear hb; (try simp at hzz); have hz0 : w.heap.size < w1.heap.size := (by omega); (try (have hz1 : w.heap.size + 1 < w1.heap.size := (by omega))); (try (have hz2 : w.heap.size + 1 + 1 < w1.heap.size := (by omega)))))
      go_ret2
      exact ⟨rfl, (by repeat (first | (with_reducible exact Later.refl _) | (with_reducible exact Hid.out (by assumption)) | (with_reducible refine Later.alloc ?_ _) | (with_reducible refine Later.setCell ?_ (by simp; omega) _) | (with_reducible refine Later.setCell ?_ (by simp) _) | (with_reducible refine Later.drewN ?_ _) | (with_reducible refine Later.drew ?_) | (with_reducible refine Later.trans ?_ (Hid.out (by assumption)))))⟩
    · have t2 : 10000000000 < t := by omega
      go_enter Try.func20, Try.ntmps20
      go_wp2_with (first | (go_at_call 63; refine (i_IsSegment x _).mono ?_; rintro e w1 ⟨rfl, hb⟩; obtain ⟨H, hcc, hff, hzz⟩ := later_facts hb; clear hb; (try simp at hzz); have hz0 : w.heap.size < w1.heap.size := (by omega); (try (have hz1 : w.heap.size + 1 < w1.heap.size := (by omega))); (try (have hz2 : w.heap.size + 1 + 1 < w1.heap.size := (by omega)))) | (go_at_call 64; refine (i_IsEnergy _ _ _).mono ?_; rintro e w1 ⟨rfl, hb⟩; obtain ⟨H, hcc, hff, hzz⟩ := later_facts hb; clear hb; (try simp at hzz); have hz0 : w.heap.size < w1.heap.size := (by omega); (try (have hz1 : w.heap.size + 1 < w1.heap.size := (by omega))); (try (have hz2 : w.heap.size + 1 + 1 < w1.heap.size := (by omega)))))
      go_ret2
      exact ⟨rfl, (by repeat (first | (with_reducible exact Later.refl _) | (with_reducible exact Hid.out (by assumption)) | (with_reducible refine Later.alloc ?_ _) | (with_reducible refine Later.setCell ?_ (by simp; omega) _) | (with_reducible refine Later.setCell ?_ (by simp) _) | (with_reducible refine Later.drewN ?_ _) | (with_reducible refine Later.drew ?_) | (with_reducible refine Later.trans ?_ (Hid.out (by assumption)))))⟩
set_option maxRecDepth 100000 in
theorem i_TurnDistance (x : Sg) (a b : Int) (w : World) :
    Calls Try.prog 24 #[.agg #[.int .i64 x.k, .int .i64 x.l, .int .i64 x.r, .int .i64 x.a, .int .i64 x.b, .int .i64 x.c, .int .i64 x.d], .agg #[.int .i64 a, .int .i64 b]] w fun e w' => e = .returned (.tuple #[.agg #[.int .i64 (tdL x a b), .int .i64 (tdH x a b)], .int .i64 (tdE x a b)]) ∧ Later w w' := by
  have HV := fun w => i_PassVerdict x a b w
  by_cases hb : (sgB x && enB a b) = true
  · have hs : sgB x = true := by simp at hb; exact hb.1
    have he : enB a b = true := by simp at hb; exact hb.2
    have v1 : pvE x a b = 0 := by unfold pvE; rw [hb]; rfl
    have hc := ch_bd x hs
    have e := (enB_iff a b).1 he
    by_cases hn : b + chH x < 0
    · have v2 : pvV x a b = 0 := by unfold pvV; rw [if_pos hb]; unfold vrd; rw [if_neg (by omega), if_pos hn]
      have e1 : tdE x a b = 0 := by unfold tdE; rw [if_pos hb, if_pos hn]
      have e2 : tdL x a b = flo (a * x.l) (-chL x) := by unfold tdL okV; rw [e1]; rfl
      have e3 : tdH x a b = cei (b * x.l) (-chH x) := by unfold tdH okV; rw [e1]; rfl
      rw [e1, e2, e3]
      rw [v1, v2] at HV
      obtain ⟨l1, l2⟩ := ((sgB_iff x).1 hs).2.1
      have m1 := nn_mul a x.l (by omega) (by omega) l1 l2
      have m2 := nn_mul b x.l (by omega) (by omega) l1 l2
      have HC := fun w => i_coastingChange x w hs
      have HM := fun w => i_minus 0 0 (chL x) (chH x) w (by omega) (by omega) (by omega) (by omega) (by omega) (by omega) (by omega) (by omega)
      rw [show (0 : Int) - chH x = -chH x by omega, show (0 : Int) - chL x = -chL x by omega] at HM
      have HT := fun w => i_times_nn a b x.l w (by omega) (by omega) (by omega) (by omega) (by omega)
      have HO := fun w => i_over (a * x.l) (b * x.l) (-chH x) (-chL x) w (by omega) (by omega) (by omega) (by omega) (by omega) (by omega) (by omega) (by omega)
      generalize flo (a * x.l) (-chL x) = fA at *
      generalize cei (b * x.l) (-chH x) = cB at *
      generalize -chH x = p at *
      generalize -chL x = q at *
      generalize chH x = z at *
      generalize chL x = y at *
      generalize a * x.l = A at *
      generalize b * x.l = B at *
      clear e1 e2 e3 v1 v2 hb m1 m2 hc e hn
      go_enter Try.func24, Try.ntmps24
      go_upto_region 1 with (fail)
      refine into (fun W => Held [(w.heap.size + 1, 0, .int .i64 a), (w.heap.size + 1, 1, .int .i64 b), (w.heap.size, 0, .int .i64 x.k), (w.heap.size, 1, .int .i64 x.l), (w.heap.size, 2, .int .i64 x.r), (w.heap.size, 3, .int .i64 x.a), (w.heap.size, 4, .int .i64 x.b), (w.heap.size, 5, .int .i64 x.c), (w.heap.size, 6, .int .i64 x.d)] w W ∧ Fr (w.heap.size + 1 + 1) [.int .i64 0, .int .i64 0] W) ⟨?_, ?_⟩ ?_
      · exact ((held_box (held_box (held_start w) (w.heap.size) [.int .i64 x.k, .int .i64 x.l, .int .i64 x.r, .int .i64 x.a, .int .i64 x.b, .int .i64 x.c, .int .i64 x.d] _ (by first | rfl | simp)) (w.heap.size + 1) [.int .i64 a, .int .i64 b] _ (by first | rfl | simp))).alloc _
      · have F := fr_alloc (X := ((w.alloc (.cells [(.int .i64 x.k : Value), .int .i64 x.l, .int .i64 x.r, .int .i64 x.a, .int .i64 x.b, .int .i64 x.c, .int .i64 x.d].toArray 27)).alloc (.cells [(.int .i64 a : Value), .int .i64 b].toArray 25))) (l := [.int .i64 0, .int .i64 0]) (T := 25) (Later.refl _)
        simp only [World.size_alloc] at F
        exact F
      rintro W ⟨hW, hF⟩
      obtain ⟨p0, p1, p2, p3, p4, p5, p6, p7, p8, _⟩ := Held.s9 hW
      have z0 := Held.lt hW (w.heap.size) 0 (.int .i64 x.k) (by simp)
      have z1 := Held.lt hW (w.heap.size + 1) 0 (.int .i64 a) (by simp)
      obtain ⟨r0, r1, r2, r3⟩ := Fr.o2 hF
      have zr := Fr.lt hF
      have HW := Lib.hid (Held.is hW)
      go_wp2_with (first | (go_at_call 29; refine (HV _).mono ?_; rintro e w1 ⟨rfl, hb⟩; obtain ⟨H, hcc, hff, hzz⟩ := later_facts hb; clear hb; (try simp at hzz); have hz0 : w.heap.size < w1.heap.size := (by omega); (try (have hz1 : w.heap.size + 1 < w1.heap.size := (by omega))); (try (have hz2 : w.heap.size + 1 + 1 < w1.heap.size := (by omega)))) | (go_at_call 71; refine (HC _).mono ?_; rintro e w1 ⟨rfl, hb⟩; obtain ⟨H, hcc, hff, hzz⟩ := later_facts hb; clear hb; (try simp at hzz); have hz0 : w.heap.size < w1.heap.size := (by omega); (try (have hz1 : w.heap.size + 1 < w1.heap.size := (by omega))); (try (have hz2 : w.heap.size + 1 + 1 < w1.heap.size := (by omega)))) | (go_at_call 72; refine (HM _).mono ?_; rintro e w7 ⟨rfl, hb⟩; have H7 : Hid (Later W w7) := Lib.hid (Later.trans (by repeat (first | (with_reducible exact Later.refl _) | (with_reducible exact Hid.out (by assumption)) | (with_reducible refine Later.alloc ?_ _) | (with_reducible refine Later.setCell ?_ (by simp; omega) _) | (with_reducible refine Later.setCell ?_ (by simp) _) | (with_reducible refine Later.drewN ?_ _) | (with_reducible refine Later.drew ?_) | (with_reducible refine Later.trans ?_ (Hid.out (by assumption))))) hb); clear hb))
      have hgz : w.heap.size + 1 + 1 < w7.heap.size := by have := H7.out.size; omega
      refine into (fun W => Held ((w7.heap.size, 0, .int .i64 p) :: (w7.heap.size, 1, .int .i64 q) :: [(w.heap.size + 1, 0, .int .i64 a), (w.heap.size + 1, 1, .int .i64 b), (w.heap.size, 0, .int .i64 x.k), (w.heap.size, 1, .int .i64 x.l), (w.heap.size, 2, .int .i64 x.r), (w.heap.size, 3, .int .i64 x.a), (w.heap.size, 4, .int .i64 x.b), (w.heap.size, 5, .int .i64 x.c), (w.heap.size, 6, .int .i64 x.d)]) w W ∧ Fr (w.heap.size + 1 + 1) [.int .i64 0, .int .i64 0] W) ⟨held_box (Held.later hW (by repeat (first | exact H7.out | refine Later.drew ?_ | refine Later.drewN ?_ _))) w7.heap.size [.int .i64 p, .int .i64 q] _ rfl, fr_later hF ((by repeat (first | exact H7.out | refine Later.alloc ?_ _ | refine Later.drew ?_ | refine Later.drewN ?_ _)))⟩ ?_
      clear p0 p1 p2 p3 p4 p5 p6 p7 p8 r0 r1 r2 r3
      rintro W' ⟨hW, F⟩
      clear hF
      have hW : Held [(w7.heap.size, 0, .int .i64 p), (w7.heap.size, 1, .int .i64 q), (w.heap.size + 1, 0, .int .i64 a), (w.heap.size + 1, 1, .int .i64 b), (w.heap.size, 1, .int .i64 x.l)] w W' := ⟨fun x hx => hW.1 x (by simp at hx ⊢; rcases hx with rfl | rfl | rfl | rfl | rfl <;> simp), hW.2⟩
      obtain ⟨r0, r1, r2, r3⟩ := Fr.o2 F
      have z3 := hW.lt w7.heap.size 0 (.int .i64 p) (by simp)
      have ne1 : ¬ w7.heap.size = w.heap.size + 1 + 1 := by omega
      have ne2 : ¬ w.heap.size + 1 + 1 = w7.heap.size := by omega
      have hls : ∀ y ∈ ([(w7.heap.size, 0, .int .i64 p), (w7.heap.size, 1, .int .i64 q), (w.heap.size + 1, 0, .int .i64 a), (w.heap.size + 1, 1, .int .i64 b), (w.heap.size, 1, .int .i64 x.l)] : List (Nat × Nat × Value)), y.1 ≠ w.heap.size + 1 + 1 := by
        intro y hx; simp at hx; rcases hx with rfl | rfl | rfl | rfl | rfl <;> simp <;> omega
      go_region_held3 (fun w' => w'.cell? ⟨w7.heap.size, 0, none⟩ = some (.int .i64 p) ∧ w'.cell? ⟨w7.heap.size, 1, none⟩ = some (.int .i64 q) ∧ w'.cell? ⟨w.heap.size + 1, 0, none⟩ = some (.int .i64 a) ∧ w'.cell? ⟨w.heap.size + 1, 1, none⟩ = some (.int .i64 b) ∧ w'.cell? ⟨w.heap.size, 1, none⟩ = some (.int .i64 x.l) ∧ Held [(w7.heap.size, 0, .int .i64 p), (w7.heap.size, 1, .int .i64 q), (w.heap.size + 1, 0, .int .i64 a), (w.heap.size + 1, 1, .int .i64 b), (w.heap.size, 1, .int .i64 x.l)] w w') ((refine Held.s5 ?_; (repeat (first | refine Held.drew ?_ | refine Held.drewN ?_ _ | refine Held.setNe ?_ _ _ hls (by simp <;> omega))); refine Held.later hW ?_; repeat (first | exact Later.refl _ | refine Later.drew ?_ | refine Later.drewN ?_ _ | refine Later.alloc ?_ _ | refine Later.trans ?_ (Hid.out (by assumption)))))
        (first | (go_at_call 73; refine (HT _).mono ?_; rintro e w1 ⟨rfl, hb⟩; have H := Lib.hid hb; (first | (have F := fr_later F hb; obtain ⟨f1, f2, f3, f4⟩ := Fr.o2 F) | (have F := fr_later F (later_undrew hb); obtain ⟨f1, f2, f3, f4⟩ := Fr.o2 F) | (have F := fr_later F (later_undrewN hb); obtain ⟨f1, f2, f3, f4⟩ := Fr.o2 F)); clear hb) | (go_at_call 74; refine (HO _).mono ?_; rintro e w1 ⟨rfl, hb⟩; have H := Lib.hid hb; (first | (have F := fr_later F hb; obtain ⟨f1, f2, f3, f4⟩ := Fr.o2 F) | (have F := fr_later F (later_undrew hb); obtain ⟨f1, f2, f3, f4⟩ := Fr.o2 F) | (have F := fr_later F (later_undrewN hb); obtain ⟨f1, f2, f3, f4⟩ := Fr.o2 F)); clear hb))
      all_goals
        go_wp2_with fail
        refine bodyPost_ret (v := .tuple #[.agg #[.int .i64 fA, .int .i64 cB], .int .i64 0]) (by simp [results, Try.results24, go_sem, *]) rfl ⟨rfl, (by repeat (first | exact Held.is hW | refine Later.drew ?_ | refine Later.drewN ?_ _ | refine Later.setCell ?_ (by simp <;> omega) _ | refine Later.alloc ?_ _ | refine Later.trans ?_ (Hid.out (by assumption))))⟩
    · have hnv : pvV x a b ≠ 0 := by
        unfold pvV vrd; rw [if_pos hb]; split
        · decide
        · first | decide | (rw [if_neg hn]; decide)
      have e1 : tdE x a b = 5 := by unfold tdE; rw [if_pos hb, if_neg hn]
      have e2 : tdL x a b = 0 := by unfold tdL; rw [e1]; rfl
      have e3 : tdH x a b = 0 := by unfold tdH; rw [e1]; rfl
      rw [e1, e2, e3]
      rw [v1] at HV
      generalize pvV x a b = v at *
      have hnb : (v != 0) = true := by simpa using hnv
      clear e1 e2 e3 v1 hb hc e hn hnv
      go_enter Try.func24, Try.ntmps24
      go_wp2_with (go_at_call 29; refine (HV _).mono ?_; rintro e w1 ⟨rfl, hb⟩; obtain ⟨H, hcc, hff, hzz⟩ := later_facts hb; clear hb; (try simp at hzz); have hz0 : w.heap.size < w1.heap.size := (by omega); (try (have hz1 : w.heap.size + 1 < w1.heap.size := (by omega))); (try (have hz2 : w.heap.size + 1 + 1 < w1.heap.size := (by omega))))
      refine bodyPost_ret (v := .tuple #[.agg #[.int .i64 0, .int .i64 0], .int .i64 5]) (by simp [results, Try.results24, go_sem, *]) rfl ⟨rfl, (by repeat (first | (with_reducible exact Later.refl _) | (with_reducible exact Hid.out (by assumption)) | (with_reducible refine Later.alloc ?_ _) | (with_reducible refine Later.setCell ?_ (by simp; omega) _) | (with_reducible refine Later.setCell ?_ (by simp) _) | (with_reducible refine Later.drewN ?_ _) | (with_reducible refine Later.drew ?_) | (with_reducible refine Later.trans ?_ (Hid.out (by assumption)))))⟩
  · have v1 : pvE x a b = 1 := by unfold pvE inE; rw [if_neg hb]
    have e1 : tdE x a b = 1 := by unfold tdE; rw [if_neg hb]
    have e2 : tdL x a b = 0 := by unfold tdL; rw [e1]; rfl
    have e3 : tdH x a b = 0 := by unfold tdH; rw [e1]; rfl
    rw [e1, e2, e3]
    rw [v1] at HV
    generalize pvV x a b = v at *
    clear e1 e2 e3 v1 hb
    go_enter Try.func24, Try.ntmps24
    go_wp2_with (go_at_call 29; refine (HV _).mono ?_; rintro e w1 ⟨rfl, hb⟩; obtain ⟨H, hcc, hff, hzz⟩ := later_facts hb; clear hb; (try simp at hzz); have hz0 : w.heap.size < w1.heap.size := (by omega); (try (have hz1 : w.heap.size + 1 < w1.heap.size := (by omega))); (try (have hz2 : w.heap.size + 1 + 1 < w1.heap.size := (by omega))))
    refine bodyPost_ret (v := .tuple #[.agg #[.int .i64 0, .int .i64 0], .int .i64 1]) (by simp [results, Try.results24, go_sem, *]) rfl ⟨rfl, (by repeat (first | (with_reducible exact Later.refl _) | (with_reducible exact Hid.out (by assumption)) | (with_reducible refine Later.alloc ?_ _) | (with_reducible refine Later.setCell ?_ (by simp; omega) _) | (with_reducible refine Later.setCell ?_ (by simp) _) | (with_reducible refine Later.drewN ?_ _) | (with_reducible refine Later.drew ?_) | (with_reducible refine Later.trans ?_ (Hid.out (by assumption)))))⟩
set_option maxRecDepth 100000 in
theorem i_LiftTime (x : Sg) (w : World) :
    Calls Try.prog 27 #[.agg #[.int .i64 x.k, .int .i64 x.l, .int .i64 x.r, .int .i64 x.a, .int .i64 x.b, .int .i64 x.c, .int .i64 x.d]] w fun e w' => e = .returned (.tuple #[.agg #[.int .i64 (ltL x), .int .i64 (ltH x)], .int .i64 (ltE x)]) ∧ Later w w' := by
  cases h : sgB x
  · have e1 : ltE x = 1 := by unfold ltE; rw [h]; rfl
    have e2 : ltL x = 0 := by unfold ltL; rw [e1]; rfl
    have e3 : ltH x = 0 := by unfold ltH; rw [e1]; rfl
    rw [e1, e2, e3]
    clear e1 e2 e3
    go_enter Try.func27, Try.ntmps27
    go_wp2_with (go_at_call 63; refine (i_IsSegment x _).mono ?_; rintro e w1 ⟨rfl, hb⟩; obtain ⟨H, hcc, hff, hzz⟩ := later_facts hb; clear hb; (try simp at hzz); have hz0 : w.heap.size < w1.heap.size := (by omega); (try (have hz1 : w.heap.size + 1 < w1.heap.size := (by omega))); (try (have hz2 : w.heap.size + 1 + 1 < w1.heap.size := (by omega))))
    refine bodyPost_ret (v := .tuple #[.agg #[.int .i64 0, .int .i64 0], .int .i64 1]) (by simp [results, Try.results27, go_sem, *]) rfl ⟨rfl, (by repeat (first | (with_reducible exact Later.refl _) | (with_reducible exact Hid.out (by assumption)) | (with_reducible refine Later.alloc ?_ _) | (with_reducible refine Later.setCell ?_ (by simp; omega) _) | (with_reducible refine Later.setCell ?_ (by simp) _) | (with_reducible refine Later.drewN ?_ _) | (with_reducible refine Later.drew ?_) | (with_reducible refine Later.trans ?_ (Hid.out (by assumption)))))⟩
  · by_cases hk : x.k = 1
    · have hkb : (x.k != 1) = false := by simpa using hk
      have e1 : ltE x = 0 := by unfold ltE; rw [h, if_pos rfl, if_pos hk]
      have e2 : ltL x = flo (1000 * x.l) x.d := by unfold ltL okV; rw [e1]; rfl
      have e3 : ltH x = cei (1000 * x.l) x.c := by unfold ltH okV; rw [e1]; rfl
      rw [e1, e2, e3]
      have g := (sgB_iff x).1 h
      obtain ⟨l1, l2⟩ := g.2.1
      have f := g.2.2.2.2.2 (by omega)
      have HT := fun w => i_times_nn x.l x.l 1000 w (by omega) (by omega) (by omega) (by omega) (by omega)
      rw [show x.l * 1000 = 1000 * x.l by omega] at HT
      have HO := fun w => i_over (1000 * x.l) (1000 * x.l) x.c x.d w (by omega) (by omega) (by omega) (by omega) (by omega) (by omega) (by omega) (by omega)
      generalize flo (1000 * x.l) x.d = fA at *
      generalize cei (1000 * x.l) x.c = cB at *
      generalize 1000 * x.l = A at *
      clear e1 e2 e3 g f hk
      go_enter Try.func27, Try.ntmps27
      go_upto_region 1 with (fail)
      refine into (fun W => Held [(w.heap.size, 0, .int .i64 x.k), (w.heap.size, 1, .int .i64 x.l), (w.heap.size, 2, .int .i64 x.r), (w.heap.size, 3, .int .i64 x.a), (w.heap.size, 4, .int .i64 x.b), (w.heap.size, 5, .int .i64 x.c), (w.heap.size, 6, .int .i64 x.d)] w W ∧ Fr (w.heap.size + 1) [.int .i64 0, .int .i64 0] W) ⟨?_, ?_⟩ ?_
      · exact ((held_box (held_start w) (w.heap.size) [.int .i64 x.k, .int .i64 x.l, .int .i64 x.r, .int .i64 x.a, .int .i64 x.b, .int .i64 x.c, .int .i64 x.d] _ (by first | rfl | simp))).alloc _
      · have F := fr_alloc (X := (w.alloc (.cells [(.int .i64 x.k : Value), .int .i64 x.l, .int .i64 x.r, .int .i64 x.a, .int .i64 x.b, .int .i64 x.c, .int .i64 x.d].toArray 27))) (l := [.int .i64 0, .int .i64 0]) (T := 25) (Later.refl _)
        simp only [World.size_alloc] at F
        exact F
      rintro W ⟨hW, hF⟩
      obtain ⟨p0, p1, p2, p3, p4, p5, p6, _⟩ := Held.s7 hW
      have z0 := Held.lt hW (w.heap.size) 0 (.int .i64 x.k) (by simp)
      obtain ⟨r0, r1, r2, r3⟩ := Fr.o2 hF
      have zr := Fr.lt hF
      have HW := Lib.hid (Held.is hW)
      go_wp2_with (go_at_call 63; refine (i_IsSegment x _).mono ?_; rw [h]; rintro e w7 ⟨rfl, hb⟩; have H7 : Hid (Later W w7) := Lib.hid (Later.trans (by repeat (first | (with_reducible exact Later.refl _) | (with_reducible exact Hid.out (by assumption)) | (with_reducible refine Later.alloc ?_ _) | (with_reducible refine Later.setCell ?_ (by simp; omega) _) | (with_reducible refine Later.setCell ?_ (by simp) _) | (with_reducible refine Later.drewN ?_ _) | (with_reducible refine Later.drew ?_) | (with_reducible refine Later.trans ?_ (Hid.out (by assumption))))) hb); obtain ⟨H, hcc, hff, hzz⟩ := later_facts hb; clear hb)
      have hgz : w.heap.size + 1 < w7.heap.size := by have := H7.out.size; omega
      refine into (fun W => Held [(w7.heap.size, 0, .int .i64 x.l), (w7.heap.size, 1, .int .i64 x.l), (w.heap.size, 0, .int .i64 x.k), (w.heap.size, 1, .int .i64 x.l), (w.heap.size, 2, .int .i64 x.r), (w.heap.size, 3, .int .i64 x.a), (w.heap.size, 4, .int .i64 x.b), (w.heap.size, 5, .int .i64 x.c), (w.heap.size, 6, .int .i64 x.d)] w W ∧ Fr (w.heap.size + 1) [.int .i64 0, .int .i64 0] W) ⟨held_box (Held.later hW (by repeat (first | exact H7.out | refine Later.drew ?_ | refine Later.drewN ?_ _))) w7.heap.size [.int .i64 x.l, .int .i64 x.l] _ rfl, fr_later hF ((by repeat (first | exact H7.out | refine Later.alloc ?_ _ | refine Later.drew ?_ | refine Later.drewN ?_ _)))⟩ ?_
      clear p0 p1 p2 p3 p4 p5 p6 r0 r1 r2 r3
      clear hcc hff hzz H
      rintro W' ⟨hW, F⟩
      clear hF
      have hW : Held [(w7.heap.size, 0, .int .i64 x.l), (w7.heap.size, 1, .int .i64 x.l), (w.heap.size, 5, .int .i64 x.c), (w.heap.size, 6, .int .i64 x.d)] w W' := ⟨fun x hx => hW.1 x (by simp at hx ⊢; rcases hx with rfl | rfl | rfl | rfl <;> simp), hW.2⟩
      obtain ⟨r0, r1, r2, r3⟩ := Fr.o2 F
      have z3 := hW.lt w7.heap.size 0 (.int .i64 x.l) (by simp)
      have ne1 : ¬ w7.heap.size = w.heap.size + 1 := by omega
      have ne2 : ¬ w.heap.size + 1 = w7.heap.size := by omega
      have hls : ∀ y ∈ ([(w7.heap.size, 0, .int .i64 x.l), (w7.heap.size, 1, .int .i64 x.l), (w.heap.size, 5, .int .i64 x.c), (w.heap.size, 6, .int .i64 x.d)] : List (Nat × Nat × Value)), y.1 ≠ w.heap.size + 1 := by
        intro y hx; simp at hx; rcases hx with rfl | rfl | rfl | rfl <;> simp <;> omega
      go_region_held3 (fun w' => w'.cell? ⟨w7.heap.size, 0, none⟩ = some (.int .i64 x.l) ∧ w'.cell? ⟨w7.heap.size, 1, none⟩ = some (.int .i64 x.l) ∧ w'.cell? ⟨w.heap.size, 5, none⟩ = some (.int .i64 x.c) ∧ w'.cell? ⟨w.heap.size, 6, none⟩ = some (.int .i64 x.d) ∧ Held [(w7.heap.size, 0, .int .i64 x.l), (w7.heap.size, 1, .int .i64 x.l), (w.heap.size, 5, .int .i64 x.c), (w.heap.size, 6, .int .i64 x.d)] w w') ((refine Held.s4 ?_; (repeat (first | refine Held.drew ?_ | refine Held.drewN ?_ _ | refine Held.setNe ?_ _ _ hls (by simp <;> omega))); refine Held.later hW ?_; repeat (first | exact Later.refl _ | refine Later.drew ?_ | refine Later.drewN ?_ _ | refine Later.alloc ?_ _ | refine Later.trans ?_ (Hid.out (by assumption)))))
        (first | (go_at_call 73; refine (HT _).mono ?_; rintro e w1 ⟨rfl, hb⟩; have H := Lib.hid hb; (first | (have F := fr_later F hb; obtain ⟨f1, f2, f3, f4⟩ := Fr.o2 F) | (have F := fr_later F (later_undrew hb); obtain ⟨f1, f2, f3, f4⟩ := Fr.o2 F) | (have F := fr_later F (later_undrewN hb); obtain ⟨f1, f2, f3, f4⟩ := Fr.o2 F)); clear hb) | (go_at_call 74; refine (HO _).mono ?_; rintro e w1 ⟨rfl, hb⟩; have H := Lib.hid hb; (first | (have F := fr_later F hb; obtain ⟨f1, f2, f3, f4⟩ := Fr.o2 F) | (have F := fr_later F (later_undrew hb); obtain ⟨f1, f2, f3, f4⟩ := Fr.o2 F) | (have F := fr_later F (later_undrewN hb); obtain ⟨f1, f2, f3, f4⟩ := Fr.o2 F)); clear hb))
      all_goals
        go_wp2_with fail
        refine bodyPost_ret (v := .tuple #[.agg #[.int .i64 fA, .int .i64 cB], .int .i64 0]) (by simp [results, Try.results27, go_sem, *]) rfl ⟨rfl, (by repeat (first | exact Held.is hW | refine Later.drew ?_ | refine Later.drewN ?_ _ | refine Later.setCell ?_ (by simp <;> omega) _ | refine Later.alloc ?_ _ | refine Later.trans ?_ (Hid.out (by assumption))))⟩
    · have hkb : (x.k != 1) = true := by simpa using hk
      have e1 : ltE x = 5 := by unfold ltE; rw [h, if_pos rfl, if_neg hk]
      have e2 : ltL x = 0 := by unfold ltL; rw [e1]; rfl
      have e3 : ltH x = 0 := by unfold ltH; rw [e1]; rfl
      rw [e1, e2, e3]
      clear e1 e2 e3 hk
      go_enter Try.func27, Try.ntmps27
      go_upto_region 1 with (fail)
      refine into (fun W => Held [(w.heap.size, 0, .int .i64 x.k), (w.heap.size, 1, .int .i64 x.l), (w.heap.size, 2, .int .i64 x.r), (w.heap.size, 3, .int .i64 x.a), (w.heap.size, 4, .int .i64 x.b), (w.heap.size, 5, .int .i64 x.c), (w.heap.size, 6, .int .i64 x.d)] w W ∧ Fr (w.heap.size + 1) [.int .i64 0, .int .i64 0] W) ⟨?_, ?_⟩ ?_
      · exact ((held_box (held_start w) (w.heap.size) [.int .i64 x.k, .int .i64 x.l, .int .i64 x.r, .int .i64 x.a, .int .i64 x.b, .int .i64 x.c, .int .i64 x.d] _ (by first | rfl | simp))).alloc _
      · have F := fr_alloc (X := (w.alloc (.cells [(.int .i64 x.k : Value), .int .i64 x.l, .int .i64 x.r, .int .i64 x.a, .int .i64 x.b, .int .i64 x.c, .int .i64 x.d].toArray 27))) (l := [.int .i64 0, .int .i64 0]) (T := 25) (Later.refl _)
        simp only [World.size_alloc] at F
        exact F
      rintro W ⟨hW, hF⟩
      obtain ⟨p0, p1, p2, p3, p4, p5, p6, _⟩ := Held.s7 hW
      have z0 := Held.lt hW (w.heap.size) 0 (.int .i64 x.k) (by simp)
      obtain ⟨r0, r1, r2, r3⟩ := Fr.o2 hF
      have zr := Fr.lt hF
      have HW := Lib.hid (Held.is hW)
      go_wp2_with (go_at_call 63; refine (i_IsSegment x _).mono ?_; rintro e w1 ⟨rfl, hb⟩; obtain ⟨H, hcc, hff, hzz⟩ := later_facts hb; clear hb; (try simp at hzz); have hz0 : w.heap.size < w1.heap.size := (by omega); (try (have hz1 : w.heap.size + 1 < w1.heap.size := (by omega))); (try (have hz2 : w.heap.size + 1 + 1 < w1.heap.size := (by omega))))
      refine bodyPost_ret (v := .tuple #[.agg #[.int .i64 0, .int .i64 0], .int .i64 5]) (by simp [results, Try.results27, go_sem, *]) rfl ⟨rfl, (by repeat (first | (with_reducible exact Later.refl _) | (with_reducible exact Hid.out (by assumption)) | (with_reducible refine Later.alloc ?_ _) | (with_reducible refine Later.setCell ?_ (by simp; omega) _) | (with_reducible refine Later.setCell ?_ (by simp) _) | (with_reducible refine Later.drewN ?_ _) | (with_reducible refine Later.drew ?_) | (with_reducible refine Later.trans ?_ (Hid.out (by assumption)))))⟩
end Go.Proofs.Ytdhoiiejcmnmbaa
