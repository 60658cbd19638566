/- Contracts of chapter 6: the model's speeds, verdicts, energies behind a segment. -/
import Derived.Test.YtnmlkigpiaekjaaEnS
import Derived.Deep.RegionWith
namespace Go.Proofs.Ytnmlkigpiaekjaa
open Go.RowKit
set_option maxHeartbeats 4000000
set_option linter.unusedVariables false
set_option linter.unusedSimpArgs false
theorem s_EnergyAfter (x : Sg) (a b : Int) (w : World) :
    Calls Try.prog 47 #[.agg #[.int .i64 x.k, .int .i64 x.l, .int .i64 x.r, .int .i64 x.a, .int .i64 x.b, .int .i64 x.c, .int .i64 x.d], .agg #[.int .i64 a, .int .i64 b]] w fun e w' => e = .returned (.tuple #[.agg #[.int .i64 (afL x a b), .int .i64 (afH x a b)], .int .i64 (afE x a b)]) ∧ Later w w' := by
  cases h : sgB x
  · have e1 : afE x a b = 1 := by unfold afE; rw [h]; rfl
    unfold afL afH
    rw [e1]
    go_enter Try.func47, Try.ntmps47
    go_wp2_with (first | (go_at_call 72; refine (s_IsSegment x _).mono ?_; rintro e w1 ⟨rfl, hb⟩; obtain ⟨H, hcc, hff, hzz⟩ := later_facts hb; clear hb; (try simp at hzz); (try simp only [World.heap_drewN, World.cell?_drewN, World.frozen?_drewN] at hcc hff); have hz0 : w.heap.size < w1.heap.size := (by omega); (try (have hz1 : w.heap.size + 1 < w1.heap.size := (by omega))); (try (have hz2 : w.heap.size + 1 + 1 < w1.heap.size := (by omega))); (try (have hz3 : w.heap.size + 1 + 1 + 1 < w1.heap.size := (by omega))); (try (have hz4 : w.heap.size + 1 + 1 + 1 + 1 < w1.heap.size := (by omega)))))
    refine bodyPost_ret (v := .tuple #[.agg #[.int .i64 (okV 1 (a + chL x)), .int .i64 (okV 1 (b + chH x))], .int .i64 1]) (by simp [results, Try.results47, go_sem, okV, *]) rfl ⟨rfl, (by repeat (first | (with_reducible exact Later.refl _) | (with_reducible exact Hid.out (by assumption)) | (with_reducible refine Later.alloc ?_ _) | (with_reducible refine Later.setCell ?_ (by simp; omega) _) | (with_reducible refine Later.setCell ?_ (by simp) _) | (with_reducible refine Later.drewN ?_ _) | (with_reducible refine Later.drew ?_) | (with_reducible refine Later.trans ?_ (Hid.out (by assumption)))))⟩
  · cases h2 : enB a b
    · have e1 : afE x a b = 1 := by unfold afE; rw [h, h2]; rfl
      unfold afL afH
      rw [e1]
      go_enter Try.func47, Try.ntmps47
      go_upto_region 1 with (fail)
      refine into (fun W => Held [(w.heap.size + 1, 0, .int .i64 a), (w.heap.size + 1, 1, .int .i64 b), (w.heap.size, 0, .int .i64 x.k), (w.heap.size, 1, .int .i64 x.l), (w.heap.size, 2, .int .i64 x.r), (w.heap.size, 3, .int .i64 x.a), (w.heap.size, 4, .int .i64 x.b), (w.heap.size, 5, .int .i64 x.c), (w.heap.size, 6, .int .i64 x.d)] w W ∧ Fr (w.heap.size + 1 + 1) [.int .i64 0, .int .i64 0] W) ⟨?_, ?_⟩ ?_
      · exact (held_box (held_box (held_start w) w.heap.size [.int .i64 x.k, .int .i64 x.l, .int .i64 x.r, .int .i64 x.a, .int .i64 x.b, .int .i64 x.c, .int .i64 x.d] _ rfl) (w.heap.size + 1) [.int .i64 a, .int .i64 b] _ (by simp)).alloc _
      · have F := fr_alloc (X := (w.alloc (.cells [.int .i64 x.k, .int .i64 x.l, .int .i64 x.r, .int .i64 x.a, .int .i64 x.b, .int .i64 x.c, .int .i64 x.d].toArray 77)).alloc (.cells [Value.int .i64 a, .int .i64 b].toArray 28)) (l := [.int .i64 0, .int .i64 0]) (T := 28) (Later.refl _)
        simp only [World.size_alloc] at F
        exact F
      rintro W ⟨hW, hF⟩
      obtain ⟨p7, p8, p0, p1, p2, p3, p4, p5, p6, _⟩ := Held.s9 hW
      obtain ⟨r0, r1, r2, r3⟩ := Fr.o2 hF
      have zz := hW.1
      simp at zz
      obtain ⟨⟨z1, _⟩, _, ⟨z0, _⟩, _⟩ := zz
      have z2 := hF.lt
      have HW := Lib.hid (Held.is hW)
      clear hW hF
      go_wp2_with (first | (go_at_call 72; refine (s_IsSegment x _).mono ?_; rintro e w1 ⟨rfl, hb⟩; obtain ⟨H, hcc, hff, hzz⟩ := later_facts hb; clear hb; (try simp at hzz); (try simp only [World.heap_drewN, World.cell?_drewN, World.frozen?_drewN] at hcc hff); have hz0 : w.heap.size < w1.heap.size := (by omega); (try (have hz1 : w.heap.size + 1 < w1.heap.size := (by omega))); (try (have hz2 : w.heap.size + 1 + 1 < w1.heap.size := (by omega))); (try (have hz3 : w.heap.size + 1 + 1 + 1 < w1.heap.size := (by omega))); (try (have hz4 : w.heap.size + 1 + 1 + 1 + 1 < w1.heap.size := (by omega)))) | (go_at_call 46; refine (s_IsEnergy _ _ _).mono ?_; rintro e w1 ⟨rfl, hb⟩; obtain ⟨H, hcc, hff, hzz⟩ := later_facts hb; clear hb; (try simp at hzz); (try simp only [World.heap_drewN, World.cell?_drewN, World.frozen?_drewN] at hcc hff); have hz0 : w.heap.size < w1.heap.size := (by omega); (try (have hz1 : w.heap.size + 1 < w1.heap.size := (by omega))); (try (have hz2 : w.heap.size + 1 + 1 < w1.heap.size := (by omega))); (try (have hz3 : w.heap.size + 1 + 1 + 1 < w1.heap.size := (by omega))); (try (have hz4 : w.heap.size + 1 + 1 + 1 + 1 < w1.heap.size := (by omega)))))
      refine bodyPost_ret (v := .tuple #[.agg #[.int .i64 (okV 1 (a + chL x)), .int .i64 (okV 1 (b + chH x))], .int .i64 1]) (by simp [results, Try.results47, go_sem, okV, *]) rfl ⟨rfl, (by repeat (first | (with_reducible exact Later.refl _) | (with_reducible exact Hid.out (by assumption)) | (with_reducible refine Later.alloc ?_ _) | (with_reducible refine Later.setCell ?_ (by simp; omega) _) | (with_reducible refine Later.setCell ?_ (by simp) _) | (with_reducible refine Later.drewN ?_ _) | (with_reducible refine Later.drew ?_) | (with_reducible refine Later.trans ?_ (Hid.out (by assumption)))))⟩
    · have e1 : afE x a b = codE (a + chL x) (b + chH x) := by unfold afE; rw [h, h2]; rfl
      unfold afL afH
      rw [e1]
      obtain ⟨c1, c2, c3⟩ := ch_bd x h
      obtain ⟨c4, c5, c6⟩ := (enB_iff a b).1 h2
      clear e1
      go_enter Try.func47, Try.ntmps47
      go_upto_region 1 with (fail)
      refine into (fun W => Held [(w.heap.size + 1, 0, .int .i64 a), (w.heap.size + 1, 1, .int .i64 b), (w.heap.size, 0, .int .i64 x.k), (w.heap.size, 1, .int .i64 x.l), (w.heap.size, 2, .int .i64 x.r), (w.heap.size, 3, .int .i64 x.a), (w.heap.size, 4, .int .i64 x.b), (w.heap.size, 5, .int .i64 x.c), (w.heap.size, 6, .int .i64 x.d)] w W ∧ Fr (w.heap.size + 1 + 1) [.int .i64 0, .int .i64 0] W) ⟨?_, ?_⟩ ?_
      · exact (held_box (held_box (held_start w) w.heap.size [.int .i64 x.k, .int .i64 x.l, .int .i64 x.r, .int .i64 x.a, .int .i64 x.b, .int .i64 x.c, .int .i64 x.d] _ rfl) (w.heap.size + 1) [.int .i64 a, .int .i64 b] _ (by simp)).alloc _
      · have F := fr_alloc (X := (w.alloc (.cells [.int .i64 x.k, .int .i64 x.l, .int .i64 x.r, .int .i64 x.a, .int .i64 x.b, .int .i64 x.c, .int .i64 x.d].toArray 77)).alloc (.cells [Value.int .i64 a, .int .i64 b].toArray 28)) (l := [.int .i64 0, .int .i64 0]) (T := 28) (Later.refl _)
        simp only [World.size_alloc] at F
        exact F
      rintro W ⟨hW, hF⟩
      obtain ⟨p7, p8, p0, p1, p2, p3, p4, p5, p6, _⟩ := Held.s9 hW
      obtain ⟨r0, r1, r2, r3⟩ := Fr.o2 hF
      have zz := hW.1
      simp at zz
      obtain ⟨⟨z1, _⟩, _, ⟨z0, _⟩, _⟩ := zz
      have z2 := hF.lt
      have HW := Lib.hid (Held.is hW)
      go_wp2_with (first | (go_at_call 72; refine (s_IsSegment x _).mono ?_; rintro e w1 ⟨rfl, hb⟩; obtain ⟨H, hcc, hff, hzz⟩ := later_facts hb; clear hb; (try simp at hzz); (try simp only [World.heap_drewN, World.cell?_drewN, World.frozen?_drewN] at hcc hff); have hz0 : w.heap.size < w1.heap.size := (by omega); (try (have hz1 : w.heap.size + 1 < w1.heap.size := (by omega))); (try (have hz2 : w.heap.size + 1 + 1 < w1.heap.size := (by omega))); (try (have hz3 : w.heap.size + 1 + 1 + 1 < w1.heap.size := (by omega))); (try (have hz4 : w.heap.size + 1 + 1 + 1 + 1 < w1.heap.size := (by omega)))) | (go_at_call 46; refine (s_IsEnergy _ _ _).mono ?_; rintro e w1 ⟨rfl, hb⟩; obtain ⟨H, hcc, hff, hzz⟩ := later_facts hb; clear hb; (try simp at hzz); (try simp only [World.heap_drewN, World.cell?_drewN, World.frozen?_drewN] at hcc hff); have hz0 : w.heap.size < w1.heap.size := (by omega); (try (have hz1 : w.heap.size + 1 < w1.heap.size := (by omega))); (try (have hz2 : w.heap.size + 1 + 1 < w1.heap.size := (by omega))); (try (have hz3 : w.heap.size + 1 + 1 + 1 < w1.heap.size := (by omega))); (try (have hz4 : w.heap.size + 1 + 1 + 1 + 1 < w1.heap.size := (by omega)))))
      refine into (fun W => Held [(w.heap.size + 1, 0, .int .i64 a), (w.heap.size + 1, 1, .int .i64 b), (w.heap.size, 0, .int .i64 x.k), (w.heap.size, 1, .int .i64 x.l), (w.heap.size, 2, .int .i64 x.r), (w.heap.size, 3, .int .i64 x.a), (w.heap.size, 4, .int .i64 x.b), (w.heap.size, 5, .int .i64 x.c), (w.heap.size, 6, .int .i64 x.d)] w W ∧ Fr (w.heap.size + 1 + 1) [.int .i64 0, .int .i64 0] W) ⟨Held.later hW (by repeat (first | (with_reducible exact Later.refl _) | (with_reducible exact Hid.out (by assumption)) | (with_reducible refine Later.alloc ?_ _) | (with_reducible refine Later.setCell ?_ (by simp; omega) _) | (with_reducible refine Later.setCell ?_ (by simp) _) | (with_reducible refine Later.drewN ?_ _) | (with_reducible refine Later.drew ?_) | (with_reducible refine Later.trans ?_ (Hid.out (by assumption))))), fr_later hF (by repeat (first | (with_reducible exact Later.refl _) | (with_reducible exact Hid.out (by assumption)) | (with_reducible refine Later.alloc ?_ _) | (with_reducible refine Later.setCell ?_ (by simp; omega) _) | (with_reducible refine Later.setCell ?_ (by simp) _) | (with_reducible refine Later.drewN ?_ _) | (with_reducible refine Later.drew ?_) | (with_reducible refine Later.trans ?_ (Hid.out (by assumption)))))⟩ ?_
      clear p0 p1 p2 p3 p4 p5 p6 p7 p8 r0 r1 r2 r3
      rintro W ⟨hW, F⟩
      go_region_held3 (fun w' => w'.cell? ⟨w.heap.size + 1, 0, none⟩ = some (.int .i64 a) ∧ w'.cell? ⟨w.heap.size + 1, 1, none⟩ = some (.int .i64 b) ∧ w'.cell? ⟨w.heap.size, 0, none⟩ = some (.int .i64 x.k) ∧ w'.cell? ⟨w.heap.size, 1, none⟩ = some (.int .i64 x.l) ∧ w'.cell? ⟨w.heap.size, 2, none⟩ = some (.int .i64 x.r) ∧ w'.cell? ⟨w.heap.size, 3, none⟩ = some (.int .i64 x.a) ∧ w'.cell? ⟨w.heap.size, 4, none⟩ = some (.int .i64 x.b) ∧ w'.cell? ⟨w.heap.size, 5, none⟩ = some (.int .i64 x.c) ∧ w'.cell? ⟨w.heap.size, 6, none⟩ = some (.int .i64 x.d) ∧ Held [(w.heap.size + 1, 0, .int .i64 a), (w.heap.size + 1, 1, .int .i64 b), (w.heap.size, 0, .int .i64 x.k), (w.heap.size, 1, .int .i64 x.l), (w.heap.size, 2, .int .i64 x.r), (w.heap.size, 3, .int .i64 x.a), (w.heap.size, 4, .int .i64 x.b), (w.heap.size, 5, .int .i64 x.c), (w.heap.size, 6, .int .i64 x.d)] w w') ((refine Held.s9 ?_; (repeat (refine Held.setCell ?_ _ _ (by simp <;> omega) (by simp <;> omega))); refine Held.later hW ?_; repeat (first | exact Later.refl _ | refine Later.drew ?_ | refine Later.drewN ?_ _ | refine Later.alloc ?_ _ | refine Later.trans ?_ (Hid.out (by assumption)))))
        (first | (go_at_call 58; refine (s_Change x _ h).mono ?_; rintro e w1 ⟨rfl, hb⟩; have H := Lib.hid hb; (first | (have F := fr_later F hb; obtain ⟨f1, f2, f3, f4⟩ := Fr.o2 F) | (have F := fr_later F (later_undrew hb); obtain ⟨f1, f2, f3, f4⟩ := Fr.o2 F) | (have F := fr_later F (later_undrewN hb); obtain ⟨f1, f2, f3, f4⟩ := Fr.o2 F)); clear hb) | (go_at_call 57; refine (s_l06Sum _ _ _ _ _ (by omega) (by omega) (by omega) (by omega) (by omega) (by omega) (by omega) (by omega)).mono ?_; rintro e w1 ⟨rfl, hb⟩; have H := Lib.hid hb; (first | (have F := fr_later F hb; obtain ⟨f1, f2, f3, f4⟩ := Fr.o2 F) | (have F := fr_later F (later_undrew hb); obtain ⟨f1, f2, f3, f4⟩ := Fr.o2 F) | (have F := fr_later F (later_undrewN hb); obtain ⟨f1, f2, f3, f4⟩ := Fr.o2 F)); clear hb) | (go_at_call 80; refine (s_Check _ _ _).mono ?_; rintro e w1 ⟨rfl, hb⟩; have H := Lib.hid hb; (first | (have F := fr_later F hb; obtain ⟨f1, f2, f3, f4⟩ := Fr.o2 F) | (have F := fr_later F (later_undrew hb); obtain ⟨f1, f2, f3, f4⟩ := Fr.o2 F) | (have F := fr_later F (later_undrewN hb); obtain ⟨f1, f2, f3, f4⟩ := Fr.o2 F)); clear hb))
      all_goals
        go_wp2_with fail
        refine bodyPost_ret (v := .tuple #[.agg #[.int .i64 (okV (codE (a + chL x) (b + chH x)) (a + chL x)), .int .i64 (okV (codE (a + chL x) (b + chH x)) (b + chH x))], .int .i64 (codE (a + chL x) (b + chH x))]) (by simp [results, Try.results47, go_sem, *]) rfl ⟨rfl, Later.setCell (Later.setCell (Later.trans (Held.is hW) (by (repeat (first | exact Later.refl _ | refine Later.drew ?_ | refine Later.drewN ?_ _ | refine Later.alloc ?_ _ | refine Later.trans ?_ (Hid.out (by assumption)))); done)) (by simp <;> omega) _) (by simp <;> omega) _⟩
end Go.Proofs.Ytnmlkigpiaekjaa
