/- Contracts of chapter 7: the work of a brake, of the program. -/
import Derived.Test.YtnmlkigpiaekjaaBrM
import Derived.Test.YtnmlkigpiaekjaaEnK
namespace Go.Proofs.Ytnmlkigpiaekjaa
open Go.RowKit
set_option maxHeartbeats 4000000
set_option linter.unusedVariables false
set_option linter.unusedSimpArgs false
theorem i_slows (a b : Int) (w : World) : Calls Try.prog 122 #[.agg #[.int .i64 a, .int .i64 b]] w fun e w' => e = .returned (.bool (decide (1 ≤ a))) ∧ Later w w' := by
  go_enter Try.func122, Try.ntmps122
  go_wp2
  go_ret
  exact ⟨ret_b (by first | rfl | simp), (by repeat (first | (with_reducible exact Later.refl _) | (with_reducible exact Hid.out (by assumption)) | (with_reducible refine Later.alloc ?_ _) | (with_reducible refine Later.setCell ?_ (by simp; omega) _) | (with_reducible refine Later.setCell ?_ (by simp) _) | (with_reducible refine Later.drewN ?_ _) | (with_reducible refine Later.drew ?_) | (with_reducible refine Later.trans ?_ (Hid.out (by assumption)))))⟩
theorem i_deviceEnergy (x : Sg) (w : World) (h : sgB x = true) :
    Calls Try.prog 123 #[.agg #[.int .i64 x.k, .int .i64 x.l, .int .i64 x.r, .int .i64 x.a, .int .i64 x.b, .int .i64 x.c, .int .i64 x.d]] w fun e w' => e = .returned (.agg #[.int .i64 (fcL x), .int .i64 (fcH x)]) ∧ Later w w' := by
  obtain ⟨g1, g2, g3, g4, g5, g6⟩ := fc_bd x h
  obtain ⟨l1, l2⟩ := ((sgB_iff x).1 h).2.1
  unfold fcL fcH at *
  go_enter Try.func123, Try.ntmps123
  go_wp2_with (first | (go_at_call 99; refine (i_times_nn _ _ _ _ (by omega) (by omega) (by omega) (by omega) (by omega)).mono ?_; rintro e w1 ⟨rfl, hb⟩; obtain ⟨H, hcc, hff, hzz⟩ := later_facts hb; clear hb; (try simp at hzz); (try simp only [World.heap_drewN, World.cell?_drewN, World.frozen?_drewN] at hcc hff); have hz0 : w.heap.size < w1.heap.size := (by omega); (try (have hz1 : w.heap.size + 1 < w1.heap.size := (by omega))); (try (have hz2 : w.heap.size + 1 + 1 < w1.heap.size := (by omega))); (try (have hz3 : w.heap.size + 1 + 1 + 1 < w1.heap.size := (by omega))); (try (have hz4 : w.heap.size + 1 + 1 + 1 + 1 < w1.heap.size := (by omega)))))
  refine bodyPost_ret (v := .agg #[.int .i64 (x.c * (2 * x.l)), .int .i64 (x.d * (2 * x.l))]) (by simp [results, Try.results123, go_sem, *]) rfl ⟨rfl, (by repeat (first | (with_reducible exact Later.refl _) | (with_reducible exact Hid.out (by assumption)) | (with_reducible refine Later.alloc ?_ _) | (with_reducible refine Later.setCell ?_ (by simp; omega) _) | (with_reducible refine Later.setCell ?_ (by simp) _) | (with_reducible refine Later.drewN ?_ _) | (with_reducible refine Later.drew ?_) | (with_reducible refine Later.trans ?_ (Hid.out (by assumption)))))⟩
theorem i_BrakeWork (x : Sg) (w : World) :
    Calls Try.prog 121 #[.agg #[.int .i64 x.k, .int .i64 x.l, .int .i64 x.r, .int .i64 x.a, .int .i64 x.b, .int .i64 x.c, .int .i64 x.d]] w fun e w' => e = .returned (.tuple #[.agg #[.int .i64 (bwL x), .int .i64 (bwH x)], .int .i64 (brE x)]) ∧ Later w w' := by
  by_cases hk : kndB x.k = true
  · cases h1 : sgB x
    · have hK := Lib.hid hk
      have e1 : brE x = 1 := by unfold brE; rw [h1]; rfl
      have e2 : bwL x = 0 := by unfold bwL; rw [e1]; rfl
      have e3 : bwH x = 0 := by unfold bwH; rw [e1]; rfl
      rw [e1, e2, e3]
      clear hk e1 e2 e3
      go_enter Try.func121, Try.ntmps121
      go_wp2_with (first
      | (go_at_call 111; refine (i_kindOf _ hK.out _).mono ?_; rintro e w' ⟨rfl, rfl⟩)
      | (go_at_call 97; refine (i_IsSegment x _).mono ?_; rintro e w1 ⟨rfl, hb⟩; obtain ⟨H, hcc, hff, hzz⟩ := later_facts hb; clear hb; (try simp at hzz); (try simp only [World.heap_drewN, World.cell?_drewN, World.frozen?_drewN] at hcc hff); have hz0 : w.heap.size < w1.heap.size := (by omega); (try (have hz1 : w.heap.size + 1 < w1.heap.size := (by omega))); (try (have hz2 : w.heap.size + 1 + 1 < w1.heap.size := (by omega))); (try (have hz3 : w.heap.size + 1 + 1 + 1 < w1.heap.size := (by omega))); (try (have hz4 : w.heap.size + 1 + 1 + 1 + 1 < w1.heap.size := (by omega)))))
      refine bodyPost_ret (v := .tuple #[.agg #[.int .i64 0, .int .i64 0], .int .i64 1]) (by simp [results, Try.results121, go_sem, *]) rfl ⟨rfl, (by repeat (first | (with_reducible exact Later.refl _) | (with_reducible exact Hid.out (by assumption)) | (with_reducible refine Later.alloc ?_ _) | (with_reducible refine Later.setCell ?_ (by simp; omega) _) | (with_reducible refine Later.setCell ?_ (by simp) _) | (with_reducible refine Later.drewN ?_ _) | (with_reducible refine Later.drew ?_) | (with_reducible refine Later.trans ?_ (Hid.out (by assumption)))))⟩
    · have hch := Lib.hid (ch_bd x h1)
      have hfc := Lib.hid (fc_bd x h1)
      have hln := Lib.hid ((sgB_iff x).1 h1).2.1
      have HX := Lib.hid h1
      rcases x with ⟨k, l, r, a, b, c, d⟩
      rcases kinds hk with hkk | hkk | hkk | hkk | hkk
      · dsimp only at hkk h1 hk
        subst hkk
        have hK := Lib.hid hk
        have a3 := as0_3; have a4 := as0_4
        have e1 : brE ⟨0, l, r, a, b, c, d⟩ = 5 := by unfold brE; rw [h1]; rfl
        have e2 : bwL ⟨0, l, r, a, b, c, d⟩ = 0 := by unfold bwL; rw [e1]; rfl
        have e3 : bwH ⟨0, l, r, a, b, c, d⟩ = 0 := by unfold bwH; rw [e1]; rfl
        rw [e1, e2, e3]
        clear hk e1 e2 e3 hch hfc hln HX
        go_enter Try.func121, Try.ntmps121
        go_wp2_with (first | (go_at_call 111; refine (i_kindOf _ hK.out _).mono ?_; rintro e w' ⟨rfl, rfl⟩; generalize hq : kndV _ = V; obtain rfl : V = .iface 144 (.agg #[]) := hq.symm.trans (by simp [kndV]); clear hq) | (go_at_call 97; refine (i_IsSegment ⟨0, l, r, a, b, c, d⟩ _).mono ?_; rintro e w1 ⟨rfl, hb⟩; obtain ⟨H, hcc, hff, hzz⟩ := later_facts hb; clear hb; (try simp at hzz); (try simp only [World.heap_drewN, World.cell?_drewN, World.frozen?_drewN] at hcc hff); have hz0 : w.heap.size < w1.heap.size := (by omega); (try (have hz1 : w.heap.size + 1 < w1.heap.size := (by omega))); (try (have hz2 : w.heap.size + 1 + 1 < w1.heap.size := (by omega))); (try (have hz3 : w.heap.size + 1 + 1 + 1 < w1.heap.size := (by omega))); (try (have hz4 : w.heap.size + 1 + 1 + 1 + 1 < w1.heap.size := (by omega)))))
        refine bodyPost_ret (v := .tuple #[.agg #[.int .i64 0, .int .i64 0], .int .i64 5]) (by simp [results, Try.results121, go_sem, *]) rfl ⟨rfl, (by repeat (first | (with_reducible exact Later.refl _) | (with_reducible exact Hid.out (by assumption)) | (with_reducible refine Later.alloc ?_ _) | (with_reducible refine Later.setCell ?_ (by simp; omega) _) | (with_reducible refine Later.setCell ?_ (by simp) _) | (with_reducible refine Later.drewN ?_ _) | (with_reducible refine Later.drew ?_) | (with_reducible refine Later.trans ?_ (Hid.out (by assumption)))))⟩
      · dsimp only at hkk h1 hk
        subst hkk
        have hK := Lib.hid hk
        have a3 := as1_3; have a4 := as1_4
        have e1 : brE ⟨1, l, r, a, b, c, d⟩ = 5 := by unfold brE; rw [h1]; rfl
        have e2 : bwL ⟨1, l, r, a, b, c, d⟩ = 0 := by unfold bwL; rw [e1]; rfl
        have e3 : bwH ⟨1, l, r, a, b, c, d⟩ = 0 := by unfold bwH; rw [e1]; rfl
        rw [e1, e2, e3]
        clear hk e1 e2 e3 hch hfc hln HX
        go_enter Try.func121, Try.ntmps121
        go_wp2_with (first | (go_at_call 111; refine (i_kindOf _ hK.out _).mono ?_; rintro e w' ⟨rfl, rfl⟩; generalize hq : kndV _ = V; obtain rfl : V = .iface 145 (.agg #[]) := hq.symm.trans (by simp [kndV]); clear hq) | (go_at_call 97; refine (i_IsSegment ⟨1, l, r, a, b, c, d⟩ _).mono ?_; rintro e w1 ⟨rfl, hb⟩; obtain ⟨H, hcc, hff, hzz⟩ := later_facts hb; clear hb; (try simp at hzz); (try simp only [World.heap_drewN, World.cell?_drewN, World.frozen?_drewN] at hcc hff); have hz0 : w.heap.size < w1.heap.size := (by omega); (try (have hz1 : w.heap.size + 1 < w1.heap.size := (by omega))); (try (have hz2 : w.heap.size + 1 + 1 < w1.heap.size := (by omega))); (try (have hz3 : w.heap.size + 1 + 1 + 1 < w1.heap.size := (by omega))); (try (have hz4 : w.heap.size + 1 + 1 + 1 + 1 < w1.heap.size := (by omega)))))
        refine bodyPost_ret (v := .tuple #[.agg #[.int .i64 0, .int .i64 0], .int .i64 5]) (by simp [results, Try.results121, go_sem, *]) rfl ⟨rfl, (by repeat (first | (with_reducible exact Later.refl _) | (with_reducible exact Hid.out (by assumption)) | (with_reducible refine Later.alloc ?_ _) | (with_reducible refine Later.setCell ?_ (by simp; omega) _) | (with_reducible refine Later.setCell ?_ (by simp) _) | (with_reducible refine Later.drewN ?_ _) | (with_reducible refine Later.drew ?_) | (with_reducible refine Later.trans ?_ (Hid.out (by assumption)))))⟩
      · dsimp only at hkk h1 hk
        subst hkk
        have hK := Lib.hid hk
        have a3 := as2_3; have a4 := as2_4
        have e1 : brE ⟨2, l, r, a, b, c, d⟩ = 5 := by unfold brE; rw [h1]; rfl
        have e2 : bwL ⟨2, l, r, a, b, c, d⟩ = 0 := by unfold bwL; rw [e1]; rfl
        have e3 : bwH ⟨2, l, r, a, b, c, d⟩ = 0 := by unfold bwH; rw [e1]; rfl
        rw [e1, e2, e3]
        clear hk e1 e2 e3 hch hfc hln HX
        go_enter Try.func121, Try.ntmps121
        go_wp2_with (first | (go_at_call 111; refine (i_kindOf _ hK.out _).mono ?_; rintro e w' ⟨rfl, rfl⟩; generalize hq : kndV _ = V; obtain rfl : V = .iface 146 (.agg #[]) := hq.symm.trans (by simp [kndV]); clear hq) | (go_at_call 97; refine (i_IsSegment ⟨2, l, r, a, b, c, d⟩ _).mono ?_; rintro e w1 ⟨rfl, hb⟩; obtain ⟨H, hcc, hff, hzz⟩ := later_facts hb; clear hb; (try simp at hzz); (try simp only [World.heap_drewN, World.cell?_drewN, World.frozen?_drewN] at hcc hff); have hz0 : w.heap.size < w1.heap.size := (by omega); (try (have hz1 : w.heap.size + 1 < w1.heap.size := (by omega))); (try (have hz2 : w.heap.size + 1 + 1 < w1.heap.size := (by omega))); (try (have hz3 : w.heap.size + 1 + 1 + 1 < w1.heap.size := (by omega))); (try (have hz4 : w.heap.size + 1 + 1 + 1 + 1 < w1.heap.size := (by omega)))))
        refine bodyPost_ret (v := .tuple #[.agg #[.int .i64 0, .int .i64 0], .int .i64 5]) (by simp [results, Try.results121, go_sem, *]) rfl ⟨rfl, (by repeat (first | (with_reducible exact Later.refl _) | (with_reducible exact Hid.out (by assumption)) | (with_reducible refine Later.alloc ?_ _) | (with_reducible refine Later.setCell ?_ (by simp; omega) _) | (with_reducible refine Later.setCell ?_ (by simp) _) | (with_reducible refine Later.drewN ?_ _) | (with_reducible refine Later.drew ?_) | (with_reducible refine Later.trans ?_ (Hid.out (by assumption)))))⟩
      · dsimp only at hkk h1 hk
        subst hkk
        have hK := Lib.hid hk
        have a3 := as3_3; have a4 := as3_4
        have e1 : brE ⟨3, l, r, a, b, c, d⟩ = 0 := by unfold brE; rw [h1]; rfl
        have e2 : bwL ⟨3, l, r, a, b, c, d⟩ = c * (2 * l) - chH ⟨3, l, r, a, b, c, d⟩ := by unfold bwL; rw [e1]; rfl
        have e3 : bwH ⟨3, l, r, a, b, c, d⟩ = d * (2 * l) - chL ⟨3, l, r, a, b, c, d⟩ := by unfold bwH; rw [e1]; rfl
        rw [e1, e2, e3]
        obtain ⟨l1, l2⟩ := hln.out
        obtain ⟨c1, c2, c3⟩ := hch.out
        obtain ⟨g1, g2, g3, g4, g5, g6⟩ := hfc.out
        dsimp only at l1 l2 g1 g2 g3
        have g4 : 0 ≤ c * (2 * l) := g4
        have g5 : c * (2 * l) ≤ d * (2 * l) := g5
        have g6 : d * (2 * l) ≤ 8000000000 := g6
        clear hk e1 e2 e3 hch hfc hln
        generalize hY : chL ⟨3, l, r, a, b, c, d⟩ = y at *
        generalize hZ : chH ⟨3, l, r, a, b, c, d⟩ = z at *
        have HC := fun w => i_coastingChange ⟨3, l, r, a, b, c, d⟩ w HX.out
        rw [hY, hZ] at HC
        have HD := fun w => i_deviceEnergy ⟨3, l, r, a, b, c, d⟩ w HX.out
        rw [show fcL ⟨3, l, r, a, b, c, d⟩ = c * (2 * l) from rfl, show fcH ⟨3, l, r, a, b, c, d⟩ = d * (2 * l) from rfl] at HD
        clear hY hZ
        go_enter Try.func121, Try.ntmps121
        go_upto_region 1 with (fail)
        refine into (fun W => Held [(w.heap.size, 0, .int .i64 3), (w.heap.size, 1, .int .i64 l), (w.heap.size, 2, .int .i64 r), (w.heap.size, 3, .int .i64 a), (w.heap.size, 4, .int .i64 b), (w.heap.size, 5, .int .i64 c), (w.heap.size, 6, .int .i64 d)] w W ∧ Fr (w.heap.size + 1) [.int .i64 0, .int .i64 0] W) ⟨?_, ?_⟩ ?_
        · exact (held_box (held_start w) w.heap.size [.int .i64 3, .int .i64 l, .int .i64 r, .int .i64 a, .int .i64 b, .int .i64 c, .int .i64 d] _ rfl).alloc _
        · have F := fr_alloc (X := (w.alloc (.cells [.int .i64 3, .int .i64 l, .int .i64 r, .int .i64 a, .int .i64 b, .int .i64 c, .int .i64 d].toArray 77))) (l := [.int .i64 0, .int .i64 0]) (T := 28) (Later.refl _)
          simp only [World.size_alloc] at F
          exact F
        rintro W ⟨hW, hF⟩
        obtain ⟨p0, p1, p2, p3, p4, p5, p6, _⟩ := Held.s7 hW
        obtain ⟨r0, r1, r2, r3⟩ := Fr.o2 hF
        have z0 := hW.lt w.heap.size 0 (.int .i64 3) (by simp)
        have z2 := hF.lt
        have HW := Lib.hid (Held.is hW)
        go_wp2_with (first | (go_at_call 111; refine (i_kindOf _ hK.out _).mono ?_; rintro e w' ⟨rfl, rfl⟩; generalize hq : kndV _ = V; obtain rfl : V = .iface 147 (.agg #[]) := hq.symm.trans (by simp [kndV]); clear hq) | (go_at_call 97; refine (i_IsSegment ⟨3, l, r, a, b, c, d⟩ _).mono ?_; rintro e w1 ⟨rfl, hb⟩; obtain ⟨H, hcc, hff, hzz⟩ := later_facts hb; clear hb; (try simp at hzz); (try simp only [World.heap_drewN, World.cell?_drewN, World.frozen?_drewN] at hcc hff); have hz0 : w.heap.size < w1.heap.size := (by omega); (try (have hz1 : w.heap.size + 1 < w1.heap.size := (by omega))); (try (have hz2 : w.heap.size + 1 + 1 < w1.heap.size := (by omega))); (try (have hz3 : w.heap.size + 1 + 1 + 1 < w1.heap.size := (by omega))); (try (have hz4 : w.heap.size + 1 + 1 + 1 + 1 < w1.heap.size := (by omega)))))
        refine into (fun W => Held [(w.heap.size, 0, .int .i64 3), (w.heap.size, 1, .int .i64 l), (w.heap.size, 2, .int .i64 r), (w.heap.size, 3, .int .i64 a), (w.heap.size, 4, .int .i64 b), (w.heap.size, 5, .int .i64 c), (w.heap.size, 6, .int .i64 d)] w W ∧ Fr (w.heap.size + 1) [.int .i64 0, .int .i64 0] W) ⟨Held.later hW (by repeat (first | (with_reducible exact Later.refl _) | (with_reducible exact Hid.out (by assumption)) | (with_reducible refine Later.alloc ?_ _) | (with_reducible refine Later.setCell ?_ (by simp; omega) _) | (with_reducible refine Later.setCell ?_ (by simp) _) | (with_reducible refine Later.drewN ?_ _) | (with_reducible refine Later.drew ?_) | (with_reducible refine Later.trans ?_ (Hid.out (by assumption))))), fr_later hF (by repeat (first | (with_reducible exact Later.refl _) | (with_reducible exact Hid.out (by assumption)) | (with_reducible refine Later.alloc ?_ _) | (with_reducible refine Later.setCell ?_ (by simp; omega) _) | (with_reducible refine Later.setCell ?_ (by simp) _) | (with_reducible refine Later.drewN ?_ _) | (with_reducible refine Later.drew ?_) | (with_reducible refine Later.trans ?_ (Hid.out (by assumption)))))⟩ ?_
        clear p0 p1 p2 p3 p4 p5 p6 r0 r1 r2 r3
        rintro W ⟨hW, F⟩
        have hwr : IntKind.i64.wrap (2 * l) = 2 * l := IntWalk.i64_in _ ⟨by omega, by omega⟩
        go_region_held3 (fun w' => w'.cell? ⟨w.heap.size, 0, none⟩ = some (.int .i64 3) ∧ w'.cell? ⟨w.heap.size, 1, none⟩ = some (.int .i64 l) ∧ w'.cell? ⟨w.heap.size, 2, none⟩ = some (.int .i64 r) ∧ w'.cell? ⟨w.heap.size, 3, none⟩ = some (.int .i64 a) ∧ w'.cell? ⟨w.heap.size, 4, none⟩ = some (.int .i64 b) ∧ w'.cell? ⟨w.heap.size, 5, none⟩ = some (.int .i64 c) ∧ w'.cell? ⟨w.heap.size, 6, none⟩ = some (.int .i64 d) ∧ Held [(w.heap.size, 0, .int .i64 3), (w.heap.size, 1, .int .i64 l), (w.heap.size, 2, .int .i64 r), (w.heap.size, 3, .int .i64 a), (w.heap.size, 4, .int .i64 b), (w.heap.size, 5, .int .i64 c), (w.heap.size, 6, .int .i64 d)] w w') ((refine Held.s7 ?_; (repeat (refine Held.setCell ?_ _ _ (by simp <;> omega) (by simp <;> omega))); refine Held.later hW ?_; repeat (first | exact Later.refl _ | refine Later.drew ?_ | refine Later.drewN ?_ _ | refine Later.alloc ?_ _ | refine Later.trans ?_ (Hid.out (by assumption)))))
          (first | (go_at_call 123; refine (HD _).mono ?_; rintro e w1 ⟨rfl, hb⟩; have H := Lib.hid hb; (first | (have F := fr_later F hb; obtain ⟨f1, f2, f3, f4⟩ := Fr.o2 F) | (have F := fr_later F (later_undrew hb); obtain ⟨f1, f2, f3, f4⟩ := Fr.o2 F) | (have F := fr_later F (later_undrewN hb); obtain ⟨f1, f2, f3, f4⟩ := Fr.o2 F)); clear hb) | (go_at_call 78; refine (HC _).mono ?_; rintro e w1 ⟨rfl, hb⟩; have H := Lib.hid hb; (first | (have F := fr_later F hb; obtain ⟨f1, f2, f3, f4⟩ := Fr.o2 F) | (have F := fr_later F (later_undrew hb); obtain ⟨f1, f2, f3, f4⟩ := Fr.o2 F) | (have F := fr_later F (later_undrewN hb); obtain ⟨f1, f2, f3, f4⟩ := Fr.o2 F)); clear hb) | (go_at_call 98; refine (i_minus _ _ _ _ _ (by omega) (by omega) (by omega) (by omega) (by omega) (by omega) (by omega) (by omega)).mono ?_; rintro e w1 ⟨rfl, hb⟩; have H := Lib.hid hb; (first | (have F := fr_later F hb; obtain ⟨f1, f2, f3, f4⟩ := Fr.o2 F) | (have F := fr_later F (later_undrew hb); obtain ⟨f1, f2, f3, f4⟩ := Fr.o2 F) | (have F := fr_later F (later_undrewN hb); obtain ⟨f1, f2, f3, f4⟩ := Fr.o2 F)); clear hb))
        all_goals
          go_wp2_with fail
          refine bodyPost_ret (v := .tuple #[.agg #[.int .i64 (c * (2 * l) - z), .int .i64 (d * (2 * l) - y)], .int .i64 0]) (by simp [results, Try.results121, go_sem, *]) rfl ⟨rfl, Later.setCell (Later.setCell (Later.trans (Held.is hW) (by (repeat (first | exact Later.refl _ | refine Later.drew ?_ | refine Later.drewN ?_ _ | refine Later.alloc ?_ _ | refine Later.trans ?_ (Hid.out (by assumption)))); done)) (by simp <;> omega) _) (by simp <;> omega) _⟩
      · dsimp only at hkk h1 hk
        subst hkk
        have hK := Lib.hid hk
        have a3 := as4_3; have a4 := as4_4
        have e1 : brE ⟨4, l, r, a, b, c, d⟩ = 0 := by unfold brE; rw [h1]; rfl
        have e2 : bwL ⟨4, l, r, a, b, c, d⟩ = c * (2 * l) - chH ⟨4, l, r, a, b, c, d⟩ := by unfold bwL; rw [e1]; rfl
        have e3 : bwH ⟨4, l, r, a, b, c, d⟩ = d * (2 * l) - chL ⟨4, l, r, a, b, c, d⟩ := by unfold bwH; rw [e1]; rfl
        rw [e1, e2, e3]
        obtain ⟨l1, l2⟩ := hln.out
        obtain ⟨c1, c2, c3⟩ := hch.out
        obtain ⟨g1, g2, g3, g4, g5, g6⟩ := hfc.out
        dsimp only at l1 l2 g1 g2 g3
        have g4 : 0 ≤ c * (2 * l) := g4
        have g5 : c * (2 * l) ≤ d * (2 * l) := g5
        have g6 : d * (2 * l) ≤ 8000000000 := g6
        clear hk e1 e2 e3 hch hfc hln
        generalize hY : chL ⟨4, l, r, a, b, c, d⟩ = y at *
        generalize hZ : chH ⟨4, l, r, a, b, c, d⟩ = z at *
        have HC := fun w => i_coastingChange ⟨4, l, r, a, b, c, d⟩ w HX.out
        rw [hY, hZ] at HC
        have HD := fun w => i_deviceEnergy ⟨4, l, r, a, b, c, d⟩ w HX.out
        rw [show fcL ⟨4, l, r, a, b, c, d⟩ = c * (2 * l) from rfl, show fcH ⟨4, l, r, a, b, c, d⟩ = d * (2 * l) from rfl] at HD
        clear hY hZ
        go_enter Try.func121, Try.ntmps121
        go_upto_region 1 with (fail)
        refine into (fun W => Held [(w.heap.size, 0, .int .i64 4), (w.heap.size, 1, .int .i64 l), (w.heap.size, 2, .int .i64 r), (w.heap.size, 3, .int .i64 a), (w.heap.size, 4, .int .i64 b), (w.heap.size, 5, .int .i64 c), (w.heap.size, 6, .int .i64 d)] w W ∧ Fr (w.heap.size + 1) [.int .i64 0, .int .i64 0] W) ⟨?_, ?_⟩ ?_
        · exact (held_box (held_start w) w.heap.size [.int .i64 4, .int .i64 l, .int .i64 r, .int .i64 a, .int .i64 b, .int .i64 c, .int .i64 d] _ rfl).alloc _
        · have F := fr_alloc (X := (w.alloc (.cells [.int .i64 4, .int .i64 l, .int .i64 r, .int .i64 a, .int .i64 b, .int .i64 c, .int .i64 d].toArray 77))) (l := [.int .i64 0, .int .i64 0]) (T := 28) (Later.refl _)
          simp only [World.size_alloc] at F
          exact F
        rintro W ⟨hW, hF⟩
        obtain ⟨p0, p1, p2, p3, p4, p5, p6, _⟩ := Held.s7 hW
        obtain ⟨r0, r1, r2, r3⟩ := Fr.o2 hF
        have z0 := hW.lt w.heap.size 0 (.int .i64 4) (by simp)
        have z2 := hF.lt
        have HW := Lib.hid (Held.is hW)
        go_wp2_with (first | (go_at_call 111; refine (i_kindOf _ hK.out _).mono ?_; rintro e w' ⟨rfl, rfl⟩; generalize hq : kndV _ = V; obtain rfl : V = .iface 148 (.agg #[]) := hq.symm.trans (by simp [kndV]); clear hq) | (go_at_call 97; refine (i_IsSegment ⟨4, l, r, a, b, c, d⟩ _).mono ?_; rintro e w1 ⟨rfl, hb⟩; obtain ⟨H, hcc, hff, hzz⟩ := later_facts hb; clear hb; (try simp at hzz); (try simp only [World.heap_drewN, World.cell?_drewN, World.frozen?_drewN] at hcc hff); have hz0 : w.heap.size < w1.heap.size := (by omega); (try (have hz1 : w.heap.size + 1 < w1.heap.size := (by omega))); (try (have hz2 : w.heap.size + 1 + 1 < w1.heap.size := (by omega))); (try (have hz3 : w.heap.size + 1 + 1 + 1 < w1.heap.size := (by omega))); (try (have hz4 : w.heap.size + 1 + 1 + 1 + 1 < w1.heap.size := (by omega)))))
        refine into (fun W => Held [(w.heap.size, 0, .int .i64 4), (w.heap.size, 1, .int .i64 l), (w.heap.size, 2, .int .i64 r), (w.heap.size, 3, .int .i64 a), (w.heap.size, 4, .int .i64 b), (w.heap.size, 5, .int .i64 c), (w.heap.size, 6, .int .i64 d)] w W ∧ Fr (w.heap.size + 1) [.int .i64 0, .int .i64 0] W) ⟨Held.later hW (by repeat (first | (with_reducible exact Later.refl _) | (with_reducible exact Hid.out (by assumption)) | (with_reducible refine Later.alloc ?_ _) | (with_reducible refine Later.setCell ?_ (by simp; omega) _) | (with_reducible refine Later.setCell ?_ (by simp) _) | (with_reducible refine Later.drewN ?_ _) | (with_reducible refine Later.drew ?_) | (with_reducible refine Later.trans ?_ (Hid.out (by assumption))))), fr_later hF (by repeat (first | (with_reducible exact Later.refl _) | (with_reducible exact Hid.out (by assumption)) | (with_reducible refine Later.alloc ?_ _) | (with_reducible refine Later.setCell ?_ (by simp; omega) _) | (with_reducible refine Later.setCell ?_ (by simp) _) | (with_reducible refine Later.drewN ?_ _) | (with_reducible refine Later.drew ?_) | (with_reducible refine Later.trans ?_ (Hid.out (by assumption)))))⟩ ?_
        clear p0 p1 p2 p3 p4 p5 p6 r0 r1 r2 r3
        rintro W ⟨hW, F⟩
        have hwr : IntKind.i64.wrap (2 * l) = 2 * l := IntWalk.i64_in _ ⟨by omega, by omega⟩
        go_region_held3 (fun w' => w'.cell? ⟨w.heap.size, 0, none⟩ = some (.int .i64 4) ∧ w'.cell? ⟨w.heap.size, 1, none⟩ = some (.int .i64 l) ∧ w'.cell? ⟨w.heap.size, 2, none⟩ = some (.int .i64 r) ∧ w'.cell? ⟨w.heap.size, 3, none⟩ = some (.int .i64 a) ∧ w'.cell? ⟨w.heap.size, 4, none⟩ = some (.int .i64 b) ∧ w'.cell? ⟨w.heap.size, 5, none⟩ = some (.int .i64 c) ∧ w'.cell? ⟨w.heap.size, 6, none⟩ = some (.int .i64 d) ∧ Held [(w.heap.size, 0, .int .i64 4), (w.heap.size, 1, .int .i64 l), (w.heap.size, 2, .int .i64 r), (w.heap.size, 3, .int .i64 a), (w.heap.size, 4, .int .i64 b), (w.heap.size, 5, .int .i64 c), (w.heap.size, 6, .int .i64 d)] w w') ((refine Held.s7 ?_; (repeat (refine Held.setCell ?_ _ _ (by simp <;> omega) (by simp <;> omega))); refine Held.later hW ?_; repeat (first | exact Later.refl _ | refine Later.drew ?_ | refine Later.drewN ?_ _ | refine Later.alloc ?_ _ | refine Later.trans ?_ (Hid.out (by assumption)))))
          (first | (go_at_call 123; refine (HD _).mono ?_; rintro e w1 ⟨rfl, hb⟩; have H := Lib.hid hb; (first | (have F := fr_later F hb; obtain ⟨f1, f2, f3, f4⟩ := Fr.o2 F) | (have F := fr_later F (later_undrew hb); obtain ⟨f1, f2, f3, f4⟩ := Fr.o2 F) | (have F := fr_later F (later_undrewN hb); obtain ⟨f1, f2, f3, f4⟩ := Fr.o2 F)); clear hb) | (go_at_call 78; refine (HC _).mono ?_; rintro e w1 ⟨rfl, hb⟩; have H := Lib.hid hb; (first | (have F := fr_later F hb; obtain ⟨f1, f2, f3, f4⟩ := Fr.o2 F) | (have F := fr_later F (later_undrew hb); obtain ⟨f1, f2, f3, f4⟩ := Fr.o2 F) | (have F := fr_later F (later_undrewN hb); obtain ⟨f1, f2, f3, f4⟩ := Fr.o2 F)); clear hb) | (go_at_call 98; refine (i_minus _ _ _ _ _ (by omega) (by omega) (by omega) (by omega) (by omega) (by omega) (by omega) (by omega)).mono ?_; rintro e w1 ⟨rfl, hb⟩; have H := Lib.hid hb; (first | (have F := fr_later F hb; obtain ⟨f1, f2, f3, f4⟩ := Fr.o2 F) | (have F := fr_later F (later_undrew hb); obtain ⟨f1, f2, f3, f4⟩ := Fr.o2 F) | (have F := fr_later F (later_undrewN hb); obtain ⟨f1, f2, f3, f4⟩ := Fr.o2 F)); clear hb))
        all_goals
          go_wp2_with fail
          refine bodyPost_ret (v := .tuple #[.agg #[.int .i64 (c * (2 * l) - z), .int .i64 (d * (2 * l) - y)], .int .i64 0]) (by simp [results, Try.results121, go_sem, *]) rfl ⟨rfl, Later.setCell (Later.setCell (Later.trans (Held.is hW) (by (repeat (first | exact Later.refl _ | refine Later.drew ?_ | refine Later.drewN ?_ _ | refine Later.alloc ?_ _ | refine Later.trans ?_ (Hid.out (by assumption)))); done)) (by simp <;> omega) _) (by simp <;> omega) _⟩
  · have hk : kndB x.k = false := by simpa using hk
    have hK := Lib.hid hk
    have e1 : brE x = 1 := by unfold brE sgB; rw [hk]; rfl
    have e2 : bwL x = 0 := by unfold bwL; rw [e1]; rfl
    have e3 : bwH x = 0 := by unfold bwH; rw [e1]; rfl
    rw [e1, e2, e3]
    clear hk e1 e2 e3
    go_enter Try.func121, Try.ntmps121
    go_wp2_with (go_at_call 111; refine (i_kindOf_no _ hK.out _).mono ?_; rintro e w' ⟨rfl, rfl⟩)
    refine bodyPost_ret (v := .tuple #[.agg #[.int .i64 0, .int .i64 0], .int .i64 1]) (by simp [results, Try.results121, go_sem, *]) rfl ⟨rfl, (by repeat (first | (with_reducible exact Later.refl _) | (with_reducible exact Hid.out (by assumption)) | (with_reducible refine Later.alloc ?_ _) | (with_reducible refine Later.setCell ?_ (by simp; omega) _) | (with_reducible refine Later.setCell ?_ (by simp) _) | (with_reducible refine Later.drewN ?_ _) | (with_reducible refine Later.drew ?_) | (with_reducible refine Later.trans ?_ (Hid.out (by assumption)))))⟩
theorem i_slowingWork (x : Sg) (w : World) :
    Calls Try.prog 107 #[.agg #[.int .i64 x.k, .int .i64 x.l, .int .i64 x.r, .int .i64 x.a, .int .i64 x.b, .int .i64 x.c, .int .i64 x.d]] w fun e w' => e = .returned (.tuple #[.agg #[.int .i64 (slL x), .int .i64 (slH x)], .int .i64 (slE x)]) ∧ Later w w' := by
  have HB := fun w => i_BrakeWork x w
  by_cases h : brE x = 0
  · have b2 : bwL x = wkL x := by unfold bwL; rw [h]; rfl
    have b3 : bwH x = wkH x := by unfold bwH; rw [h]; rfl
    rw [h, b2, b3] at HB
    by_cases h2 : 1 ≤ wkL x
    · have e1 : slE x = 0 := by unfold slE; rw [if_pos h, if_pos h2]
      have e2 : slL x = wkL x := by unfold slL; rw [e1]; rfl
      have e3 : slH x = wkH x := by unfold slH; rw [e1]; rfl
      rw [e1, e2, e3]
      generalize wkL x = p at *
      generalize wkH x = q at *
      have hd : decide (1 ≤ p) = true := by simp; exact h2
      clear h b2 b3 e1 e2 e3
      go_enter Try.func107, Try.ntmps107
      go_wp2_with (first | (go_at_call 121; refine (HB _).mono ?_; rintro e w1 ⟨rfl, hb⟩; obtain ⟨H, hcc, hff, hzz⟩ := later_facts hb; clear hb; (try simp at hzz); (try simp only [World.heap_drewN, World.cell?_drewN, World.frozen?_drewN] at hcc hff); have hz0 : w.heap.size < w1.heap.size := (by omega); (try (have hz1 : w.heap.size + 1 < w1.heap.size := (by omega))); (try (have hz2 : w.heap.size + 1 + 1 < w1.heap.size := (by omega))); (try (have hz3 : w.heap.size + 1 + 1 + 1 < w1.heap.size := (by omega))); (try (have hz4 : w.heap.size + 1 + 1 + 1 + 1 < w1.heap.size := (by omega)))) | (go_at_call 122; refine (i_slows _ _ _).mono ?_; rw [hd]; rintro e w1 ⟨rfl, hb⟩; obtain ⟨H, hcc, hff, hzz⟩ := later_facts hb; clear hb; (try simp at hzz)))
      refine bodyPost_ret (v := .tuple #[.agg #[.int .i64 p, .int .i64 q], .int .i64 0]) (by simp [results, Try.results107, go_sem, *]) rfl ⟨rfl, (by repeat (first | (with_reducible exact Later.refl _) | (with_reducible exact Hid.out (by assumption)) | (with_reducible refine Later.alloc ?_ _) | (with_reducible refine Later.setCell ?_ (by simp; omega) _) | (with_reducible refine Later.setCell ?_ (by simp) _) | (with_reducible refine Later.drewN ?_ _) | (with_reducible refine Later.drew ?_) | (with_reducible refine Later.trans ?_ (Hid.out (by assumption)))))⟩
    · have e1 : slE x = 5 := by unfold slE; rw [if_pos h, if_neg h2]
      have e2 : slL x = 0 := by unfold slL; rw [e1]; rfl
      have e3 : slH x = 0 := by unfold slH; rw [e1]; rfl
      rw [e1, e2, e3]
      generalize wkL x = p at *
      generalize wkH x = q at *
      have hd : decide (1 ≤ p) = false := by simp; omega
      clear h b2 b3 e1 e2 e3
      go_enter Try.func107, Try.ntmps107
      go_wp2_with (first | (go_at_call 121; refine (HB _).mono ?_; rintro e w1 ⟨rfl, hb⟩; obtain ⟨H, hcc, hff, hzz⟩ := later_facts hb; clear hb; (try simp at hzz); (try simp only [World.heap_drewN, World.cell?_drewN, World.frozen?_drewN] at hcc hff); have hz0 : w.heap.size < w1.heap.size := (by omega); (try (have hz1 : w.heap.size + 1 < w1.heap.size := (by omega))); (try (have hz2 : w.heap.size + 1 + 1 < w1.heap.size := (by omega))); (try (have hz3 : w.heap.size + 1 + 1 + 1 < w1.heap.size := (by omega))); (try (have hz4 : w.heap.size + 1 + 1 + 1 + 1 < w1.heap.size := (by omega)))) | (go_at_call 122; refine (i_slows _ _ _).mono ?_; rw [hd]; rintro e w1 ⟨rfl, hb⟩; obtain ⟨H, hcc, hff, hzz⟩ := later_facts hb; clear hb; (try simp at hzz)))
      refine bodyPost_ret (v := .tuple #[.agg #[.int .i64 0, .int .i64 0], .int .i64 5]) (by simp [results, Try.results107, go_sem, *]) rfl ⟨rfl, (by repeat (first | (with_reducible exact Later.refl _) | (with_reducible exact Hid.out (by assumption)) | (with_reducible refine Later.alloc ?_ _) | (with_reducible refine Later.setCell ?_ (by simp; omega) _) | (with_reducible refine Later.setCell ?_ (by simp) _) | (with_reducible refine Later.drewN ?_ _) | (with_reducible refine Later.drew ?_) | (with_reducible refine Later.trans ?_ (Hid.out (by assumption)))))⟩
  · have e1 : slE x = brE x := by unfold slE; rw [if_neg h]
    have e2 : slL x = 0 := by unfold slL okV; rw [e1, if_neg h]
    have e3 : slH x = 0 := by unfold slH okV; rw [e1, if_neg h]
    have b2 : bwL x = 0 := by unfold bwL okV; rw [if_neg h]
    have b3 : bwH x = 0 := by unfold bwH okV; rw [if_neg h]
    rw [b2, b3] at HB
    rw [e1, e2, e3]
    generalize brE x = q at *
    have hne : (q != 0) = true := by simpa using h
    clear h b2 b3 e1 e2 e3
    go_enter Try.func107, Try.ntmps107
    go_wp2_with (go_at_call 121; refine (HB _).mono ?_; rintro e w1 ⟨rfl, hb⟩; obtain ⟨H, hcc, hff, hzz⟩ := later_facts hb; clear hb; (try simp at hzz); (try simp only [World.heap_drewN, World.cell?_drewN, World.frozen?_drewN] at hcc hff); have hz0 : w.heap.size < w1.heap.size := (by omega); (try (have hz1 : w.heap.size + 1 < w1.heap.size := (by omega))); (try (have hz2 : w.heap.size + 1 + 1 < w1.heap.size := (by omega))); (try (have hz3 : w.heap.size + 1 + 1 + 1 < w1.heap.size := (by omega))); (try (have hz4 : w.heap.size + 1 + 1 + 1 + 1 < w1.heap.size := (by omega))))
    refine bodyPost_ret (v := .tuple #[.agg #[.int .i64 0, .int .i64 0], .int .i64 q]) (by simp [results, Try.results107, go_sem, *]) rfl ⟨rfl, (by repeat (first | (with_reducible exact Later.refl _) | (with_reducible exact Hid.out (by assumption)) | (with_reducible refine Later.alloc ?_ _) | (with_reducible refine Later.setCell ?_ (by simp; omega) _) | (with_reducible refine Later.setCell ?_ (by simp) _) | (with_reducible refine Later.drewN ?_ _) | (with_reducible refine Later.drew ?_) | (with_reducible refine Later.trans ?_ (Hid.out (by assumption)))))⟩
end Go.Proofs.Ytnmlkigpiaekjaa
