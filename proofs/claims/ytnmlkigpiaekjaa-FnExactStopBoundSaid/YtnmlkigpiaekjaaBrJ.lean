/- Contracts of chapter 7: stopping distances and the greatest energy with which a train stops, of the program. -/
import Derived.Test.YtnmlkigpiaekjaaBrI
import Derived.Test.YtnmlkigpiaekjaaIvo
import Derived.IntWalk
namespace Go.Proofs.Ytnmlkigpiaekjaa
open Go.RowKit
set_option maxHeartbeats 4000000
set_option linter.unusedVariables false
set_option linter.unusedSimpArgs false
theorem Held.setNe {l : List (Nat × Nat × Value)} {w0 w1 : World} (h : Held l w0 w1) (p : Addr) (u : Value) (hp : ∀ x ∈ l, x.1 ≠ p.block) (hq : w0.heap.size ≤ p.block) : Held l w0 (w1.setCell p u) :=
  ⟨fun x hx => ⟨by rw [World.size_setCell]; exact (h.1 x hx).1, by rw [World.cell?_setCell_other _ _ _ _ (fun e => hp x hx (by rw [e]))]; exact (h.1 x hx).2⟩, h.2.setCell hq u⟩
theorem i_GreatestStop (x : Sg) (w : World) :
    Calls Try.prog 117 #[.agg #[.int .i64 x.k, .int .i64 x.l, .int .i64 x.r, .int .i64 x.a, .int .i64 x.b, .int .i64 x.c, .int .i64 x.d]] w fun e w' => e = .returned (.tuple #[.int .i64 (gsV x), .int .i64 (slE x)]) ∧ Later w w' := by
  have HB := fun w => i_slowingWork x w
  by_cases h : slE x = 0
  · have b2 : slL x = wkL x := by unfold slL; rw [h]; rfl
    have b3 : slH x = wkH x := by unfold slH; rw [h]; rfl
    have e1 : Hid (gsV x = min (wkL x) 10000000000) := Lib.hid (by unfold gsV; rw [h]; rfl)
    have e0 : Hid (slE x = 0) := Lib.hid h
    rw [h, b2, b3] at HB
    generalize wkL x = p at *
    generalize wkH x = q at *
    clear h b2 b3
    go_enter Try.func117, Try.ntmps117
    go_wp2_with (go_at_call 107; refine (HB _).mono ?_; rintro e w1 ⟨rfl, hb⟩; obtain ⟨H, hcc, hff, hzz⟩ := later_facts hb; clear hb; (try simp at hzz); (try simp only [World.heap_drewN, World.cell?_drewN, World.frozen?_drewN] at hcc hff); have hz0 : w.heap.size < w1.heap.size := (by omega); (try (have hz1 : w.heap.size + 1 < w1.heap.size := (by omega))); (try (have hz2 : w.heap.size + 1 + 1 < w1.heap.size := (by omega))); (try (have hz3 : w.heap.size + 1 + 1 + 1 < w1.heap.size := (by omega))); (try (have hz4 : w.heap.size + 1 + 1 + 1 + 1 < w1.heap.size := (by omega))))
    all_goals
      go_ret2
      exact ⟨ret_2i (by rw [e1.out]; omega) e0.out.symm, (by repeat (first | (with_reducible exact Later.refl _) | (with_reducible exact Hid.out (by assumption)) | (with_reducible refine Later.alloc ?_ _) | (with_reducible refine Later.setCell ?_ (by simp; omega) _) | (with_reducible refine Later.setCell ?_ (by simp) _) | (with_reducible refine Later.drewN ?_ _) | (with_reducible refine Later.drew ?_) | (with_reducible refine Later.trans ?_ (Hid.out (by assumption)))))⟩
  · have b2 : slL x = 0 := by unfold slL okV; rw [if_neg h]
    have b3 : slH x = 0 := by unfold slH okV; rw [if_neg h]
    have e1 : Hid (gsV x = 0) := Lib.hid (by unfold gsV okV; rw [if_neg h])
    have e0 : Hid (slE x = slE x) := Lib.hid rfl
    rw [b2, b3] at HB
    generalize slE x = q at *
    have hne : (q != 0) = true := by simpa using h
    clear h b2 b3
    go_enter Try.func117, Try.ntmps117
    go_wp2_with (go_at_call 107; refine (HB _).mono ?_; rintro e w1 ⟨rfl, hb⟩; obtain ⟨H, hcc, hff, hzz⟩ := later_facts hb; clear hb; (try simp at hzz); (try simp only [World.heap_drewN, World.cell?_drewN, World.frozen?_drewN] at hcc hff); have hz0 : w.heap.size < w1.heap.size := (by omega); (try (have hz1 : w.heap.size + 1 < w1.heap.size := (by omega))); (try (have hz2 : w.heap.size + 1 + 1 < w1.heap.size := (by omega))); (try (have hz3 : w.heap.size + 1 + 1 + 1 < w1.heap.size := (by omega))); (try (have hz4 : w.heap.size + 1 + 1 + 1 + 1 < w1.heap.size := (by omega))))
    go_ret2
    exact ⟨ret_2i e1.out.symm rfl, (by repeat (first | (with_reducible exact Later.refl _) | (with_reducible exact Hid.out (by assumption)) | (with_reducible refine Later.alloc ?_ _) | (with_reducible refine Later.setCell ?_ (by simp; omega) _) | (with_reducible refine Later.setCell ?_ (by simp) _) | (with_reducible refine Later.drewN ?_ _) | (with_reducible refine Later.drew ?_) | (with_reducible refine Later.trans ?_ (Hid.out (by assumption)))))⟩
theorem i_StoppingDistance (x : Sg) (a b : Int) (w : World) :
    Calls Try.prog 90 #[.agg #[.int .i64 x.k, .int .i64 x.l, .int .i64 x.r, .int .i64 x.a, .int .i64 x.b, .int .i64 x.c, .int .i64 x.d], .agg #[.int .i64 a, .int .i64 b]] w fun e w' => e = .returned (.tuple #[.agg #[.int .i64 (dsL x a b), .int .i64 (dsH x a b)], .int .i64 (dsE x a b)]) ∧ Later w w' := by
  have HB := fun w => i_slowingWork x w
  cases h1 : enB a b
  · have e1 : dsE x a b = 1 := by unfold dsE; rw [h1]; rfl
    have e2 : dsL x a b = 0 := by unfold dsL; rw [e1]; rfl
    have e3 : dsH x a b = 0 := by unfold dsH; rw [e1]; rfl
    rw [e1, e2, e3]
    clear e1 e2 e3
    go_enter Try.func90, Try.ntmps90
    go_wp2_with (first | (go_at_call 42; refine (i_IsEnergy _ _ _).mono ?_; rintro e w1 ⟨rfl, hb⟩; obtain ⟨H, hcc, hff, hzz⟩ := later_facts hb; clear hb; (try simp at hzz); (try simp only [World.heap_drewN, World.cell?_drewN, World.frozen?_drewN] at hcc hff); have hz0 : w.heap.size < w1.heap.size := (by omega); (try (have hz1 : w.heap.size + 1 < w1.heap.size := (by omega))); (try (have hz2 : w.heap.size + 1 + 1 < w1.heap.size := (by omega))); (try (have hz3 : w.heap.size + 1 + 1 + 1 < w1.heap.size := (by omega))); (try (have hz4 : w.heap.size + 1 + 1 + 1 + 1 < w1.heap.size := (by omega)))))
    refine bodyPost_ret (v := .tuple #[.agg #[.int .i64 0, .int .i64 0], .int .i64 1]) (by simp [results, Try.results90, go_sem, *]) rfl ⟨rfl, (by repeat (first | (with_reducible exact Later.refl _) | (with_reducible exact Hid.out (by assumption)) | (with_reducible refine Later.alloc ?_ _) | (with_reducible refine Later.setCell ?_ (by simp; omega) _) | (with_reducible refine Later.setCell ?_ (by simp) _) | (with_reducible refine Later.drewN ?_ _) | (with_reducible refine Later.drew ?_) | (with_reducible refine Later.trans ?_ (Hid.out (by assumption)))))⟩
  · have e1 : dsE x a b = slE x := by unfold dsE; rw [h1]; rfl
    by_cases h : slE x = 0
    · have b2 : slL x = wkL x := by unfold slL; rw [h]; rfl
      have b3 : slH x = wkH x := by unfold slH; rw [h]; rfl
      obtain ⟨s1, s2, s3⟩ := slE_ok h
      obtain ⟨u1, u2, u3⟩ := (enB_iff a b).1 h1
      have hw := wk_bd x s1
      have hl := ((sgB_iff x).1 s1).2.1
      have m1 := nn_mul a x.l (by omega) (by omega) hl.1 hl.2
      have m2 := nn_mul b x.l (by omega) (by omega) hl.1 hl.2
      have e2 : dsL x a b = flo (a * x.l) (wkH x) := by unfold dsL; rw [e1, h]; rfl
      have e3 : dsH x a b = cei (b * x.l) (wkL x) := by unfold dsH; rw [e1, h]; rfl
      rw [e1, h, e2, e3]
      rw [h, b2, b3] at HB
      clear e1 e2 e3 h b2 b3 s1 s2
      generalize wkL x = p at *
      generalize wkH x = q at *
      obtain ⟨hw1, hw2, hw3⟩ := hw
      obtain ⟨l1, l2⟩ := hl
      have HT := fun w => i_times_nn a b x.l w (by omega) (by omega) (by omega) (by omega) (by omega)
      obtain ⟨A, hA⟩ : ∃ A, A = a * x.l := ⟨_, rfl⟩
      obtain ⟨B, hB⟩ : ∃ B, B = b * x.l := ⟨_, rfl⟩
      rw [← hA] at m1 HT; rw [← hB] at m2 HT
      rw [← hA, ← hB]
      have HO := fun w => i_over A B p q w (by omega) (by omega) (by omega) (by omega) (by omega) (by omega) (by omega) (by omega)
      generalize flo A q = fA at *
      generalize cei B p = cB at *
      clear hA hB u1 u2 u3 m1 m2
      go_enter Try.func90, Try.ntmps90
      go_upto_region 1 with (fail)
      refine into (fun W => Held [(w.heap.size + 1, 0, .int .i64 a), (w.heap.size + 1, 1, .int .i64 b), (w.heap.size, 0, .int .i64 x.k), (w.heap.size, 1, .int .i64 x.l), (w.heap.size, 2, .int .i64 x.r), (w.heap.size, 3, .int .i64 x.a), (w.heap.size, 4, .int .i64 x.b), (w.heap.size, 5, .int .i64 x.c), (w.heap.size, 6, .int .i64 x.d)] w W ∧ Fr (w.heap.size + 1 + 1) [.int .i64 0, .int .i64 0] W) ⟨?_, ?_⟩ ?_
      · exact (held_box (held_box (held_start w) w.heap.size [.int .i64 x.k, .int .i64 x.l, .int .i64 x.r, .int .i64 x.a, .int .i64 x.b, .int .i64 x.c, .int .i64 x.d] _ rfl) (w.heap.size + 1) [.int .i64 a, .int .i64 b] _ (by simp)).alloc _
      · have F := fr_alloc (X := (w.alloc (.cells [.int .i64 x.k, .int .i64 x.l, .int .i64 x.r, .int .i64 x.a, .int .i64 x.b, .int .i64 x.c, .int .i64 x.d].toArray 77)).alloc (.cells [Value.int .i64 a, .int .i64 b].toArray 28)) (l := [.int .i64 0, .int .i64 0]) (T := 28) (Later.refl _)
        simp only [World.size_alloc] at F
        exact F
      rintro W ⟨hW, hF⟩
      obtain ⟨p7, p8, p0, p1, p2, p3, p4, p5, p6, _⟩ := Held.s9 hW
      obtain ⟨r0, r1, r2, r3⟩ := Fr.o2 hF
      have z0 := hW.lt w.heap.size 0 (.int .i64 x.k) (by simp)
      have z1 := hW.lt (w.heap.size + 1) 0 (.int .i64 a) (by simp)
      have z2 := hF.lt
      have HW := Lib.hid (Held.is hW)
      go_wp2_with (first | (go_at_call 42; refine (i_IsEnergy _ _ _).mono ?_; rintro e w1 ⟨rfl, hb⟩; obtain ⟨H, hcc, hff, hzz⟩ := later_facts hb; clear hb; (try simp at hzz); (try simp only [World.heap_drewN, World.cell?_drewN, World.frozen?_drewN] at hcc hff); have hz0 : w.heap.size < w1.heap.size := (by omega); (try (have hz1 : w.heap.size + 1 < w1.heap.size := (by omega))); (try (have hz2 : w.heap.size + 1 + 1 < w1.heap.size := (by omega))); (try (have hz3 : w.heap.size + 1 + 1 + 1 < w1.heap.size := (by omega))); (try (have hz4 : w.heap.size + 1 + 1 + 1 + 1 < w1.heap.size := (by omega)))) | (go_at_call 107; refine (HB _).mono ?_; rintro e w7 ⟨rfl, hb⟩; have H7 : Hid (Later W w7) := Lib.hid (Later.trans (by repeat (first | (with_reducible exact Later.refl _) | (with_reducible exact Hid.out (by assumption)) | (with_reducible refine Later.alloc ?_ _) | (with_reducible refine Later.setCell ?_ (by simp; omega) _) | (with_reducible refine Later.setCell ?_ (by simp) _) | (with_reducible refine Later.drewN ?_ _) | (with_reducible refine Later.drew ?_) | (with_reducible refine Later.trans ?_ (Hid.out (by assumption))))) hb); obtain ⟨H, hcc, hff, hzz⟩ := later_facts hb; clear hb))
      have hgz : w.heap.size + 1 + 1 < w7.heap.size := by have := H7.out.size; omega
      refine into (fun W => Held ((w7.heap.size, 0, .int .i64 p) :: (w7.heap.size, 1, .int .i64 q) :: [(w.heap.size + 1, 0, .int .i64 a), (w.heap.size + 1, 1, .int .i64 b), (w.heap.size, 0, .int .i64 x.k), (w.heap.size, 1, .int .i64 x.l), (w.heap.size, 2, .int .i64 x.r), (w.heap.size, 3, .int .i64 x.a), (w.heap.size, 4, .int .i64 x.b), (w.heap.size, 5, .int .i64 x.c), (w.heap.size, 6, .int .i64 x.d)]) w W ∧ Fr (w.heap.size + 1 + 1) [.int .i64 0, .int .i64 0] W) ⟨held_box (Held.later hW (by repeat (first | exact H7.out | refine Later.drew ?_ | refine Later.drewN ?_ _))) w7.heap.size [.int .i64 p, .int .i64 q] _ rfl, fr_later hF ((by repeat (first | exact H7.out | refine Later.alloc ?_ _ | refine Later.drew ?_ | refine Later.drewN ?_ _)))⟩ ?_
      clear p0 p1 p2 p3 p4 p5 p6 p7 p8 r0 r1 r2 r3 hcc hff hzz H
      rintro W' ⟨hW, F⟩
      clear hF
      have hW : Held [(w7.heap.size, 0, .int .i64 p), (w7.heap.size, 1, .int .i64 q), (w.heap.size + 1, 0, .int .i64 a), (w.heap.size + 1, 1, .int .i64 b), (w.heap.size, 1, .int .i64 x.l)] w W' := ⟨fun x hx => hW.1 x (by simp at hx ⊢; rcases hx with rfl | rfl | rfl | rfl | rfl <;> simp), hW.2⟩
      obtain ⟨r0, r1, r2, r3⟩ := Fr.o2 F
      have z3 := hW.lt w7.heap.size 0 (.int .i64 p) (by simp)
      have ne1 : ¬ w7.heap.size = w.heap.size + 1 + 1 := by omega
      have ne2 : ¬ w.heap.size + 1 + 1 = w7.heap.size := by omega
      have hls : ∀ y ∈ [(w7.heap.size, 0, Value.int .i64 p), (w7.heap.size, 1, Value.int .i64 q), (w.heap.size + 1, 0, Value.int .i64 a), (w.heap.size + 1, 1, Value.int .i64 b), (w.heap.size, 1, Value.int .i64 x.l)], y.1 ≠ w.heap.size + 1 + 1 := by
        intro y hx; simp at hx; rcases hx with rfl | rfl | rfl | rfl | rfl <;> simp <;> omega
      go_region_held3 (fun w' => w'.cell? ⟨w7.heap.size, 0, none⟩ = some (.int .i64 p) ∧ w'.cell? ⟨w7.heap.size, 1, none⟩ = some (.int .i64 q) ∧ w'.cell? ⟨w.heap.size + 1, 0, none⟩ = some (.int .i64 a) ∧ w'.cell? ⟨w.heap.size + 1, 1, none⟩ = some (.int .i64 b) ∧ w'.cell? ⟨w.heap.size, 1, none⟩ = some (.int .i64 x.l) ∧ Held [(w7.heap.size, 0, .int .i64 p), (w7.heap.size, 1, .int .i64 q), (w.heap.size + 1, 0, .int .i64 a), (w.heap.size + 1, 1, .int .i64 b), (w.heap.size, 1, .int .i64 x.l)] w w') ((refine Held.s5 ?_; (repeat (first | refine Held.drew ?_ | refine Held.drewN ?_ _ | refine Held.setNe ?_ _ _ hls (by simp <;> omega))); refine Held.later hW ?_; repeat (first | exact Later.refl _ | refine Later.drew ?_ | refine Later.drewN ?_ _ | refine Later.alloc ?_ _ | refine Later.trans ?_ (Hid.out (by assumption)))))
        (first | (go_at_call 99; refine (HT _).mono ?_; rintro e w1 ⟨rfl, hb⟩; have H := Lib.hid hb; (first | (have F := fr_later F hb; obtain ⟨f1, f2, f3, f4⟩ := Fr.o2 F) | (have F := fr_later F (later_undrew hb); obtain ⟨f1, f2, f3, f4⟩ := Fr.o2 F) | (have F := fr_later F (later_undrewN hb); obtain ⟨f1, f2, f3, f4⟩ := Fr.o2 F)); clear hb) | (go_at_call 108; refine (HO _).mono ?_; rintro e w1 ⟨rfl, hb⟩; have H := Lib.hid hb; (first | (have F := fr_later F hb; obtain ⟨f1, f2, f3, f4⟩ := Fr.o2 F) | (have F := fr_later F (later_undrew hb); obtain ⟨f1, f2, f3, f4⟩ := Fr.o2 F) | (have F := fr_later F (later_undrewN hb); obtain ⟨f1, f2, f3, f4⟩ := Fr.o2 F)); clear hb))
      all_goals
        go_wp2_with fail
        refine bodyPost_ret (v := .tuple #[.agg #[.int .i64 fA, .int .i64 cB], .int .i64 0]) (by simp [results, Try.results90, go_sem, *]) rfl ⟨rfl, Later.setCell (Later.setCell (Later.trans (Held.is hW) (by (repeat (first | exact Later.refl _ | refine Later.drew ?_ | refine Later.drewN ?_ _ | refine Later.alloc ?_ _ | refine Later.trans ?_ (Hid.out (by assumption)))); done)) (by simp <;> omega) _) (by simp <;> omega) _⟩
    · have b2 : slL x = 0 := by unfold slL okV; rw [if_neg h]
      have b3 : slH x = 0 := by unfold slH okV; rw [if_neg h]
      have e2 : dsL x a b = 0 := by unfold dsL okV; rw [e1, if_neg h]
      have e3 : dsH x a b = 0 := by unfold dsH okV; rw [e1, if_neg h]
      rw [e1, e2, e3]
      rw [b2, b3] at HB
      generalize slE x = q at *
      have hne : (q != 0) = true := by simpa using h
      clear h b2 b3 e1 e2 e3
      go_enter Try.func90, Try.ntmps90
      go_wp2_with (first | (go_at_call 42; refine (i_IsEnergy _ _ _).mono ?_; rintro e w1 ⟨rfl, hb⟩; obtain ⟨H, hcc, hff, hzz⟩ := later_facts hb; clear hb; (try simp at hzz); (try simp only [World.heap_drewN, World.cell?_drewN, World.frozen?_drewN] at hcc hff); have hz0 : w.heap.size < w1.heap.size := (by omega); (try (have hz1 : w.heap.size + 1 < w1.heap.size := (by omega))); (try (have hz2 : w.heap.size + 1 + 1 < w1.heap.size := (by omega))); (try (have hz3 : w.heap.size + 1 + 1 + 1 < w1.heap.size := (by omega))); (try (have hz4 : w.heap.size + 1 + 1 + 1 + 1 < w1.heap.size := (by omega)))) | (go_at_call 107; refine (HB _).mono ?_; rintro e w1 ⟨rfl, hb⟩; obtain ⟨H, hcc, hff, hzz⟩ := later_facts hb; clear hb; (try simp at hzz); (try simp only [World.heap_drewN, World.cell?_drewN, World.frozen?_drewN] at hcc hff); have hz0 : w.heap.size < w1.heap.size := (by omega); (try (have hz1 : w.heap.size + 1 < w1.heap.size := (by omega))); (try (have hz2 : w.heap.size + 1 + 1 < w1.heap.size := (by omega))); (try (have hz3 : w.heap.size + 1 + 1 + 1 < w1.heap.size := (by omega))); (try (have hz4 : w.heap.size + 1 + 1 + 1 + 1 < w1.heap.size := (by omega)))))
      refine bodyPost_ret (v := .tuple #[.agg #[.int .i64 0, .int .i64 0], .int .i64 q]) (by simp [results, Try.results90, go_sem, *]) rfl ⟨rfl, (by repeat (first | (with_reducible exact Later.refl _) | (with_reducible exact Hid.out (by assumption)) | (with_reducible refine Later.alloc ?_ _) | (with_reducible refine Later.setCell ?_ (by simp; omega) _) | (with_reducible refine Later.setCell ?_ (by simp) _) | (with_reducible refine Later.drewN ?_ _) | (with_reducible refine Later.drew ?_) | (with_reducible refine Later.trans ?_ (Hid.out (by assumption)))))⟩
end Go.Proofs.Ytnmlkigpiaekjaa
