/- Contracts of chapter 7: the verdict on a stop, of the program: rules that hold functions. -/
import Derived.Test.YtdhoiiejcmnmbaaBrI
import Derived.Laws.EntriesVeiled
namespace Go.Proofs.Ytdhoiiejcmnmbaa
open Go.RowKit
set_option maxHeartbeats 4000000
set_option linter.unusedVariables false
set_option linter.unusedSimpArgs false
theorem i_rule1 (p q a b : Int) (c : Bool) (h : (decide (1 ≤ p) && decide (b ≤ p)) = c) (w : World) :
    Calls Try.prog 112 #[.agg #[.int .i64 p, .int .i64 q], .agg #[.int .i64 a, .int .i64 b]] w fun e w' => e = .returned (.bool c) ∧ Later w w' := by
  subst h
  by_cases h1 : 1 ≤ p
  · have hd : decide (1 ≤ p) = true := by simpa using h1
    go_enter Try.func112, Try.ntmps112
    go_wp2_with (go_at_call 111; refine (i_slows _ _ _).mono ?_; rw [hd]; rintro e w1 ⟨rfl, hb⟩; obtain ⟨H, hcc, hff, hzz⟩ := later_facts hb; clear hb; (try simp at hzz))
    go_ret
    exact ⟨ret_b (by rw [hd]; simp), (by repeat (first | (with_reducible exact Later.refl _) | (with_reducible exact Hid.out (by assumption)) | (with_reducible refine Later.alloc ?_ _) | (with_reducible refine Later.setCell ?_ (by simp; omega) _) | (with_reducible refine Later.setCell ?_ (by simp) _) | (with_reducible refine Later.drewN ?_ _) | (with_reducible refine Later.drew ?_) | (with_reducible refine Later.trans ?_ (Hid.out (by assumption)))))⟩
  · have hd : decide (1 ≤ p) = false := by simpa using h1
    go_enter Try.func112, Try.ntmps112
    go_wp2_with (go_at_call 111; refine (i_slows _ _ _).mono ?_; rw [hd]; rintro e w1 ⟨rfl, hb⟩; obtain ⟨H, hcc, hff, hzz⟩ := later_facts hb; clear hb; (try simp at hzz))
    go_ret
    exact ⟨ret_b (by rw [hd]; simp), (by repeat (first | (with_reducible exact Later.refl _) | (with_reducible exact Hid.out (by assumption)) | (with_reducible refine Later.alloc ?_ _) | (with_reducible refine Later.setCell ?_ (by simp; omega) _) | (with_reducible refine Later.setCell ?_ (by simp) _) | (with_reducible refine Later.drewN ?_ _) | (with_reducible refine Later.drew ?_) | (with_reducible refine Later.trans ?_ (Hid.out (by assumption)))))⟩
theorem i_rule2 (p q a b : Int) (c : Bool) (h : decide (q < a) = c) (w : World) :
    Calls Try.prog 113 #[.agg #[.int .i64 p, .int .i64 q], .agg #[.int .i64 a, .int .i64 b]] w fun e w' => e = .returned (.bool c) ∧ Later w w' := by
  subst h
  go_enter Try.func113, Try.ntmps113
  go_wp2
  go_ret
  exact ⟨ret_b (by first | rfl | simp), (by repeat (first | (with_reducible exact Later.refl _) | (with_reducible exact Hid.out (by assumption)) | (with_reducible refine Later.alloc ?_ _) | (with_reducible refine Later.setCell ?_ (by simp; omega) _) | (with_reducible refine Later.setCell ?_ (by simp) _) | (with_reducible refine Later.drewN ?_ _) | (with_reducible refine Later.drew ?_) | (with_reducible refine Later.trans ?_ (Hid.out (by assumption)))))⟩
theorem i_stopRules (w : World) :
    Calls Try.prog 88 #[] w fun e w' => ∃ g : Nat, e = .returned (.slice (some ⟨g, 0, none⟩) 2 2) ∧ w.heap.size ≤ g ∧ Fr g [.int .i64 2, .func (.func 112) #[] #[], .int .i64 0, .func (.func 113) #[] #[]] w' ∧ Later w w' := by
  go_enter Try.func88, Try.ntmps88
  go_wp2
  go_ret
  exact ⟨_, rfl, Nat.le_refl _, fr_alloc (Later.refl _), (by repeat (first | (with_reducible exact Later.refl _) | (with_reducible exact Hid.out (by assumption)) | (with_reducible refine Later.alloc ?_ _) | (with_reducible refine Later.setCell ?_ (by simp; omega) _) | (with_reducible refine Later.setCell ?_ (by simp) _) | (with_reducible refine Later.drewN ?_ _) | (with_reducible refine Later.drew ?_) | (with_reducible refine Later.trans ?_ (Hid.out (by assumption)))))⟩
set_option maxRecDepth 100000 in
theorem i_StopVerdict (x : Sg) (a b : Int) (w : World) :
    Calls Try.prog 43 #[.agg #[.int .i64 x.k, .int .i64 x.l, .int .i64 x.r, .int .i64 x.a, .int .i64 x.b, .int .i64 x.c, .int .i64 x.d], .agg #[.int .i64 a, .int .i64 b]] w fun e w' => e = .returned (.tuple #[.int .i64 (svV x a b), .int .i64 (svE x a b)]) ∧ Later w w' := by
  have HB := fun w => i_BrakeWork x w
  cases h1 : enB a b
  · have e1 : Hid (svE x a b = 1) := Lib.hid (by unfold svE; rw [h1]; rfl)
    have e2 : Hid (svV x a b = 0) := Lib.hid (by unfold svV; rw [e1.out]; rfl)
    go_enter Try.func43, Try.ntmps43
    go_wp2_with (first | (go_at_call 64; refine (i_IsEnergy _ _ _).mono ?_; rintro e w1 ⟨rfl, hb⟩; obtain ⟨H, hcc, hff, hzz⟩ := later_facts hb; clear hb; (try simp at hzz); (try simp only [World.heap_drewN, World.cell?_drewN, World.frozen?_drewN] at hcc hff); have hz0 : w.heap.size < w1.heap.size := (by omega); (try (have hz1 : w.heap.size + 1 < w1.heap.size := (by omega))); (try (have hz2 : w.heap.size + 1 + 1 < w1.heap.size := (by omega))); (try (have hz3 : w.heap.size + 1 + 1 + 1 < w1.heap.size := (by omega))); (try (have hz4 : w.heap.size + 1 + 1 + 1 + 1 < w1.heap.size := (by omega)))))
    go_ret2
    exact ⟨ret_2i e2.out.symm e1.out.symm, (by repeat (first | (with_reducible exact Later.refl _) | (with_reducible exact Hid.out (by assumption)) | (with_reducible refine Later.alloc ?_ _) | (with_reducible refine Later.setCell ?_ (by simp; omega) _) | (with_reducible refine Later.setCell ?_ (by simp) _) | (with_reducible refine Later.drewN ?_ _) | (with_reducible refine Later.drew ?_) | (with_reducible refine Later.trans ?_ (Hid.out (by assumption)))))⟩
  · have e1 : Hid (svE x a b = brE x) := Lib.hid (by unfold svE; rw [h1]; rfl)
    by_cases h : brE x = 0
    · have b2 : bwL x = wkL x := by unfold bwL; rw [h]; rfl
      have b3 : bwH x = wkH x := by unfold bwH; rw [h]; rfl
      have e2 : Hid (svV x a b = if (decide (1 ≤ wkL x) && decide (b ≤ wkL x)) = true then 2 else if decide (wkH x < a) = true then 0 else 1) := Lib.hid (by unfold svV; rw [e1.out, h]; show svW x a b = _; unfold svW; simp)
      have e0 : Hid (brE x = 0) := Lib.hid h
      rw [h, b2, b3] at HB
      generalize wkL x = p at *
      generalize wkH x = q at *
      obtain ⟨c1, hc1⟩ : ∃ c1, (decide (1 ≤ p) && decide (b ≤ p)) = c1 := ⟨_, rfl⟩
      obtain ⟨c2, hc2⟩ : ∃ c2, decide (q < a) = c2 := ⟨_, rfl⟩
      rw [hc1, hc2] at e2
      have HR1 := fun w => i_rule1 p q a b c1 hc1 w
      have HR2 := fun w => i_rule2 p q a b c2 hc2 w
      clear h b2 b3 hc1 hc2
      go_enter Try.func43, Try.ntmps43
      go_upto_region 1 with (fail)
      refine into (fun W => Held [(w.heap.size + 1, 0, .int .i64 a), (w.heap.size + 1, 1, .int .i64 b), (w.heap.size, 0, .int .i64 x.k), (w.heap.size, 1, .int .i64 x.l), (w.heap.size, 2, .int .i64 x.r), (w.heap.size, 3, .int .i64 x.a), (w.heap.size, 4, .int .i64 x.b), (w.heap.size, 5, .int .i64 x.c), (w.heap.size, 6, .int .i64 x.d)] w W) (by first | exact (held_box (held_box (held_start w) w.heap.size [.int .i64 x.k, .int .i64 x.l, .int .i64 x.r, .int .i64 x.a, .int .i64 x.b, .int .i64 x.c, .int .i64 x.d] _ rfl) (w.heap.size + 1) [.int .i64 a, .int .i64 b] _ (by simp))) ?_
      rintro W hW
      obtain ⟨p7, p8, p0, p1, p2, p3, p4, p5, p6, _⟩ := Held.s9 hW
      have z0 := hW.lt w.heap.size 0 (.int .i64 x.k) (by simp)
      have z1 := hW.lt (w.heap.size + 1) 0 (.int .i64 a) (by simp)
      have HW := Lib.hid (Held.is hW)
      go_wp2_with (first | (go_at_call 64; refine (i_IsEnergy _ _ _).mono ?_; rintro e w1 ⟨rfl, hb⟩; obtain ⟨H, hcc, hff, hzz⟩ := later_facts hb; clear hb; (try simp at hzz); (try simp only [World.heap_drewN, World.cell?_drewN, World.frozen?_drewN] at hcc hff); have hz0 : w.heap.size < w1.heap.size := (by omega); (try (have hz1 : w.heap.size + 1 < w1.heap.size := (by omega))); (try (have hz2 : w.heap.size + 1 + 1 < w1.heap.size := (by omega))); (try (have hz3 : w.heap.size + 1 + 1 + 1 < w1.heap.size := (by omega))); (try (have hz4 : w.heap.size + 1 + 1 + 1 + 1 < w1.heap.size := (by omega)))) | (go_at_call 45; refine (HB _).mono ?_; rintro e w6 ⟨rfl, hb⟩; have H6 : Hid (Later W w6) := Lib.hid (Later.trans (by repeat (first | (with_reducible exact Later.refl _) | (with_reducible exact Hid.out (by assumption)) | (with_reducible refine Later.alloc ?_ _) | (with_reducible refine Later.setCell ?_ (by simp; omega) _) | (with_reducible refine Later.setCell ?_ (by simp) _) | (with_reducible refine Later.drewN ?_ _) | (with_reducible refine Later.drew ?_) | (with_reducible refine Later.trans ?_ (Hid.out (by assumption))))) hb); obtain ⟨H, hcc, hff, hzz⟩ := later_facts hb; clear hb) | (go_at_call 88; refine (i_stopRules _).mono ?_; rintro e w7 ⟨g, rfl, hg, hF, hb⟩; have HF := Lib.hid hF; have W7 := Lib.hid hb; clear hb hF))
      have hW7 : Held ((w6.heap.size, 0, .int .i64 p) :: (w6.heap.size, 1, .int .i64 q) :: [(w.heap.size + 1, 0, .int .i64 a), (w.heap.size + 1, 1, .int .i64 b), (w.heap.size, 0, .int .i64 x.k), (w.heap.size, 1, .int .i64 x.l), (w.heap.size, 2, .int .i64 x.r), (w.heap.size, 3, .int .i64 x.a), (w.heap.size, 4, .int .i64 x.b), (w.heap.size, 5, .int .i64 x.c), (w.heap.size, 6, .int .i64 x.d)]) w w7 := (held_box (Held.later hW H6.out) w6.heap.size [.int .i64 p, .int .i64 q] _ rfl).later W7.out
      have hgo : w6.heap.size < g := by simp only [World.size_alloc] at hg; omega
      have hwo : w.heap.size + 1 < w6.heap.size := by have := H6.out.size; omega
      obtain ⟨o, ho⟩ : ∃ o, o = w6.heap.size := ⟨_, rfl⟩
      rw [← ho] at hW7 hgo hwo
      have hW7 : Held [(o, 0, .int .i64 p), (o, 1, .int .i64 q), (w.heap.size + 1, 0, .int .i64 a), (w.heap.size + 1, 1, .int .i64 b)] w w7 := ⟨fun y hy => hW7.1 y (by simp at hy ⊢; rcases hy with rfl | rfl | rfl | rfl <;> simp), hW7.2⟩
      have HWH := Lib.hid hW7
      clear p0 p1 p2 p3 p4 p5 p6 p7 p8 hcc hff hzz H hW z0 z1 hg HB hW7
      go_loopw [23] (fun i wr => ∃ k : Nat, k ≤ 2 ∧ i = .int .i64 k ∧ (1 ≤ k → c1 = false) ∧ (2 ≤ k → c2 = false) ∧ Held [(o, 0, .int .i64 p), (o, 1, .int .i64 q), (w.heap.size + 1, 0, .int .i64 a), (w.heap.size + 1, 1, .int .i64 b)] w wr ∧ Fr g [.int .i64 2, .func (.func 112) #[] #[], .int .i64 0, .func (.func 113) #[] #[]] wr) (fun i _ => 2 - (intOf i).toNat)
      case atStart => exact ⟨0, by omega, rfl, by omega, by omega, HWH.out, HF.out⟩
      case round =>
        obtain ⟨k, hk, rfl, r1, r2, hH, hR⟩ := hrel
        obtain ⟨q0, q1, q2, q3, _⟩ := Held.s4 hH
        obtain ⟨f1, f2, f3, f4, _⟩ := Fr.o4 hR
        have zr := hR.lt
        have zo := hH.lt o 0 (.int .i64 p) (by simp)
        have ze := hH.lt (w.heap.size + 1) 0 (.int .i64 a) (by simp)
        have HH := Lib.hid hH.is
        subst ho
        have hk3 : k = 0 ∨ k = 1 ∨ k = 2 := by omega
        rcases hk3 with rfl | rfl | rfl
        · cases c1
          · go_wp2_with (first | (go_at_call 112; refine (HR1 _).mono ?_; rintro e w8 ⟨rfl, hb⟩; have H8 : Hid (Later wr w8) := Lib.hid (Later.trans (by repeat (first | (with_reducible exact Later.refl _) | (with_reducible exact Hid.out (by assumption)) | (with_reducible refine Later.alloc ?_ _) | (with_reducible refine Later.setCell ?_ (by simp; omega) _) | (with_reducible refine Later.setCell ?_ (by simp) _) | (with_reducible refine Later.drewN ?_ _) | (with_reducible refine Later.drew ?_) | (with_reducible refine Later.trans ?_ (Hid.out (by assumption))))) hb); clear hb))
            go_roundw
            case rel => exact ⟨1, by omega, by go_num, fun _ => by trivial, by omega, hH.later H8.out, fr_later hR H8.out⟩
            case measure => simp [intOf]
          · go_wp2_with (first | (go_at_call 112; refine (HR1 _).mono ?_; rintro e w8 ⟨rfl, hb⟩; have H8 : Hid (Later wr w8) := Lib.hid (Later.trans (by repeat (first | (with_reducible exact Later.refl _) | (with_reducible exact Hid.out (by assumption)) | (with_reducible refine Later.alloc ?_ _) | (with_reducible refine Later.setCell ?_ (by simp; omega) _) | (with_reducible refine Later.setCell ?_ (by simp) _) | (with_reducible refine Later.drewN ?_ _) | (with_reducible refine Later.drew ?_) | (with_reducible refine Later.trans ?_ (Hid.out (by assumption))))) hb); obtain ⟨H, hcc, hff, hzz⟩ := later_facts hb; clear hb))
            go_ret2
            exact ⟨ret_2i (by rw [e2.out]; simp) (by rw [e1.out, e0.out]), (by repeat (first | (with_reducible exact Later.refl _) | (with_reducible exact Hid.out (by assumption)) | (with_reducible refine Later.alloc ?_ _) | (with_reducible refine Later.setCell ?_ (by simp; omega) _) | (with_reducible refine Later.setCell ?_ (by simp) _) | (with_reducible refine Later.drewN ?_ _) | (with_reducible refine Later.drew ?_) | (with_reducible refine Later.trans ?_ (Hid.out (by assumption)))))⟩
        · obtain rfl := r1 (by omega)
          cases c2
          · go_wp2_with (first | (go_at_call 113; refine (HR2 _).mono ?_; rintro e w8 ⟨rfl, hb⟩; have H8 : Hid (Later wr w8) := Lib.hid (Later.trans (by repeat (first | (with_reducible exact Later.refl _) | (with_reducible exact Hid.out (by assumption)) | (with_reducible refine Later.alloc ?_ _) | (with_reducible refine Later.setCell ?_ (by simp; omega) _) | (with_reducible refine Later.setCell ?_ (by simp) _) | (with_reducible refine Later.drewN ?_ _) | (with_reducible refine Later.drew ?_) | (with_reducible refine Later.trans ?_ (Hid.out (by assumption))))) hb); clear hb))
            go_roundw
            case rel => exact ⟨2, by omega, by go_num, fun _ => by trivial, fun _ => by trivial, hH.later H8.out, fr_later hR H8.out⟩
            case measure => simp [intOf]
          · go_wp2_with (first | (go_at_call 113; refine (HR2 _).mono ?_; rintro e w8 ⟨rfl, hb⟩; have H8 : Hid (Later wr w8) := Lib.hid (Later.trans (by repeat (first | (with_reducible exact Later.refl _) | (with_reducible exact Hid.out (by assumption)) | (with_reducible refine Later.alloc ?_ _) | (with_reducible refine Later.setCell ?_ (by simp; omega) _) | (with_reducible refine Later.setCell ?_ (by simp) _) | (with_reducible refine Later.drewN ?_ _) | (with_reducible refine Later.drew ?_) | (with_reducible refine Later.trans ?_ (Hid.out (by assumption))))) hb); obtain ⟨H, hcc, hff, hzz⟩ := later_facts hb; clear hb))
            go_ret2
            exact ⟨ret_2i (by rw [e2.out]; simp) (by rw [e1.out, e0.out]), (by repeat (first | (with_reducible exact Later.refl _) | (with_reducible exact Hid.out (by assumption)) | (with_reducible refine Later.alloc ?_ _) | (with_reducible refine Later.setCell ?_ (by simp; omega) _) | (with_reducible refine Later.setCell ?_ (by simp) _) | (with_reducible refine Later.drewN ?_ _) | (with_reducible refine Later.drew ?_) | (with_reducible refine Later.trans ?_ (Hid.out (by assumption)))))⟩
        · obtain rfl := r1 (by omega)
          obtain rfl := r2 (by omega)
          go_wp2_with fail
          go_ret2
          exact ⟨ret_2i (by rw [e2.out]; simp) (by rw [e1.out, e0.out]), (by repeat (first | (with_reducible exact Later.refl _) | (with_reducible exact Hid.out (by assumption)) | (with_reducible refine Later.alloc ?_ _) | (with_reducible refine Later.setCell ?_ (by simp; omega) _) | (with_reducible refine Later.setCell ?_ (by simp) _) | (with_reducible refine Later.drewN ?_ _) | (with_reducible refine Later.drew ?_) | (with_reducible refine Later.trans ?_ (Hid.out (by assumption)))))⟩
    · have e2 : Hid (svV x a b = 0) := Lib.hid (by unfold svV okV; rw [e1.out, if_neg h])
      have b2 : bwL x = 0 := by unfold bwL okV; rw [if_neg h]
      have b3 : bwH x = 0 := by unfold bwH okV; rw [if_neg h]
      rw [b2, b3] at HB
      generalize brE x = q at *
      have hne : (q != 0) = true := by simpa using h
      clear h b2 b3
      go_enter Try.func43, Try.ntmps43
      go_wp2_with (first | (go_at_call 64; refine (i_IsEnergy _ _ _).mono ?_; rintro e w1 ⟨rfl, hb⟩; obtain ⟨H, hcc, hff, hzz⟩ := later_facts hb; clear hb; (try simp at hzz); (try simp only [World.heap_drewN, World.cell?_drewN, World.frozen?_drewN] at hcc hff); have hz0 : w.heap.size < w1.heap.size := (by omega); (try (have hz1 : w.heap.size + 1 < w1.heap.size := (by omega))); (try (have hz2 : w.heap.size + 1 + 1 < w1.heap.size := (by omega))); (try (have hz3 : w.heap.size + 1 + 1 + 1 < w1.heap.size := (by omega))); (try (have hz4 : w.heap.size + 1 + 1 + 1 + 1 < w1.heap.size := (by omega)))) | (go_at_call 45; refine (HB _).mono ?_; rintro e w1 ⟨rfl, hb⟩; obtain ⟨H, hcc, hff, hzz⟩ := later_facts hb; clear hb; (try simp at hzz); (try simp only [World.heap_drewN, World.cell?_drewN, World.frozen?_drewN] at hcc hff); have hz0 : w.heap.size < w1.heap.size := (by omega); (try (have hz1 : w.heap.size + 1 < w1.heap.size := (by omega))); (try (have hz2 : w.heap.size + 1 + 1 < w1.heap.size := (by omega))); (try (have hz3 : w.heap.size + 1 + 1 + 1 < w1.heap.size := (by omega))); (try (have hz4 : w.heap.size + 1 + 1 + 1 + 1 < w1.heap.size := (by omega)))))
      go_ret2
      exact ⟨ret_2i e2.out.symm e1.out.symm, (by repeat (first | (with_reducible exact Later.refl _) | (with_reducible exact Hid.out (by assumption)) | (with_reducible refine Later.alloc ?_ _) | (with_reducible refine Later.setCell ?_ (by simp; omega) _) | (with_reducible refine Later.setCell ?_ (by simp) _) | (with_reducible refine Later.drewN ?_ _) | (with_reducible refine Later.drew ?_) | (with_reducible refine Later.trans ?_ (Hid.out (by assumption)))))⟩
end Go.Proofs.Ytdhoiiejcmnmbaa
