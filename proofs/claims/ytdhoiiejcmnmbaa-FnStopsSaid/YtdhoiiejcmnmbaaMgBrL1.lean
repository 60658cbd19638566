/- What the law on stops says, in plain words. | Contracts of chapter 7: the verdict on a stop, of the program: rules that hold functions. | Contracts of chapter 6: the program's functions on one segment, with their errors. | Slices that came in, as the shell of a proof says them. | The walk of the law of chapter 6 on speeds and energies. | The walk of the law on stops. -/
import Derived.Test.YtdhoiiejcmnmbaaBrM
import Derived.Test.YtdhoiiejcmnmbaaBrI
import Derived.Laws.EntriesVeiled
import Derived.Test.YtdhoiiejcmnmbaaEnI
import Derived.Test.YtdhoiiejcmnmbaaRoot
import Derived.RegionTactic
import Derived.ChangeAlike
import Derived.BigQuiet
import Derived.Deep.QuietTactic
import Derived.Test.YtdhoiiejcmnmbaaFrom
import Derived.Test.YtdhoiiejcmnmbaaEnF
import Derived.Test.YtdhoiiejcmnmbaaEnT
import Derived.Test.YtdhoiiejcmnmbaaBrC
namespace Go.Proofs.Ytdhoiiejcmnmbaa
set_option linter.unusedSimpArgs false
set_option linter.unusedVariables false
theorem quo_facts (a b : Int) (ha : 0 ≤ a) (hb : 0 < b) : b * a.tdiv b ≤ a ∧ a < b * a.tdiv b + b := by
  obtain ⟨f1, f2, _, f4, _⟩ := tmod_facts a b (by omega)
  have f2 := f2 ha; have f4 := (f4 hb).1
  omega
/-- the facts of the distances behind which a train stops -/
theorem ds_facts (l x y W w P Q : Int) (hl : 1 ≤ l) (hx : 0 ≤ x) (hxy : x ≤ y) (hw : 1 ≤ w) (hW : w ≤ W) (hP : P = flo (x * l) W) (hQ : Q = cei (y * l) w) :
    (Q ≤ l ↔ y ≤ w) ∧ (W < x → l ≤ P) ∧ P ≤ Q := by
  have h1 : 0 ≤ x * l := Int.mul_nonneg hx (by omega)
  have h2 : 0 ≤ y * l := Int.mul_nonneg (by omega) (by omega)
  have h3 : x * l ≤ y * l := Int.mul_le_mul_of_nonneg_right hxy (by omega)
  rw [flo_nn _ _ h1 (by omega)] at hP
  rw [cei_nn _ _ h2 (by omega)] at hQ
  obtain ⟨p1, p2⟩ := quo_facts (x * l) W h1 (by omega)
  obtain ⟨q1, q2⟩ := quo_facts (y * l + w - 1) w (by omega) (by omega)
  rw [← hP] at p1 p2
  rw [← hQ] at q1 q2
  have hQ0 : 0 ≤ Q := by
    rcases Int.lt_or_le Q 0 with c | c
    · have := Int.mul_le_mul_of_nonneg_left (show Q ≤ -1 by omega) (show 0 ≤ w by omega); omega
    · exact c
  refine ⟨⟨fun h => ?_, fun h => ?_⟩, fun h => ?_, ?_⟩
  · rcases Int.lt_or_le w y with c | c
    · have a1 := Int.mul_le_mul_of_nonneg_left h (show 0 ≤ w by omega)
      have a2 := Int.mul_le_mul_of_nonneg_right (show w + 1 ≤ y by omega) (show 0 ≤ l by omega)
      rw [Int.add_mul] at a2; omega
    · exact c
  · rcases Int.lt_or_le l Q with c | c
    · have a1 := Int.mul_le_mul_of_nonneg_left (show l + 1 ≤ Q by omega) (show 0 ≤ w by omega)
      have a2 := Int.mul_le_mul_of_nonneg_right h (show 0 ≤ l by omega)
      rw [Int.mul_add] at a1; omega
    · exact c
  · rcases Int.lt_or_le P l with c | c
    · have a1 := Int.mul_le_mul_of_nonneg_left (show P ≤ l - 1 by omega) (show 0 ≤ W by omega)
      have a2 := Int.mul_le_mul_of_nonneg_right (show W ≤ x by omega) (show 0 ≤ l by omega)
      rw [Int.mul_sub] at a1; omega
    · exact c
  · rcases Int.lt_or_le Q P with c | c
    · have a1 := Int.mul_le_mul_of_nonneg_left (show Q + 1 ≤ P by omega) (show 0 ≤ W by omega)
      have a2 := Int.mul_le_mul_of_nonneg_right hW hQ0
      rw [Int.mul_add] at a1; omega
    · exact c
theorem st_facts {z : Sg} {x y : Int} (h : dsE z x y = 0) :
    slE z = 0 ∧ 1 ≤ gsV z ∧ gsV z ≤ 10000000000 ∧ ((svV z x y == 2) != decide (dsH z x y ≤ z.l)) = false ∧ (svV z x y = 0 → ¬ dsL z x y < z.l) ∧ ¬ dsH z x y < dsL z x y ∧
    svE z (gsV z) (gsV z) = 0 ∧ svV z (gsV z) (gsV z) = 2 ∧ (gsV z < 10000000000 → svE z (gsV z + 1) (gsV z + 1) = 0 ∧ svV z (gsV z + 1) (gsV z + 1) ≠ 2) := by
  have he : enB x y = true := by
    cases he : enB x y
    · unfold dsE at h; rw [he] at h; cases h
    · rfl
  have hs : slE z = 0 := by unfold dsE at h; rw [if_pos he] at h; exact h
  obtain ⟨s1, s2, s3⟩ := slE_ok hs
  have hb : brE z = 0 := by unfold brE; rw [if_pos s1, if_pos s2]
  obtain ⟨u1, u2, u3⟩ := (enB_iff x y).1 he
  have hw := wk_bd z s1
  have hl := ((sgB_iff z).1 s1).2.1
  have e1 : dsL z x y = flo (x * z.l) (wkH z) := by unfold dsL; rw [h]; rfl
  have e2 : dsH z x y = cei (y * z.l) (wkL z) := by unfold dsH; rw [h]; rfl
  obtain ⟨d1, d2, d3⟩ := ds_facts z.l x y (wkH z) (wkL z) _ _ hl.1 u1 u2 s3 hw.2.1 e1 e2
  have ev : svV z x y = if 1 ≤ wkL z ∧ y ≤ wkL z then 2 else if wkH z < x then 0 else 1 := by unfold svV svE; rw [if_pos he, hb]; rfl
  have eg : gsV z = min (wkL z) 10000000000 := by unfold gsV; rw [hs]; rfl
  have hg1 : 1 ≤ gsV z := by rw [eg]; omega
  have hg2 : gsV z ≤ 10000000000 := by rw [eg]; omega
  have hg3 : gsV z ≤ wkL z := by rw [eg]; omega
  refine ⟨hs, hg1, hg2, ?_, ?_, by omega, ?_, ?_, ?_⟩
  · rw [ev]
    by_cases c : y ≤ wkL z
    · rw [if_pos ⟨s3, c⟩]
      have := d1.2 c
      simp [this]
    · rw [if_neg (by omega)]
      have : ¬ dsH z x y ≤ z.l := fun hh => c (d1.1 hh)
      by_cases c2 : wkH z < x
      · rw [if_pos c2]; simp [this]
      · rw [if_neg c2]; simp [this]
  · intro hv
    rw [ev] at hv
    by_cases c : y ≤ wkL z
    · rw [if_pos ⟨s3, c⟩] at hv; cases hv
    · rw [if_neg (by omega)] at hv
      by_cases c2 : wkH z < x
      · have := d2 c2; omega
      · rw [if_neg c2] at hv; cases hv
  · unfold svE; rw [if_pos ((enB_iff _ _).2 (by omega)), hb]
  · unfold svV svE; rw [if_pos ((enB_iff _ _).2 (by omega)), hb]
    show svW z (gsV z) (gsV z) = 2
    unfold svW; rw [if_pos ⟨s3, hg3⟩]
  · intro hlt
    have hge : wkL z = gsV z := by rw [eg] at hlt ⊢; omega
    have hs2 : svE z (gsV z + 1) (gsV z + 1) = 0 := by unfold svE; rw [if_pos ((enB_iff _ _).2 (by omega)), hb]
    refine ⟨hs2, ?_⟩
    unfold svV
    rw [hs2]
    show svW z (gsV z + 1) (gsV z + 1) ≠ 2
    unfold svW
    rw [if_neg (by omega)]
    split <;> omega
end Go.Proofs.Ytdhoiiejcmnmbaa
namespace Go.Proofs.Ytdhoiiejcmnmbaa
open Go.RowKit
set_option maxHeartbeats 4000000
set_option linter.unusedVariables false
set_option linter.unusedSimpArgs false
theorem i_rule1 (p q a b : Int) (c : Bool) (h : (decide (1 ≤ p) && decide (b ≤ p)) = c) (w : World) :
    Calls Try.prog 112 #[.agg #[.int .i64 p, .int .i64 q], .agg #[.int .i64 a, .int .i64 b]] w fun e w' => e = .returned (.bool c) ∧ Later w w' := by
  subst h
  by_cases h1 : 1 ≤ p
  · have hd : decide (1 ≤ p) = true := by simpa using h1
    go_enter Try.func112, Try.ntmps112
    go_wp2_with (go_at_call 111; refine (i_slows _ _ _).mono ?_; rw [hd]; rintro e w1 ⟨rfl, hb⟩; obtain ⟨H, hcc, hff, hzz⟩ := later_facts hb; clear hb; (try simp at hzz))
    go_ret
    exact ⟨ret_b (by rw [hd]; simp), (by repeat (first | (with_reducible exact Later.refl _) | (with_reducible exact Hid.out (by assumption)) | (with_reducible refine Later.alloc ?_ _) | (with_reducible refine Later.setCell ?_ (by simp; omega) _) | (with_reducible refine Later.setCell ?_ (by simp) _) | (with_reducible refine Later.drewN ?_ _) | (with_reducible refine Later.drew ?_) | (with_reducible refine Later.trans ?_ (Hid.out (by assumption)))))⟩
  · have hd : decide (1 ≤ p) = false := by simpa using h1
    go_enter Try.func112, Try.ntmps112
    go_wp2_with (go_at_call 111; refine (i_slows _ _ _).mono ?_; rw [hd]; rintro e w1 ⟨rfl, hb⟩; obtain ⟨H, hcc, hff, hzz⟩ := later_facts hb; clear hb; (try simp at hzz))
    go_ret
    exact ⟨ret_b (by rw [hd]; simp), (by repeat (first | (with_reducible exact Later.refl _) | (with_reducible exact Hid.out (by assumption)) | (with_reducible refine Later.alloc ?_ _) | (with_reducible refine Later.setCell ?_ (by simp; omega) _) | (with_reducible refine Later.setCell ?_ (by simp) _) | (with_reducible refine Later.drewN ?_ _) | (with_reducible refine Later.drew ?_) | (with_reducible refine Later.trans ?_ (Hid.out (by assumption)))))⟩
theorem i_rule2 (p q a b : Int) (c : Bool) (h : decide (q < a) = c) (w : World) :
    Calls Try.prog 113 #[.agg #[.int .i64 p, .int .i64 q], .agg #[.int .i64 a, .int .i64 b]] w fun e w' => e = .returned (.bool c) ∧ Later w w' := by
  subst h
  go_enter Try.func113, Try.ntmps113
  go_wp2
  go_ret
  exact ⟨ret_b (by first | rfl | simp), (by repeat (first | (with_reducible exact Later.refl _) | (with_reducible exact Hid.out (by assumption)) | (with_reducible refine Later.alloc ?_ _) | (with_reducible refine Later.setCell ?_ (by simp; omega) _) | (with_reducible refine Later.setCell ?_ (by simp) _) | (with_reducible refine Later.drewN ?_ _) | (with_reducible refine Later.drew ?_) | (with_reducible refine Later.trans ?_ (Hid.out (by assumption)))))⟩
theorem i_stopRules (w : World) :
    Calls Try.prog 88 #[] w fun e w' => ∃ g : Nat, e = .returned (.slice (some ⟨g, 0, none⟩) 2 2) ∧ w.heap.size ≤ g ∧ Fr g [.int .i64 2, .func (.func 112) #[] #[], .int .i64 0, .func (.func 113) #[] #[]] w' ∧ Later w w' := by
  go_enter Try.func88, Try.ntmps88
  go_wp2
  go_ret
  exact ⟨_, rfl, Nat.le_refl _, fr_alloc (Later.refl _), (by repeat (first | (with_reducible exact Later.refl _) | (with_reducible exact Hid.out (by assumption)) | (with_reducible refine Later.alloc ?_ _) | (with_reducible refine Later.setCell ?_ (by simp; omega) _) | (with_reducible refine Later.setCell ?_ (by simp) _) | (with_reducible refine Later.drewN ?_ _) | (with_reducible refine Later.drew ?_) | (with_reducible refine Later.trans ?_ (Hid.out (by assumption)))))⟩
set_option maxRecDepth 100000 in
theorem i_StopVerdict (x : Sg) (a b : Int) (w : World) :
    Calls Try.prog 43 #[.agg #[.int .i64 x.k, .int .i64 x.l, .int .i64 x.r, .int .i64 x.a, .int .i64 x.b, .int .i64 x.c, .int .i64 x.d], .agg #[.int .i64 a, .int .i64 b]] w fun e w' => e = .returned (.tuple #[.int .i64 (svV x a b), .int .i64 (svE x a b)]) ∧ Later w w' := by
  have HB := fun w => i_BrakeWork x w
  cases h1 : enB a b
  · have e1 : Hid (svE x a b = 1) := Lib.hid (by unfold svE; rw [h1]; rfl)
    have e2 : Hid (svV x a b = 0) := Lib.hid (by unfold svV; rw [e1.out]; rfl)
    go_enter Try.func43, Try.ntmps43
    go_wp2_with (first | (go_at_call 64; refine (i_IsEnergy _ _ _).mono ?_; rintro e w1 ⟨rfl, hb⟩; obtain ⟨H, hcc, hff, hzz⟩ := later_facts hb; clear hb; (try simp at hzz); (try simp only [World.heap_drewN, World.cell?_drewN, World.frozen?_drewN] at hcc hff); have hz0 : w.heap.size < w1.heap.size := (by omega); (try (have hz1 : w.heap.size + 1 < w1.heap.size := (by omega))); (try (have hz2 : w.heap.size + 1 + 1 < w1.heap.size := (by omega))); (try (have hz3 : w.heap.size + 1 + 1 + 1 < w1.heap.size := (by omega))); (try (have hz4 : w.heap.size + 1 + 1 + 1 + 1 < w1.heap.size := (by omega)))))
    go_ret2
    exact ⟨ret_2i e2.out.symm e1.out.symm, (by repeat (first | (with_reducible exact Later.refl _) | (with_reducible exact Hid.out (by assumption)) | (with_reducible refine Later.alloc ?_ _) | (with_reducible refine Later.setCell ?_ (by simp; omega) _) | (with_reducible refine Later.setCell ?_ (by simp) _) | (with_reducible refine Later.drewN ?_ _) | (with_reducible refine Later.drew ?_) | (with_reducible refine Later.trans ?_ (Hid.out (by assumption)))))⟩
  · have e1 : Hid (svE x a b = brE x) := Lib.hid (by unfold svE; rw [h1]; rfl)
    by_cases h : brE x = 0
    · have b2 : bwL x = wkL x := by unfold bwL; rw [h]; rfl
      have b3 : bwH x = wkH x := by unfold bwH; rw [h]; rfl
      have e2 : Hid (svV x a b = if (decide (1 ≤ wkL x) && decide (b ≤ wkL x)) = true then 2 else if decide (wkH x < a) = true then 0 else 1) := Lib.hid (by unfold svV; rw [e1.out, h]; show svW x a b = _; unfold svW; simp)
      have e0 : Hid (brE x = 0) := Lib.hid h
      rw [h, b2, b3] at HB
      generalize wkL x = p at *
      generalize wkH x = q at *
      obtain ⟨c1, hc1⟩ : ∃ c1, (decide (1 ≤ p) && decide (b ≤ p)) = c1 := ⟨_, rfl⟩
      obtain ⟨c2, hc2⟩ : ∃ c2, decide (q < a) = c2 := ⟨_, rfl⟩
      rw [hc1, hc2] at e2
      have HR1 := fun w => i_rule1 p q a b c1 hc1 w
      have HR2 := fun w => i_rule2 p q a b c2 hc2 w
      clear h b2 b3 hc1 hc2
      go_enter Try.func43, Try.ntmps43
      go_upto_region 1 with (fail)
      refine into (fun W => Held [(w.heap.size + 1, 0, .int .i64 a), (w.heap.size + 1, 1, .int .i64 b), (w.heap.size, 0, .int .i64 x.k), (w.heap.size, 1, .int .i64 x.l), (w.heap.size, 2, .int .i64 x.r), (w.heap.size, 3, .int .i64 x.a), (w.heap.size, 4, .int .i64 x.b), (w.heap.size, 5, .int .i64 x.c), (w.heap.size, 6, .int .i64 x.d)] w W) (by first | exact (held_box (held_box (held_start w) w.heap.size [.int .i64 x.k, .int .i64 x.l, .int .i64 x.r, .int .i64 x.a, .int .i64 x.b, .int .i64 x.c, .int .i64 x.d] _ rfl) (w.heap.size + 1) [.int .i64 a, .int .i64 b] _ (by simp))) ?_
      rintro W hW
      obtain ⟨p7, p8, p0, p1, p2, p3, p4, p5, p6, _⟩ := Held.s9 hW
      have z0 := hW.lt w.heap.size 0 (.int .i64 x.k) (by simp)
      have z1 := hW.lt (w.heap.size + 1) 0 (.int .i64 a) (by simp)
      have HW := Lib.hid (Held.is hW)
      go_wp2_with (first | (go_at_call 64; refine (i_IsEnergy _ _ _).mono ?_; rintro e w1 ⟨rfl, hb⟩; obtain ⟨H, hcc, hff, hzz⟩ := later_facts hb; clear hb; (try simp at hzz); (try simp only [World.heap_drewN, World.cell?_drewN, World.frozen?_drewN] at hcc hff); have hz0 : w.heap.size < w1.heap.size := (by omega); (try (have hz1 : w.heap.size + 1 < w1.heap.size := (by omega))); (try (have hz2 : w.heap.size + 1 + 1 < w1.heap.size := (by omega))); (try (have hz3 : w.heap.size + 1 + 1 + 1 < w1.heap.size := (by omega))); (try (have hz4 : w.heap.size + 1 + 1 + 1 + 1 < w1.heap.size := (by omega)))) | (go_at_call 45; refine (HB _).mono ?_; rintro e w6 ⟨rfl, hb⟩; have H6 : Hid (Later W w6) := Lib.hid (Later.trans (by repeat (first | (with_reducible exact Later.refl _) | (with_reducible exact Hid.out (by assumption)) | (with_reducible refine Later.alloc ?_ _) | (with_reducible refine Later.setCell ?_ (by simp; omega) _) | (with_reducible refine Later.setCell ?_ (by simp) _) | (with_reducible refine Later.drewN ?_ _) | (with_reducible refine Later.drew ?_) | (with_reducible refine Later.trans ?_ (Hid.out (by assumption))))) hb); obtain ⟨H, hcc, hff, hzz⟩ := later_facts hb; clear hb) | (go_at_call 88; refine (i_stopRules _).mono ?_; rintro e w7 ⟨g, rfl, hg, hF, hb⟩; have HF := Lib.hid hF; have W7 := Lib.hid hb; clear hb hF))
      have hW7 : Held ((w6.heap.size, 0, .int .i64 p) :: (w6.heap.size, 1, .int .i64 q) :: [(w.heap.size + 1, 0, .int .i64 a), (w.heap.size + 1, 1, .int .i64 b), (w.heap.size, 0, .int .i64 x.k), (w.heap.size, 1, .int .i64 x.l), (w.heap.size, 2, .int .i64 x.r), (w.heap.size, 3, .int .i64 x.a), (w.heap.size, 4, .int .i64 x.b), (w.heap.size, 5, .int .i64 x.c), (w.heap.size, 6, .int .i64 x.d)]) w w7 := (held_box (Held.later hW H6.out) w6.heap.size [.int .i64 p, .int .i64 q] _ rfl).later W7.out
      have hgo : w6.heap.size < g := by simp only [World.size_alloc] at hg; omega
      have hwo : w.heap.size + 1 < w6.heap.size := by have := H6.out.size; omega
      obtain ⟨o, ho⟩ : ∃ o, o = w6.heap.size := ⟨_, rfl⟩
      rw [← ho] at hW7 hgo hwo
      have hW7 : Held [(o, 0, .int .i64 p), (o, 1, .int .i64 q), (w.heap.size + 1, 0, .int .i64 a), (w.heap.size + 1, 1, .int .i64 b)] w w7 := ⟨fun y hy => hW7.1 y (by simp at hy ⊢; rcases hy with rfl | rfl | rfl | rfl <;> simp), hW7.2⟩
      have HWH := Lib.hid hW7
      clear p0 p1 p2 p3 p4 p5 p6 p7 p8 hcc hff hzz H hW z0 z1 hg HB hW7
      go_loopw [23] (fun i wr => ∃ k : Nat, k ≤ 2 ∧ i = .int .i64 k ∧ (1 ≤ k → c1 = false) ∧ (2 ≤ k → c2 = false) ∧ Held [(o, 0, .int .i64 p), (o, 1, .int .i64 q), (w.heap.size + 1, 0, .int .i64 a), (w.heap.size + 1, 1, .int .i64 b)] w wr ∧ Fr g [.int .i64 2, .func (.func 112) #[] #[], .int .i64 0, .func (.func 113) #[] #[]] wr) (fun i _ => 2 - (intOf i).toNat)
      case atStart => exact ⟨0, by omega, rfl, by omega, by omega, HWH.out, HF.out⟩
      case round =>
        obtain ⟨k, hk, rfl, r1, r2, hH, hR⟩ := hrel
        obtain ⟨q0, q1, q2, q3, _⟩ := Held.s4 hH
        obtain ⟨f1, f2, f3, f4, _⟩ := Fr.o4 hR
        have zr := hR.lt
        have zo := hH.lt o 0 (.int .i64 p) (by simp)
        have ze := hH.lt (w.heap.size + 1) 0 (.int .i64 a) (by simp)
        have HH := Lib.hid hH.is
        subst ho
        have hk3 : k = 0 ∨ k = 1 ∨ k = 2 := by omega
        rcases hk3 with rfl | rfl | rfl
        · cases c1
          · go_wp2_with (first | (go_at_call 112; refine (HR1 _).mono ?_; rintro e w8 ⟨rfl, hb⟩; have H8 : Hid (Later wr w8) := Lib.hid (Later.trans (by repeat (first | (with_reducible exact Later.refl _) | (with_reducible exact Hid.out (by assumption)) | (with_reducible refine Later.alloc ?_ _) | (with_reducible refine Later.setCell ?_ (by simp; omega) _) | (with_reducible refine Later.setCell ?_ (by simp) _) | (with_reducible refine Later.drewN ?_ _) | (with_reducible refine Later.drew ?_) | (with_reducible refine Later.trans ?_ (Hid.out (by assumption))))) hb); clear hb))
            go_roundw
            case rel => exact ⟨1, by omega, by go_num, fun _ => by trivial, by omega, hH.later H8.out, fr_later hR H8.out⟩
            case measure => simp [intOf]
          · go_wp2_with (first | (go_at_call 112; refine (HR1 _).mono ?_; rintro e w8 ⟨rfl, hb⟩; have H8 : Hid (Later wr w8) := Lib.hid (Later.trans (by repeat (first | (with_reducible exact Later.refl _) | (with_reducible exact Hid.out (by assumption)) | (with_reducible refine Later.alloc ?_ _) | (with_reducible refine Later.setCell ?_ (by simp; omega) _) | (with_reducible refine Later.setCell ?_ (by simp) _) | (with_reducible refine Later.drewN ?_ _) | (with_reducible refine Later.drew ?_) | (with_reducible refine Later.trans ?_ (Hid.out (by assumption))))) hb); obtain ⟨H, hcc, hff, hzz⟩ := later_facts hb; clear hb))
            go_ret2
            exact ⟨ret_2i (by rw [e2.out]; simp) (by rw [e1.out, e0.out]), (by repeat (first | (with_reducible exact Later.refl _) | (with_reducible exact Hid.out (by assumption)) | (with_reducible refine Later.alloc ?_ _) | (with_reducible refine Later.setCell ?_ (by simp; omega) _) | (with_reducible refine Later.setCell ?_ (by simp) _) | (with_reducible refine Later.drewN ?_ _) | (with_reducible refine Later.drew ?_) | (with_reducible refine Later.trans ?_ (Hid.out (by assumption)))))⟩
        · obtain rfl := r1 (by omega)
          cases c2
          · go_wp2_with (first | (go_at_call 113; refine (HR2 _).mono ?_; rintro e w8 ⟨rfl, hb⟩; have H8 : Hid (Later wr w8) := Lib.hid (Later.trans (by repeat (first | (with_reducible exact Later.refl _) | (with_reducible exact Hid.out (by assumption)) | (with_reducible refine Later.alloc ?_ _) | (with_reducible refine Later.setCell ?_ (by simp; omega) _) | (with_reducible refine Later.setCell ?_ (by simp) _) | (with_reducible refine Later.drewN ?_ _) | (with_reducible refine Later.drew ?_) | (with_reducible refine Later.trans ?_ (Hid.out (by assumption))))) hb); clear hb))
            go_roundw
            case rel => exact ⟨2, by omega, by go_num, fun _ => by trivial, fun _ => by trivial, hH.later H8.out, fr_later hR H8.out⟩
            case measure => simp [intOf]
          · go_wp2_with (first | (go_at_call 113; refine (HR2 _).mono ?_; rintro e w8 ⟨rfl, hb⟩; have H8 : Hid (Later wr w8) := Lib.hid (Later.trans (by repeat (first | (with_reducible exact Later.refl _) | (with_reducible exact Hid.out (by assumption)) | (with_reducible refine Later.alloc ?_ _) | (with_reducible refine Later.setCell ?_ (by simp; omega) _) | (with_reducible refine Later.setCell ?_ (by simp) _) | (with_reducible refine Later.drewN ?_ _) | (with_reducible refine Later.drew ?_) | (with_reducible refine Later.trans ?_ (Hid.out (by assumption))))) hb); obtain ⟨H, hcc, hff, hzz⟩ := later_facts hb; clear hb))
            go_ret2
            exact ⟨ret_2i (by rw [e2.out]; simp) (by rw [e1.out, e0.out]), (by repeat (first | (with_reducible exact Later.refl _) | (with_reducible exact Hid.out (by assumption)) | (with_reducible refine Later.alloc ?_ _) | (with_reducible refine Later.setCell ?_ (by simp; omega) _) | (with_reducible refine Later.setCell ?_ (by simp) _) | (with_reducible refine Later.drewN ?_ _) | (with_reducible refine Later.drew ?_) | (with_reducible refine Later.trans ?_ (Hid.out (by assumption)))))⟩
        · obtain rfl := r1 (by omega)
          obtain rfl := r2 (by omega)
          go_wp2_with fail
          go_ret2
          exact ⟨ret_2i (by rw [e2.out]; simp) (by rw [e1.out, e0.out]), (by repeat (first | (with_reducible exact Later.refl _) | (with_reducible exact Hid.out (by assumption)) | (with_reducible refine Later.alloc ?_ _) | (with_reducible refine Later.setCell ?_ (by simp; omega) _) | (with_reducible refine Later.setCell ?_ (by simp) _) | (with_reducible refine Later.drewN ?_ _) | (with_reducible refine Later.drew ?_) | (with_reducible refine Later.trans ?_ (Hid.out (by assumption)))))⟩
    · have e2 : Hid (svV x a b = 0) := Lib.hid (by unfold svV okV; rw [e1.out, if_neg h])
      have b2 : bwL x = 0 := by unfold bwL okV; rw [if_neg h]
      have b3 : bwH x = 0 := by unfold bwH okV; rw [if_neg h]
      rw [b2, b3] at HB
      generalize brE x = q at *
      have hne : (q != 0) = true := by simpa using h
      clear h b2 b3
      go_enter Try.func43, Try.ntmps43
      go_wp2_with (first | (go_at_call 64; refine (i_IsEnergy _ _ _).mono ?_; rintro e w1 ⟨rfl, hb⟩; obtain ⟨H, hcc, hff, hzz⟩ := later_facts hb; clear hb; (try simp at hzz); (try simp only [World.heap_drewN, World.cell?_drewN, World.frozen?_drewN] at hcc hff); have hz0 : w.heap.size < w1.heap.size := (by omega); (try (have hz1 : w.heap.size + 1 < w1.heap.size := (by omega))); (try (have hz2 : w.heap.size + 1 + 1 < w1.heap.size := (by omega))); (try (have hz3 : w.heap.size + 1 + 1 + 1 < w1.heap.size := (by omega))); (try (have hz4 : w.heap.size + 1 + 1 + 1 + 1 < w1.heap.size := (by omega)))) | (go_at_call 45; refine (HB _).mono ?_; rintro e w1 ⟨rfl, hb⟩; obtain ⟨H, hcc, hff, hzz⟩ := later_facts hb; clear hb; (try simp at hzz); (try simp only [World.heap_drewN, World.cell?_drewN, World.frozen?_drewN] at hcc hff); have hz0 : w.heap.size < w1.heap.size := (by omega); (try (have hz1 : w.heap.size + 1 < w1.heap.size := (by omega))); (try (have hz2 : w.heap.size + 1 + 1 < w1.heap.size := (by omega))); (try (have hz3 : w.heap.size + 1 + 1 + 1 < w1.heap.size := (by omega))); (try (have hz4 : w.heap.size + 1 + 1 + 1 + 1 < w1.heap.size := (by omega)))))
      go_ret2
      exact ⟨ret_2i e2.out.symm e1.out.symm, (by repeat (first | (with_reducible exact Later.refl _) | (with_reducible exact Hid.out (by assumption)) | (with_reducible refine Later.alloc ?_ _) | (with_reducible refine Later.setCell ?_ (by simp; omega) _) | (with_reducible refine Later.setCell ?_ (by simp) _) | (with_reducible refine Later.drewN ?_ _) | (with_reducible refine Later.drew ?_) | (with_reducible refine Later.trans ?_ (Hid.out (by assumption)))))⟩
end Go.Proofs.Ytdhoiiejcmnmbaa
namespace Go.Proofs.Ytdhoiiejcmnmbaa
open Go.RowKit
set_option maxHeartbeats 4000000
set_option linter.unusedVariables false
set_option linter.unusedSimpArgs false
theorem i_ChangeOf' (x : Sg) (w : World) :
    Calls Try.prog 22 #[.agg #[.int .i64 x.k, .int .i64 x.l, .int .i64 x.r, .int .i64 x.a, .int .i64 x.b, .int .i64 x.c, .int .i64 x.d]] w fun e w' => e = .returned (.tuple #[.agg #[.int .i64 (if sgB x = true then chL x else 0), .int .i64 (if sgB x = true then chH x else 0)], .int .i64 (inE (sgB x))]) ∧ Later w w' := by
  cases h : sgB x
  · go_enter Try.func22, Try.ntmps22
    go_wp2_with (go_at_call 63; refine (i_IsSegment x _).mono ?_; rintro e w1 ⟨rfl, hb⟩; obtain ⟨H, hcc, hff, hzz⟩ := later_facts hb; clear hb; (try simp at hzz); (try simp only [World.heap_drewN, World.cell?_drewN, World.frozen?_drewN] at hcc hff); have hz0 : w.heap.size < w1.heap.size := (by omega); (try (have hz1 : w.heap.size + 1 < w1.heap.size := (by omega))); (try (have hz2 : w.heap.size + 1 + 1 < w1.heap.size := (by omega))); (try (have hz3 : w.heap.size + 1 + 1 + 1 < w1.heap.size := (by omega))); (try (have hz4 : w.heap.size + 1 + 1 + 1 + 1 < w1.heap.size := (by omega))))
    refine bodyPost_ret (v := .tuple #[.agg #[.int .i64 0, .int .i64 0], .int .i64 1]) (by simp [results, Try.results22, go_sem, *]) rfl ⟨rfl, (by repeat (first | (with_reducible exact Later.refl _) | (with_reducible exact Hid.out (by assumption)) | (with_reducible refine Later.alloc ?_ _) | (with_reducible refine Later.setCell ?_ (by simp; omega) _) | (with_reducible refine Later.setCell ?_ (by simp) _) | (with_reducible refine Later.drewN ?_ _) | (with_reducible refine Later.drew ?_) | (with_reducible refine Later.trans ?_ (Hid.out (by assumption)))))⟩
  · go_enter Try.func22, Try.ntmps22
    go_wp2_with (first | (go_at_call 63; refine (i_IsSegment x _).mono ?_; rintro e w1 ⟨rfl, hb⟩; obtain ⟨H, hcc, hff, hzz⟩ := later_facts hb; clear hb; (try simp at hzz); (try simp only [World.heap_drewN, World.cell?_drewN, World.frozen?_drewN] at hcc hff); have hz0 : w.heap.size < w1.heap.size := (by omega); (try (have hz1 : w.heap.size + 1 < w1.heap.size := (by omega))); (try (have hz2 : w.heap.size + 1 + 1 < w1.heap.size := (by omega))); (try (have hz3 : w.heap.size + 1 + 1 + 1 < w1.heap.size := (by omega))); (try (have hz4 : w.heap.size + 1 + 1 + 1 + 1 < w1.heap.size := (by omega)))) | (go_at_call 71; refine (i_coastingChange x _ h).mono ?_; rintro e w1 ⟨rfl, hb⟩; obtain ⟨H, hcc, hff, hzz⟩ := later_facts hb; clear hb; (try simp at hzz); (try simp only [World.heap_drewN, World.cell?_drewN, World.frozen?_drewN] at hcc hff); have hz0 : w.heap.size < w1.heap.size := (by omega); (try (have hz1 : w.heap.size + 1 < w1.heap.size := (by omega))); (try (have hz2 : w.heap.size + 1 + 1 < w1.heap.size := (by omega))); (try (have hz3 : w.heap.size + 1 + 1 + 1 < w1.heap.size := (by omega))); (try (have hz4 : w.heap.size + 1 + 1 + 1 + 1 < w1.heap.size := (by omega)))))
    refine bodyPost_ret (v := .tuple #[.agg #[.int .i64 (chL x), .int .i64 (chH x)], .int .i64 0]) (by simp [results, Try.results22, go_sem, *]) rfl ⟨rfl, (by repeat (first | (with_reducible exact Later.refl _) | (with_reducible exact Hid.out (by assumption)) | (with_reducible refine Later.alloc ?_ _) | (with_reducible refine Later.setCell ?_ (by simp; omega) _) | (with_reducible refine Later.setCell ?_ (by simp) _) | (with_reducible refine Later.drewN ?_ _) | (with_reducible refine Later.drew ?_) | (with_reducible refine Later.trans ?_ (Hid.out (by assumption)))))⟩
theorem i_ChangeOf (x : Sg) (w : World) :
    Calls Try.prog 22 #[.agg #[.int .i64 x.k, .int .i64 x.l, .int .i64 x.r, .int .i64 x.a, .int .i64 x.b, .int .i64 x.c, .int .i64 x.d]] w fun e w' => e = .returned (.tuple #[.agg #[.int .i64 (coL x), .int .i64 (coH x)], .int .i64 (inE (sgB x))]) ∧ Later w w' := i_ChangeOf' x w
end Go.Proofs.Ytdhoiiejcmnmbaa
namespace Go.Proofs.Ytdhoiiejcmnmbaa
open Go.RowKit
set_option maxHeartbeats 2000000
set_option linter.unusedVariables false
set_option linter.unusedSimpArgs false
/-- a slice of integers that came in, as the shell of a proof says it -/
def IsRow (k : IntKind) (w : World) (a : Option Addr) (len cap : Nat) (zs : List Int) : Prop :=
  (a = none ∧ len = 0 ∧ cap = 0 ∧ zs = []) ∨
  ∃ x, a = some x ∧ len ≤ cap ∧ cap ≤ maxLen ∧ zs.length = cap ∧ (∀ i, i < zs.length → w.cell? (x.add i) = some (.int k (zs.getD i 0))) ∧ ∀ n ∈ zs, (Lit.int k n).wf = true
theorem isRow_sl {w : World} {a : Option Addr} {len cap : Nat} {zs : List Int} (h : IsRow .i64 w a len cap zs) : Sl w a len (zs.take len) := by
  rcases h with ⟨rfl, rfl, rfl, rfl⟩ | ⟨x, rfl, hl, hm, hz, hc, hw⟩
  · exact ⟨rfl, by omega, fun k hk => absurd hk (by omega), fun x hx => by simp at hx⟩
  · unfold maxLen at hm
    refine ⟨by rw [List.length_take]; omega, by omega, fun k hk => ?_, fun y hy => ?_⟩
    · have h0 := hc 0 (by omega)
      have hk0 := hc k (by omega)
      obtain ⟨b, off, spot⟩ := x
      have hspot : spot = none := by simpa [Addr.add] using World.cell?_spot h0
      subst hspot
      rw [Addr.add_lit] at hk0
      exact ⟨b, off, rfl, by rw [gx_take _ _ _ hk]; exact hk0⟩
    · have := hw y (List.mem_of_mem_take hy)
      simp [Lit.wf, IntKind.min, IntKind.max, IntKind.signed, IntKind.bits] at this
      exact this
theorem isRow_bytes {w : World} {a : Option Addr} {len cap : Nat} {zs : List Int} (h : IsRow .u8 w a len cap zs) : Bytes w a len := by
  rcases h with ⟨rfl, rfl, rfl, rfl⟩ | ⟨x, rfl, hl, hm, hz, hc, hw⟩
  · exact ⟨by omega, fun k hk => absurd hk (by omega)⟩
  · unfold maxLen at hm
    refine ⟨by omega, fun k hk => ?_⟩
    have h0 := hc 0 (by omega)
    have hk0 := hc k (by omega)
    obtain ⟨b, off, spot⟩ := x
    have hspot : spot = none := by simpa [Addr.add] using World.cell?_spot h0
    subst hspot
    rw [Addr.add_lit] at hk0
    have hb := hw (zs.getD k 0) (show gx zs k ∈ zs from gx_mem zs k (by omega))
    simp [Lit.wf, IntKind.min, IntKind.max, IntKind.signed, IntKind.bits] at hb
    exact ⟨b, off, zs.getD k 0, rfl, hk0, by simpa using hb.1, by simpa using hb.2⟩
end Go.Proofs.Ytdhoiiejcmnmbaa
namespace Go.Proofs.Ytdhoiiejcmnmbaa
open Go.RowKit
set_option maxHeartbeats 4000000
set_option linter.unusedVariables false
set_option linter.unusedSimpArgs false
theorem Held.b2 {l : List (Nat × Nat × Value)} {w0 W : World} (h : Held l w0 W) (v0 v1 : Value) (T : TypeId) : Held ((W.heap.size, 0, v0) :: (W.heap.size, 1, v1) :: l) w0 (W.alloc (.cells #[v0, v1] T)) :=
  held_box h W.heap.size [v0, v1] T rfl
theorem root_sq (v : Int) (h : 0 ≤ v) : rootD (v * v) = v ∧ rootU (v * v) = v := by
  have h1 : rootD (v * v) = v := (rootD_eq (v * v) v ⟨h, Int.le_refl _, by rw [sq_succ]; omega⟩).symm
  refine ⟨h1, ?_⟩
  unfold rootU
  rw [h1, if_neg (by omega)]
theorem rootU_ge (n : Int) (h : 0 ≤ n) : n ≤ rootU n * rootU n := by
  obtain ⟨a, b, c⟩ := rootD_is n h
  unfold rootU
  split
  · omega
  · omega
theorem rootU_le (n : Int) (h : 0 ≤ n) (m : Int) (hm : 0 ≤ m) (h2 : n ≤ m * m) : rootU n ≤ m := by
  obtain ⟨a, b, c⟩ := rootD_is n h
  unfold rootU
  split
  · rename_i hl
    by_cases e : rootD n + 1 ≤ m
    · exact e
    · have := sq_mono m (rootD n) hm (by omega); omega
  · by_cases e : rootD n ≤ m
    · exact e
    · have := sq_mono (m + 1) (rootD n) (by omega) (by omega)
      rw [sq_succ] at this; omega
/-- what the speeds of an interval are -/
theorem sp_facts (x y : Int) : ∃ p q c : Int, p = sdL x y ∧ q = sdH x y ∧ c = inE (enB x y) ∧ (enB x y != (c == 0)) = false ∧ 0 ≤ p ∧ p ≤ 100000 ∧ 0 ≤ q ∧ q ≤ 100000 ∧ (c = 0 → p * p ≤ x ∧ y ≤ q * q) := by
  refine ⟨_, _, _, rfl, rfl, rfl, ?_⟩
  cases h : enB x y
  · unfold sdL sdH inE
    rw [h]
    simp
  · have h1 := (enB_iff x y).1 h
    obtain ⟨a, b, c⟩ := rootD_is x (by omega)
    have hp : rootD x ≤ 100000 := by
      by_cases e : rootD x ≤ 100000
      · exact e
      · have := sq_mono 100001 (rootD x) (by omega) (by omega); omega
    have hq := rootU_le y (by omega) 100000 (by omega) (by omega)
    have hq0 : 0 ≤ rootU y := by
      obtain ⟨a, _, _⟩ := rootD_is y (by omega)
      unfold rootU; split <;> omega
    have hr := rootU_ge y (by omega)
    unfold sdL sdH inE
    rw [h]
    simp
    omega
end Go.Proofs.Ytdhoiiejcmnmbaa
namespace Go.Proofs.Ytdhoiiejcmnmbaa
open Go.RowKit
set_option maxHeartbeats 4000000
set_option linter.unusedVariables false
set_option linter.unusedSimpArgs false
theorem Held.b7x {l : List (Nat × Nat × Value)} {w0 W : World} (h : Held l w0 W) (v0 v1 v2 v3 v4 v5 v6 : Value) (T : TypeId) : Held ((W.heap.size, 0, v0) :: (W.heap.size, 1, v1) :: (W.heap.size, 2, v2) :: (W.heap.size, 3, v3) :: (W.heap.size, 4, v4) :: (W.heap.size, 5, v5) :: (W.heap.size, 6, v6) :: l) w0 (W.alloc (.cells #[v0, v1, v2, v3, v4, v5, v6] T)) :=
  held_box h W.heap.size [v0, v1, v2, v3, v4, v5, v6] T rfl
set_option maxRecDepth 100000 in
theorem walk_FnStops (a0 : Option Addr) (len0 cap0 : Nat) (z0 : List Int) (w : World) (w0 : IsRow .u8 w a0 len0 cap0 z0) :
    Calls Try.prog 9 #[.slice a0 len0 cap0] w fun e w' => e = .returned (.bool true) ∧ Below w.heap.size w w' := by
  have HS := Lib.hid (isRow_bytes w0)
  clear w0
  by_cases hbig : 4096 < len0
  · go_enter Try.func9, Try.ntmps9
    go_wp2_with fail
    refine (l_big _ _ _ _).mono ?_
    rintro e w' ⟨rfl, rfl⟩
    go_wp2
    go_ret
    exact ⟨rfl, Below.refl _ _⟩
  go_enter Try.func9, Try.ntmps9
  go_wp2_with fail
  refine (l_big _ _ _ _).mono ?_
  rintro e w' ⟨rfl, rfl⟩
  go_wp2_with fail
  refine (s_DrawStoppingDistance _ _ _ _ HS.out).mono ?_
  rintro e w1 ⟨z, x, y, rfl, hb⟩
  have h2 := (((held_start w).later hb).b7x (.int .i64 z.k) (.int .i64 z.l) (.int .i64 z.r) (.int .i64 z.a) (.int .i64 z.b) (.int .i64 z.c) (.int .i64 z.d) 27).b2 (.int .i64 x) (.int .i64 y) 25
  simp only [World.size_alloc] at h2
  have H2 := Lib.hid h2
  clear hb h2 hbig
  have HF := fun (h : dsE z x y = 0) => st_facts h
  have C1 := fun w => i_StoppingDistance z x y w
  have C2 := fun w => s_StoppingDistance z x y w
  have C3 := fun w => i_StopVerdict z x y w
  have C4 := fun w => s_StopVerdict z x y w
  have C5 := fun w => i_BrakeWork z w
  have C6 := fun w => s_BrakeWork z w
  have C7 := fun w => i_GreatestStop z w
  have C8 := fun n w => i_StopVerdict z n n w
  generalize dsL z x y = p at *
  generalize dsH z x y = q at *
  generalize dsE z x y = c at *
  generalize svV z x y = v at *
  generalize svE z x y = o at *
  generalize bwL z = s at *
  generalize bwH z = t at *
  generalize brE z = k at *
  generalize gsV z = n at *
  generalize slE z = m at *
  have e0 : (c != c) = false := by simp
  have e1 : (v != v) = false := by simp
  have e2 : (o != o) = false := by simp
  have e3 : (p != p) = false := by simp
  have e4 : (q != q) = false := by simp
  have e5 : (s != s) = false := by simp
  have e6 : (t != t) = false := by simp
  have e7 : (k != k) = false := by simp
  have e8 : (p == p) = true := by simp
  have e9 : (q == q) = true := by simp
  have e10 : (s == s) = true := by simp
  have e11 : (t == t) = true := by simp
  have a0 := Held.at H2.out (w1.heap.size + 1) 0 (.int .i64 x) (by simp)
  have a1 := Held.at H2.out (w1.heap.size + 1) 1 (.int .i64 y) (by simp)
  have a2 := Held.at H2.out (w1.heap.size) 0 (.int .i64 z.k) (by simp)
  have a3 := Held.at H2.out (w1.heap.size) 1 (.int .i64 z.l) (by simp)
  have a4 := Held.at H2.out (w1.heap.size) 2 (.int .i64 z.r) (by simp)
  have a5 := Held.at H2.out (w1.heap.size) 3 (.int .i64 z.a) (by simp)
  have a6 := Held.at H2.out (w1.heap.size) 4 (.int .i64 z.b) (by simp)
  have a7 := Held.at H2.out (w1.heap.size) 5 (.int .i64 z.c) (by simp)
  have a8 := Held.at H2.out (w1.heap.size) 6 (.int .i64 z.d) (by simp)
  have zz0 := Held.lt H2.out (w1.heap.size + 1) 0 (.int .i64 x) (by simp)
  have zz1 := Held.lt H2.out (w1.heap.size) 0 (.int .i64 z.k) (by simp)
  go_wp2_with fail
  refine (C1 _).mono ?_
  rintro e w3 ⟨rfl, hb⟩
  have H3 := Lib.hid ((H2.out.later hb).b2 (.int .i64 p) (.int .i64 q) 25)
  clear hb
  clear a0 a1 a2 a3 a4 a5 a6 a7 a8
  have a0 := Held.at H3.out (w3.heap.size) 0 (.int .i64 p) (by simp)
  have a1 := Held.at H3.out (w3.heap.size) 1 (.int .i64 q) (by simp)
  have a2 := Held.at H3.out (w1.heap.size + 1) 0 (.int .i64 x) (by simp)
  have a3 := Held.at H3.out (w1.heap.size + 1) 1 (.int .i64 y) (by simp)
  have a4 := Held.at H3.out (w1.heap.size) 0 (.int .i64 z.k) (by simp)
  have a5 := Held.at H3.out (w1.heap.size) 1 (.int .i64 z.l) (by simp)
  have a6 := Held.at H3.out (w1.heap.size) 2 (.int .i64 z.r) (by simp)
  have a7 := Held.at H3.out (w1.heap.size) 3 (.int .i64 z.a) (by simp)
  have a8 := Held.at H3.out (w1.heap.size) 4 (.int .i64 z.b) (by simp)
  have a9 := Held.at H3.out (w1.heap.size) 5 (.int .i64 z.c) (by simp)
  have a10 := Held.at H3.out (w1.heap.size) 6 (.int .i64 z.d) (by simp)
  have zz0 := Held.lt H3.out (w3.heap.size) 0 (.int .i64 p) (by simp)
  have zz1 := Held.lt H3.out (w1.heap.size + 1) 0 (.int .i64 x) (by simp)
  have zz2 := Held.lt H3.out (w1.heap.size) 0 (.int .i64 z.k) (by simp)
  go_wp2_with fail
  refine (C2 _).mono ?_
  rintro e w4 ⟨rfl, hb⟩
  have H4 := Lib.hid ((H3.out.later hb).b2 (.int .i64 p) (.int .i64 q) 25)
  clear hb
  clear a0 a1 a2 a3 a4 a5 a6 a7 a8 a9 a10
  have a0 := Held.at H4.out (w4.heap.size) 0 (.int .i64 p) (by simp)
  have a1 := Held.at H4.out (w4.heap.size) 1 (.int .i64 q) (by simp)
  have a2 := Held.at H4.out (w3.heap.size) 0 (.int .i64 p) (by simp)
  have a3 := Held.at H4.out (w3.heap.size) 1 (.int .i64 q) (by simp)
  have a4 := Held.at H4.out (w1.heap.size + 1) 0 (.int .i64 x) (by simp)
  have a5 := Held.at H4.out (w1.heap.size + 1) 1 (.int .i64 y) (by simp)
  have a6 := Held.at H4.out (w1.heap.size) 0 (.int .i64 z.k) (by simp)
  have a7 := Held.at H4.out (w1.heap.size) 1 (.int .i64 z.l) (by simp)
  have a8 := Held.at H4.out (w1.heap.size) 2 (.int .i64 z.r) (by simp)
  have a9 := Held.at H4.out (w1.heap.size) 3 (.int .i64 z.a) (by simp)
  have a10 := Held.at H4.out (w1.heap.size) 4 (.int .i64 z.b) (by simp)
  have a11 := Held.at H4.out (w1.heap.size) 5 (.int .i64 z.c) (by simp)
  have a12 := Held.at H4.out (w1.heap.size) 6 (.int .i64 z.d) (by simp)
  have zz0 := Held.lt H4.out (w4.heap.size) 0 (.int .i64 p) (by simp)
  have zz1 := Held.lt H4.out (w3.heap.size) 0 (.int .i64 p) (by simp)
  have zz2 := Held.lt H4.out (w1.heap.size + 1) 0 (.int .i64 x) (by simp)
  have zz3 := Held.lt H4.out (w1.heap.size) 0 (.int .i64 z.k) (by simp)
  go_wp2_with fail
  refine (C3 _).mono ?_
  rintro e w5 ⟨rfl, hb⟩
  have H5 := Lib.hid (H4.out.later hb)
  clear hb
  clear a0 a1 a2 a3 a4 a5 a6 a7 a8 a9 a10 a11 a12
  have a0 := Held.at H5.out (w4.heap.size) 0 (.int .i64 p) (by simp)
  have a1 := Held.at H5.out (w4.heap.size) 1 (.int .i64 q) (by simp)
  have a2 := Held.at H5.out (w3.heap.size) 0 (.int .i64 p) (by simp)
  have a3 := Held.at H5.out (w3.heap.size) 1 (.int .i64 q) (by simp)
  have a4 := Held.at H5.out (w1.heap.size + 1) 0 (.int .i64 x) (by simp)
  have a5 := Held.at H5.out (w1.heap.size + 1) 1 (.int .i64 y) (by simp)
  have a6 := Held.at H5.out (w1.heap.size) 0 (.int .i64 z.k) (by simp)
  have a7 := Held.at H5.out (w1.heap.size) 1 (.int .i64 z.l) (by simp)
  have a8 := Held.at H5.out (w1.heap.size) 2 (.int .i64 z.r) (by simp)
  have a9 := Held.at H5.out (w1.heap.size) 3 (.int .i64 z.a) (by simp)
  have a10 := Held.at H5.out (w1.heap.size) 4 (.int .i64 z.b) (by simp)
  have a11 := Held.at H5.out (w1.heap.size) 5 (.int .i64 z.c) (by simp)
  have a12 := Held.at H5.out (w1.heap.size) 6 (.int .i64 z.d) (by simp)
  have zz0 := Held.lt H5.out (w4.heap.size) 0 (.int .i64 p) (by simp)
  have zz1 := Held.lt H5.out (w3.heap.size) 0 (.int .i64 p) (by simp)
  have zz2 := Held.lt H5.out (w1.heap.size + 1) 0 (.int .i64 x) (by simp)
  have zz3 := Held.lt H5.out (w1.heap.size) 0 (.int .i64 z.k) (by simp)
  go_wp2_with fail
  refine (C4 _).mono ?_
  rintro e w6 ⟨rfl, hb⟩
  have H6 := Lib.hid (H5.out.later hb)
  clear hb
  clear a0 a1 a2 a3 a4 a5 a6 a7 a8 a9 a10 a11 a12
  have a0 := Held.at H6.out (w4.heap.size) 0 (.int .i64 p) (by simp)
  have a1 := Held.at H6.out (w4.heap.size) 1 (.int .i64 q) (by simp)
  have a2 := Held.at H6.out (w3.heap.size) 0 (.int .i64 p) (by simp)
  have a3 := Held.at H6.out (w3.heap.size) 1 (.int .i64 q) (by simp)
  have a4 := Held.at H6.out (w1.heap.size + 1) 0 (.int .i64 x) (by simp)
  have a5 := Held.at H6.out (w1.heap.size + 1) 1 (.int .i64 y) (by simp)
  have a6 := Held.at H6.out (w1.heap.size) 0 (.int .i64 z.k) (by simp)
  have a7 := Held.at H6.out (w1.heap.size) 1 (.int .i64 z.l) (by simp)
  have a8 := Held.at H6.out (w1.heap.size) 2 (.int .i64 z.r) (by simp)
  have a9 := Held.at H6.out (w1.heap.size) 3 (.int .i64 z.a) (by simp)
  have a10 := Held.at H6.out (w1.heap.size) 4 (.int .i64 z.b) (by simp)
  have a11 := Held.at H6.out (w1.heap.size) 5 (.int .i64 z.c) (by simp)
  have a12 := Held.at H6.out (w1.heap.size) 6 (.int .i64 z.d) (by simp)
  have zz0 := Held.lt H6.out (w4.heap.size) 0 (.int .i64 p) (by simp)
  have zz1 := Held.lt H6.out (w3.heap.size) 0 (.int .i64 p) (by simp)
  have zz2 := Held.lt H6.out (w1.heap.size + 1) 0 (.int .i64 x) (by simp)
  have zz3 := Held.lt H6.out (w1.heap.size) 0 (.int .i64 z.k) (by simp)
  go_wp2_with fail
  refine (C5 _).mono ?_
  rintro e w7 ⟨rfl, hb⟩
  have H7 := Lib.hid ((H6.out.later hb).b2 (.int .i64 s) (.int .i64 t) 25)
  clear hb
  clear a0 a1 a2 a3 a4 a5 a6 a7 a8 a9 a10 a11 a12
  have a0 := Held.at H7.out (w7.heap.size) 0 (.int .i64 s) (by simp)
  have a1 := Held.at H7.out (w7.heap.size) 1 (.int .i64 t) (by simp)
  have a2 := Held.at H7.out (w4.heap.size) 0 (.int .i64 p) (by simp)
  have a3 := Held.at H7.out (w4.heap.size) 1 (.int .i64 q) (by simp)
  have a4 := Held.at H7.out (w3.heap.size) 0 (.int .i64 p) (by simp)
  have a5 := Held.at H7.out (w3.heap.size) 1 (.int .i64 q) (by simp)
  have a6 := Held.at H7.out (w1.heap.size + 1) 0 (.int .i64 x) (by simp)
  have a7 := Held.at H7.out (w1.heap.size + 1) 1 (.int .i64 y) (by simp)
  have a8 := Held.at H7.out (w1.heap.size) 0 (.int .i64 z.k) (by simp)
  have a9 := Held.at H7.out (w1.heap.size) 1 (.int .i64 z.l) (by simp)
  have a10 := Held.at H7.out (w1.heap.size) 2 (.int .i64 z.r) (by simp)
  have a11 := Held.at H7.out (w1.heap.size) 3 (.int .i64 z.a) (by simp)
  have a12 := Held.at H7.out (w1.heap.size) 4 (.int .i64 z.b) (by simp)
  have a13 := Held.at H7.out (w1.heap.size) 5 (.int .i64 z.c) (by simp)
  have a14 := Held.at H7.out (w1.heap.size) 6 (.int .i64 z.d) (by simp)
  have zz0 := Held.lt H7.out (w7.heap.size) 0 (.int .i64 s) (by simp)
  have zz1 := Held.lt H7.out (w4.heap.size) 0 (.int .i64 p) (by simp)
  have zz2 := Held.lt H7.out (w3.heap.size) 0 (.int .i64 p) (by simp)
  have zz3 := Held.lt H7.out (w1.heap.size + 1) 0 (.int .i64 x) (by simp)
  have zz4 := Held.lt H7.out (w1.heap.size) 0 (.int .i64 z.k) (by simp)
  go_wp2_with fail
  refine (C6 _).mono ?_
  rintro e w8 ⟨rfl, hb⟩
  have H8 := Lib.hid ((H7.out.later hb).b2 (.int .i64 s) (.int .i64 t) 25)
  clear hb
  clear a0 a1 a2 a3 a4 a5 a6 a7 a8 a9 a10 a11 a12 a13 a14
  have a0 := Held.at H8.out (w8.heap.size) 0 (.int .i64 s) (by simp)
  have a1 := Held.at H8.out (w8.heap.size) 1 (.int .i64 t) (by simp)
  have a2 := Held.at H8.out (w7.heap.size) 0 (.int .i64 s) (by simp)
  have a3 := Held.at H8.out (w7.heap.size) 1 (.int .i64 t) (by simp)
  have a4 := Held.at H8.out (w4.heap.size) 0 (.int .i64 p) (by simp)
  have a5 := Held.at H8.out (w4.heap.size) 1 (.int .i64 q) (by simp)
  have a6 := Held.at H8.out (w3.heap.size) 0 (.int .i64 p) (by simp)
  have a7 := Held.at H8.out (w3.heap.size) 1 (.int .i64 q) (by simp)
  have a8 := Held.at H8.out (w1.heap.size + 1) 0 (.int .i64 x) (by simp)
  have a9 := Held.at H8.out (w1.heap.size + 1) 1 (.int .i64 y) (by simp)
  have a10 := Held.at H8.out (w1.heap.size) 0 (.int .i64 z.k) (by simp)
  have a11 := Held.at H8.out (w1.heap.size) 1 (.int .i64 z.l) (by simp)
  have a12 := Held.at H8.out (w1.heap.size) 2 (.int .i64 z.r) (by simp)
  have a13 := Held.at H8.out (w1.heap.size) 3 (.int .i64 z.a) (by simp)
  have a14 := Held.at H8.out (w1.heap.size) 4 (.int .i64 z.b) (by simp)
  have a15 := Held.at H8.out (w1.heap.size) 5 (.int .i64 z.c) (by simp)
  have a16 := Held.at H8.out (w1.heap.size) 6 (.int .i64 z.d) (by simp)
  have zz0 := Held.lt H8.out (w8.heap.size) 0 (.int .i64 s) (by simp)
  have zz1 := Held.lt H8.out (w7.heap.size) 0 (.int .i64 s) (by simp)
  have zz2 := Held.lt H8.out (w4.heap.size) 0 (.int .i64 p) (by simp)
  have zz3 := Held.lt H8.out (w3.heap.size) 0 (.int .i64 p) (by simp)
  have zz4 := Held.lt H8.out (w1.heap.size + 1) 0 (.int .i64 x) (by simp)
  have zz5 := Held.lt H8.out (w1.heap.size) 0 (.int .i64 z.k) (by simp)
  clear e8 e9 e10 e11 C1 C2 C3 C4 C5 C6
  have e8 : (p == p) = true := by simp
  have e9 : (q == q) = true := by simp
  by_cases hc : c = 0
  · obtain ⟨f1, f2, f3, f4, f5, f6, f7, f8, f9⟩ := HF hc
    subst hc
    rw [f1] at C7
    have hne : ((0 : Int) != 0) = false := rfl
    have C81 := C8 n
    rw [f7, f8] at C81
    have C82 := C8 (n + 1)
    clear C8 HF f7 f8
    have hwn : IntKind.i64.wrap (n + 1) = n + 1 := IntWalk.i64_in _ ⟨by omega, by omega⟩
    go_wp2_with fail
    refine (C7 _).mono ?_
    rintro e w9 ⟨rfl, hb⟩
    have H9 := Lib.hid (H8.out.later hb)
    clear hb
    clear a0 a1 a2 a3 a4 a5 a6 a7 a8 a9 a10 a11 a12 a13 a14 a15 a16
    have a0 := Held.at H9.out (w8.heap.size) 0 (.int .i64 s) (by simp)
    have a1 := Held.at H9.out (w8.heap.size) 1 (.int .i64 t) (by simp)
    have a2 := Held.at H9.out (w7.heap.size) 0 (.int .i64 s) (by simp)
    have a3 := Held.at H9.out (w7.heap.size) 1 (.int .i64 t) (by simp)
    have a4 := Held.at H9.out (w4.heap.size) 0 (.int .i64 p) (by simp)
    have a5 := Held.at H9.out (w4.heap.size) 1 (.int .i64 q) (by simp)
    have a6 := Held.at H9.out (w3.heap.size) 0 (.int .i64 p) (by simp)
    have a7 := Held.at H9.out (w3.heap.size) 1 (.int .i64 q) (by simp)
    have a8 := Held.at H9.out (w1.heap.size + 1) 0 (.int .i64 x) (by simp)
    have a9 := Held.at H9.out (w1.heap.size + 1) 1 (.int .i64 y) (by simp)
    have a10 := Held.at H9.out (w1.heap.size) 0 (.int .i64 z.k) (by simp)
    have a11 := Held.at H9.out (w1.heap.size) 1 (.int .i64 z.l) (by simp)
    have a12 := Held.at H9.out (w1.heap.size) 2 (.int .i64 z.r) (by simp)
    have a13 := Held.at H9.out (w1.heap.size) 3 (.int .i64 z.a) (by simp)
    have a14 := Held.at H9.out (w1.heap.size) 4 (.int .i64 z.b) (by simp)
    have a15 := Held.at H9.out (w1.heap.size) 5 (.int .i64 z.c) (by simp)
    have a16 := Held.at H9.out (w1.heap.size) 6 (.int .i64 z.d) (by simp)
    have zz0 := Held.lt H9.out (w8.heap.size) 0 (.int .i64 s) (by simp)
    have zz1 := Held.lt H9.out (w7.heap.size) 0 (.int .i64 s) (by simp)
    have zz2 := Held.lt H9.out (w4.heap.size) 0 (.int .i64 p) (by simp)
    have zz3 := Held.lt H9.out (w3.heap.size) 0 (.int .i64 p) (by simp)
    have zz4 := Held.lt H9.out (w1.heap.size + 1) 0 (.int .i64 x) (by simp)
    have zz5 := Held.lt H9.out (w1.heap.size) 0 (.int .i64 z.k) (by simp)
    have hpq2 : p ≤ q := by omega
    have hpq : ¬ q < p := by omega
    have hde : decide (q ≤ z.l) = (v == 2) := by revert f4; cases (v == 2) <;> cases decide (q ≤ z.l) <;> simp
    clear f4
    by_cases hv : v = 0
    · have hv0 : (v == 0) = true := by simpa using hv
      have hv2' : (v == 2) = false := by rw [hv]; rfl
      rw [hv2'] at hde
      have hq1 : ¬ q ≤ z.l := by simpa using hde
      have hq2 : z.l < q := by omega
      have hpl := f5 hv
      have hpl2 : z.l ≤ p := by omega
      clear f5
      go_wp2_with fail
      refine (C81 _).mono ?_
      rintro e w10 ⟨rfl, hb⟩
      have H10 := Lib.hid (H9.out.later hb)
      clear hb
      clear a0 a1 a2 a3 a4 a5 a6 a7 a8 a9 a10 a11 a12 a13 a14 a15 a16
      have a0 := Held.at H10.out (w8.heap.size) 0 (.int .i64 s) (by simp)
      have a1 := Held.at H10.out (w8.heap.size) 1 (.int .i64 t) (by simp)
      have a2 := Held.at H10.out (w7.heap.size) 0 (.int .i64 s) (by simp)
      have a3 := Held.at H10.out (w7.heap.size) 1 (.int .i64 t) (by simp)
      have a4 := Held.at H10.out (w4.heap.size) 0 (.int .i64 p) (by simp)
      have a5 := Held.at H10.out (w4.heap.size) 1 (.int .i64 q) (by simp)
      have a6 := Held.at H10.out (w3.heap.size) 0 (.int .i64 p) (by simp)
      have a7 := Held.at H10.out (w3.heap.size) 1 (.int .i64 q) (by simp)
      have a8 := Held.at H10.out (w1.heap.size + 1) 0 (.int .i64 x) (by simp)
      have a9 := Held.at H10.out (w1.heap.size + 1) 1 (.int .i64 y) (by simp)
      have a10 := Held.at H10.out (w1.heap.size) 0 (.int .i64 z.k) (by simp)
      have a11 := Held.at H10.out (w1.heap.size) 1 (.int .i64 z.l) (by simp)
      have a12 := Held.at H10.out (w1.heap.size) 2 (.int .i64 z.r) (by simp)
      have a13 := Held.at H10.out (w1.heap.size) 3 (.int .i64 z.a) (by simp)
      have a14 := Held.at H10.out (w1.heap.size) 4 (.int .i64 z.b) (by simp)
      have a15 := Held.at H10.out (w1.heap.size) 5 (.int .i64 z.c) (by simp)
      have a16 := Held.at H10.out (w1.heap.size) 6 (.int .i64 z.d) (by simp)
      have zz0 := Held.lt H10.out (w8.heap.size) 0 (.int .i64 s) (by simp)
      have zz1 := Held.lt H10.out (w7.heap.size) 0 (.int .i64 s) (by simp)
      have zz2 := Held.lt H10.out (w4.heap.size) 0 (.int .i64 p) (by simp)
      have zz3 := Held.lt H10.out (w3.heap.size) 0 (.int .i64 p) (by simp)
      have zz4 := Held.lt H10.out (w1.heap.size + 1) 0 (.int .i64 x) (by simp)
      have zz5 := Held.lt H10.out (w1.heap.size) 0 (.int .i64 z.k) (by simp)
      by_cases hn : n < 10000000000
      · obtain ⟨g1, g2⟩ := f9 hn
        rw [g1] at C82
        generalize svV z (n + 1) (n + 1) = vv at *
        have hv2 : (vv == 2) = false := by simpa using g2
        have hv3 : (vv != 2) = true := by simpa using g2
        have hn0 : (n == 10000000000) = false := by simp; omega
        go_wp2_with fail
        refine (C82 _).mono ?_
        rintro e w11 ⟨rfl, hb⟩
        have H11 := Lib.hid (H10.out.later hb)
        clear hb
        clear a0 a1 a2 a3 a4 a5 a6 a7 a8 a9 a10 a11 a12 a13 a14 a15 a16
        have a0 := Held.at H11.out (w8.heap.size) 0 (.int .i64 s) (by simp)
        have a1 := Held.at H11.out (w8.heap.size) 1 (.int .i64 t) (by simp)
        have a2 := Held.at H11.out (w7.heap.size) 0 (.int .i64 s) (by simp)
        have a3 := Held.at H11.out (w7.heap.size) 1 (.int .i64 t) (by simp)
        have a4 := Held.at H11.out (w4.heap.size) 0 (.int .i64 p) (by simp)
        have a5 := Held.at H11.out (w4.heap.size) 1 (.int .i64 q) (by simp)
        have a6 := Held.at H11.out (w3.heap.size) 0 (.int .i64 p) (by simp)
        have a7 := Held.at H11.out (w3.heap.size) 1 (.int .i64 q) (by simp)
        have a8 := Held.at H11.out (w1.heap.size + 1) 0 (.int .i64 x) (by simp)
        have a9 := Held.at H11.out (w1.heap.size + 1) 1 (.int .i64 y) (by simp)
        have a10 := Held.at H11.out (w1.heap.size) 0 (.int .i64 z.k) (by simp)
        have a11 := Held.at H11.out (w1.heap.size) 1 (.int .i64 z.l) (by simp)
        have a12 := Held.at H11.out (w1.heap.size) 2 (.int .i64 z.r) (by simp)
        have a13 := Held.at H11.out (w1.heap.size) 3 (.int .i64 z.a) (by simp)
        have a14 := Held.at H11.out (w1.heap.size) 4 (.int .i64 z.b) (by simp)
        have a15 := Held.at H11.out (w1.heap.size) 5 (.int .i64 z.c) (by simp)
        have a16 := Held.at H11.out (w1.heap.size) 6 (.int .i64 z.d) (by simp)
        have zz0 := Held.lt H11.out (w8.heap.size) 0 (.int .i64 s) (by simp)
        have zz1 := Held.lt H11.out (w7.heap.size) 0 (.int .i64 s) (by simp)
        have zz2 := Held.lt H11.out (w4.heap.size) 0 (.int .i64 p) (by simp)
        have zz3 := Held.lt H11.out (w3.heap.size) 0 (.int .i64 p) (by simp)
        have zz4 := Held.lt H11.out (w1.heap.size + 1) 0 (.int .i64 x) (by simp)
        have zz5 := Held.lt H11.out (w1.heap.size) 0 (.int .i64 z.k) (by simp)
        go_wp2_with fail
        go_ret
        exact ⟨rfl, H11.out.is⟩
      · have hn0 : (n == 10000000000) = true := by simp; omega
        generalize svV z (n + 1) (n + 1) = vv at *
        generalize svE z (n + 1) (n + 1) = oo at *
        go_wp2_with fail
        refine (C82 _).mono ?_
        rintro e w11 ⟨rfl, hb⟩
        have H11 := Lib.hid (H10.out.later hb)
        clear hb
        clear a0 a1 a2 a3 a4 a5 a6 a7 a8 a9 a10 a11 a12 a13 a14 a15 a16
        have a0 := Held.at H11.out (w8.heap.size) 0 (.int .i64 s) (by simp)
        have a1 := Held.at H11.out (w8.heap.size) 1 (.int .i64 t) (by simp)
        have a2 := Held.at H11.out (w7.heap.size) 0 (.int .i64 s) (by simp)
        have a3 := Held.at H11.out (w7.heap.size) 1 (.int .i64 t) (by simp)
        have a4 := Held.at H11.out (w4.heap.size) 0 (.int .i64 p) (by simp)
        have a5 := Held.at H11.out (w4.heap.size) 1 (.int .i64 q) (by simp)
        have a6 := Held.at H11.out (w3.heap.size) 0 (.int .i64 p) (by simp)
        have a7 := Held.at H11.out (w3.heap.size) 1 (.int .i64 q) (by simp)
        have a8 := Held.at H11.out (w1.heap.size + 1) 0 (.int .i64 x) (by simp)
        have a9 := Held.at H11.out (w1.heap.size + 1) 1 (.int .i64 y) (by simp)
        have a10 := Held.at H11.out (w1.heap.size) 0 (.int .i64 z.k) (by simp)
        have a11 := Held.at H11.out (w1.heap.size) 1 (.int .i64 z.l) (by simp)
        have a12 := Held.at H11.out (w1.heap.size) 2 (.int .i64 z.r) (by simp)
        have a13 := Held.at H11.out (w1.heap.size) 3 (.int .i64 z.a) (by simp)
        have a14 := Held.at H11.out (w1.heap.size) 4 (.int .i64 z.b) (by simp)
        have a15 := Held.at H11.out (w1.heap.size) 5 (.int .i64 z.c) (by simp)
        have a16 := Held.at H11.out (w1.heap.size) 6 (.int .i64 z.d) (by simp)
        have zz0 := Held.lt H11.out (w8.heap.size) 0 (.int .i64 s) (by simp)
        have zz1 := Held.lt H11.out (w7.heap.size) 0 (.int .i64 s) (by simp)
        have zz2 := Held.lt H11.out (w4.heap.size) 0 (.int .i64 p) (by simp)
        have zz3 := Held.lt H11.out (w3.heap.size) 0 (.int .i64 p) (by simp)
        have zz4 := Held.lt H11.out (w1.heap.size + 1) 0 (.int .i64 x) (by simp)
        have zz5 := Held.lt H11.out (w1.heap.size) 0 (.int .i64 z.k) (by simp)
        go_wp2_with fail
        go_ret
        exact ⟨rfl, H11.out.is⟩
    · have hv0 : (v == 0) = false := by simpa using hv
      clear f5
      by_cases hw : v = 2
      · have hv2' : (v == 2) = true := by simpa using hw
        rw [hv2'] at hde
        have hq1 : q ≤ z.l := by simpa using hde
        go_wp2_with fail
        refine (C81 _).mono ?_
        rintro e w10 ⟨rfl, hb⟩
        have H10 := Lib.hid (H9.out.later hb)
        clear hb
        clear a0 a1 a2 a3 a4 a5 a6 a7 a8 a9 a10 a11 a12 a13 a14 a15 a16
        have a0 := Held.at H10.out (w8.heap.size) 0 (.int .i64 s) (by simp)
        have a1 := Held.at H10.out (w8.heap.size) 1 (.int .i64 t) (by simp)
        have a2 := Held.at H10.out (w7.heap.size) 0 (.int .i64 s) (by simp)
        have a3 := Held.at H10.out (w7.heap.size) 1 (.int .i64 t) (by simp)
        have a4 := Held.at H10.out (w4.heap.size) 0 (.int .i64 p) (by simp)
        have a5 := Held.at H10.out (w4.heap.size) 1 (.int .i64 q) (by simp)
        have a6 := Held.at H10.out (w3.heap.size) 0 (.int .i64 p) (by simp)
        have a7 := Held.at H10.out (w3.heap.size) 1 (.int .i64 q) (by simp)
        have a8 := Held.at H10.out (w1.heap.size + 1) 0 (.int .i64 x) (by simp)
        have a9 := Held.at H10.out (w1.heap.size + 1) 1 (.int .i64 y) (by simp)
        have a10 := Held.at H10.out (w1.heap.size) 0 (.int .i64 z.k) (by simp)
        have a11 := Held.at H10.out (w1.heap.size) 1 (.int .i64 z.l) (by simp)
        have a12 := Held.at H10.out (w1.heap.size) 2 (.int .i64 z.r) (by simp)
        have a13 := Held.at H10.out (w1.heap.size) 3 (.int .i64 z.a) (by simp)
        have a14 := Held.at H10.out (w1.heap.size) 4 (.int .i64 z.b) (by simp)
        have a15 := Held.at H10.out (w1.heap.size) 5 (.int .i64 z.c) (by simp)
        have a16 := Held.at H10.out (w1.heap.size) 6 (.int .i64 z.d) (by simp)
        have zz0 := Held.lt H10.out (w8.heap.size) 0 (.int .i64 s) (by simp)
        have zz1 := Held.lt H10.out (w7.heap.size) 0 (.int .i64 s) (by simp)
        have zz2 := Held.lt H10.out (w4.heap.size) 0 (.int .i64 p) (by simp)
        have zz3 := Held.lt H10.out (w3.heap.size) 0 (.int .i64 p) (by simp)
        have zz4 := Held.lt H10.out (w1.heap.size + 1) 0 (.int .i64 x) (by simp)
        have zz5 := Held.lt H10.out (w1.heap.size) 0 (.int .i64 z.k) (by simp)
        by_cases hn : n < 10000000000
        · obtain ⟨g1, g2⟩ := f9 hn
          rw [g1] at C82
          generalize svV z (n + 1) (n + 1) = vv at *
          have hv2 : (vv == 2) = false := by simpa using g2
          have hv3 : (vv != 2) = true := by simpa using g2
          have hn0 : (n == 10000000000) = false := by simp; omega
          go_wp2_with fail
          refine (C82 _).mono ?_
          rintro e w11 ⟨rfl, hb⟩
          have H11 := Lib.hid (H10.out.later hb)
          clear hb
          clear a0 a1 a2 a3 a4 a5 a6 a7 a8 a9 a10 a11 a12 a13 a14 a15 a16
          have a0 := Held.at H11.out (w8.heap.size) 0 (.int .i64 s) (by simp)
          have a1 := Held.at H11.out (w8.heap.size) 1 (.int .i64 t) (by simp)
          have a2 := Held.at H11.out (w7.heap.size) 0 (.int .i64 s) (by simp)
          have a3 := Held.at H11.out (w7.heap.size) 1 (.int .i64 t) (by simp)
          have a4 := Held.at H11.out (w4.heap.size) 0 (.int .i64 p) (by simp)
          have a5 := Held.at H11.out (w4.heap.size) 1 (.int .i64 q) (by simp)
          have a6 := Held.at H11.out (w3.heap.size) 0 (.int .i64 p) (by simp)
          have a7 := Held.at H11.out (w3.heap.size) 1 (.int .i64 q) (by simp)
          have a8 := Held.at H11.out (w1.heap.size + 1) 0 (.int .i64 x) (by simp)
          have a9 := Held.at H11.out (w1.heap.size + 1) 1 (.int .i64 y) (by simp)
          have a10 := Held.at H11.out (w1.heap.size) 0 (.int .i64 z.k) (by simp)
          have a11 := Held.at H11.out (w1.heap.size) 1 (.int .i64 z.l) (by simp)
          have a12 := Held.at H11.out (w1.heap.size) 2 (.int .i64 z.r) (by simp)
          have a13 := Held.at H11.out (w1.heap.size) 3 (.int .i64 z.a) (by simp)
          have a14 := Held.at H11.out (w1.heap.size) 4 (.int .i64 z.b) (by simp)
          have a15 := Held.at H11.out (w1.heap.size) 5 (.int .i64 z.c) (by simp)
          have a16 := Held.at H11.out (w1.heap.size) 6 (.int .i64 z.d) (by simp)
          have zz0 := Held.lt H11.out (w8.heap.size) 0 (.int .i64 s) (by simp)
          have zz1 := Held.lt H11.out (w7.heap.size) 0 (.int .i64 s) (by simp)
          have zz2 := Held.lt H11.out (w4.heap.size) 0 (.int .i64 p) (by simp)
          have zz3 := Held.lt H11.out (w3.heap.size) 0 (.int .i64 p) (by simp)
          have zz4 := Held.lt H11.out (w1.heap.size + 1) 0 (.int .i64 x) (by simp)
          have zz5 := Held.lt H11.out (w1.heap.size) 0 (.int .i64 z.k) (by simp)
          go_wp2_with fail
          go_ret
          exact ⟨rfl, H11.out.is⟩
        · have hn0 : (n == 10000000000) = true := by simp; omega
          generalize svV z (n + 1) (n + 1) = vv at *
          generalize svE z (n + 1) (n + 1) = oo at *
          go_wp2_with fail
          refine (C82 _).mono ?_
          rintro e w11 ⟨rfl, hb⟩
          have H11 := Lib.hid (H10.out.later hb)
          clear hb
          clear a0 a1 a2 a3 a4 a5 a6 a7 a8 a9 a10 a11 a12 a13 a14 a15 a16
          have a0 := Held.at H11.out (w8.heap.size) 0 (.int .i64 s) (by simp)
          have a1 := Held.at H11.out (w8.heap.size) 1 (.int .i64 t) (by simp)
          have a2 := Held.at H11.out (w7.heap.size) 0 (.int .i64 s) (by simp)
          have a3 := Held.at H11.out (w7.heap.size) 1 (.int .i64 t) (by simp)
          have a4 := Held.at H11.out (w4.heap.size) 0 (.int .i64 p) (by simp)
          have a5 := Held.at H11.out (w4.heap.size) 1 (.int .i64 q) (by simp)
          have a6 := Held.at H11.out (w3.heap.size) 0 (.int .i64 p) (by simp)
          have a7 := Held.at H11.out (w3.heap.size) 1 (.int .i64 q) (by simp)
          have a8 := Held.at H11.out (w1.heap.size + 1) 0 (.int .i64 x) (by simp)
          have a9 := Held.at H11.out (w1.heap.size + 1) 1 (.int .i64 y) (by simp)
          have a10 := Held.at H11.out (w1.heap.size) 0 (.int .i64 z.k) (by simp)
          have a11 := Held.at H11.out (w1.heap.size) 1 (.int .i64 z.l) (by simp)
          have a12 := Held.at H11.out (w1.heap.size) 2 (.int .i64 z.r) (by simp)
          have a13 := Held.at H11.out (w1.heap.size) 3 (.int .i64 z.a) (by simp)
          have a14 := Held.at H11.out (w1.heap.size) 4 (.int .i64 z.b) (by simp)
          have a15 := Held.at H11.out (w1.heap.size) 5 (.int .i64 z.c) (by simp)
          have a16 := Held.at H11.out (w1.heap.size) 6 (.int .i64 z.d) (by simp)
          have zz0 := Held.lt H11.out (w8.heap.size) 0 (.int .i64 s) (by simp)
          have zz1 := Held.lt H11.out (w7.heap.size) 0 (.int .i64 s) (by simp)
          have zz2 := Held.lt H11.out (w4.heap.size) 0 (.int .i64 p) (by simp)
          have zz3 := Held.lt H11.out (w3.heap.size) 0 (.int .i64 p) (by simp)
          have zz4 := Held.lt H11.out (w1.heap.size + 1) 0 (.int .i64 x) (by simp)
          have zz5 := Held.lt H11.out (w1.heap.size) 0 (.int .i64 z.k) (by simp)
          go_wp2_with fail
          go_ret
          exact ⟨rfl, H11.out.is⟩
      · have hv2' : (v == 2) = false := by simpa using hw
        rw [hv2'] at hde
        have hq1 : ¬ q ≤ z.l := by simpa using hde
        have hq2 : z.l < q := by omega
        go_wp2_with fail
        refine (C81 _).mono ?_
        rintro e w10 ⟨rfl, hb⟩
        have H10 := Lib.hid (H9.out.later hb)
        clear hb
        clear a0 a1 a2 a3 a4 a5 a6 a7 a8 a9 a10 a11 a12 a13 a14 a15 a16
        have a0 := Held.at H10.out (w8.heap.size) 0 (.int .i64 s) (by simp)
        have a1 := Held.at H10.out (w8.heap.size) 1 (.int .i64 t) (by simp)
        have a2 := Held.at H10.out (w7.heap.size) 0 (.int .i64 s) (by simp)
        have a3 := Held.at H10.out (w7.heap.size) 1 (.int .i64 t) (by simp)
        have a4 := Held.at H10.out (w4.heap.size) 0 (.int .i64 p) (by simp)
        have a5 := Held.at H10.out (w4.heap.size) 1 (.int .i64 q) (by simp)
        have a6 := Held.at H10.out (w3.heap.size) 0 (.int .i64 p) (by simp)
        have a7 := Held.at H10.out (w3.heap.size) 1 (.int .i64 q) (by simp)
        have a8 := Held.at H10.out (w1.heap.size + 1) 0 (.int .i64 x) (by simp)
        have a9 := Held.at H10.out (w1.heap.size + 1) 1 (.int .i64 y) (by simp)
        have a10 := Held.at H10.out (w1.heap.size) 0 (.int .i64 z.k) (by simp)
        have a11 := Held.at H10.out (w1.heap.size) 1 (.int .i64 z.l) (by simp)
        have a12 := Held.at H10.out (w1.heap.size) 2 (.int .i64 z.r) (by simp)
        have a13 := Held.at H10.out (w1.heap.size) 3 (.int .i64 z.a) (by simp)
        have a14 := Held.at H10.out (w1.heap.size) 4 (.int .i64 z.b) (by simp)
        have a15 := Held.at H10.out (w1.heap.size) 5 (.int .i64 z.c) (by simp)
        have a16 := Held.at H10.out (w1.heap.size) 6 (.int .i64 z.d) (by simp)
        have zz0 := Held.lt H10.out (w8.heap.size) 0 (.int .i64 s) (by simp)
        have zz1 := Held.lt H10.out (w7.heap.size) 0 (.int .i64 s) (by simp)
        have zz2 := Held.lt H10.out (w4.heap.size) 0 (.int .i64 p) (by simp)
        have zz3 := Held.lt H10.out (w3.heap.size) 0 (.int .i64 p) (by simp)
        have zz4 := Held.lt H10.out (w1.heap.size + 1) 0 (.int .i64 x) (by simp)
        have zz5 := Held.lt H10.out (w1.heap.size) 0 (.int .i64 z.k) (by simp)
        by_cases hn : n < 10000000000
        · obtain ⟨g1, g2⟩ := f9 hn
          rw [g1] at C82
          generalize svV z (n + 1) (n + 1) = vv at *
          have hv2 : (vv == 2) = false := by simpa using g2
          have hv3 : (vv != 2) = true := by simpa using g2
          have hn0 : (n == 10000000000) = false := by simp; omega
          go_wp2_with fail
          refine (C82 _).mono ?_
          rintro e w11 ⟨rfl, hb⟩
          have H11 := Lib.hid (H10.out.later hb)
          clear hb
          clear a0 a1 a2 a3 a4 a5 a6 a7 a8 a9 a10 a11 a12 a13 a14 a15 a16
          have a0 := Held.at H11.out (w8.heap.size) 0 (.int .i64 s) (by simp)
          have a1 := Held.at H11.out (w8.heap.size) 1 (.int .i64 t) (by simp)
          have a2 := Held.at H11.out (w7.heap.size) 0 (.int .i64 s) (by simp)
          have a3 := Held.at H11.out (w7.heap.size) 1 (.int .i64 t) (by simp)
          have a4 := Held.at H11.out (w4.heap.size) 0 (.int .i64 p) (by simp)
          have a5 := Held.at H11.out (w4.heap.size) 1 (.int .i64 q) (by simp)
          have a6 := Held.at H11.out (w3.heap.size) 0 (.int .i64 p) (by simp)
          have a7 := Held.at H11.out (w3.heap.size) 1 (.int .i64 q) (by simp)
          have a8 := Held.at H11.out (w1.heap.size + 1) 0 (.int .i64 x) (by simp)
          have a9 := Held.at H11.out (w1.heap.size + 1) 1 (.int .i64 y) (by simp)
          have a10 := Held.at H11.out (w1.heap.size) 0 (.int .i64 z.k) (by simp)
          have a11 := Held.at H11.out (w1.heap.size) 1 (.int .i64 z.l) (by simp)
          have a12 := Held.at H11.out (w1.heap.size) 2 (.int .i64 z.r) (by simp)
          have a13 := Held.at H11.out (w1.heap.size) 3 (.int .i64 z.a) (by simp)
          have a14 := Held.at H11.out (w1.heap.size) 4 (.int .i64 z.b) (by simp)
          have a15 := Held.at H11.out (w1.heap.size) 5 (.int .i64 z.c) (by simp)
          have a16 := Held.at H11.out (w1.heap.size) 6 (.int .i64 z.d) (by simp)
          have zz0 := Held.lt H11.out (w8.heap.size) 0 (.int .i64 s) (by simp)
          have zz1 := Held.lt H11.out (w7.heap.size) 0 (.int .i64 s) (by simp)
          have zz2 := Held.lt H11.out (w4.heap.size) 0 (.int .i64 p) (by simp)
          have zz3 := Held.lt H11.out (w3.heap.size) 0 (.int .i64 p) (by simp)
          have zz4 := Held.lt H11.out (w1.heap.size + 1) 0 (.int .i64 x) (by simp)
          have zz5 := Held.lt H11.out (w1.heap.size) 0 (.int .i64 z.k) (by simp)
          go_wp2_with fail
          go_ret
          exact ⟨rfl, H11.out.is⟩
        · have hn0 : (n == 10000000000) = true := by simp; omega
          generalize svV z (n + 1) (n + 1) = vv at *
          generalize svE z (n + 1) (n + 1) = oo at *
          go_wp2_with fail
          refine (C82 _).mono ?_
          rintro e w11 ⟨rfl, hb⟩
          have H11 := Lib.hid (H10.out.later hb)
          clear hb
          clear a0 a1 a2 a3 a4 a5 a6 a7 a8 a9 a10 a11 a12 a13 a14 a15 a16
          have a0 := Held.at H11.out (w8.heap.size) 0 (.int .i64 s) (by simp)
          have a1 := Held.at H11.out (w8.heap.size) 1 (.int .i64 t) (by simp)
          have a2 := Held.at H11.out (w7.heap.size) 0 (.int .i64 s) (by simp)
          have a3 := Held.at H11.out (w7.heap.size) 1 (.int .i64 t) (by simp)
          have a4 := Held.at H11.out (w4.heap.size) 0 (.int .i64 p) (by simp)
          have a5 := Held.at H11.out (w4.heap.size) 1 (.int .i64 q) (by simp)
          have a6 := Held.at H11.out (w3.heap.size) 0 (.int .i64 p) (by simp)
          have a7 := Held.at H11.out (w3.heap.size) 1 (.int .i64 q) (by simp)
          have a8 := Held.at H11.out (w1.heap.size + 1) 0 (.int .i64 x) (by simp)
          have a9 := Held.at H11.out (w1.heap.size + 1) 1 (.int .i64 y) (by simp)
          have a10 := Held.at H11.out (w1.heap.size) 0 (.int .i64 z.k) (by simp)
          have a11 := Held.at H11.out (w1.heap.size) 1 (.int .i64 z.l) (by simp)
          have a12 := Held.at H11.out (w1.heap.size) 2 (.int .i64 z.r) (by simp)
          have a13 := Held.at H11.out (w1.heap.size) 3 (.int .i64 z.a) (by simp)
          have a14 := Held.at H11.out (w1.heap.size) 4 (.int .i64 z.b) (by simp)
          have a15 := Held.at H11.out (w1.heap.size) 5 (.int .i64 z.c) (by simp)
          have a16 := Held.at H11.out (w1.heap.size) 6 (.int .i64 z.d) (by simp)
          have zz0 := Held.lt H11.out (w8.heap.size) 0 (.int .i64 s) (by simp)
          have zz1 := Held.lt H11.out (w7.heap.size) 0 (.int .i64 s) (by simp)
          have zz2 := Held.lt H11.out (w4.heap.size) 0 (.int .i64 p) (by simp)
          have zz3 := Held.lt H11.out (w3.heap.size) 0 (.int .i64 p) (by simp)
          have zz4 := Held.lt H11.out (w1.heap.size + 1) 0 (.int .i64 x) (by simp)
          have zz5 := Held.lt H11.out (w1.heap.size) 0 (.int .i64 z.k) (by simp)
          go_wp2_with fail
          go_ret
          exact ⟨rfl, H11.out.is⟩
  · have hne : (c != 0) = true := by simpa using hc
    go_wp2_with fail
    go_ret
    exact ⟨rfl, H8.out.is⟩
end Go.Proofs.Ytdhoiiejcmnmbaa
