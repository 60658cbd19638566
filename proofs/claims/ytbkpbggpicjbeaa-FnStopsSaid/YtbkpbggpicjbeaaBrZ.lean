/- What the law on stops says, in plain words. -/
import Derived.Test.YtbkpbggpicjbeaaBrM
namespace Go.Proofs.Ytbkpbggpicjbeaa
set_option linter.unusedSimpArgs false
set_option linter.unusedVariables false
theorem quo_facts (a b : Int) (ha : 0 ≤ a) (hb : 0 < b) : b * a.tdiv b ≤ a ∧ a < b * a.tdiv b + b := by
  obtain ⟨f1, f2, _, f4, _⟩ := tmod_facts a b (by omega)
  have f2 := f2 ha; have f4 := (f4 hb).1
  omega
/-- the facts of the distances behind which a train stops -/
theorem ds_facts (l x y W w P Q : Int) (hl : 1 ≤ l) (hx : 0 ≤ x) (hxy : x ≤ y) (hw : 1 ≤ w) (hW : w ≤ W) (hP : P = flo (x * l) W) (hQ : Q = cei (y * l) w) :
    (Q ≤ l ↔ y ≤ w) ∧ (W < x → l ≤ P) ∧ P ≤ Q := by
  have h1 : 0 ≤ x * l := Int.mul_nonneg hx (by omega)
  have h2 : 0 ≤ y * l := Int.mul_nonneg (by omega) (by omega)
  have h3 : x * l ≤ y * l := Int.mul_le_mul_of_nonneg_right hxy (by omega)
  rw [flo_nn _ _ h1 (by omega)] at hP
  rw [cei_nn _ _ h2 (by omega)] at hQ
  obtain ⟨p1, p2⟩ := quo_facts (x * l) W h1 (by omega)
  obtain ⟨q1, q2⟩ := quo_facts (y * l + w - 1) w (by omega) (by omega)
  rw [← hP] at p1 p2
  rw [← hQ] at q1 q2
  have hQ0 : 0 ≤ Q := by
    rcases Int.lt_or_le Q 0 with c | c
    · have := Int.mul_le_mul_of_nonneg_left (show Q ≤ -1 by omega) (show 0 ≤ w by omega); omega
    · exact c
  refine ⟨⟨fun h => ?_, fun h => ?_⟩, fun h => ?_, ?_⟩
  · rcases Int.lt_or_le w y with c | c
    · have a1 := Int.mul_le_mul_of_nonneg_left h (show 0 ≤ w by omega)
      have a2 := Int.mul_le_mul_of_nonneg_right (show w + 1 ≤ y by omega) (show 0 ≤ l by omega)
      rw [Int.add_mul] at a2; omega
    · exact c
  · rcases Int.lt_or_le l Q with c | c
    · have a1 := Int.mul_le_mul_of_nonneg_left (show l + 1 ≤ Q by omega) (show 0 ≤ w by omega)
      have a2 := Int.mul_le_mul_of_nonneg_right h (show 0 ≤ l by omega)
      rw [Int.mul_add] at a1; omega
    · exact c
  · rcases Int.lt_or_le P l with c | c
    · have a1 := Int.mul_le_mul_of_nonneg_left (show P ≤ l - 1 by omega) (show 0 ≤ W by omega)
      have a2 := Int.mul_le_mul_of_nonneg_right (show W ≤ x by omega) (show 0 ≤ l by omega)
      rw [Int.mul_sub] at a1; omega
    · exact c
  · rcases Int.lt_or_le Q P with c | c
    · have a1 := Int.mul_le_mul_of_nonneg_left (show Q + 1 ≤ P by omega) (show 0 ≤ W by omega)
      have a2 := Int.mul_le_mul_of_nonneg_right hW hQ0
      rw [Int.mul_add] at a1; omega
    · exact c
theorem st_facts {z : Sg} {x y : Int} (h : dsE z x y = 0) :
    slE z = 0 ∧ 1 ≤ gsV z ∧ gsV z ≤ 10000000000 ∧ ((svV z x y == 2) != decide (dsH z x y ≤ z.l)) = false ∧ (svV z x y = 0 → ¬ dsL z x y < z.l) ∧ ¬ dsH z x y < dsL z x y ∧
    svE z (gsV z) (gsV z) = 0 ∧ svV z (gsV z) (gsV z) = 2 ∧ (gsV z < 10000000000 → svE z (gsV z + 1) (gsV z + 1) = 0 ∧ svV z (gsV z + 1) (gsV z + 1) ≠ 2) := by
  have he : enB x y = true := by
    cases he : enB x y
    · unfold dsE at h; rw [he] at h; cases h
    · rfl
  have hs : slE z = 0 := by unfold dsE at h; rw [if_pos he] at h; exact h
  obtain ⟨s1, s2, s3⟩ := slE_ok hs
  have hb : brE z = 0 := by unfold brE; rw [if_pos s1, if_pos s2]
  obtain ⟨u1, u2, u3⟩ := (enB_iff x y).1 he
  have hw := wk_bd z s1
  have hl := ((sgB_iff z).1 s1).2.1
  have e1 : dsL z x y = flo (x * z.l) (wkH z) := by unfold dsL; rw [h]; rfl
  have e2 : dsH z x y = cei (y * z.l) (wkL z) := by unfold dsH; rw [h]; rfl
  obtain ⟨d1, d2, d3⟩ := ds_facts z.l x y (wkH z) (wkL z) _ _ hl.1 u1 u2 s3 hw.2.1 e1 e2
  have ev : svV z x y = if 1 ≤ wkL z ∧ y ≤ wkL z then 2 else if wkH z < x then 0 else 1 := by unfold svV svE; rw [if_pos he, hb]; rfl
  have eg : gsV z = min (wkL z) 10000000000 := by unfold gsV; rw [hs]; rfl
  have hg1 : 1 ≤ gsV z := by rw [eg]; omega
  have hg2 : gsV z ≤ 10000000000 := by rw [eg]; omega
  have hg3 : gsV z ≤ wkL z := by rw [eg]; omega
  refine ⟨hs, hg1, hg2, ?_, ?_, by omega, ?_, ?_, ?_⟩
  · rw [ev]
    by_cases c : y ≤ wkL z
    · rw [if_pos ⟨s3, c⟩]
      have := d1.2 c
      simp [this]
    · rw [if_neg (by omega)]
      have : ¬ dsH z x y ≤ z.l := fun hh => c (d1.1 hh)
      by_cases c2 : wkH z < x
      · rw [if_pos c2]; simp [this]
      · rw [if_neg c2]; simp [this]
  · intro hv
    rw [ev] at hv
    by_cases c : y ≤ wkL z
    · rw [if_pos ⟨s3, c⟩] at hv; cases hv
    · rw [if_neg (by omega)] at hv
      by_cases c2 : wkH z < x
      · have := d2 c2; omega
      · rw [if_neg c2] at hv; cases hv
  · unfold svE; rw [if_pos ((enB_iff _ _).2 (by omega)), hb]
  · unfold svV svE; rw [if_pos ((enB_iff _ _).2 (by omega)), hb]
    show svW z (gsV z) (gsV z) = 2
    unfold svW; rw [if_pos ⟨s3, hg3⟩]
  · intro hlt
    have hge : wkL z = gsV z := by rw [eg] at hlt ⊢; omega
    have hs2 : svE z (gsV z + 1) (gsV z + 1) = 0 := by unfold svE; rw [if_pos ((enB_iff _ _).2 (by omega)), hb]
    refine ⟨hs2, ?_⟩
    unfold svV
    rw [hs2]
    show svW z (gsV z + 1) (gsV z + 1) ≠ 2
    unfold svW
    rw [if_neg (by omega)]
    split <;> omega
end Go.Proofs.Ytbkpbggpicjbeaa
