/- Plain words of chapter 4: the default blocks are blocks; merged blocks are blocks. No program in sight. -/
import Derived.Test.YtdhoiiejcmnmbaaBkM
namespace Go.Proofs.Ytdhoiiejcmnmbaa
set_option linter.unusedSimpArgs false
set_option linter.unusedVariables false
theorem gx_app_l (d : List Int) (y : Int) (i : Nat) (h : i < d.length) : gx (d ++ [y]) i = gx d i := by
  unfold gx; rw [List.getD_eq_getElem?_getD, List.getD_eq_getElem?_getD, List.getElem?_append_left h]
theorem gx_app_r (d : List Int) (y : Int) : gx (d ++ [y]) d.length = y := by
  unfold gx; rw [List.getD_eq_getElem?_getD, List.getElem?_append_right (Nat.le_refl _), Nat.sub_self]; rfl
/-- what holds of the default blocks of the first k segments -/
structure Dok (L : List Sg) (k : Nat) (d : List Int) : Prop where
  ne : 1 ≤ d.length
  z : gx d 0 = 0
  up : ∀ i, i + 1 < d.length → gx d i < gx d (i + 1)
  rg : ∀ i, i < d.length → 0 ≤ gx d i ∧ gx d i ≤ k
  hd : ∀ i, i < d.length → i ≠ 0 → hldB (sx L ((gx d i).toNat - 1)) = true
theorem dfl_ok (L : List Sg) (k : Nat) : Dok L k (dfl L k) := by
  induction k with
  | zero =>
    refine ⟨by simp [dfl], by simp [dfl, gx], ?_, ?_, ?_⟩
    · intro i hi; simp [dfl] at hi
    · intro i hi; simp only [dfl, List.length_singleton] at hi; obtain rfl : i = 0 := by omega
      simp [dfl, gx]
    · intro i hi h0; simp [dfl] at hi; omega
  | succ k ih =>
    by_cases h : hldB (sx L k) = true
    · have e : dfl L (k + 1) = dfl L k ++ [(k : Int) + 1] := by rw [dfl, if_pos h]
      rw [e]
      generalize hd : dfl L k = d at *
      obtain ⟨i1, i2, i3, i4, i5⟩ := ih
      refine ⟨by simp, by rw [gx_app_l _ _ 0 (by omega)]; exact i2, ?_, ?_, ?_⟩
      · intro i hi
        rw [List.length_append, List.length_singleton] at hi
        by_cases c : i + 1 < d.length
        · rw [gx_app_l _ _ i (by omega), gx_app_l _ _ (i + 1) c]; exact i3 i c
        · have hdl : d.length = i + 1 := by omega
          rw [gx_app_l _ _ i (by omega), show gx (d ++ [(k : Int) + 1]) (i + 1) = (k : Int) + 1 from by have := gx_app_r d ((k : Int) + 1); rwa [show d.length = i + 1 by omega] at this]
          have := (i4 i (by omega)).2; omega
      · intro i hi
        rw [List.length_append, List.length_singleton] at hi
        by_cases c : i < d.length
        · rw [gx_app_l _ _ i c]; have := i4 i c; omega
        · obtain rfl : i = d.length := by omega
          rw [gx_app_r]; omega
      · intro i hi h0
        rw [List.length_append, List.length_singleton] at hi
        by_cases c : i < d.length
        · rw [gx_app_l _ _ i c]; exact i5 i c h0
        · obtain rfl : i = d.length := by omega
          rw [gx_app_r, show ((k : Int) + 1).toNat - 1 = k by omega]; exact h
    · have e : dfl L (k + 1) = dfl L k := by rw [dfl, if_neg h]
      rw [e]
      obtain ⟨i1, i2, i3, i4, i5⟩ := ih
      exact ⟨i1, i2, i3, fun i hi => by have := i4 i hi; omega, i5⟩
theorem ris_of {d : List Int} {m : Int} (h : ∀ i, i + 1 < d.length → gx d i < gx d (i + 1)) (h2 : ∀ i, i < d.length → 0 ≤ gx d i ∧ gx d i < m) : risB d m = true := by
  rw [risB_iff]
  intro i hi
  unfold okAt
  rw [Bool.and_eq_true, decide_eq_true_eq, decide_eq_true_eq]
  refine ⟨?_, (h2 i hi).2⟩
  cases i with
  | zero => have := (h2 0 hi).1; show (-1 : Int) < _; omega
  | succ i => exact h i hi
theorem okH_of {L : List Sg} {d : List Int} (h : ∀ i, i < d.length → i ≠ 0 → hldB (sx L ((gx d i).toNat - 1)) = true) : okH L d d.length = true := by
  unfold okH
  rw [List.all_eq_true]
  intro i hi
  rw [List.mem_range] at hi
  by_cases h0 : i = 0
  · simp [h0]
  · have := h i hi h0
    unfold fstK
    simp [this]
theorem dfl_blocks {L : List Sg} (h : dflE L = 0) : bkB L (dflV L) = true ∧ dflV L = dfl L (L.length - 1) := by
  have hv : layB L = true := by
    cases hv : layB L
    · unfold dflE at h; rw [hv] at h; cases h
    · rfl
  have e : dflV L = dfl L (L.length - 1) := by unfold dflV; rw [if_pos h]
  refine ⟨?_, e⟩
  obtain ⟨l3, l24, _⟩ := (layB_iff L).1 hv
  unfold dflE at h
  rw [hv, if_pos rfl] at h
  have hlen : 2 ≤ (dfl L (L.length - 1)).length ∧ (dfl L (L.length - 1)).length ≤ 8 := by
    split at h
    · cases h
    · split at h
      · cases h
      · omega
  obtain ⟨i1, i2, i3, i4, i5⟩ := dfl_ok L (L.length - 1)
  rw [e]
  unfold bkB
  rw [hv, Bool.true_and, bkC_iff]
  exact ⟨hlen.1, hlen.2, ris_of i3 (fun i hi => by have := i4 i hi; omega), i2, okH_of i5⟩
/-- the last segment of a block holds -/
theorem hold_at {L : List Sg} {F : List Int} (h : bkB L F = true) (b : Nat) (hb : b < F.length) : hldB (sx L (endK L F b - 1)) = true := by
  obtain ⟨hv, hk⟩ := bkB_lay h
  obtain ⟨h1, h2, h3, h4, h5⟩ := (bkC_iff L F).1 hk
  by_cases hc : b + 1 < F.length
  · rw [endK_next b hc]; exact okH_at L F F.length (b + 1) h5 hc (by omega)
  · rw [endK_last b (by omega)]
    obtain ⟨l3, _, l4, _, l6⟩ := (layB_iff L).1 hv
    unfold hldB
    rw [okB_at L L.length (L.length - 1) (Nat.le_refl _) (by omega) l4, l6]
    simp
/-- merged blocks are blocks -/
theorem gx_take_l (F : List Int) (k i : Nat) (r : List Int) (h : i < k) (hk : k ≤ F.length) : gx (F.take k ++ r) i = gx F i := by
  unfold gx
  rw [List.getD_eq_getElem?_getD, List.getD_eq_getElem?_getD, List.getElem?_append_left (by rw [List.length_take]; omega), List.getElem?_take, if_pos h]
theorem gx_drop_r (F : List Int) (k j i : Nat) (h : k ≤ i) (hk : k ≤ F.length) : gx (F.take k ++ F.drop j) i = gx F (j + (i - k)) := by
  unfold gx
  rw [List.getD_eq_getElem?_getD, List.getD_eq_getElem?_getD, List.getElem?_append_right (by rw [List.length_take]; omega), List.length_take, Nat.min_eq_left hk, List.getElem?_drop]
def mrg (F : List Int) (b : Nat) : List Int := F.take (b + 1) ++ F.drop (b + 2)
theorem mrg_len (F : List Int) (b : Nat) (h : b + 1 < F.length) : (mrg F b).length = F.length - 1 := by unfold mrg; simp; omega
theorem mrg_gx (F : List Int) (b i : Nat) (h : b + 1 < F.length) : gx (mrg F b) i = if i < b + 1 then gx F i else gx F (i + 1) := by
  unfold mrg
  by_cases c : i < b + 1
  · rw [if_pos c]; exact gx_take_l F (b + 1) i _ c (by omega)
  · rw [if_neg c, gx_drop_r F (b + 1) (b + 2) i (by omega) (by omega)]; congr 1; omega
theorem mrg_fst (F : List Int) (b i : Nat) (h : b + 1 < F.length) : fstK (mrg F b) i = if i < b + 1 then fstK F i else fstK F (i + 1) := by
  unfold fstK; rw [mrg_gx F b i h]; split <;> rfl
theorem mrg_blocks {L : List Sg} {F : List Int} (hb : bkB L F = true) (b : Nat) (h : b + 1 < F.length) (h3 : 3 ≤ F.length) : bkB L (mrg F b) = true := by
  obtain ⟨hv, hk⟩ := bkB_lay hb
  obtain ⟨h1, h2, hr, h4, h5⟩ := (bkC_iff L F).1 hk
  have hl := mrg_len F b h
  have r1 : ∀ i j, i < j → j < F.length → gx F i < gx F j := by
    intro i j hij hj
    have a := ris_nat hr i (by omega); have c := ris_nat hr j hj
    have m := ris_mono hr (i + 1) j (by omega) hj
    have s := ris_succ hr i (by omega)
    omega
  unfold bkB
  rw [hv, Bool.true_and, bkC_iff, hl]
  refine ⟨by omega, by omega, ris_of ?_ ?_, ?_, ?_⟩
  · intro i hi
    rw [mrg_gx F b i h, mrg_gx F b (i + 1) h]
    split <;> split
    · exact r1 i (i + 1) (by omega) (by omega)
    · exact r1 i (i + 1 + 1) (by omega) (by omega)
    · omega
    · exact r1 (i + 1) (i + 1 + 1) (by omega) (by omega)
  · intro i hi
    rw [mrg_gx F b i h]
    split
    · have := ris_at hr i (by omega); omega
    · have := ris_at hr (i + 1) (by omega); omega
  · rw [mrg_gx F b 0 h, if_pos (by omega)]; exact h4
  · rw [← hl]
    refine okH_of fun i hi h0 => ?_
    have e : (gx (mrg F b) i).toNat = fstK (mrg F b) i := rfl
    rw [e, mrg_fst F b i h]
    split
    · exact okH_at L F F.length i h5 (by omega) h0
    · exact okH_at L F F.length (i + 1) h5 (by omega) (by omega)
/-- a merged block begins where the first one began, and is as long as both -/
theorem mrg_st {L : List Sg} {F : List Int} (b : Nat) (h : b + 1 < F.length) : stK L (mrg F b) b = stK L F b := by
  unfold stK; rw [mrg_fst F b b h, if_pos (by omega)]
theorem mrg_ln {L : List Sg} {F : List Int} (b : Nat) (h : b + 1 < F.length) : lnK L (mrg F b) b = lnK L F b + lnK L F (b + 1) := by
  have e : endK L (mrg F b) b = endK L F (b + 1) := by
    unfold endK
    rw [mrg_len F b h]
    by_cases c : b + 1 < F.length - 1
    · rw [if_pos c, if_pos (by omega), mrg_fst F b (b + 1) h, if_neg (by omega)]
    · rw [if_neg c, if_neg (by omega)]
  unfold lnK
  rw [e, mrg_fst F b b h, if_pos (by omega), endK_next b h]
  omega
end Go.Proofs.Ytdhoiiejcmnmbaa
