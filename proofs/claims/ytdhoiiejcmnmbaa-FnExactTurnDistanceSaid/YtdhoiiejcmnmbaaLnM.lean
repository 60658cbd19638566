/- Plain words of chapter 8: devices that are on, launches, lifts, trains that turn back. No program in sight. -/
import Derived.Test.YtdhoiiejcmnmbaaBrM
import Derived.Test.YtdhoiiejcmnmbaaEnP
import Derived.Test.YtdhoiiejcmnmbaaMathL
namespace Go.Proofs.Ytdhoiiejcmnmbaa
set_option linter.unusedSimpArgs false
set_option linter.unusedVariables false
/-- the bounds of the energy behind a segment whose device is on -/
def acL (x : Sg) (a : Int) : Int := if x.k = 1 then x.c * x.c else if x.k = 2 then a + chL x + fcL x else if x.k = 3 ∨ x.k = 4 then a + chL x - fcH x else a + chL x
def acH (x : Sg) (b : Int) : Int := if x.k = 1 then x.d * x.d else if x.k = 2 then b + chH x + fcH x else if x.k = 3 ∨ x.k = 4 then b + chH x - fcL x else b + chH x
theorem sq_bd (c d : Int) (h1 : 0 ≤ c) (h2 : c ≤ d) (h3 : d ≤ 20000) : 0 ≤ c * c ∧ c * c ≤ d * d ∧ d * d ≤ 400000000 := by
  refine ⟨Int.mul_nonneg h1 h1, sq_mono c d h1 h2, ?_⟩
  have := sq_mono d 20000 (by omega) h3
  omega
theorem ac_bd (x : Sg) (a b : Int) (h : sgB x = true) (h2 : enB a b = true) : -20000000000 ≤ acL x a ∧ acL x a ≤ acH x b ∧ acH x b ≤ 20000000000 := by
  have c := ch_bd x h
  have f := fc_bd x h
  have e := (enB_iff a b).1 h2
  have s := sq_bd x.c x.d f.1 f.2.1 f.2.2.1
  unfold acL acH
  by_cases h1 : x.k = 1
  · simp only [if_pos h1]; omega
  · simp only [if_neg h1]
    by_cases h2 : x.k = 2
    · simp only [if_pos h2]; omega
    · simp only [if_neg h2]
      by_cases h3 : x.k = 3 ∨ x.k = 4
      · simp only [if_pos h3]; omega
      · simp only [if_neg h3]; omega
/-- the energy behind a segment whose device is on: code, bounds -/
def avE (x : Sg) (a b : Int) : Int := if (sgB x && enB a b) = true then codE (acL x a) (acH x b) else 1
def avL (x : Sg) (a b : Int) : Int := okV (avE x a b) (acL x a)
def avH (x : Sg) (a b : Int) : Int := okV (avE x a b) (acH x b)
/-- the least force of a launch -/
def lfF (x : Sg) (a t : Int) : Int := max 0 (cei (t - (a + chL x)) (2 * x.l))
def lfE (x : Sg) (a b t : Int) : Int := if (sgB x && enB a b) = true then (if 0 ≤ t ∧ t ≤ 10000000000 then (if x.k = 2 then (if lfF x a t ≤ x.c then 0 else 4) else 5) else 2) else 1
def lfV (x : Sg) (a b t : Int) : Int := okV (lfE x a b t) (lfF x a t)
/-- how far a train comes that turns back -/
def tdE (x : Sg) (a b : Int) : Int := if (sgB x && enB a b) = true then (if b + chH x < 0 then 0 else 5) else 1
def tdL (x : Sg) (a b : Int) : Int := okV (tdE x a b) (flo (a * x.l) (-chL x))
def tdH (x : Sg) (a b : Int) : Int := okV (tdE x a b) (cei (b * x.l) (-chH x))
/-- the times on a lift -/
def ltE (x : Sg) : Int := if sgB x = true then (if x.k = 1 then 0 else 5) else 1
def ltL (x : Sg) : Int := okV (ltE x) (flo (1000 * x.l) x.d)
def ltH (x : Sg) : Int := okV (ltE x) (cei (1000 * x.l) x.c)
/-- the change is even -/
theorem ch_even (x : Sg) : (chL x) % 2 = 0 ∧ (chH x) % 2 = 0 := by
  have e1 : kH x = 2 * (x.b * x.l) := by unfold kH; rw [Int.mul_left_comm]
  have e2 : kL x = 2 * (x.a * x.l) := by unfold kL; rw [Int.mul_left_comm]
  unfold chL chH
  rw [e1, e2]
  omega
theorem cei_spec (a b : Int) (hb : 0 < b) : a ≤ cei a b * b ∧ (cei a b - 1) * b < a := by
  rw [cei_eq a b (by omega)]
  have f := flo_spec (-a) b hb
  obtain ⟨f1, f2⟩ := f
  have e1 : -flo (-a) b * b = -(flo (-a) b * b) := by rw [Int.neg_mul]
  have e2 : (-flo (-a) b - 1) * b = -((flo (-a) b + 1) * b) := by
    rw [show -flo (-a) b - 1 = -(flo (-a) b + 1) by omega, Int.neg_mul]
  rw [e1, e2]
  omega
theorem lt_or_geI (a b : Int) : a < b ∨ b ≤ a := by omega
theorem cei_le (a b q : Int) (hb : 0 < b) (h : a ≤ q * b) : cei a b ≤ q := by
  have := (cei_spec a b hb).2
  rcases lt_or_geI q (cei a b) with c | c
  · have := Int.mul_le_mul_of_nonneg_right (show q ≤ cei a b - 1 by omega) (show 0 ≤ b by omega); omega
  · exact c
theorem flo_le (a b q : Int) (hb : 0 < b) (h : a < (q + 1) * b) : flo a b ≤ q := by
  have := (flo_spec a b hb).1
  rcases lt_or_geI q (flo a b) with c | c
  · have := Int.mul_le_mul_of_nonneg_right (show q + 1 ≤ flo a b by omega) (show 0 ≤ b by omega); omega
  · exact c
theorem flo_nn0 (a b : Int) (ha : 0 ≤ a) (hb : 0 < b) : 0 ≤ flo a b := by
  have := (flo_spec a b hb).2
  rcases lt_or_geI (flo a b) 0 with c | c
  · have := Int.mul_le_mul_of_nonneg_right (show flo a b + 1 ≤ 0 by omega) (show 0 ≤ b by omega); omega
  · exact c
/-- a quotient rounded down by a greater number is at most one rounded up by a smaller one -/
theorem flo_cei (a b p q : Int) (ha : 0 ≤ a) (hab : a ≤ b) (hq : 0 < q) (hqp : q ≤ p) : flo a p ≤ cei b q := by
  have f := (flo_spec a p (by omega)).1
  have c := (cei_spec b q hq).1
  have n0 := flo_nn0 a p ha (by omega)
  rcases lt_or_geI (cei b q) (flo a p) with d | d
  · have h1 := Int.mul_le_mul_of_nonneg_left hqp n0
    have h2 := Int.mul_le_mul_of_nonneg_right (show cei b q + 1 ≤ flo a p by omega) (show 0 ≤ q by omega)
    rw [Int.add_mul] at h2
    omega
  · exact d
/-- what the law on turning trains says -/
theorem td_facts {x : Sg} {a b : Int} (h : tdE x a b = 0) : pvE x a b = 0 ∧ pvV x a b = 0 ∧ 0 ≤ tdL x a b ∧ tdL x a b ≤ tdH x a b ∧ tdH x a b ≤ x.l := by
  have h0 := h
  unfold tdE at h
  split at h
  · rename_i hb
    split at h
    · rename_i hn
      have hs : sgB x = true := by simp at hb; exact hb.1
      have he : enB a b = true := by simp at hb; exact hb.2
      have c := ch_bd x hs
      have e := (enB_iff a b).1 he
      have l := ((sgB_iff x).1 hs).2.1
      have al := nn_mul a x.l (by omega) (by omega) l.1 l.2
      have bl := nn_mul b x.l (by omega) (by omega) l.1 l.2
      have abl : a * x.l ≤ b * x.l := Int.mul_le_mul_of_nonneg_right e.2.1 (by omega)
      unfold tdL tdH pvE pvV inE okV
      rw [h0, hb]
      simp only [if_true]
      refine ⟨by simp, ?_, flo_nn0 _ _ al.1 (by omega), flo_cei _ _ _ _ al.1 abl (by omega) (by omega), cei_le _ _ _ (by omega) ?_⟩
      · unfold vrd; rw [if_neg (by omega), if_pos hn]
      · rw [Int.mul_comm x.l]
        exact Int.mul_le_mul_of_nonneg_right (by omega) (by omega)
    · cases h
  · cases h
theorem lt_facts {x : Sg} (h : ltE x = 0) : ltL x ≤ ltH x := by
  unfold ltL ltH okV
  rw [h]
  simp only [if_true]
  unfold ltE at h
  split at h
  · rename_i hs
    split at h
    · rename_i hk
      have g := (sgB_iff x).1 hs
      have f := g.2.2.2.2.2 (by omega)
      exact flo_cei _ _ _ _ (by omega) (by omega) (by omega) (by omega)
    · cases h
  · cases h
/-- what the law on launches says -/
theorem lf_facts {x : Sg} {a b t : Int} (h : lfE x a b t = 0) : inE (sgB x) = 0 ∧ coL x = chL x ∧ sgB x = true ∧ 0 ≤ a ∧ a ≤ 10000000000 ∧ 0 ≤ t ∧ t ≤ 10000000000 ∧ 0 ≤ lfV x a b t ∧ lfV x a b t ≤ x.c ∧ t ≤ a + chL x + 2 * lfV x a b t * x.l ∧ (lfV x a b t = 0 ∨ a + chL x + 2 * (lfV x a b t - 1) * x.l < t) := by
  have h0 := h
  unfold lfE at h
  split at h
  · rename_i hb
    split at h
    · rename_i ht
      split at h
      · split at h
        · rename_i hk hf
          have hs : sgB x = true := by simp at hb; exact hb.1
          have he : enB a b = true := by simp at hb; exact hb.2
          have e := (enB_iff a b).1 he
          have l := ((sgB_iff x).1 hs).2.1
          have ev : lfV x a b t = lfF x a t := by unfold lfV okV; rw [h0]; rfl
          rw [ev]
          have c := cei_spec (t - (a + chL x)) (2 * x.l) (by omega)
          unfold lfF at *
          obtain ⟨q, hq⟩ : ∃ q, q = cei (t - (a + chL x)) (2 * x.l) := ⟨_, rfl⟩
          rw [← hq] at c hf ⊢
          obtain ⟨c1, c2⟩ := c
          have m1 : q * (2 * x.l) = 2 * q * x.l := by rw [Int.mul_comm 2 x.l, ← Int.mul_assoc, Int.mul_comm (q * x.l), ← Int.mul_assoc]
          have m2 : (q - 1) * (2 * x.l) = 2 * (q - 1) * x.l := by rw [Int.mul_comm 2 x.l, ← Int.mul_assoc, Int.mul_comm ((q - 1) * x.l), ← Int.mul_assoc]
          rw [m1] at c1; rw [m2] at c2
          refine ⟨by rw [hs]; rfl, by unfold coL; rw [if_pos hs], hs, by omega, by omega, by omega, by omega, by omega, hf, ?_, ?_⟩
          · rcases lt_or_geI q 0 with d | d
            · rw [show max 0 q = 0 by omega]
              have : 2 * q * x.l ≤ 0 := by
                have := Int.mul_le_mul_of_nonneg_right (show 2 * q ≤ 0 by omega) (show 0 ≤ x.l by omega); omega
              omega
            · rw [show max 0 q = q by omega]; omega
          · rcases lt_or_geI q 1 with d | d
            · exact .inl (by omega)
            · rw [show max 0 q = q by omega]; exact .inr (by omega)
        · cases h
      · cases h
    · cases h
  · cases h
/-- what the law on devices says -/
theorem av_facts {x : Sg} {a b : Int} (h : avE x a b = 0) :
    (x.k = 1 → avE x 0 0 = 0 ∧ avL x 0 0 = avL x a b ∧ avH x 0 0 = avH x a b) ∧
    (x.k = 2 → afE x a b ≠ 0 ∨ afL x a b < avL x a b ∧ afH x a b < avH x a b) ∧
    (x.k = 0 → afE x a b = 0 ∧ avL x a b = afL x a b ∧ avH x a b = afH x a b) ∧
    (x.k ≠ 0 → x.k ≠ 1 → x.k ≠ 2 → afE x a b = 3 ∨ afE x a b = 0 ∧ avL x a b < afL x a b ∧ avH x a b < afH x a b) := by
  have h0 := h
  unfold avE at h
  split at h
  · rename_i hb
    have hs : sgB x = true := by simp at hb; exact hb.1
    have he : enB a b = true := by simp at hb; exact hb.2
    have e := (enB_iff a b).1 he
    have g := (sgB_iff x).1 hs
    have c := ch_bd x hs
    have f := fc_bd x hs
    have ok := codE_ok _ _ h
    have e1 : avL x a b = acL x a := by unfold avL okV; rw [h0]; rfl
    have e2 : avH x a b = acH x b := by unfold avH okV; rw [h0]; rfl
    have e3 : afE x a b = codE (a + chL x) (b + chH x) := by unfold afE; rw [hb]; rfl
    rw [e1, e2]
    have en0 : enB 0 0 = true := by rw [enB_iff]; omega
    have fpos : x.k ≠ 0 → 1 ≤ fcL x := by
      intro hk
      have hc := (g.2.2.2.2.2 hk).1
      unfold fcL
      have := Int.mul_le_mul hc (show 2 ≤ 2 * x.l by omega) (by omega) (by omega)
      omega
    refine ⟨fun hk => ?_, fun hk => ?_, fun hk => ?_, fun k0 k1 k2 => ?_⟩
    · have a1 : acL x 0 = acL x a := by unfold acL; rw [if_pos hk, if_pos hk]
      have a2 : acH x 0 = acH x b := by unfold acH; rw [if_pos hk, if_pos hk]
      have a3 : avE x 0 0 = 0 := by unfold avE; rw [hs, en0]; simp only [Bool.and_self, if_true]; rw [a1, a2]; exact h
      exact ⟨a3, by unfold avL okV; rw [a3, a1]; rfl, by unfold avH okV; rw [a3, a2]; rfl⟩
    · by_cases hz : afE x a b = 0
      · refine .inr ?_
        have a1 : afL x a b = a + chL x := by unfold afL okV; rw [hz]; rfl
        have a2 : afH x a b = b + chH x := by unfold afH okV; rw [hz]; rfl
        have a3 : acL x a = a + chL x + fcL x := by unfold acL; rw [if_neg (by omega), if_pos hk]
        have a4 : acH x b = b + chH x + fcH x := by unfold acH; rw [if_neg (by omega), if_pos hk]
        have := fpos (by omega)
        rw [a1, a2, a3, a4]; omega
      · exact .inl hz
    · have a3 : acL x a = a + chL x := by unfold acL; rw [if_neg (by omega), if_neg (by omega), if_neg (by omega)]
      have a4 : acH x b = b + chH x := by unfold acH; rw [if_neg (by omega), if_neg (by omega), if_neg (by omega)]
      rw [a3, a4] at h
      have hz : afE x a b = 0 := e3.trans h
      exact ⟨hz, by unfold afL okV; rw [hz, a3]; rfl, by unfold afH okV; rw [hz, a4]; rfl⟩
    · have k34 : x.k = 3 ∨ x.k = 4 := by omega
      have a3 : acL x a = a + chL x - fcH x := by unfold acL; rw [if_neg k1, if_neg k2, if_pos k34]
      have a4 : acH x b = b + chH x - fcL x := by unfold acH; rw [if_neg k1, if_neg k2, if_pos k34]
      have := fpos k0
      rw [a3] at ok
      by_cases hz : b + chH x ≤ 10000000000
      · have hz2 : afE x a b = 0 := by rw [e3]; unfold codE; rw [if_neg (by omega), if_pos hz]
        refine .inr ⟨hz2, ?_, ?_⟩
        · rw [a3]; unfold afL okV; rw [hz2]; simp only [if_true]; omega
        · rw [a4]; unfold afH okV; rw [hz2]; simp only [if_true]; omega
      · exact .inl (by rw [e3]; unfold codE; rw [if_neg (by omega), if_neg hz])
  · cases h
end Go.Proofs.Ytdhoiiejcmnmbaa
