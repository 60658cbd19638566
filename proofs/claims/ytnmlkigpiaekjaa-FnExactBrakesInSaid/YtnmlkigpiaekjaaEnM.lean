/- Plain words of chapter 6: energies, the change of a segment, the verdicts. No program in sight. -/
import Derived.Test.YtnmlkigpiaekjaaSgM
namespace Go.Proofs.Ytnmlkigpiaekjaa
set_option linter.unusedSimpArgs false
set_option linter.unusedVariables false
/-- 'the interval from a to b is an energy' -/
def enB (a b : Int) : Bool := decide (0 ≤ a) && decide (a ≤ b) && decide (b ≤ 10000000000)
theorem enB_iff (a b : Int) : enB a b = true ↔ 0 ≤ a ∧ a ≤ b ∧ b ≤ 10000000000 := by
  unfold enB; simp [and_assoc]
theorem enB_no (a b : Int) : enB a b = false ↔ ¬ (0 ≤ a ∧ a ≤ b ∧ b ≤ 10000000000) := by
  rw [← enB_iff]; simp
/-- twice what the resistance takes over a segment, at its least and at its greatest -/
def kL (x : Sg) : Int := x.a * (2 * x.l)
def kH (x : Sg) : Int := x.b * (2 * x.l)
/-- the bounds of the change of a segment -/
def chL (x : Sg) : Int := -19612 * x.r - kH x
def chH (x : Sg) : Int := -19612 * x.r - kL x
theorem k_bd (x : Sg) (h : sgB x = true) : 0 ≤ kL x ∧ kL x ≤ kH x ∧ kH x ≤ 8000000000 := by
  rw [sgB_iff] at h
  obtain ⟨_, ⟨l1, l2⟩, _, ⟨a1, a2, a3⟩, _⟩ := h
  refine ⟨Int.mul_nonneg a1 (by omega), Int.mul_le_mul_of_nonneg_right a2 (by omega), ?_⟩
  have h1 : x.b * (2 * x.l) ≤ 20000 * (2 * x.l) := Int.mul_le_mul_of_nonneg_right a3 (by omega)
  unfold kH
  omega
theorem ch_bd (x : Sg) (h : sgB x = true) : -9961200000 ≤ chL x ∧ chL x ≤ chH x ∧ chH x ≤ 1961200000 := by
  have hk := k_bd x h
  rw [sgB_iff] at h
  unfold chL chH
  omega
/-- the code of an energy behind a segment -/
def codE (a b : Int) : Int := if a < 0 then 5 else if b ≤ 10000000000 then 0 else 3
/-- a number that is 0 unless the code is 0 -/
def okV (c v : Int) : Int := if c = 0 then v else 0
theorem codE_ok (a b : Int) (h : codE a b = 0) : 0 ≤ a ∧ b ≤ 10000000000 := by
  unfold codE at h; split at h
  · cases h
  · split at h
    · omega
    · cases h
/-- the energy and the code of a speed -/
def spE (v : Int) : Int := if 0 ≤ v ∧ v ≤ 100000 then 0 else 2
def spV (v : Int) : Int := if 0 ≤ v ∧ v ≤ 100000 then v * v else 0
/-- the code where all must be valid -/
def inE (b : Bool) : Int := if b then 0 else 1
/-- the speeds of an energy -/
def sdL (a b : Int) : Int := if enB a b = true then rootD a else 0
def sdH (a b : Int) : Int := if enB a b = true then rootU b else 0
/-- the change of a segment, if it is valid -/
def coL (x : Sg) : Int := if sgB x = true then chL x else 0
def coH (x : Sg) : Int := if sgB x = true then chH x else 0
/-- the verdict on a sum -/
def vrd (a b : Int) : Int := if 0 ≤ a then 2 else if b < 0 then 0 else 1
/-- the verdict on a train before a segment -/
def pvE (x : Sg) (a b : Int) : Int := inE (sgB x && enB a b)
def pvV (x : Sg) (a b : Int) : Int := if (sgB x && enB a b) = true then vrd (a + chL x) (b + chH x) else 0
/-- the energy behind a segment -/
def afE (x : Sg) (a b : Int) : Int := if (sgB x && enB a b) = true then codE (a + chL x) (b + chH x) else 1
def afL (x : Sg) (a b : Int) : Int := okV (afE x a b) (a + chL x)
def afH (x : Sg) (a b : Int) : Int := okV (afE x a b) (b + chH x)
end Go.Proofs.Ytnmlkigpiaekjaa
