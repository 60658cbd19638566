/- Plain words of chapter 7: brakes, their work, stopping distances, the verdicts on a stop. No program in sight. -/
import Derived.Test.YtnmlkigpiaekjaaEnM
import Derived.Test.YtnmlkigpiaekjaaMath
namespace Go.Proofs.Ytnmlkigpiaekjaa
set_option linter.unusedSimpArgs false
set_option linter.unusedVariables false
/-- a brake or a station -/
def brk (k : Int) : Bool := decide (k = 3) || decide (k = 4)
theorem brk_iff (k : Int) : brk k = true ↔ k = 3 ∨ k = 4 := by unfold brk; simp
theorem brk_no (k : Int) : brk k = false ↔ k ≠ 3 ∧ k ≠ 4 := by unfold brk; simp
/-- the bounds of the work of a brake -/
def fcL (x : Sg) : Int := x.c * (2 * x.l)
def fcH (x : Sg) : Int := x.d * (2 * x.l)
def wkL (x : Sg) : Int := fcL x - chH x
def wkH (x : Sg) : Int := fcH x - chL x
theorem fc_bd (x : Sg) (h : sgB x = true) : 0 ≤ x.c ∧ x.c ≤ x.d ∧ x.d ≤ 20000 ∧ 0 ≤ fcL x ∧ fcL x ≤ fcH x ∧ fcH x ≤ 8000000000 := by
  rw [sgB_iff] at h
  obtain ⟨_, ⟨l1, l2⟩, _, _, f1, f2⟩ := h
  have f : 0 ≤ x.c ∧ x.c ≤ x.d ∧ x.d ≤ 20000 := by
    by_cases hk : x.k = 0
    · have := f1 hk; omega
    · have := f2 hk; omega
  obtain ⟨g1, g2, g3⟩ := f
  refine ⟨g1, g2, g3, Int.mul_nonneg g1 (by omega), Int.mul_le_mul_of_nonneg_right g2 (by omega), ?_⟩
  have h1 : x.d * (2 * x.l) ≤ 20000 * (2 * x.l) := Int.mul_le_mul_of_nonneg_right g3 (by omega)
  unfold fcH
  omega
theorem wk_bd (x : Sg) (h : sgB x = true) : -1961200000 ≤ wkL x ∧ wkL x ≤ wkH x ∧ wkH x ≤ 17961200000 := by
  have h1 := fc_bd x h
  have h2 := ch_bd x h
  unfold wkL wkH
  omega
/-- the code of a brake -/
def brE (x : Sg) : Int := if sgB x = true then (if brk x.k = true then 0 else 5) else 1
def bwL (x : Sg) : Int := okV (brE x) (wkL x)
def bwH (x : Sg) : Int := okV (brE x) (wkH x)
theorem brE_ok {x : Sg} (h : brE x = 0) : sgB x = true ∧ brk x.k = true := by
  unfold brE at h
  split at h
  · split at h
    · exact ⟨by assumption, by assumption⟩
    · cases h
  · cases h
/-- the code of a brake that slows -/
def slE (x : Sg) : Int := if brE x = 0 then (if 1 ≤ wkL x then 0 else 5) else brE x
def slL (x : Sg) : Int := okV (slE x) (wkL x)
def slH (x : Sg) : Int := okV (slE x) (wkH x)
theorem slE_ok {x : Sg} (h : slE x = 0) : sgB x = true ∧ brk x.k = true ∧ 1 ≤ wkL x := by
  unfold slE at h
  split at h
  · split at h
    · rename_i h1 h2
      exact ⟨(brE_ok h1).1, (brE_ok h1).2, h2⟩
    · cases h
  · contradiction
/-- the stopping distances -/
def dsE (x : Sg) (a b : Int) : Int := if enB a b = true then slE x else 1
def dsL (x : Sg) (a b : Int) : Int := okV (dsE x a b) (flo (a * x.l) (wkH x))
def dsH (x : Sg) (a b : Int) : Int := okV (dsE x a b) (cei (b * x.l) (wkL x))
/-- the verdict on a stop -/
def svE (x : Sg) (a b : Int) : Int := if enB a b = true then brE x else 1
def svW (x : Sg) (a b : Int) : Int := if 1 ≤ wkL x ∧ b ≤ wkL x then 2 else if wkH x < a then 0 else 1
def svV (x : Sg) (a b : Int) : Int := okV (svE x a b) (svW x a b)
/-- the greatest energy with which a train stops -/
def gsV (x : Sg) : Int := okV (slE x) (min (wkL x) 10000000000)
/-! quotients of numbers that are not negative -/
theorem flo_nn (a b : Int) (ha : 0 ≤ a) (hb : 0 < b) : flo a b = a.tdiv b := by
  unfold flo
  rw [if_neg]
  omega
theorem quo_one (b q1 q2 r1 r2 : Int) (h : b * q1 + r1 = b * q2 + r2) (h1 : 0 ≤ r1) (h2 : r1 < b) (h3 : 0 ≤ r2) (h4 : r2 < b) : q1 = q2 := by
  have e : b * (q1 - q2) = r2 - r1 := by rw [Int.mul_sub]; omega
  rcases Int.lt_trichotomy q1 q2 with c | c | c
  · have := Int.mul_le_mul_of_nonneg_left (show q1 - q2 ≤ -1 by omega) (show 0 ≤ b by omega); omega
  · exact c
  · have := Int.mul_le_mul_of_nonneg_left (show 1 ≤ q1 - q2 by omega) (show 0 ≤ b by omega); omega
theorem cei_nn (a b : Int) (ha : 0 ≤ a) (hb : 0 < b) : cei a b = (a + b - 1).tdiv b := by
  have f := tmod_facts a b (by omega)
  have g := tmod_facts (a + b - 1) b (by omega)
  obtain ⟨f1, f2, _, f4, _⟩ := f
  obtain ⟨g1, g2, _, g4, _⟩ := g
  have f2 := f2 ha; have f4 := (f4 hb).1
  have g2 := g2 (by omega); have g4 := (g4 hb).1
  unfold cei
  by_cases h0 : a.tmod b = 0
  · rw [if_neg (by simp [h0])]
    refine quo_one b _ _ (b - 1) _ ?_ (by omega) (by omega) g2 g4
    omega
  · rw [if_pos ⟨h0, by omega⟩]
    refine quo_one b _ _ (a.tmod b - 1) _ ?_ (by omega) (by omega) g2 g4
    rw [Int.mul_add]; omega
theorem nn_mul (a l : Int) (h1 : 0 ≤ a) (h2 : a ≤ 10000000000) (h3 : 1 ≤ l) (h4 : l ≤ 200000) : 0 ≤ a * l ∧ a * l ≤ 2000000000000000 := by
  refine ⟨Int.mul_nonneg h1 (by omega), ?_⟩
  have := Int.mul_le_mul h2 h4 (by omega) (by omega : (0 : Int) ≤ 10000000000)
  omega
end Go.Proofs.Ytnmlkigpiaekjaa
