/- Plain numbers of chapter 1: values, rounded quotients, roots, sums. No program in sight. -/
namespace Go.Proofs.YtokipobjpinhmaaDoor
set_option linter.unusedSimpArgs false
set_option linter.unusedVariables false

theorem tdiv_bd (a b : Int) (m : Int) (h1 : -m ≤ a) (h2 : a ≤ m) : -m ≤ a.tdiv b ∧ a.tdiv b ≤ m := by
  have h := Int.natAbs_tdiv_le_natAbs a b
  omega
theorem tmod_facts (a b : Int) (hb : b ≠ 0) : b * a.tdiv b + a.tmod b = a ∧ (0 ≤ a → 0 ≤ a.tmod b) ∧ (a ≤ 0 → a.tmod b ≤ 0) ∧ (0 < b → a.tmod b < b ∧ -b < a.tmod b) ∧ (b < 0 → a.tmod b < -b ∧ b < a.tmod b) := by
  have e := Int.mul_tdiv_add_tmod a b
  have hl : (a.tmod b).natAbs < b.natAbs := by
    rw [Int.natAbs_tmod]; exact Nat.mod_lt _ (by omega)
  refine ⟨e, fun h => Int.tmod_nonneg b h, fun h => ?_, fun h => by omega, fun h => by omega⟩
  have := Int.tmod_nonneg b (show 0 ≤ -a by omega)
  rw [Int.neg_tmod] at this
  omega

def isVB (n : Int) : Bool := decide (-1000000000000 ≤ n) && decide (n ≤ 1000000000000)
theorem isVB_iff (n : Int) : isVB n = true ↔ -1000000000000 ≤ n ∧ n ≤ 1000000000000 := by
  unfold isVB; simp
theorem isVB_no (n : Int) : isVB n = false ↔ n < -1000000000000 ∨ 1000000000000 < n := by
  rw [Bool.eq_false_iff, Ne, isVB_iff]; omega

/-- the quotient, rounded down -/
def flo (a b : Int) : Int := if a.tmod b ≠ 0 ∧ ¬ (a < 0 ↔ b < 0) then a.tdiv b - 1 else a.tdiv b
/-- the quotient, rounded up -/
def cei (a b : Int) : Int := if a.tmod b ≠ 0 ∧ (a < 0 ↔ b < 0) then a.tdiv b + 1 else a.tdiv b
theorem flo_bd (a b : Int) (m : Int) (h1 : -m ≤ a) (h2 : a ≤ m) : -m - 1 ≤ flo a b ∧ flo a b ≤ m := by
  have := tdiv_bd a b m h1 h2
  unfold flo; split <;> omega
theorem cei_eq (a b : Int) (hb : b ≠ 0) : cei a b = -flo (-a) b := by
  unfold cei flo
  rw [Int.neg_tmod, Int.neg_tdiv]
  have f := tmod_facts a b hb
  by_cases h0 : a.tmod b = 0
  · simp [h0]
  · have ha : a ≠ 0 := by rintro rfl; simp at h0
    have h1 : -a.tmod b ≠ 0 := by omega
    by_cases h2 : (a < 0 ↔ b < 0)
    · rw [if_pos ⟨h0, h2⟩, if_pos ⟨h1, by omega⟩]; omega
    · rw [if_neg (by simp [h2]), if_neg (by simp [h1]; omega)]; omega

def divErr (a b : Int) : Int := if isVB a = false ∨ isVB b = false then 2 else if b = 0 then 5 else 0
def divD (a b : Int) : Int := if divErr a b = 0 then flo a b else 0
def divU (a b : Int) : Int := if divErr a b = 0 then cei a b else 0

theorem sq_mono (a b : Int) (h0 : 0 ≤ a) (h : a ≤ b) : a * a ≤ b * b := Int.mul_le_mul h h h0 (by omega)
theorem sq_lt (a b : Int) (h0 : 0 ≤ b) (h : a * a < b * b) : a < b := by
  by_cases hc : a < b
  · exact hc
  · have := sq_mono b a h0 (by omega); omega
theorem sq_nn (a : Int) : 0 ≤ a * a := by
  by_cases h : 0 ≤ a
  · exact Int.mul_nonneg h h
  · have := Int.mul_nonneg (show 0 ≤ -a by omega) (show 0 ≤ -a by omega)
    rwa [Int.neg_mul_neg] at this
/-- 'r is the root of n, rounded down' -/
def IsRt (n r : Int) : Prop := 0 ≤ r ∧ r * r ≤ n ∧ n < (r + 1) * (r + 1)
theorem isRt_one (n r s : Int) (h : IsRt n r) (k : IsRt n s) : r = s := by
  obtain ⟨h0, h1, h2⟩ := h
  obtain ⟨k0, k1, k2⟩ := k
  have a := sq_lt r (s + 1) (by omega) (by omega)
  have b := sq_lt s (r + 1) (by omega) (by omega)
  omega
def rootFrom : Nat → Int → Int → Int
  | 0, _, r => r
  | k + 1, n, r => if (r + 1) * (r + 1) ≤ n then rootFrom k n (r + 1) else r
theorem rootFrom_is (k : Nat) : ∀ n r : Int, 0 ≤ r → r * r ≤ n → n < (r + k + 1) * (r + k + 1) → IsRt n (rootFrom k n r) := by
  induction k with
  | zero => intro n r h0 h1 h2; simpa [rootFrom, IsRt, h0, h1] using h2
  | succ k ih =>
    intro n r h0 h1 h2
    unfold rootFrom
    split
    · exact ih n (r + 1) (by omega) (by assumption) (by rw [show r + 1 + (k : Int) + 1 = r + ((k + 1 : Nat) : Int) + 1 by omega]; exact h2)
    · exact ⟨h0, h1, by omega⟩
/-- the root, rounded down -/
def rootD (n : Int) : Int := rootFrom n.toNat n 0
theorem rootD_is (n : Int) (h : 0 ≤ n) : IsRt n (rootD n) := by
  refine rootFrom_is _ n 0 (by omega) (by omega) ?_
  have : 1 * (n + 1) ≤ (n + 1) * (n + 1) := Int.mul_le_mul (by omega) (by omega) (by omega) (by omega)
  rw [show (0 : Int) + (n.toNat : Int) + 1 = n + 1 by omega]; omega
theorem rootD_eq (n r : Int) (h : IsRt n r) : r = rootD n := isRt_one n r _ h (rootD_is n (by have := sq_nn r; obtain ⟨_, _, _⟩ := h; omega))
theorem rootD_bd (n : Int) (h : 0 ≤ n) (h2 : n ≤ 1000000000000) : 0 ≤ rootD n ∧ rootD n ≤ 1000000 := by
  obtain ⟨a, b, c⟩ := rootD_is n h
  have := sq_lt (rootD n) 1000001 (by omega) (by omega)
  omega
/-- the root, rounded up -/
def rootU (n : Int) : Int := if rootD n * rootD n < n then rootD n + 1 else rootD n
def rootErr (n : Int) : Int := if 0 ≤ n ∧ n ≤ 1000000000000 then 0 else 2
def rootDR (n : Int) : Int := if rootErr n = 0 then rootD n else 0
def rootUR (n : Int) : Int := if rootErr n = 0 then rootU n else 0

end Go.Proofs.YtokipobjpinhmaaDoor
