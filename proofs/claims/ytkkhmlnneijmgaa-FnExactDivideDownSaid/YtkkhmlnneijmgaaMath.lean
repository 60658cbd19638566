/- Plain numbers of chapter 1: values, rounded quotients, roots, sums. No program in sight. -/
namespace Go.Proofs.Ytkkhmlnneijmgaa

theorem tdiv_bd (a b : Int) (m : Int) (h1 : -m ≤ a) (h2 : a ≤ m) : -m ≤ a.tdiv b ∧ a.tdiv b ≤ m := by
  have h := Int.natAbs_tdiv_le_natAbs a b
  omega
theorem tmod_facts (a b : Int) (hb : b ≠ 0) : b * a.tdiv b + a.tmod b = a ∧ (0 ≤ a → 0 ≤ a.tmod b) ∧ (a ≤ 0 → a.tmod b ≤ 0) ∧ (0 < b → a.tmod b < b ∧ -b < a.tmod b) ∧ (b < 0 → a.tmod b < -b ∧ b < a.tmod b) := by
  have e := Int.mul_tdiv_add_tmod a b
  have hl : (a.tmod b).natAbs < b.natAbs := by
    rw [Int.natAbs_tmod]; exact Nat.mod_lt _ (by omega)
  refine ⟨e, fun h => Int.tmod_nonneg b h, fun h => ?_, fun h => by omega, fun h => by omega⟩
  have := Int.tmod_nonneg b (show 0 ≤ -a by omega)
  rw [Int.neg_tmod] at this
  omega

def isVB (n : Int) : Bool := decide (-1000000000000 ≤ n) && decide (n ≤ 1000000000000)
theorem isVB_iff (n : Int) : isVB n = true ↔ -1000000000000 ≤ n ∧ n ≤ 1000000000000 := by
  unfold isVB; simp
theorem isVB_no (n : Int) : isVB n = false ↔ n < -1000000000000 ∨ 1000000000000 < n := by
  rw [Bool.eq_false_iff, Ne, isVB_iff]; omega

/-- the quotient, rounded down -/
def flo (a b : Int) : Int := if a.tmod b ≠ 0 ∧ ¬ (a < 0 ↔ b < 0) then a.tdiv b - 1 else a.tdiv b
/-- the quotient, rounded up -/
def cei (a b : Int) : Int := if a.tmod b ≠ 0 ∧ (a < 0 ↔ b < 0) then a.tdiv b + 1 else a.tdiv b
theorem flo_bd (a b : Int) (m : Int) (h1 : -m ≤ a) (h2 : a ≤ m) : -m - 1 ≤ flo a b ∧ flo a b ≤ m := by
  have := tdiv_bd a b m h1 h2
  unfold flo; split <;> omega
theorem cei_eq (a b : Int) (hb : b ≠ 0) : cei a b = -flo (-a) b := by
  unfold cei flo
  rw [Int.neg_tmod, Int.neg_tdiv]
  have f := tmod_facts a b hb
  by_cases h0 : a.tmod b = 0
  · simp [h0]
  · have ha : a ≠ 0 := by rintro rfl; simp at h0
    have h1 : -a.tmod b ≠ 0 := by omega
    by_cases h2 : (a < 0 ↔ b < 0)
    · rw [if_pos ⟨h0, h2⟩, if_pos ⟨h1, by omega⟩]; omega
    · rw [if_neg (by simp [h2]), if_neg (by simp [h1]; omega)]; omega

def divErr (a b : Int) : Int := if isVB a = false ∨ isVB b = false then 2 else if b = 0 then 5 else 0
def divD (a b : Int) : Int := if divErr a b = 0 then flo a b else 0
def divU (a b : Int) : Int := if divErr a b = 0 then cei a b else 0

/-- the root, rounded down, for 0 to the square of a million -/
def rootFrom : Nat → Int → Int → Int
  | 0, _, r => r
  | k + 1, n, r => if (r + 1) * (r + 1) ≤ n then rootFrom k n (r + 1) else r
end Go.Proofs.Ytkkhmlnneijmgaa
