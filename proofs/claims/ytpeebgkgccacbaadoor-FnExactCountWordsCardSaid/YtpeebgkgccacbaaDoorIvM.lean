/- Plain numbers of chapter 2: intervals. No program in sight. -/
import Derived.Test.YtpeebgkgccacbaaDoorMath
namespace Go.Proofs.YtpeebgkgccacbaaDoor
set_option linter.unusedSimpArgs false
set_option linter.unusedVariables false
/-- 'the interval from a to b is valid' -/
def ivB (a b : Int) : Bool := isVB a && isVB b && decide (a ≤ b)
theorem ivB_iff (a b : Int) : ivB a b = true ↔ -1000000000000 ≤ a ∧ a ≤ b ∧ b ≤ 1000000000000 := by
  unfold ivB; simp [isVB_iff]; omega
theorem ivB_no (a b : Int) : ivB a b = false ↔ ¬ (-1000000000000 ≤ a ∧ a ≤ b ∧ b ≤ 1000000000000) := by
  rw [← ivB_iff]; simp
/-- both bounds, kept if both are values -/
def wvL (a b : Int) : Int := if isVB a && isVB b then a else 0
def wvH (a b : Int) : Int := if isVB a && isVB b then b else 0
def wvE (a b : Int) : Int := if isVB a && isVB b then 0 else 2
end Go.Proofs.YtpeebgkgccacbaaDoor
