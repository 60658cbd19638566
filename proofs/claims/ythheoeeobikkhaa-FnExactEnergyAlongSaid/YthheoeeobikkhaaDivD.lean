/- Contracts of chapter 1's divisions that later chapters use: rounded down. -/
import Derived.Test.YthheoeeobikkhaaNum0
namespace Go.Proofs.Ythheoeeobikkhaa
open Go.RowKit
set_option maxHeartbeats 2000000
set_option linter.unusedVariables false
set_option linter.unusedSimpArgs false
theorem divErr_0 (a b : Int) (h : divErr a b = 0) : -1000000000000 ≤ a ∧ a ≤ 1000000000000 ∧ -1000000000000 ≤ b ∧ b ≤ 1000000000000 ∧ b ≠ 0 := by
  unfold divErr at h
  split at h
  · omega
  · rename_i h1
    have h2 : isVB a = true ∧ isVB b = true := by simpa using h1
    rw [isVB_iff, isVB_iff] at h2
    split at h <;> omega
end Go.Proofs.Ythheoeeobikkhaa
