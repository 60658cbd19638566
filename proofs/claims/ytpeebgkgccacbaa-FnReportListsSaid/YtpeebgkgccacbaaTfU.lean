/- Contracts of chapter 10: the model's used blocks, loads, moves. -/
import Derived.Test.YtpeebgkgccacbaaTfT
namespace Go.Proofs.Ytpeebgkgccacbaa
open Go.RowKit
set_option maxHeartbeats 4000000
set_option maxRecDepth 100000
set_option linter.unusedVariables false
set_option linter.unusedSimpArgs false
theorem ulM_len (B p : Int) (k : Nat) : (ulM B p k).length ≤ k := by unfold ulM; exact Nat.le_trans (List.length_filter_le _ _) (by rw [nm_len]; exact Nat.le_refl _)
end Go.Proofs.Ytpeebgkgccacbaa
