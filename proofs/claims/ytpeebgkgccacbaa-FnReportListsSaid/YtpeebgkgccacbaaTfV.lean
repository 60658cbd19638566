/- Contracts of chapter 10: the model's loads and moves. -/
import Derived.Test.YtpeebgkgccacbaaTfU
namespace Go.Proofs.Ytpeebgkgccacbaa
open Go.RowKit
set_option maxHeartbeats 4000000
set_option maxRecDepth 100000
set_option linter.unusedVariables false
set_option linter.unusedSimpArgs false
def ldQK (B : Int) (l : List Int) (k : Nat) : List Int := (nm k).map fun b => (cn B l b : Int)
theorem ldQK_succ (B : Int) (l : List Int) (k : Nat) : ldQK B l (k + 1) = ldQK B l k ++ [(cn B l k : Int)] := by unfold ldQK; rw [nm_succ, List.map_append]; rfl
theorem ldQK_len (B : Int) (l : List Int) (k : Nat) : (ldQK B l k).length = k := by simp [ldQK, nm_len]
end Go.Proofs.Ytpeebgkgccacbaa
