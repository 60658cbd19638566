/- Contracts of chapter 10: the model's loads and moves. -/
import Derived.Test.YtdgiehcfelgcgaaDoorTfU
namespace Go.Proofs.YtdgiehcfelgcgaaDoor
open Go.RowKit
set_option maxHeartbeats 4000000
set_option linter.unusedVariables false
set_option linter.unusedSimpArgs false
def ldK (B : Int) (l : List Int) (k : Nat) : List Int := (nm k).map fun b => (cn B l b : Int)
theorem ldK_succ (B : Int) (l : List Int) (k : Nat) : ldK B l (k + 1) = ldK B l k ++ [(cn B l k : Int)] := by unfold ldK; rw [nm_succ, List.map_append]; rfl
theorem ldK_len (B : Int) (l : List Int) (k : Nat) : (ldK B l k).length = k := by simp [ldK, nm_len]
end Go.Proofs.YtdgiehcfelgcgaaDoor
