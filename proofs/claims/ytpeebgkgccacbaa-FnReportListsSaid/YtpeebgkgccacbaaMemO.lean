/- Copies of slices of int64 that may be written; marks from any number on. -/
import Derived.Test.YtpeebgkgccacbaaMem
import Derived.Test.YtpeebgkgccacbaaOwn
import Derived.Test.YtpeebgkgccacbaaMark
namespace Go.Proofs.Ytpeebgkgccacbaa
open Go.RowKit
set_option maxHeartbeats 2000000
set_option linter.unusedVariables false
set_option linter.unusedSimpArgs false
def CopiedO (w : World) (n : Nat) (l : List Int) (e : Ending) (w' : World) : Prop :=
  ∃ g, e = .returned (.slice (some ⟨g, 0, none⟩) n n) ∧ w.heap.size ≤ g ∧ g < w'.heap.size ∧ Own w' w.heap.size (.slice (some ⟨g, 0, none⟩) n n) l ∧ Below w.heap.size w w'
end Go.Proofs.Ytpeebgkgccacbaa
