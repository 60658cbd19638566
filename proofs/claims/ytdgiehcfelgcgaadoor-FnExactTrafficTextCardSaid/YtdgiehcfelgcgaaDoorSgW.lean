/- Contracts of chapter 3: beginnings of segments: the model's functions. -/
import Derived.Test.YtdgiehcfelgcgaaDoorSgU
import Derived.Test.YtdgiehcfelgcgaaDoorSgO
import Derived.WalkSmall
import Derived.Deep.DeepMust
namespace Go.Proofs.YtdgiehcfelgcgaaDoor
open Go.RowKit
set_option maxHeartbeats 2000000
set_option linter.unusedVariables false
set_option linter.unusedSimpArgs false
def ListIs (w : World) (l : List Int) (e : Ending) (w' : World) : Prop := ∃ v, e = .returned v ∧ Own w' w.heap.size v l ∧ Later w w'
end Go.Proofs.YtdgiehcfelgcgaaDoor
