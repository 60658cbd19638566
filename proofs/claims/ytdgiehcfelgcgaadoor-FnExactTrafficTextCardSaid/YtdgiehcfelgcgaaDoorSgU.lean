/- Contracts of chapter 3: layouts: the model's functions. -/
import Derived.Test.YtdgiehcfelgcgaaDoorSgs
import Derived.Test.YtdgiehcfelgcgaaDoorSg2
import Derived.Test.YtdgiehcfelgcgaaDoorOwn
import Derived.IntWalk
namespace Go.Proofs.YtdgiehcfelgcgaaDoor
open Go.RowKit
set_option maxHeartbeats 2000000
set_option linter.unusedVariables false
set_option linter.unusedSimpArgs false
end Go.Proofs.YtdgiehcfelgcgaaDoor
