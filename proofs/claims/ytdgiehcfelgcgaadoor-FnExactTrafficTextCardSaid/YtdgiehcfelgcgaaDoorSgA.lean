/- Drawn segments that need not be valid. -/
import Derived.Test.YtdgiehcfelgcgaaDoorSgD
namespace Go.Proofs.YtdgiehcfelgcgaaDoor
open Go.RowKit
set_option maxHeartbeats 4000000
set_option linter.unusedVariables false
set_option linter.unusedSimpArgs false
end Go.Proofs.YtdgiehcfelgcgaaDoor
