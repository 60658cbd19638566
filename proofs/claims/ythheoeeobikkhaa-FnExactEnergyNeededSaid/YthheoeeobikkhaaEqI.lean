/- Slices of int64 compared, as the exact laws do. -/
import Derived.Test.YthheoeeobikkhaaSl
namespace Go.Proofs.Ythheoeeobikkhaa
open Go.RowKit
set_option maxHeartbeats 2000000
set_option linter.unusedVariables false
set_option linter.unusedSimpArgs false
end Go.Proofs.Ythheoeeobikkhaa
