/- Contracts of chapter 1's divisions, of the program and of the model. -/
import Derived.Test.YthheoeeobikkhaaDivD
namespace Go.Proofs.Ythheoeeobikkhaa
open Go.RowKit
set_option maxHeartbeats 2000000
set_option linter.unusedVariables false
set_option linter.unusedSimpArgs false
end Go.Proofs.Ythheoeeobikkhaa
