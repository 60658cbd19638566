/- The length of a track, of the program. -/
import Derived.Test.YtbkpbggpicjbeaaSgI
namespace Go.Proofs.Ytbkpbggpicjbeaa
open Go.RowKit
set_option maxHeartbeats 2000000
set_option linter.unusedVariables false
set_option linter.unusedSimpArgs false
end Go.Proofs.Ytbkpbggpicjbeaa
