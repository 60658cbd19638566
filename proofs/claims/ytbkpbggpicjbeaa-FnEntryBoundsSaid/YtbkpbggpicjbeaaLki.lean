/- Two lists that are alike. -/
import Derived.Test.YtbkpbggpicjbeaaSl
import Derived.Test.YtbkpbggpicjbeaaLater
namespace Go.Proofs.Ytbkpbggpicjbeaa
open Go.RowKit
set_option maxHeartbeats 2000000
set_option linter.unusedVariables false
set_option linter.unusedSimpArgs false
end Go.Proofs.Ytbkpbggpicjbeaa
