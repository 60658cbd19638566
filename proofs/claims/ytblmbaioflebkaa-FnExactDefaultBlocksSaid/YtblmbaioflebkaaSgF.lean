/- The walks of the exact laws on layouts. -/
import Derived.Test.YtblmbaioflebkaaSgC
import Derived.Test.YtblmbaioflebkaaSgX
import Derived.Test.YtblmbaioflebkaaSgIT
import Derived.Test.YtblmbaioflebkaaSgP
import Derived.Test.YtblmbaioflebkaaSgV
namespace Go.Proofs.Ytblmbaioflebkaa
open Go.RowKit
set_option maxHeartbeats 4000000
set_option linter.unusedVariables false
set_option linter.unusedSimpArgs false
end Go.Proofs.Ytblmbaioflebkaa
