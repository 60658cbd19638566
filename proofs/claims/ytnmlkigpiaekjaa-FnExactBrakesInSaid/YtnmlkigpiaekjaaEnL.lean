/- Contracts of chapter 6: the energy behind a segment, of the program; the closure that sums. -/
import Derived.Test.YtnmlkigpiaekjaaEnK
import Derived.Deep.RegionWith
namespace Go.Proofs.Ytnmlkigpiaekjaa
open Go.RowKit
set_option maxHeartbeats 4000000
set_option linter.unusedVariables false
set_option linter.unusedSimpArgs false
end Go.Proofs.Ytnmlkigpiaekjaa
