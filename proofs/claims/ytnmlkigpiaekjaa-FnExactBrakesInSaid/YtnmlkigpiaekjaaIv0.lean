/- Contracts of chapter 2: the program's own methods on intervals. -/
import Derived.Test.YtnmlkigpiaekjaaIvN
namespace Go.Proofs.Ytnmlkigpiaekjaa
open Go.RowKit
set_option maxHeartbeats 2000000
set_option linter.unusedVariables false
set_option linter.unusedSimpArgs false
end Go.Proofs.Ytnmlkigpiaekjaa
