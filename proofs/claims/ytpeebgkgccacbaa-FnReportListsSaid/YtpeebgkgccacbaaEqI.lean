/- Slices of int64 compared, as the exact laws do. -/
import Derived.Test.YtpeebgkgccacbaaSl
namespace Go.Proofs.Ytpeebgkgccacbaa
open Go.RowKit
set_option maxHeartbeats 2000000
set_option linter.unusedVariables false
set_option linter.unusedSimpArgs false
end Go.Proofs.Ytpeebgkgccacbaa
