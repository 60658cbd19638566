/- The length of a track, of the model. -/
import Derived.Test.YtdhoiiejcmnmbaaSgU
namespace Go.Proofs.Ytdhoiiejcmnmbaa
open Go.RowKit
set_option maxHeartbeats 2000000
set_option linter.unusedVariables false
set_option linter.unusedSimpArgs false
end Go.Proofs.Ytdhoiiejcmnmbaa
