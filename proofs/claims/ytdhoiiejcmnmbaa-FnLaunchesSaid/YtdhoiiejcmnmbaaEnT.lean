/- Contracts of chapter 6: the model's speeds, verdicts, energies behind a segment. -/
import Derived.Test.YtdhoiiejcmnmbaaEnS
import Derived.Deep.RegionWith
namespace Go.Proofs.Ytdhoiiejcmnmbaa
open Go.RowKit
set_option maxHeartbeats 4000000
set_option linter.unusedVariables false
set_option linter.unusedSimpArgs false
end Go.Proofs.Ytdhoiiejcmnmbaa
