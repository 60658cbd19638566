/- Contracts of chapter 3: layouts: the model's functions. -/
import Derived.Test.YtdgiehcfelgcgaaSgs
import Derived.Test.YtdgiehcfelgcgaaSg2
import Derived.Test.YtdgiehcfelgcgaaOwn
import Derived.IntWalk
namespace Go.Proofs.Ytdgiehcfelgcgaa
open Go.RowKit
set_option maxHeartbeats 2000000
set_option linter.unusedVariables false
set_option linter.unusedSimpArgs false
end Go.Proofs.Ytdgiehcfelgcgaa
