/- Contracts of chapter 10: the model's counts, uses and moves. -/
import Derived.Test.YtdaihpkjnigjgaaDoorTfS
namespace Go.Proofs.YtdaihpkjnigjgaaDoor
open Go.RowKit
set_option maxHeartbeats 4000000
set_option maxRecDepth 100000
set_option linter.unusedVariables false
set_option linter.unusedSimpArgs false
end Go.Proofs.YtdaihpkjnigjgaaDoor
