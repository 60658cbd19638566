/- strconv.ParseInt in base 10 with 32 bits, and readCount. -/
import Derived.Test.YtokipobjpinhmaaDoorPrs
import Derived.Test.YtokipobjpinhmaaDoorLater
namespace Go.Proofs.YtokipobjpinhmaaDoor
open Go.RowKit Go.Shelf
set_option maxHeartbeats 2000000
set_option linter.unusedVariables false
set_option linter.unusedSimpArgs false
/-- what readCount hands back -/
def rcV (s : List UInt8) : Int := match Lib.parseIntB 32 s with | .ok v => v | _ => 0
def rcB (s : List UInt8) : Bool := match Lib.parseIntB 32 s with | .ok _ => true | _ => false
end Go.Proofs.YtokipobjpinhmaaDoor
