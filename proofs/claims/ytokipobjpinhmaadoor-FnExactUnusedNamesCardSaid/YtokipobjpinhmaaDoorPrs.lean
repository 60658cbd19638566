/- strconv.ParseInt in base 10, and the two errors that it hands back. -/
import Derived.Test.YtokipobjpinhmaaDoorTx0
import Derived.Shelf.Strconv.ErrVarParseInt
namespace Go.Proofs.YtokipobjpinhmaaDoor
open Go.RowKit Go.Shelf
set_option maxHeartbeats 2000000
set_option linter.unusedVariables false
set_option linter.unusedSimpArgs false
/-- the two errors that strconv hands back -/
def Errs (w : World) : Prop := (∃ tp p, w.var? Tryd.prog "strconv.ErrSyntax" = some #[.iface tp p]) ∧ ∃ tp p, w.var? Tryd.prog "strconv.ErrRange" = some #[.iface tp p]
theorem var_lt {w : World} {n : String} {g : Nat} {cs : Array Value} (hg : Tryd.prog.globalNamed n = some g) (h : w.var? Tryd.prog n = some cs) (hc : 0 < cs.size) : g < w.heap.size := by
  have h0 := World.var?_cell hg h 0
  rw [Array.getElem?_eq_getElem hc] at h0
  exact Go.Lib.lt_of_cell h0
end Go.Proofs.YtokipobjpinhmaaDoor
