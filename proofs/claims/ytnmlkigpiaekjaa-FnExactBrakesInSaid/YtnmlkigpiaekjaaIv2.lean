/- Contracts of chapter 2: the program's functions of two intervals. -/
import Derived.Test.YtnmlkigpiaekjaaIv1
namespace Go.Proofs.Ytnmlkigpiaekjaa
open Go.RowKit
set_option maxHeartbeats 2000000
set_option linter.unusedVariables false
set_option linter.unusedSimpArgs false
/-- what becomes of a result that two valid intervals give: (x, y) with its bounds values, or an error -/
def opE (v : Bool) (x y : Int) : Int := if v then wvE x y else 1
def opL (v : Bool) (x y : Int) : Int := if v then wvL x y else 0
def opH (v : Bool) (x y : Int) : Int := if v then wvH x y else 0
end Go.Proofs.Ytnmlkigpiaekjaa
