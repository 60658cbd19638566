/- Drawn intervals: whatever is drawn, its bounds are int64 values, and nothing that was there is touched but the source. -/
import Derived.Test.YtnmlkigpiaekjaaIvS
import Derived.Test.YtnmlkigpiaekjaaSt
import Derived.Test.YtnmlkigpiaekjaaDrawV
import Derived.RegionTactic
import Derived.ChangeAlike
namespace Go.Proofs.Ytnmlkigpiaekjaa
open Go.RowKit
set_option maxHeartbeats 2000000
set_option linter.unusedVariables false
set_option linter.unusedSimpArgs false
/-- what a draw of an interval leaves -/
def DrawnI (w : World) (B : Nat) (a : Option Addr) (len cap : Nat) (e : Ending) (w' : World) : Prop :=
  ∃ x y : Int, e = .returned (.agg #[.int .i64 x, .int .i64 y]) ∧ InR x ∧ InR y ∧ Src w' B a len cap ∧ w.grownBy w' (some B)
def DrawnI2 (w : World) (B : Nat) (a : Option Addr) (len cap : Nat) (e : Ending) (w' : World) : Prop :=
  ∃ x y z t : Int, e = .returned (.tuple #[.agg #[.int .i64 x, .int .i64 y], .agg #[.int .i64 z, .int .i64 t]]) ∧ InR x ∧ InR y ∧ InR z ∧ InR t ∧ Src w' B a len cap ∧ w.grownBy w' (some B)
end Go.Proofs.Ytnmlkigpiaekjaa
