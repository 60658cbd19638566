/- Numbers read strictly, by the model: l01Value, l01Signed. -/
import Derived.Test.YtggnhdeldmkdmaaDoorNmM
import Derived.Test.YtggnhdeldmkdmaaDoorTx0
import Derived.Test.YtggnhdeldmkdmaaDoorLater
namespace Go.Proofs.YtggnhdeldmkdmaaDoor
open Go.RowKit Go.Shelf
set_option maxHeartbeats 4000000
set_option linter.unusedVariables false
set_option linter.unusedSimpArgs false
def ReadsN (w : World) (l : List UInt8) (e : Ending) (w' : World) : Prop :=
  Later w w' ∧ ((∃ m : Nat, m < 1000000000000 ∧ Lib.decDigits m = l ∧ e = .returned (.tuple #[.int .i64 m, .bool true])) ∨ (¬ IsN l ∧ ∃ m : Nat, m < 1000000000000 ∧ e = .returned (.tuple #[.int .i64 m, .bool false])))
def ReadsZ (w : World) (l : List UInt8) (e : Ending) (w' : World) : Prop :=
  Later w w' ∧ ((∃ n : Int, IsZ l n ∧ e = .returned (.tuple #[.int .i64 n, .bool true])) ∨ ((∀ n, ¬ IsZ l n) ∧ ∃ n : Int, e = .returned (.tuple #[.int .i64 n, .bool false])))
end Go.Proofs.YtggnhdeldmkdmaaDoor
