/- Numbers read strictly, by the model: l01Value, l01Signed. -/
import Derived.Test.YtokipobjpinhmaaDoorNmM
import Derived.Test.YtokipobjpinhmaaDoorTx0
import Derived.Test.YtokipobjpinhmaaDoorLater
namespace Go.Proofs.YtokipobjpinhmaaDoor
open Go.RowKit Go.Shelf
set_option maxHeartbeats 4000000
set_option linter.unusedVariables false
set_option linter.unusedSimpArgs false
def ReadsN (w : World) (l : List UInt8) (e : Ending) (w' : World) : Prop :=
  Later w w' ∧ ((∃ m : Nat, m < 1000000000000 ∧ Lib.decDigits m = l ∧ e = .returned (.tuple #[.int .i64 m, .bool true])) ∨ (¬ IsN l ∧ ∃ m : Nat, m < 1000000000000 ∧ e = .returned (.tuple #[.int .i64 m, .bool false])))
theorem s_DecX (x : Nat) (w : World) (h : x < 1000000000000) : Calls Tryd.prog 87 #[.int .i64 (x : Int)] w (Texts w (Lib.decDigits x)) := by
  have := s_Dec (x + 1) (x : Int) w (by omega) (by omega) (by omega)
  rwa [Int.toNat_natCast] at this
def ReadsZ (w : World) (l : List UInt8) (e : Ending) (w' : World) : Prop :=
  Later w w' ∧ ((∃ n : Int, IsZ l n ∧ e = .returned (.tuple #[.int .i64 n, .bool true])) ∨ ((∀ n, ¬ IsZ l n) ∧ ∃ n : Int, e = .returned (.tuple #[.int .i64 n, .bool false])))
end Go.Proofs.YtokipobjpinhmaaDoor
