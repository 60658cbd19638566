/- Contracts of chapter 3: where segments begin, of the program. -/
import Derived.Test.YtblmbaioflebkaaSgI
import Derived.Test.YtblmbaioflebkaaSgO
import Derived.RegionTactic
import Derived.IntWalk
namespace Go.Proofs.Ytblmbaioflebkaa
open Go.RowKit
set_option maxHeartbeats 2000000
set_option linter.unusedVariables false
set_option linter.unusedSimpArgs false
theorem made_own {base n : Nat} {v : Value} {w1 w2 : World} (hown : w2.ownsRow base 2 1 v n (madeCells (Value.int .i64 0).cells (n * 1)).toList) (hgrow : w1.grownBy w2 none) :
    Hid (w2.ownsRow base 2 1 v n ((List.replicate n (0 : Int)).map (Value.int .i64))) ∧ Hid (Later w1 w2) :=
  ⟨Lib.hid (by rw [List.map_replicate, ← toList_madeCells_one]; simpa [Value.cells] using hown), Lib.hid ((Below.refl _ _).grown hgrow (Nat.le_refl _) (by simp))⟩
end Go.Proofs.Ytblmbaioflebkaa
