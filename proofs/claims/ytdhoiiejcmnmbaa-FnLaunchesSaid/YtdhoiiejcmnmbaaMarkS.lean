/- Marks that the exact laws write into layouts. -/
import Derived.Test.YtdhoiiejcmnmbaaSgK
import Derived.Test.YtdhoiiejcmnmbaaGrown
namespace Go.Proofs.Ytdhoiiejcmnmbaa
open Go.RowKit
set_option maxHeartbeats 2000000
set_option linter.unusedVariables false
set_option linter.unusedSimpArgs false
/-- the numbers of a row, of which those of the first k segments are marked -/
def mrkS (f : Nat → Int) (k j : Nat) : Int := if j < k * 7 then 1 + (j : Int) else f j
def MarkedS (w : World) (g n : Nat) (f : Nat → Int) (e : Ending) (w' : World) : Prop :=
  e = .returned (.int .i64 (1 + 7 * (n : Int))) ∧ SgRow w' g n (mrkS f n) ∧ w.grownBy w' (some g)
theorem grown_refl (w : World) (r : Option Nat) : w.grownBy w r := ⟨rfl, rfl, rfl, Nat.le_refl _, fun _ _ _ => rfl⟩
theorem grown_set1 {a b : World} {g : Nat} (h : a.grownBy b (some g)) (j : Nat) (u : Value) : a.grownBy (b.setCell ⟨g, j, none⟩ u) (some g) := grown_trans h (grown_set b g j u)
def MarkedL (w : World) (g n : Nat) (f : Nat → Int) (e : Ending) (w' : World) : Prop :=
  e = .returned (.int .i64 (1 + 7 * (n : Int))) ∧ SgRow w' g n (mrkS f n) ∧ w.grownBy w' (some g)
end Go.Proofs.Ytdhoiiejcmnmbaa
