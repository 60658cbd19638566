/- Drawn segments: whatever is drawn, its fields are small, and nothing that was there is touched but the source. -/
import Derived.Test.YtdgiehcfelgcgaaDoorSgM
import Derived.Test.YtdgiehcfelgcgaaDoorSt
import Derived.RegionTactic
import Derived.ChangeAlike
import Derived.Laws.ResultCell
import Derived.IntWalk
import Derived.Test.YtdgiehcfelgcgaaDoorMath
namespace Go.Proofs.YtdgiehcfelgcgaaDoor
open Go.RowKit
set_option maxHeartbeats 2000000
set_option linter.unusedVariables false
set_option linter.unusedSimpArgs false
/-- one cell of a box is written: the list l' has it so -/
theorem St.upd {l l' : List (Nat × Nat × Value)} {B : Nat} {a : Option Addr} {len cap : Nat} {w0 W : World} (h : St l B a len cap w0 W) (g j : Nat) (v u : Value) (hg : (g, j, v) ∈ l) (hl : ∀ x ∈ l', x = (g, j, u) ∨ (x ∈ l ∧ (x.1 ≠ g ∨ x.2.1 ≠ j))) :
    St l' B a len cap w0 (W.setCell ⟨g, j, none⟩ u) := by
  have h1 := St.put h g j v u hg
  refine ⟨fun x hx => ?_, h1.2⟩
  rcases hl x hx with rfl | ⟨hm, hne⟩
  · exact h1.1 _ (by simp)
  · refine h1.1 x (List.mem_cons_of_mem _ (List.mem_filter.2 ⟨hm, ?_⟩))
    rcases hne with hne | hne <;> simp [hne]
def Sm (x : Int) : Prop := -1000000 ≤ x ∧ x ≤ 1000000
def Sh (x : Int) : Prop := -500000 ≤ x ∧ x ≤ 500000
/-- what a draw of an interval leaves -/
def DrawnIv (w : World) (B : Nat) (a : Option Addr) (len cap : Nat) (e : Ending) (w' : World) : Prop :=
  ∃ x y : Int, e = .returned (.agg #[.int .i64 x, .int .i64 y]) ∧ Sm x ∧ Sm y ∧ Src w' B a len cap ∧ w.grownBy w' (some B)
/-- what a draw of a segment leaves -/
def DrawnSg (w : World) (B : Nat) (a : Option Addr) (len cap : Nat) (e : Ending) (w' : World) : Prop :=
  ∃ k l r x y z t : Int, e = .returned (.agg #[.int .i64 k, .int .i64 l, .int .i64 r, .int .i64 x, .int .i64 y, .int .i64 z, .int .i64 t]) ∧ Sm k ∧ Sh l ∧ Sm r ∧ Sm x ∧ Sm y ∧ Sm z ∧ Sm t ∧ Src w' B a len cap ∧ w.grownBy w' (some B)
theorem mul_seg (x y : Int) (h1 : -20 ≤ x) (h2 : x ≤ 20) (h3 : 0 ≤ y) (h4 : y ≤ 31000) : -620000 ≤ x * y ∧ x * y ≤ 620000 := by
  have a : x * y ≤ 20 * y := Int.mul_le_mul_of_nonneg_right h2 h3
  have b : -20 * y ≤ x * y := Int.mul_le_mul_of_nonneg_right h1 h3
  omega
end Go.Proofs.YtdgiehcfelgcgaaDoor
