/- Worlds that have grown beside one block that was written. -/
import Derived.Test.YtokipobjpinhmaaDoorLater
import Derived.Laws.OwnMore
import Derived.OwnWalk
namespace Go.Proofs.YtokipobjpinhmaaDoor
open Go.RowKit
set_option linter.unusedVariables false
set_option linter.unusedSimpArgs false
theorem grown_trans {a b c : World} {r : Option Nat} (h : a.grownBy b r) (k : b.grownBy c r) : a.grownBy c r :=
  ⟨k.os.trans h.os, k.tape.trans h.tape, k.output.trans h.output, Nat.le_trans h.size k.size, fun i hi hr => (k.block i (Nat.lt_of_lt_of_le hi h.size) hr).trans (h.block i hi hr)⟩
theorem grown_drewN (w : World) (q : Nat) (r : Option Nat) : w.grownBy (w.drewN q) r := ⟨rfl, rfl, rfl, Nat.le_refl _, fun _ _ _ => rfl⟩
theorem grown_set (w : World) (B j : Nat) (u : Value) : w.grownBy (w.setCell ⟨B, j, none⟩ u) (some B) :=
  ⟨rfl, rfl, rfl, by simp, fun k _ hk => heap_setCell_other w ⟨B, j, none⟩ k u (fun e => hk (by simp [e]))⟩
theorem grown_below {w w' : World} {B N : Nat} (h : w.grownBy w' (some B)) (hB : N ≤ B) (hN : N ≤ w.heap.size) : Below N w w' :=
  (Below.refl _ _).grown h hN (fun k hk => by simp at hk; omega)
end Go.Proofs.YtokipobjpinhmaaDoor
