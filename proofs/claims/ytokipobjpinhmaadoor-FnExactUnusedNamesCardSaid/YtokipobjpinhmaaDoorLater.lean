/- Worlds that have only grown: what a call leaves that makes memory of its own. -/
import Derived.Test.YtokipobjpinhmaaDoorProg
import Derived.WalkKit
import Derived.ProofKit
import Derived.Below
import Derived.Lib.Hide
import Derived.WalkSmall
namespace Go.Proofs.YtokipobjpinhmaaDoor
open Go.RowKit
set_option linter.unusedVariables false
set_option linter.unusedSimpArgs false
/-- what was there is as it was; there may be more -/
def Later (w w' : World) : Prop := Below w.heap.size w w'
theorem Later.refl (w : World) : Later w w := Below.refl _ _
theorem Later.size {a b : World} (h : Later a b) : a.heap.size ≤ b.heap.size := Below.size h
theorem Later.trans {a b c : World} (h : Later a b) (k : Later b c) : Later a c := Below.trans h (Below.mono k h.size)
theorem Later.alloc {a b : World} (h : Later a b) (o : Obj) : Later a (b.alloc o) := Below.alloc h h.size o
theorem Later.drew {a b : World} (h : Later a b) : Later a b.drew := Below.drew h
theorem Later.drewN {a b : World} (h : Later a b) (q : Nat) : Later a (b.drewN q) := below_drewN h q
theorem Later.setCell {a b : World} (h : Later a b) {p : Addr} (hp : a.heap.size ≤ p.block) (u : Value) : Later a (b.setCell p u) := Below.setCell h hp u
/-- a store into a block that is newer than a -/
theorem Later.set_at {a b X : World} (h : Later a b) (hX : Later a X) (j : Nat) (u : Value) : Later a (b.setCell ⟨X.heap.size, j, none⟩ u) := h.setCell (p := ⟨X.heap.size, j, none⟩) hX.size u
theorem Later.cell {a b : World} (h : Later a b) {p : Addr} (hp : p.block < a.heap.size) : b.cell? p = a.cell? p := Below.cell h hp
theorem later_facts {W w1 : World} (h : Later W w1) : Hid (Later W w1) ∧ (∀ b o, b < W.heap.size → w1.cell? ⟨b, o, none⟩ = W.cell? ⟨b, o, none⟩) ∧ (∀ b o, b < W.heap.size → w1.frozen? ⟨b, o, none⟩ = W.frozen? ⟨b, o, none⟩) ∧ W.heap.size ≤ w1.heap.size :=
  ⟨Lib.hid h, fun b o hb => Below.cell (p := ⟨b, o, none⟩) h hb, fun b o hb => Below.frozen (p := ⟨b, o, none⟩) h hb, h.size⟩
end Go.Proofs.YtokipobjpinhmaaDoor
