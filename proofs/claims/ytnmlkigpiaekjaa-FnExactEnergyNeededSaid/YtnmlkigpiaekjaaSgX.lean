/- Small facts of the exact laws on layouts. -/
import Derived.Test.YtnmlkigpiaekjaaSgC
namespace Go.Proofs.Ytnmlkigpiaekjaa
open Go.RowKit
set_option linter.unusedVariables false
set_option linter.unusedSimpArgs false
theorem szI_big {n : Nat} (h : 1048576 < n) : szI 1048576 n = -1 := by unfold szI; rw [if_pos (by omega)]
theorem szI_ok {n : Nat} (h : n ≤ 1048576) : szI 1048576 n = 1048576 - n := by unfold szI; rw [if_neg (by omega)]
theorem two_cells {w w' : World} {b1 b2 : Nat} {u v : Value} (h1 : w.cell? ⟨b1, 0, none⟩ = some u) (l1 : b1 < w.heap.size) (h2 : w.cell? ⟨b2, 0, none⟩ = some v) (l2 : b2 < w.heap.size) (k : Later w w') :
    w'.cell? ⟨b1, 0, none⟩ = some u ∧ w'.cell? ⟨b2, 0, none⟩ = some v :=
  ⟨by rw [k.cell (p := ⟨b1, 0, none⟩) l1]; exact h1, by rw [k.cell (p := ⟨b2, 0, none⟩) l2]; exact h2⟩
theorem i64w {a : Int} (h : (Lit.int .i64 a).wf = true) : -9223372036854775808 ≤ a ∧ a ≤ 9223372036854775807 := by
  simpa [Lit.wf, IntKind.min, IntKind.max, IntKind.signed, IntKind.bits] using h
end Go.Proofs.Ytnmlkigpiaekjaa
