/- The model's source of drawn numbers: whatever the bytes are, it hands out numbers within their range and touches nothing but itself. -/
import Derived.Test.YtblmbaioflebkabSl
import Derived.Test.YtblmbaioflebkabGrown
import Derived.WalkSmall
namespace Go.Proofs.Ytblmbaioflebkab
open Go.RowKit
set_option maxHeartbeats 2000000
set_option linter.unusedVariables false
set_option linter.unusedSimpArgs false
/-- the bytes of the code, seen from a source in block B -/
def Code8 (w : World) (B : Nat) (a : Option Addr) (len : Nat) : Prop :=
  len ≤ 9223372036854775807 ∧ ∀ k, k < len → ∃ b off x, a = some ⟨b, off, none⟩ ∧ b ≠ B ∧ w.cell? ⟨b, off + k, none⟩ = some (.int .u8 x) ∧ 0 ≤ x ∧ x ≤ 255
theorem Code8.kept {w w' : World} {B : Nat} {a : Option Addr} {len : Nat} (h : Code8 w B a len) (hg : w.grownBy w' (some B)) : Code8 w' B a len := by
  refine ⟨h.1, fun k hk => ?_⟩
  obtain ⟨b, off, x, rfl, hb, hc, h0, h1⟩ := h.2 k hk
  exact ⟨b, off, x, rfl, hb, hg.cell hc (by simpa using hb), h0, h1⟩
theorem set2 {w : World} {B : Nat} {c0 c1 c2 u : Value} {T : TypeId} (h : w.heap[B]? = some (.cells #[c0, c1, c2] T (0, 0))) : (w.setCell ⟨B, 2, none⟩ u).heap[B]? = some (.cells #[c0, c1, u] T (0, 0)) := by
  rw [heap_setCell_same w B 2 _ T u h]; rfl
theorem set1 {w : World} {B : Nat} {c0 c1 c2 u : Value} {T : TypeId} (h : w.heap[B]? = some (.cells #[c0, c1, c2] T (0, 0))) : (w.setCell ⟨B, 1, none⟩ u).heap[B]? = some (.cells #[c0, u, c2] T (0, 0)) := by
  rw [heap_setCell_same w B 1 _ T u h]; rfl
end Go.Proofs.Ytblmbaioflebkab
