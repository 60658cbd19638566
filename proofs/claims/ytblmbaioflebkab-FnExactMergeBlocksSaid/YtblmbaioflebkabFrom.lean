/- The model's source out of a code; numbers picked and drawn. -/
import Derived.Test.YtblmbaioflebkabDraw
import Derived.RegionTactic
import Derived.ChangeAlike
namespace Go.Proofs.Ytblmbaioflebkab
open Go.RowKit
set_option maxHeartbeats 2000000
set_option linter.unusedVariables false
set_option linter.unusedSimpArgs false
/-- a slice of bytes that came in -/
def Bytes (w : World) (a : Option Addr) (len : Nat) : Prop :=
  len ≤ 9223372036854775807 ∧ ∀ k, k < len → ∃ b off x, a = some ⟨b, off, none⟩ ∧ w.cell? ⟨b, off + k, none⟩ = some (.int .u8 x) ∧ 0 ≤ x ∧ x ≤ 255
theorem bytes_code {w w' : World} {a : Option Addr} {len : Nat} (h : Bytes w a len) (hb : Below w.heap.size w w') : Code8 w' w.heap.size a len := by
  refine ⟨h.1, fun k hk => ?_⟩
  obtain ⟨b, off, x, rfl, hc, h0, h1⟩ := h.2 k hk
  have hl := cell_lt hc
  exact ⟨b, off, x, rfl, by omega, by rw [hb.cell (p := ⟨b, off + k, none⟩) hl]; exact hc, h0, h1⟩
theorem Bytes.low {w : World} {a : Option Addr} {len : Nat} (h : Bytes w a len) : 0 < len → ∀ x, a = some x → x.block < w.heap.size := by
  intro hl x hx
  obtain ⟨b, off, y, hb, hc, _⟩ := h.2 0 hl
  rw [hx] at hb; cases hb
  exact cell_lt hc
theorem Bytes.later {w w' : World} {a : Option Addr} {len : Nat} (h : Bytes w a len) (hb : Below w.heap.size w w') : Bytes w' a len := by
  refine ⟨h.1, fun k hk => ?_⟩
  obtain ⟨b, off, x, rfl, hc, x0, x1⟩ := h.2 k hk
  exact ⟨b, off, x, rfl, by rw [hb.cell (p := ⟨b, off + k, none⟩) (cell_lt hc)]; exact hc, x0, x1⟩
end Go.Proofs.Ytblmbaioflebkab
