/- Contracts of chapter 4: merged blocks, of the model. -/
import Derived.Test.YtdhoiiejcmnmbaaBkR
import Derived.Test.YtdhoiiejcmnmbaaApp
namespace Go.Proofs.Ytdhoiiejcmnmbaa
open Go.RowKit
set_option maxHeartbeats 4000000
set_option linter.unusedVariables false
set_option linter.unusedSimpArgs false
theorem sl_take {w : World} {bF oF m : Nat} {F : List Int} (h : Sl w (some ⟨bF, oF, none⟩) m F) (k : Nat) (hk : k ≤ m) : Sl w (some ⟨bF, oF, none⟩) k (F.take k) := by
  obtain ⟨h1, h2, h3, h4⟩ := h
  refine ⟨by rw [List.length_take]; omega, by omega, fun j hj => ?_, fun x hx => h4 x (List.mem_of_mem_take hx)⟩
  rw [gx_take F k j hj]
  exact h3 j (by omega)
theorem gx_drop (F : List Int) (k j : Nat) : gx (F.drop k) j = gx F (k + j) := by
  unfold gx; rw [List.getD_eq_getElem?_getD, List.getD_eq_getElem?_getD, List.getElem?_drop]
theorem sl_drop {w : World} {bF oF m : Nat} {F : List Int} (h : Sl w (some ⟨bF, oF, none⟩) m F) (k : Nat) (hk : k < m) : Sl w (some ⟨bF, oF + k, none⟩) (m - k) (F.drop k) := by
  obtain ⟨h1, h2, h3, h4⟩ := h
  refine ⟨by rw [List.length_drop]; omega, by omega, fun j hj => ?_, fun x hx => h4 x (List.mem_of_mem_drop hx)⟩
  obtain ⟨b, off, e, hc⟩ := h3 (k + j) (by omega)
  simp only [Option.some.injEq, Addr.mk.injEq, and_true] at e
  obtain ⟨rfl, rfl⟩ := e
  exact ⟨bF, oF + k, rfl, by rw [gx_drop, Nat.add_assoc]; exact hc⟩
theorem sl_zero (w : World) (A : Option Addr) : Sl w A 0 [] := ⟨rfl, by omega, fun k hk => absurd hk (by omega), fun x hx => by simp at hx⟩
end Go.Proofs.Ytdhoiiejcmnmbaa
