/- Drawn positions of drawn layouts. -/
import Derived.Test.YtdgiehcfelgcgaaDoorSgB
import Derived.Test.YtdgiehcfelgcgaaDoorSgW
namespace Go.Proofs.YtdgiehcfelgcgaaDoor
open Go.RowKit
set_option maxHeartbeats 4000000
set_option linter.unusedVariables false
set_option linter.unusedSimpArgs false
theorem Sgs.grown {w w' : World} {a : Option Addr} {n : Nat} {L : List Sg} {row : Option Nat} (h : Sgs w a n L) (hg : w.grownBy w' row) (hne : ∀ x, a = some x → row ≠ some x.block) : Sgs w' a n L := by
  obtain ⟨h1, h2, h3, h4⟩ := h
  refine ⟨h1, h2, fun k hk => ?_, h4⟩
  obtain ⟨b, off, rfl, hc⟩ := h3 k hk
  exact ⟨b, off, rfl, fun j hj => hg.cell (hc j hj) (fun e => hne ⟨b, off, none⟩ rfl e.symm)⟩
/-- a length that a drawn layout may have -/
def SmW (x : Sg) : Prop := -10500000 ≤ x.l ∧ x.l ≤ 10500000
theorem SmS.w {x : Sg} (h : SmS x) : SmW x := ⟨by have := h.2.1.1; omega, by have := h.2.1.2; omega⟩
theorem upL_sm (L : List Sg) (h : ∀ x ∈ L, SmW x) (k : Nat) (hk : k ≤ L.length) : -10500000 * (k : Int) ≤ upL L k ∧ upL L k ≤ 10500000 * (k : Int) := by
  induction k with
  | zero => simp [upL_0]
  | succ k ih =>
    obtain ⟨i1, i2⟩ := ih (by omega)
    obtain ⟨l1, l2⟩ := h _ (sx_mem L k (by omega))
    rw [upL_succ L k (by omega)]
    omega
theorem inR_of {x : Int} (h1 : -1000000000 ≤ x) (h2 : x ≤ 1000000000) : InR x := ⟨by omega, by omega⟩
end Go.Proofs.YtdgiehcfelgcgaaDoor
