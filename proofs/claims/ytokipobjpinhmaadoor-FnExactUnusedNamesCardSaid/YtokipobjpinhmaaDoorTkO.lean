/- Tokens, and lists of them, that came in, opened to cells. -/
import Derived.Test.YtokipobjpinhmaaDoorTks
import Derived.Test.YtokipobjpinhmaaDoorTfO
namespace Go.Proofs.YtokipobjpinhmaaDoor
open Go.RowKit Go.ChangeShapes Go.WideShapes Go.Deep
set_option maxHeartbeats 2000000
set_option maxRecDepth 100000
set_option linter.unusedVariables false
set_option linter.unusedSimpArgs false
/-- 'the slice value (a, n, ..) of tokens that came in reads as L': their texts may be long -/
def Tko (w : World) (a : Option Addr) (n : Nat) (L : List Tkn) : Prop :=
  L.length = n ∧ n ≤ 9223372036854775807 ∧ (∀ j, j < n → ∃ b off, a = some ⟨b, off, none⟩ ∧ w.cell? ⟨b, off + j * 2, none⟩ = some (.int .i64 (tkx L j)) ∧ w.cell? ⟨b, off + j * 2 + 1, none⟩ = some (.string (tx (tsx L j)))) ∧ ∀ x ∈ L, InR x.1 ∧ x.2.length ≤ maxLen
theorem Tko.later {w w' : World} {a : Option Addr} {n : Nat} {L : List Tkn} (h : Tko w a n L) (hb : Later w w') : Tko w' a n L := by
  obtain ⟨h1, h2, h3, h4⟩ := h
  refine ⟨h1, h2, fun j hj => ?_, h4⟩
  obtain ⟨b, off, rfl, hc, hd⟩ := h3 j hj
  exact ⟨b, off, rfl, by rw [hb.cell (p := ⟨b, off + j * 2, none⟩) (cell_lt hc)]; exact hc, by rw [hb.cell (p := ⟨b, off + j * 2 + 1, none⟩) (cell_lt hd)]; exact hd⟩
theorem Tko.tks {w : World} {a : Option Addr} {n : Nat} {L : List Tkn} (h : Tko w a n L) (hs : ∀ j, j < n → (tsx L j).length ≤ 1048576) : Tks w a n L := by
  refine ⟨h.1, h.2.1, h.2.2.1, fun x hx => ?_⟩
  obtain ⟨j, hj, rfl⟩ := List.mem_iff_getElem.1 hx
  have h1 := (h.2.2.2 _ hx).1
  rw [kx_at L j hj] at h1 ⊢
  exact ⟨h1, hs j (by rw [← h.1]; exact hj)⟩
section
variable {H : Type} {enc : TypeId × Value → H} {w : World} {base : Nat} {spare : Nat → Bool} {held : Bool}
theorem cells_str : Tryd.prog.cellsOf 9 = 1 := by kernel_rfl
end
end Go.Proofs.YtokipobjpinhmaaDoor
