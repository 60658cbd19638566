/- What hands back the beginnings of segments. -/
import Derived.Test.YtdgiehcfelgcgaaDoorSgM
import Derived.Test.YtdgiehcfelgcgaaDoorOwn
namespace Go.Proofs.YtdgiehcfelgcgaaDoor
open Go.RowKit
set_option linter.unusedVariables false
set_option linter.unusedSimpArgs false
/-- what hands back the beginnings leaves: a list of its own, and a code -/
def Started (w : World) (L : List Sg) (e : Ending) (w' : World) : Prop :=
  ∃ v, e = .returned (.tuple #[v, .int .i64 (tlE L)]) ∧ Own w' w.heap.size v (strs L) ∧ Later w w'
theorem own_none (w : World) (base : Nat) : Own w base (.slice none 0 0) [] := ⟨⟨rfl, .inl ⟨rfl, rfl⟩⟩, fun x hx => by simp at hx⟩
theorem strs_in {L : List Sg} (hv : layB L = true) : ∀ x ∈ strs L, InR x := by
  intro x hx
  obtain ⟨_, h2, h3, _⟩ := (layB_iff L).1 hv
  unfold strs at hx
  rw [if_pos hv] at hx
  obtain ⟨j, hj, rfl⟩ := List.mem_map.1 hx
  rw [List.mem_range] at hj
  obtain ⟨_, _, b1, b2⟩ := up_bd L j (by omega) (okB_le L L.length j (by omega) h3)
  exact ⟨by omega, by omega⟩
theorem Own.mono {w : World} {base base' : Nat} {v : Value} {l : List Int} (h : Own w base v l) (hb : base' ≤ base) : Own w base' v l := by
  refine ⟨⟨h.1.1, ?_⟩, h.2⟩
  rcases h.1.2 with h0 | ⟨g, cap, cur, e, hg, r⟩
  · exact .inl h0
  · exact .inr ⟨g, cap, cur, e, by omega, r⟩
/-- behind an append to a list of the call's own, made in blocks above the first -/
theorem later_grown {w wr w5 : World} {v : Value} {l : List Int} (W : Later w wr) (O : Own wr (w.heap.size + 1) v l) (hg : wr.grownBy w5 v.ownBlock) :
    Hid (Later w w5) ∧ (∀ (o : Nat) (u : Value), wr.cell? ⟨w.heap.size, o, none⟩ = some u → w5.cell? ⟨w.heap.size, o, none⟩ = some u) ∧ wr.heap.size ≤ w5.heap.size := by
  refine ⟨Lib.hid (Below.grown W hg W.size (fun j hj => by have := (O.lt j hj).1; omega)), fun o u hc => hg.cell hc (fun e => by have := (O.lt _ e.symm).1; simp at this; omega), hg.size⟩
end Go.Proofs.YtdgiehcfelgcgaaDoor
