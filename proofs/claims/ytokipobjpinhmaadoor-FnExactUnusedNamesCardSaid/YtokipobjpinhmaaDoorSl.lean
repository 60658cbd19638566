/- Slices of int64: what the walks say of them. -/
import Derived.Test.YtokipobjpinhmaaDoorNum0
import Derived.Test.YtokipobjpinhmaaDoorMathL
import Derived.Outline
import Derived.BigQuiet
import Derived.Deep.QuietTactic
import Derived.Laws.OwnMore
import Derived.OwnWalk
import Derived.Below
namespace Go.Proofs.YtokipobjpinhmaaDoor
open Go.RowKit
set_option maxHeartbeats 2000000
set_option linter.unusedVariables false
set_option linter.unusedSimpArgs false
def InR (x : Int) : Prop := -9223372036854775808 ≤ x ∧ x ≤ 9223372036854775807
/-- 'the slice value (a, n, cap) reads as the list l' -/
def Sl (w : World) (a : Option Addr) (n : Nat) (l : List Int) : Prop :=
  l.length = n ∧ n ≤ 9223372036854775807 ∧ (∀ k, k < n → ∃ b off, a = some ⟨b, off, none⟩ ∧ w.cell? ⟨b, off + k, none⟩ = some (.int .i64 (gx l k))) ∧ ∀ x ∈ l, InR x
theorem Sl.at {w : World} {a : Option Addr} {n : Nat} {l : List Int} (h : Sl w a n l) (k : Nat) (hk : k < n) : ∃ b off, a = some ⟨b, off, none⟩ ∧ w.cell? ⟨b, off + k, none⟩ = some (.int .i64 (gx l k)) := h.2.2.1 k hk
theorem Sl.rng {w : World} {a : Option Addr} {n : Nat} {l : List Int} (h : Sl w a n l) (k : Nat) (hk : k < n) : -9223372036854775808 ≤ gx l k ∧ gx l k ≤ 9223372036854775807 := by
  have hl := h.1
  exact h.2.2.2 _ (gx_mem l k (by omega))
theorem dr (w : World) (p q : Nat) : ∃ r, (w.drewN p).drewN q = w.drewN r := ⟨p + q, by simp [World.drewN, Nat.add_assoc]⟩
theorem info_i64 : (Tryd.prog.info? 2).map (fun i => (i.zero, i.size, i.bytes)) = some (some (.int .i64 0), 1, 8) := by kernel_rfl
/-- a row that holds the whole of l reads as l -/
theorem sl_of_row {w : World} {base : Nat} {g n cap : Nat} {l : List Int} (h : w.ownsRow base 2 1 (.slice (some ⟨g, 0, none⟩) n cap) n (l.map (Value.int .i64))) (hl : l.length = n) (hn : n ≤ 9223372036854775807) (hr : ∀ x ∈ l, InR x) : Sl w (some ⟨g, 0, none⟩) n l := by
  refine ⟨hl, hn, fun k hk => ⟨g, 0, rfl, ?_⟩, hr⟩
  rw [Nat.zero_add, h.cellAt k (by omega), List.getElem?_map, List.getElem?_eq_getElem (by omega), ← gx_of l k (by omega)]; rfl
/-- what a slice reads as stays, where nothing below a block number above it is turned -/
theorem sl_below {w w' : World} {B : Nat} {a : Option Addr} {n : Nat} {l : List Int} (h : Sl w a n l) (hb : Below B w w') (ha : ∀ x, a = some x → x.block < B) : Sl w' a n l := by
  obtain ⟨h1, h2, h3, h4⟩ := h
  refine ⟨h1, h2, fun k hk => ?_, h4⟩
  obtain ⟨b, off, rfl, hc⟩ := h3 k hk
  exact ⟨b, off, rfl, by rw [hb.cell (p := ⟨b, off + k, none⟩) (ha ⟨b, off, none⟩ rfl)]; exact hc⟩
theorem cell_lt {w : World} {b o : Nat} {v : Value} (h : w.cell? ⟨b, o, none⟩ = some v) : b < w.heap.size := by
  unfold World.cell? at h
  cases hb : w.heap[b]? with
  | none => simp [hb] at h
  | some x => exact (Array.getElem?_eq_some_iff.1 hb).1
theorem sl_later {w w' : World} {a : Option Addr} {n : Nat} {l : List Int} (h : Sl w a n l) (hb : Below w.heap.size w w') : Sl w' a n l := by
  obtain ⟨h1, h2, h3, h4⟩ := h
  refine ⟨h1, h2, fun k hk => ?_, h4⟩
  obtain ⟨b, off, rfl, hc⟩ := h3 k hk
  exact ⟨b, off, rfl, by rw [hb.cell (p := ⟨b, off + k, none⟩) (cell_lt hc)]; exact hc⟩
end Go.Proofs.YtokipobjpinhmaaDoor
