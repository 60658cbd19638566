/- Slices of int64 of the call's own; one element appended. -/
import Derived.Test.YtokipobjpinhmaaDoorSl
import Derived.Test.YtokipobjpinhmaaDoorGrown
import Derived.WalkSmall
import Derived.Deep.DeepMust
namespace Go.Proofs.YtokipobjpinhmaaDoor
open Go.RowKit
set_option maxHeartbeats 2000000
set_option linter.unusedVariables false
set_option linter.unusedSimpArgs false
/-- 'v is a slice of int64 of the call's own, in blocks from base on, that reads as l' -/
def Own (w : World) (base : Nat) (v : Value) (l : List Int) : Prop :=
  w.ownsRow base 2 1 v l.length (l.map (Value.int .i64)) ∧ ∀ x ∈ l, InR x
theorem Own.lt {w : World} {base : Nat} {v : Value} {l : List Int} (h : Own w base v l) : ∀ k, v.ownBlock = some k → base ≤ k ∧ k < w.heap.size := h.1.lt
theorem Own.kept {w w' : World} {base : Nat} {v : Value} {l : List Int} {row : Option Nat} (h : Own w base v l) (hg : w.grownBy w' row) (hr : ∀ k, row = some k → k < base) : Own w' base v l := by
  refine ⟨h.1.kept hg ?_, h.2⟩
  cases hv : v.ownBlock with
  | none => exact .inl rfl
  | some k => exact .inr (fun e => by have := hr k e.symm; have := (h.lt k hv).1; omega)
theorem Own.alloc {w : World} {base : Nat} {v : Value} {l : List Int} (h : Own w base v l) (o : Obj) : Own (w.alloc o) base v l := ⟨h.1.alloc o, h.2⟩
theorem Own.sl {w : World} {base : Nat} {v : Value} {l : List Int} (h : Own w base v l) : ∃ a cap, v = .slice a l.length cap ∧ Sl w a l.length l ∧ (∀ x, a = some x → base ≤ x.block) := by
  obtain ⟨h1, h2⟩ := h
  have hlt := h1.lt
  rcases h1.2 with ⟨rfl, h0⟩ | ⟨g, cap, cur, rfl, hb, hg, hnc, hcm, _⟩
  · refine ⟨none, 0, by rw [h0], ⟨rfl, by omega, fun k hk => by omega, h2⟩, fun x hx => by cases hx⟩
  · unfold maxLen at hcm
    exact ⟨some ⟨g, 0, none⟩, cap, rfl, sl_of_row h1 rfl (by omega) h2, fun x hx => by cases hx; exact hb⟩
theorem own_new (w : World) (base : Nat) (h : base ≤ w.heap.size) : Own (w.alloc (.cells #[] 2)) base (.slice (some ⟨w.heap.size, 0, none⟩) 0 0) [] :=
  ⟨World.ownsRow_made w #[] 0 h (by unfold maxLen; omega) (by simp), fun x hx => by simp at hx⟩
/-- append(out, y), y in a new block of one cell -/
theorem app1 {ops : Array Oper} {rest : List Oper} {o : Oper} {a : Act} {Q : Exit → Act → World → Prop} (hgd : o.guard = none) (s x : Operand)
    (ho : o.op = .call { callee := .builtin .append, args := #[s, x], argTypes := #[36, 36] })
    (base : Nat) (W : World) (T : TypeId) (v : Value) (l : List Int) (y : Int) (hown : Own W base v l) (hs : a.eval s = v) (hx : a.eval x = .slice (some ⟨W.heap.size, 0, none⟩) 1 1) (hy : InR y) (hl : l.length ≤ 1000000000) (hbase : base ≤ W.heap.size)
    (h : ∀ v' w', Own w' base v' (l ++ [y]) → W.grownBy w' v.ownBlock → wpList Tryd.prog ops Q rest (a.put o.dst v') w') : wpList Tryd.prog ops Q (o :: rest) a (W.alloc (.cells #[.int .i64 y] T)) := by
  obtain ⟨i0, hi, hz0, hz1, hz2⟩ := info_parts info_i64
  have hc : (W.alloc (.cells #[.int .i64 y] T)).cell? ⟨W.heap.size, 0, none⟩ = some (.int .i64 y) := by
    rw [cell_of_row _ _ 0 _ T (0, 0) (heap_alloc_new W _)]; rfl
  refine wpList_append_own _ hgd s x _ ho base 2 i0 (.int .i64 0) 1 8 Tryd.underlying36 hi hz0 hz1 hz2 rfl (by decide) v l.length _ hs (hown.1.alloc _) ⟨W.heap.size, 0, none⟩ 1 1 [.int .i64 y] hx rfl ?_ ?_ (by unfold maxLen; omega) (by omega) (by show base ≤ (W.alloc _).heap.size; simp; omega) ?_
  · intro j u hj
    cases j with
    | zero => simp at hj; subst hj; rw [Addr.add_lit]; exact hc
    | succ j => simp at hj
  · intro u hu; simp at hu; subst hu; rfl
  · intro v' w' h1 h2 _
    refine h v' w' ⟨by simpa using h1, ?_⟩ (grown_trans (World.grownBy_alloc W _ _) h2)
    intro z hz; simp at hz; rcases hz with hz | rfl
    · exact hown.2 z hz
    · exact hy
end Go.Proofs.YtokipobjpinhmaaDoor
