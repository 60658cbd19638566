/- Rows of bytes of the call's own: a byte or a text appended, and the row as a text. -/
import Derived.Test.YtpeebgkgccacbaaDoorTx0
import Derived.Test.YtpeebgkgccacbaaDoorGrown
import Derived.Test.YtpeebgkgccacbaaDoorLater
import Derived.WalkSmall
import Derived.Deep.DeepMust
import Derived.Lib.AppendStr
import Derived.Laws.IdiomStrings
namespace Go.Proofs.YtpeebgkgccacbaaDoor
open Go.RowKit
set_option maxHeartbeats 2000000
set_option linter.unusedVariables false
set_option linter.unusedSimpArgs false
theorem info_u8 : (Tryd.prog.info? 5).map (fun i => (i.zero, i.size, i.bytes)) = some (some (.int .u8 0), 1, 1) := by kernel_rfl
/-- 'v is a row of bytes of the call's own, in blocks from base on, that reads as l' -/
def OwnY (w : World) (base : Nat) (v : Value) (l : List UInt8) : Prop := w.ownsRow base 5 1 v l.length (Lib.byteCells l)
theorem OwnY.lt {w : World} {base : Nat} {v : Value} {l : List UInt8} (h : OwnY w base v l) : ∀ k, v.ownBlock = some k → base ≤ k ∧ k < w.heap.size := World.ownsRow.lt h
theorem OwnY.later {w w' : World} {base : Nat} {v : Value} {l : List UInt8} (h : OwnY w base v l) (k : Later w w') : OwnY w' base v l := by
  refine World.ownsRow.kept (row := none) h ⟨k.os, k.tape, k.output, k.size, fun i hi _ => k.block i hi⟩ ?_
  cases hv : v.ownBlock with
  | none => exact .inl rfl
  | some k => exact .inr (fun e => by cases e)
theorem ownY_new (w : World) (base : Nat) (h : base ≤ w.heap.size) : OwnY (w.alloc (.cells #[] 5)) base (.slice (some ⟨w.heap.size, 0, none⟩) 0 0) [] :=
  World.ownsRow_made w #[] 0 h (by unfold maxLen; omega) (by simp)
/-- append(out, x), x in a new block of one cell -/
theorem app1Y {ops : Array Oper} {rest : List Oper} {o : Oper} {a : Act} {Q : Exit → Act → World → Prop} (hgd : o.guard = none) (s x : Operand)
    (ho : o.op = .call { callee := .builtin .append, args := #[s, x], argTypes := #[22, 22] })
    (base : Nat) (W : World) (T : TypeId) (v : Value) (l : List UInt8) (y : UInt8) (z : Int) (hz : z = (y.toNat : Int)) (hown : OwnY W base v l) (hs : a.eval s = v) (hx : a.eval x = .slice (some ⟨W.heap.size, 0, none⟩) 1 1) (hl : l.length ≤ 1000000000) (hbase : base ≤ W.heap.size)
    (h : ∀ v' w', OwnY w' base v' (l ++ [y]) → W.grownBy w' v.ownBlock → wpList Tryd.prog ops Q rest (a.put o.dst v') w') : wpList Tryd.prog ops Q (o :: rest) a (W.alloc (.cells #[.int .u8 z] T)) := by
  subst hz
  obtain ⟨i0, hi, hz0, hz1, hz2⟩ := info_parts info_u8
  have hc : (W.alloc (.cells #[.int .u8 (y.toNat : Int)] T)).cell? ⟨W.heap.size, 0, none⟩ = some (.int .u8 (y.toNat : Int)) := by
    rw [cell_of_row _ _ 0 _ T (0, 0) (heap_alloc_new W _)]; rfl
  have hown' : (W.alloc (.cells #[.int .u8 (y.toNat : Int)] T)).ownsRow base 5 1 v l.length (Lib.byteCells l) := World.ownsRow.alloc hown _
  refine wpList_append_own _ hgd s x _ ho base 5 i0 (.int .u8 0) 1 1 Tryd.underlying22 hi hz0 hz1 hz2 rfl (by decide) v l.length _ hs hown' ⟨W.heap.size, 0, none⟩ 1 1 [.int .u8 (y.toNat : Int)] hx rfl ?_ ?_ (by unfold maxLen; omega) (by omega) (by show base ≤ (W.alloc _).heap.size; simp; omega) ?_
  · intro j u hj
    cases j with
    | zero => simp at hj; subst hj; rw [Addr.add_lit]; exact hc
    | succ j => simp at hj
  · intro u hu; simp at hu; subst hu; rfl
  · intro v' w' h1 h2 _
    exact h v' w' (by unfold OwnY; rw [Lib.byteCells_append, List.length_append]; exact h1) (grown_trans (World.grownBy_alloc W _ _) h2)
/-- append(out, t...), t a text -/
theorem appSY {ops : Array Oper} {rest : List Oper} {o : Oper} {a : Act} {Q : Exit → Act → World → Prop} (hgd : o.guard = none) (s x : Operand)
    (ho : o.op = .call { callee := .builtin .append, args := #[s, x], argTypes := #[22, 9] })
    (base : Nat) (W : World) (v : Value) (l : List UInt8) (y : List UInt8) (hown : OwnY W base v l) (hs : a.eval s = v) (hx : a.eval x = .string (tx y)) (hl : l.length ≤ 1000000000) (hy : y.length ≤ 1000000000) (hbase : base ≤ W.heap.size)
    (h : ∀ v' w', OwnY w' base v' (l ++ y) → W.grownBy w' v.ownBlock → wpList Tryd.prog ops Q rest (a.put o.dst v') w') : wpList Tryd.prog ops Q (o :: rest) a W := by
  obtain ⟨i0, hi, hz0, hz1, hz2⟩ := info_parts info_u8
  refine Lib.wpList_append_own_string _ hgd s x _ _ ho base 5 i0 Tryd.underlying22 Tryd.underlying9 hi hz0 hz1 hz2 v l.length _ hs hown (tx y) hx (by rw [tx_size]; unfold maxLen; omega) (by rw [tx_size]; omega) hbase ?_
  intro v' w' h1 h2 _
  refine h v' w' ?_ h2
  unfold OwnY
  rw [Lib.byteCells_append, List.length_append]
  exact h1
/-- the row as a text -/
theorem OwnY.conv {w : World} {base : Nat} {v : Value} {l : List UInt8} (h : OwnY w base v l) : (convert 22 9 v).run Tryd.prog w = .ok (.string (tx l)) w := by
  have h1 : w.ownsRow base 5 1 v l.length (Lib.byteCells l) := h
  rcases h1.2 with ⟨rfl, h0⟩ | ⟨g, cap, cur, rfl, hb, hg, hnc, hcm, _⟩
  · have : l = [] := List.length_eq_zero_iff.1 h0
    subst this
    rw [run_convert_bytes_string w 22 9 5 none 0 0 Tryd.underlying22 Tryd.underlying5 Tryd.underlying9]
    rfl
  · refine run_convert_bytes_back (P := Tryd.prog) w 22 9 5 ⟨g, 0, none⟩ cap l Tryd.underlying22 Tryd.underlying5 Tryd.underlying9 ?_
    intro j hj
    rw [Addr.add_lit, Nat.zero_add, h1.cellAt j (by omega)]
    simp [Lib.byteCells, hj]
theorem OwnY.shape {w : World} {base : Nat} {v : Value} {l : List UInt8} (h : OwnY w base v l) : ∃ a cap, v = .slice a l.length cap := by
  have h1 : w.ownsRow base 5 1 v l.length (Lib.byteCells l) := h
  rcases h1.2 with ⟨rfl, h0⟩ | ⟨g, cap, cur, rfl, _⟩
  · rw [h0]; exact ⟨none, 0, rfl⟩
  · exact ⟨_, cap, rfl⟩
end Go.Proofs.YtpeebgkgccacbaaDoor
