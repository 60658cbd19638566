/- The draws of chapter 10's laws. -/
import Derived.Test.YtpeebgkgccacbaaTfD
import Derived.Maps.AppendAt
namespace Go.Proofs.Ytpeebgkgccacbaa
open Go.RowKit
set_option maxHeartbeats 4000000
set_option maxRecDepth 100000
set_option linter.unusedVariables false
set_option linter.unusedSimpArgs false
/-- a drawn traffic -/
def DrawnT1 (w : World) (e : Ending) (w' : World) : Prop :=
  ∃ (Bt : Int) (v : Value) (l : List Int), e = .returned (.agg #[.int .i64 Bt, v]) ∧ InR Bt ∧ Own w' w.heap.size v l ∧ l.length ≤ 5 ∧ Later w w'
/-- append(out, y), and where the new row lies -/
theorem app1At {ops : Array Oper} {rest : List Oper} {o : Oper} {a : Act} {Q : Exit → Act → World → Prop} (hgd : o.guard = none) (s x : Operand)
    (ho : o.op = .call { callee := .builtin .append, args := #[s, x], argTypes := #[24, 24] })
    (base : Nat) (W : World) (T : TypeId) (v : Value) (l : List Int) (y : Int) (hown : Own W base v l) (hs : a.eval s = v) (gN : Nat) (hx : a.eval x = .slice (some ⟨gN, 0, none⟩) 1 1) (hgN : gN = W.heap.size) (hy : InR y) (hl : l.length ≤ 1000000000) (hbase : base ≤ W.heap.size)
    (h : ∀ v' w', Own w' base v' (l ++ [y]) → W.grownBy w' v.ownBlock → (v'.ownBlock = v.ownBlock ∨ v'.ownBlock = some (W.heap.size + 1)) → wpList Try.prog ops Q rest (a.put o.dst v') w') : wpList Try.prog ops Q (o :: rest) a (W.alloc (.cells #[.int .i64 y] T)) := by
  subst hgN
  obtain ⟨i0, hi, hz0, hz1, hz2⟩ := info_parts info_i64
  have hc : (W.alloc (.cells #[.int .i64 y] T)).cell? ⟨W.heap.size, 0, none⟩ = some (.int .i64 y) := by
    rw [cell_of_row _ _ 0 _ T (0, 0) (heap_alloc_new W _)]; rfl
  refine wpList_append_own_at _ hgd s x _ ho base 2 i0 (.int .i64 0) 1 8 Try.underlying24 hi hz0 hz1 hz2 rfl (by decide) v l.length _ hs (hown.1.alloc _) ⟨W.heap.size, 0, none⟩ 1 1 [.int .i64 y] hx rfl ?_ ?_ (by unfold maxLen; omega) (by omega) (by show base ≤ (W.alloc _).heap.size; simp; omega) ?_
  · intro j u hj
    cases j with
    | zero => simp at hj; subst hj; rw [Addr.add_lit]; exact hc
    | succ j => simp at hj
  · intro u hu; simp at hu; subst hu; rfl
  · intro v' w' h1 h2 _ h4
    refine h v' w' ⟨by simpa using h1, ?_⟩ (grown_trans (World.grownBy_alloc W _ _) h2) (by simpa using h4)
    intro z hz; simp at hz; rcases hz with hz | rfl
    · exact hown.2 z hz
    · exact hy
end Go.Proofs.Ytpeebgkgccacbaa
