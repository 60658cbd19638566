/- A list appended to a list of the call's own. -/
import Derived.Test.YtpeebgkgccacbaaOwn
import Derived.Laws.AppendOwnNone
import Derived.WalkSmall
import Derived.Deep.DeepMust
namespace Go.Proofs.Ytpeebgkgccacbaa
open Go.RowKit
set_option maxHeartbeats 2000000
set_option linter.unusedVariables false
set_option linter.unusedSimpArgs false
theorem wpList_when {P : Program} {ops : Array Oper} {Q : Exit → Act → World → Prop} {a : Act} {w : World} {rest : List Oper} {o : Oper} (hw : Region.wanted o (yielded ops a.tmps) = true)
    (h : ∀ K : Act → World → Prop, (∀ a w, wpList P ops Q rest a w → K a w) → o.wp P a w K Q) : wpList P ops Q (o :: rest) a w :=
  wpList_step fun K hK => by rw [if_pos hw]; exact h K hK
theorem cells_of_sl {w : World} {x : Addr} {l : List Int} (h : Sl w (some x) l.length l) : ∀ j u, (l.map (Value.int .i64))[j]? = some u → w.cell? (x.add j) = some u := by
  intro j u hj
  have hjl : j < l.length := by
    rcases Nat.lt_or_ge j l.length with h | h
    · exact h
    · rw [List.getElem?_eq_none (by simpa using h)] at hj; cases hj
  obtain ⟨b, off, he, hc⟩ := h.at j hjl
  cases he
  rw [List.getElem?_map, List.getElem?_eq_getElem hjl] at hj
  simp at hj
  rw [Addr.add_lit, hc, gx_of l j hjl, ← hj]
/-- append(v, l2...): v of the call's own, l2 whatever can be read -/
theorem appAll {ops : Array Oper} {rest : List Oper} {o : Oper} {a : Act} {Q : Exit → Act → World → Prop} (s x : Operand)
    (ho : o.op = .call { callee := .builtin .append, args := #[s, x], argTypes := #[24, 24] })
    (base : Nat) (W : World) (v : Value) (l l2 : List Int) (sa : Option Addr) (cap : Nat) (hown : Own W base v l) (hsl : Sl W sa l2.length l2) (hnil : sa = none → cap = 0) (hw : Region.wanted o (yielded ops a.tmps) = true) (hs : a.eval s = v) (hx : a.eval x = .slice sa l2.length cap) (hl : l.length + l2.length ≤ 1000000000) (hbase : base ≤ W.heap.size)
    (h : ∀ v' w', Own w' base v' (l ++ l2) → W.grownBy w' v.ownBlock → wpList Try.prog ops Q rest (a.put o.dst v') w') : wpList Try.prog ops Q (o :: rest) a W := by
  obtain ⟨i0, hi, hz0, hz1, hz2⟩ := info_parts info_i64
  refine wpList_when hw fun K hK => ?_
  cases sa with
  | none =>
    have e : l2 = [] := by
      cases l2 with
      | nil => rfl
      | cons y l2 => obtain ⟨b, off, he, _⟩ := hsl.at 0 (by simp); cases he
    subst e
    have ec := hnil rfl
    subst ec
    have hrun := run_append_owned_none (P := Try.prog) (w := W) base 24 o.type 2 i0 1 Try.underlying24 hi v l.length (l.map (Value.int .i64)) hown.1
    unfold Oper.wp
    simp only [List.length_nil] at hx
    simp [execOp, ho, resolve, invoke, builtin, hs, hx, hrun, Result.andThen]
    exact hK _ _ (h v W (by simpa using hown) ⟨rfl, rfl, rfl, Nat.le_refl _, fun _ _ _ => rfl⟩)
  | some ad =>
    refine wp_append_own W s x _ ho base 2 i0 (.int .i64 0) 1 8 Try.underlying24 hi hz0 hz1 hz2 rfl (by decide) v l.length _ hs hown.1 ad l2.length cap (l2.map (Value.int .i64)) hx (by simp) (cells_of_sl hsl) ?_ (by unfold maxLen; omega) (by omega) hbase ?_
    · intro u hu
      rw [List.mem_map] at hu
      obtain ⟨y, _, rfl⟩ := hu
      rfl
    · intro v' w' h1 h2 _
      refine hK _ _ (h v' w' ⟨by simpa using h1, ?_⟩ h2)
      intro z hz
      rw [List.mem_append] at hz
      rcases hz with hz | hz
      · exact hown.2 z hz
      · exact hsl.2.2.2 z hz
/-- the same as one step of a region that draws its order -/
theorem stepAll {ops : Array Oper} {o : Oper} {a : Act} {W : World} {K : Act → World → Prop} {Q : Exit → Act → World → Prop} {E : Prop} (hgd : o.guard = none) (s x : Operand)
    (ho : o.op = .call { callee := .builtin .append, args := #[s, x], argTypes := #[24, 24] })
    (base : Nat) (v : Value) (l l2 : List Int) (ad : Addr) (n cap : Nat) (hown : Own W base v l) (hsl : Sl W (some ad) n l2) (hs : a.eval s = v) (hx : a.eval x = .slice (some ad) n cap) (hl : l.length + n ≤ 1000000000) (hbase : base ≤ W.heap.size)
    (h : ∀ v' w', Own w' base v' (l ++ l2) → W.grownBy w' v.ownBlock → K (a.put o.dst v') w') : if Region.wanted o (yielded ops a.tmps) = true then Oper.wp Try.prog o a W K Q else E := by
  have hw : Region.wanted o (yielded ops a.tmps) = true := by simp [Region.wanted, hgd]
  rw [if_pos hw]
  obtain ⟨i0, hi, hz0, hz1, hz2⟩ := info_parts info_i64
  have hn := hsl.1
  subst hn
  obtain ⟨v', w', hrun, r1, r2, _⟩ := run_append_own (P := Try.prog) W base 24 o.type 2 i0 (.int .i64 0) 1 8 Try.underlying24 hi hz0 hz1 hz2 rfl (by decide) v l.length _ hown.1 ad l2.length cap (l2.map (Value.int .i64)) (by simp) (cells_of_sl hsl) (fun u hu => by obtain ⟨z, _, rfl⟩ := List.mem_map.1 hu; rfl) (by unfold maxLen; omega) (by omega) hbase
  unfold Oper.wp
  simp [execOp, ho, resolve, invoke, builtin, hs, hx, hrun, Result.andThen]
  refine h v' w' ⟨by simpa using r1, ?_⟩ r2
  intro z hz
  rw [List.mem_append] at hz
  rcases hz with h | h
  · exact hown.2 z h
  · exact hsl.2.2.2 z h
end Go.Proofs.Ytpeebgkgccacbaa
