/- Slices of segments of the call's own; segments appended. -/
import Derived.Test.YtnmlkigpiaekjaaSgs
import Derived.Test.YtnmlkigpiaekjaaGrown
import Derived.WalkSmall
import Derived.Deep.DeepMust
namespace Go.Proofs.Ytnmlkigpiaekjaa
open Go.RowKit
set_option maxHeartbeats 2000000
set_option linter.unusedVariables false
set_option linter.unusedSimpArgs false
/-- the cells of a list of segments -/
def sg7 (x : Sg) : List Value := [.int .i64 x.k, .int .i64 x.l, .int .i64 x.r, .int .i64 x.a, .int .i64 x.b, .int .i64 x.c, .int .i64 x.d]
def sgVals : List Sg → List Value
  | [] => []
  | x :: L => sg7 x ++ sgVals L
theorem sgVals_len (L : List Sg) : (sgVals L).length = L.length * 7 := by
  induction L with
  | nil => rfl
  | cons x L ih => simp [sgVals, sg7, ih]; omega
theorem sgVals_app (L M : List Sg) : sgVals (L ++ M) = sgVals L ++ sgVals M := by
  induction L with
  | nil => rfl
  | cons x L ih => simp [sgVals, ih]
theorem sgVals_get (L : List Sg) : ∀ k j, k < L.length → j < 7 → (sgVals L)[k * 7 + j]? = some (.int .i64 ((sx L k).at j)) := by
  induction L with
  | nil => intro k j hk; simp at hk
  | cons x L ih =>
    intro k j hk hj
    cases k with
    | zero =>
      have hj' : j = 0 ∨ j = 1 ∨ j = 2 ∨ j = 3 ∨ j = 4 ∨ j = 5 ∨ j = 6 := by omega
      rcases hj' with rfl | rfl | rfl | rfl | rfl | rfl | rfl <;> rfl
    | succ k =>
      have h := ih k j (by simpa using hk) hj
      unfold sgVals
      rw [List.getElem?_append_right (by simp [sg7]; omega)]
      have e : (k + 1) * 7 + j - (sg7 x).length = k * 7 + j := by simp [sg7]; omega
      rw [e, h]
      simp [sx]
theorem sgVals_flt (L : List Sg) (j : Nat) (hj : j < L.length * 7) : (sgVals L)[j]? = some (.int .i64 (flt L j)) := by
  have h := sgVals_get L (j / 7) (j % 7) (by omega) (by omega)
  have e : j / 7 * 7 + j % 7 = j := by omega
  rw [e] at h
  exact h
/-- 'v is a slice of segments of the call's own, in blocks from base on, that reads as L' -/
def OwnS (w : World) (base : Nat) (v : Value) (L : List Sg) : Prop :=
  w.ownsRow base 77 7 v L.length (sgVals L) ∧ ∀ x ∈ L, x.In
theorem OwnS.lt {w : World} {base : Nat} {v : Value} {L : List Sg} (h : OwnS w base v L) : ∀ k, v.ownBlock = some k → base ≤ k ∧ k < w.heap.size := h.1.lt
theorem OwnS.kept2 {w w' : World} {base : Nat} {v : Value} {L : List Sg} {row : Option Nat} (h : OwnS w base v L) (hg : w.grownBy w' row) (hr : ∀ k, v.ownBlock = some k → row ≠ some k) : OwnS w' base v L := by
  refine ⟨h.1.kept hg ?_, h.2⟩
  cases hv : v.ownBlock with
  | none => exact .inl rfl
  | some k => exact .inr (fun e => hr k hv e.symm)
theorem OwnS.below {w w' : World} {base : Nat} {v : Value} {L : List Sg} (h : OwnS w base v L) (k : Later w w') : OwnS w' base v L := h.kept2 (row := none) ⟨k.os, k.tape, k.output, k.size, fun i hi _ => k.block i hi⟩ (fun _ _ e => by cases e)
theorem OwnS.mono {w : World} {base base' : Nat} {v : Value} {L : List Sg} (h : OwnS w base v L) (hb : base' ≤ base) : OwnS w base' v L := by
  refine ⟨⟨h.1.1, ?_⟩, h.2⟩
  rcases h.1.2 with h0 | ⟨g, cap, cur, e, hg, r⟩
  · exact .inl h0
  · exact .inr ⟨g, cap, cur, e, by omega, r⟩
theorem ownS_none (w : World) (base : Nat) : OwnS w base (.slice none 0 0) [] := ⟨⟨rfl, .inl ⟨rfl, rfl⟩⟩, fun x hx => by simp at hx⟩
theorem ownS_new (w : World) (base : Nat) (h : base ≤ w.heap.size) : OwnS (w.alloc (.cells #[] 77)) base (.slice (some ⟨w.heap.size, 0, none⟩) 0 0) [] :=
  ⟨World.ownsRow_made w #[] 0 h (by unfold maxLen; omega) (by simp), fun x hx => by simp at hx⟩
/-- what such a slice is: nothing, or a row that may be written -/
theorem OwnS.row {w : World} {base : Nat} {v : Value} {L : List Sg} (h : OwnS w base v L) : (v = .slice none 0 0 ∧ L = []) ∨ ∃ g cap, v = .slice (some ⟨g, 0, none⟩) L.length cap ∧ L.length ≤ cap ∧ cap ≤ maxLen ∧ base ≤ g ∧ SgRow w g L.length (flt L) := by
  have h1 := h.1
  rcases h1.2 with ⟨rfl, h0⟩ | ⟨g, cap, cur, rfl, hb, hg, hnc, hcm, _⟩
  · exact .inl ⟨rfl, List.length_eq_zero_iff.1 h0⟩
  · exact .inr ⟨g, cap, rfl, hnc, hcm, hb, (h1.lt g rfl).2, fun j hj => ⟨by rw [h1.cellAt j hj]; exact sgVals_flt L j hj, h1.frozenAt j⟩⟩
theorem OwnS.sgs {w : World} {base : Nat} {v : Value} {L : List Sg} (h : OwnS w base v L) : ∃ a cap, v = .slice a L.length cap ∧ L.length ≤ cap ∧ Sgs w a L.length L ∧ (∀ x, a = some x → base ≤ x.block) := by
  rcases h.row with ⟨rfl, rfl⟩ | ⟨g, cap, rfl, hc, hm, hb, hr⟩
  · exact ⟨none, 0, rfl, Nat.le_refl _, Sgs.nil w none, fun x hx => by cases hx⟩
  · unfold maxLen at hm
    exact ⟨some ⟨g, 0, none⟩, cap, rfl, hc, hr.sgs rfl (by omega) h.2, fun x hx => by cases hx; exact hb⟩
theorem info_sg : (Try.prog.info? 77).map (fun i => (i.zero, i.size, i.bytes)) = some (some (.agg #[.int .i64 0, .int .i64 0, .int .i64 0, .int .i64 0, .int .i64 0, .int .i64 0, .int .i64 0]), 7, 56) := by kernel_rfl
theorem inS {k l r a b c d : Int} (hk : -9223372036854775808 ≤ k ∧ k ≤ 9223372036854775807) (hl : -9223372036854775808 ≤ l ∧ l ≤ 9223372036854775807) (hr : -9223372036854775808 ≤ r ∧ r ≤ 9223372036854775807) (ha : -9223372036854775808 ≤ a ∧ a ≤ 9223372036854775807) (hb : -9223372036854775808 ≤ b ∧ b ≤ 9223372036854775807) (hc : -9223372036854775808 ≤ c ∧ c ≤ 9223372036854775807) (hd : -9223372036854775808 ≤ d ∧ d ≤ 9223372036854775807) : (Sg.mk k l r a b c d).In := by
  intro j
  unfold Sg.at
  split <;> assumption
/-- append(out, M...), the cells of M in a new block -/
theorem appS {ops : Array Oper} {rest : List Oper} {o : Oper} {act : Act} {Q : Exit → Act → World → Prop} (hgd : o.guard = none) (s x : Operand)
    (ho : o.op = .call { callee := .builtin .append, args := #[s, x], argTypes := #[24, 24] })
    (base : Nat) (W : World) (T : TypeId) (v : Value) (L M : List Sg) (m : Nat) (cells : Array Value) (hcells : cells = (sgVals M).toArray) (hm : M.length = m) (hown : OwnS W base v L) (hs : act.eval s = v) (hx : act.eval x = .slice (some ⟨W.heap.size, 0, none⟩) m m) (hy : ∀ x ∈ M, x.In) (hl : L.length + m ≤ 1000000000) (hbase : base ≤ W.heap.size)
    (h : ∀ v' w', OwnS w' base v' (L ++ M) → W.grownBy w' v.ownBlock → wpList Try.prog ops Q rest (act.put o.dst v') w') : wpList Try.prog ops Q (o :: rest) act (W.alloc (.cells cells T)) := by
  subst hcells
  obtain ⟨i0, hi, hz0, hz1, hz2⟩ := info_parts info_sg
  have hc : ∀ j u, (sgVals M)[j]? = some u → (W.alloc (.cells (sgVals M).toArray T)).cell? ⟨W.heap.size, j, none⟩ = some u := by
    intro j u hu
    rw [cell_of_row _ _ j _ T (0, 0) (heap_alloc_new W _)]
    simpa using hu
  have hown' : (W.alloc (.cells (sgVals M).toArray T)).ownsRow base 77 7 v L.length (sgVals L) := hown.1.alloc _
  refine wpList_append_own _ hgd s x _ ho base 77 i0 (.agg #[.int .i64 0, .int .i64 0, .int .i64 0, .int .i64 0, .int .i64 0, .int .i64 0, .int .i64 0]) 7 56 Try.underlying24 hi hz0 hz1 hz2 rfl (by decide) v L.length _ hs hown' ⟨W.heap.size, 0, none⟩ m m (sgVals M) hx (by rw [sgVals_len, hm]) ?_ ?_ (by unfold maxLen; omega) (by omega) (by rw [World.size_alloc]; omega) ?_
  · intro j u hj
    rw [Addr.add_lit, Nat.zero_add]
    exact hc j u hj
  · intro u hu
    obtain ⟨j, hj, e⟩ := List.getElem_of_mem hu
    have hf := sgVals_flt M j (by rw [sgVals_len] at hj; exact hj)
    rw [List.getElem?_eq_getElem hj, e] at hf
    cases hf; rfl
  · intro v' w' h1 h2 _
    refine h v' w' ⟨?_, ?_⟩ (grown_trans (World.grownBy_alloc W _ _) h2)
    · rw [sgVals_app, List.length_append, hm]; exact h1
    · intro z hz
      rcases List.mem_append.1 hz with hz | hz
      · exact hown.2 z hz
      · exact hy z hz
end Go.Proofs.Ytnmlkigpiaekjaa
