/- Slices of terms: what the walks say of them; terms appended. -/
import Derived.Test.YtokipobjpinhmaaDoorPsM
import Derived.Test.YtokipobjpinhmaaDoorTks
namespace Go.Proofs.YtokipobjpinhmaaDoor
open Go.RowKit
set_option maxHeartbeats 2000000
set_option maxRecDepth 100000
set_option linter.unusedVariables false
set_option linter.unusedSimpArgs false
/-- the cells of a list of terms -/
def rcl : List Trm → List Value
  | [] => []
  | x :: r => .int .i64 x.1 :: .string (tx x.2.1) :: .int .i64 x.2.2 :: rcl r
theorem rcl_len : ∀ L, (rcl L).length = L.length * 3
  | [] => rfl
  | x :: r => by simp [rcl, rcl_len r]; omega
theorem rcl_app : ∀ L M, rcl (L ++ M) = rcl L ++ rcl M
  | [], M => rfl
  | x :: r, M => by simp [rcl, rcl_app r M]
theorem rcl_0 : ∀ (L : List Trm) (j : Nat), j < L.length → (rcl L)[j * 3]? = some (.int .i64 (rkx L j))
  | [], j, h => by simp at h
  | x :: r, 0, h => rfl
  | x :: r, j + 1, h => by
    rw [show (j + 1) * 3 = j * 3 + 1 + 1 + 1 by omega]
    show (rcl r)[j * 3]? = _
    rw [rcl_0 r j (by simpa using h)]; rfl
theorem rcl_1 : ∀ (L : List Trm) (j : Nat), j < L.length → (rcl L)[j * 3 + 1]? = some (.string (tx (rsx L j)))
  | [], j, h => by simp at h
  | x :: r, 0, h => rfl
  | x :: r, j + 1, h => by
    rw [show (j + 1) * 3 + 1 = (j * 3 + 1) + 1 + 1 + 1 by omega]
    show (rcl r)[j * 3 + 1]? = _
    rw [rcl_1 r j (by simpa using h)]; rfl
theorem rcl_2 : ∀ (L : List Trm) (j : Nat), j < L.length → (rcl L)[j * 3 + 2]? = some (.int .i64 (rnx L j))
  | [], j, h => by simp at h
  | x :: r, 0, h => rfl
  | x :: r, j + 1, h => by
    rw [show (j + 1) * 3 + 2 = (j * 3 + 2) + 1 + 1 + 1 by omega]
    show (rcl r)[j * 3 + 2]? = _
    rw [rcl_2 r j (by simpa using h)]; rfl
theorem rcl_get (L : List Trm) (i : Nat) (h : i < L.length * 3) : (rcl L)[i]? = some (if i % 3 = 0 then .int .i64 (rkx L (i / 3)) else if i % 3 = 1 then .string (tx (rsx L (i / 3))) else .int .i64 (rnx L (i / 3))) := by
  by_cases hi : i % 3 = 0
  · rw [if_pos hi]
    have := rcl_0 L (i / 3) (by omega)
    rwa [show i / 3 * 3 = i by omega] at this
  · rw [if_neg hi]
    by_cases h1 : i % 3 = 1
    · rw [if_pos h1]
      have := rcl_1 L (i / 3) (by omega)
      rwa [show i / 3 * 3 + 1 = i by omega] at this
    · rw [if_neg h1]
      have := rcl_2 L (i / 3) (by omega)
      rwa [show i / 3 * 3 + 2 = i by omega] at this
/-- 'block b is there, and may be written' -/
def Wrt (w : World) (b : Nat) : Prop := b < w.heap.size ∧ ∀ j, w.frozen? ⟨b, j, none⟩ = false
theorem Wrt.later {w w' : World} {b : Nat} (h : Wrt w b) (hb : Later w w') : Wrt w' b :=
  ⟨Nat.lt_of_lt_of_le h.1 hb.size, fun j => by rw [Below.frozen (p := ⟨b, j, none⟩) hb h.1]; exact h.2 j⟩
theorem Wrt.set {w : World} {b : Nat} (h : Wrt w b) (p : Addr) (u : Value) : Wrt (w.setCell p u) b :=
  ⟨by rw [World.size_setCell]; exact h.1, fun j => by rw [World.frozen?_setCell]; exact h.2 j⟩
/-- kinds and numbers are 64 bits wide, names are not too long -/
def TrR (x : Trm) : Prop := InR x.1 ∧ x.2.1.length ≤ 1048576 ∧ InR x.2.2
/-- 'the slice value (a, n, ..) of terms reads as L' -/
def Trs (w : World) (a : Option Addr) (n : Nat) (L : List Trm) : Prop :=
  L.length = n ∧ n ≤ 9223372036854775807 ∧ (∀ j, j < n → ∃ b off, a = some ⟨b, off, none⟩ ∧ w.cell? ⟨b, off + j * 3, none⟩ = some (.int .i64 (rkx L j)) ∧ w.cell? ⟨b, off + j * 3 + 1, none⟩ = some (.string (tx (rsx L j))) ∧ w.cell? ⟨b, off + j * 3 + 2, none⟩ = some (.int .i64 (rnx L j))) ∧ ∀ x ∈ L, TrR x
theorem Trs.rng {w : World} {a : Option Addr} {n : Nat} {L : List Trm} (h : Trs w a n L) (j : Nat) (hj : j < n) : InR (rkx L j) ∧ (rsx L j).length ≤ 1048576 ∧ InR (rnx L j) := h.2.2.2 _ (rk_mem L j (by rw [h.1]; exact hj))
theorem Trs.later {w w' : World} {a : Option Addr} {n : Nat} {L : List Trm} (h : Trs w a n L) (hb : Later w w') : Trs w' a n L := by
  obtain ⟨h1, h2, h3, h4⟩ := h
  refine ⟨h1, h2, fun j hj => ?_, h4⟩
  obtain ⟨b, off, rfl, hc, hd, he⟩ := h3 j hj
  exact ⟨b, off, rfl, by rw [hb.cell (p := ⟨b, off + j * 3, none⟩) (cell_lt hc)]; exact hc, by rw [hb.cell (p := ⟨b, off + j * 3 + 1, none⟩) (cell_lt hd)]; exact hd, by rw [hb.cell (p := ⟨b, off + j * 3 + 2, none⟩) (cell_lt he)]; exact he⟩
theorem Trs.kept {w w' : World} {a : Option Addr} {n : Nat} {L : List Trm} {r : Option Nat} (h : Trs w a n L) (hg : w.grownBy w' r) (hr : ∀ x, a = some x → r ≠ some x.block) : Trs w' a n L := by
  obtain ⟨h1, h2, h3, h4⟩ := h
  refine ⟨h1, h2, fun j hj => ?_, h4⟩
  obtain ⟨b, off, rfl, hc, hd, he⟩ := h3 j hj
  exact ⟨b, off, rfl, hg.cell hc (fun e => hr _ rfl e.symm), hg.cell hd (fun e => hr _ rfl e.symm), hg.cell he (fun e => hr _ rfl e.symm)⟩
/-- 'v is such a slice of the call's own, in blocks from base on' -/
def OwnR (w : World) (base : Nat) (T : TypeId) (v : Value) (L : List Trm) : Prop :=
  w.ownsRow base T 3 v L.length (rcl L) ∧ ∀ x ∈ L, TrR x
theorem OwnR.lt {w : World} {base : Nat} {T : TypeId} {v : Value} {L : List Trm} (h : OwnR w base T v L) : ∀ k, v.ownBlock = some k → base ≤ k ∧ k < w.heap.size := h.1.lt
theorem OwnR.kept {w w' : World} {base : Nat} {T : TypeId} {v : Value} {L : List Trm} {row : Option Nat} (h : OwnR w base T v L) (hg : w.grownBy w' row) (hr : ∀ k, v.ownBlock = some k → row ≠ some k) : OwnR w' base T v L := by
  refine ⟨h.1.kept hg ?_, h.2⟩
  cases hv : v.ownBlock with
  | none => exact .inl rfl
  | some k => exact .inr (fun e => hr k hv e.symm)
theorem OwnR.later {w w' : World} {base : Nat} {T : TypeId} {v : Value} {L : List Trm} (h : OwnR w base T v L) (k : Later w w') : OwnR w' base T v L :=
  h.kept (row := none) ⟨k.os, k.tape, k.output, k.size, fun i hi _ => k.block i hi⟩ (fun _ _ e => by cases e)
theorem OwnR.mono {w : World} {base base' : Nat} {T : TypeId} {v : Value} {L : List Trm} (h : OwnR w base T v L) (hb : base' ≤ base) : OwnR w base' T v L := by
  refine ⟨⟨h.1.1, ?_⟩, h.2⟩
  rcases h.1.2 with h0 | ⟨g, cap, cur, e, hg, r⟩
  · exact .inl h0
  · exact .inr ⟨g, cap, cur, e, by omega, r⟩
theorem ownR_none (w : World) (base : Nat) (T : TypeId) : OwnR w base T (.slice none 0 0) [] := ⟨⟨rfl, .inl ⟨rfl, rfl⟩⟩, fun x hx => by simp at hx⟩
theorem ownR_new (w : World) (base : Nat) (T : TypeId) (h : base ≤ w.heap.size) : OwnR (w.alloc (.cells #[] T)) base T (.slice (some ⟨w.heap.size, 0, none⟩) 0 0) [] :=
  ⟨World.ownsRow_made w #[] 0 h (by unfold maxLen; omega) (by simp), fun x hx => by simp at hx⟩
theorem OwnR.trs {w : World} {base : Nat} {T : TypeId} {v : Value} {L : List Trm} (h : OwnR w base T v L) : ∃ a cap, v = .slice a L.length cap ∧ L.length ≤ cap ∧ Trs w a L.length L ∧ (∀ x, a = some x → base ≤ x.block ∧ x.block < w.heap.size) ∧ (a = none → cap = 0) ∧ L.length ≤ 9223372036854775807 := by
  have h1 := h.1
  rcases h1.2 with ⟨rfl, hz⟩ | ⟨g, cap, cur, rfl, hb, hg, hnc, hcm, _⟩
  · rw [hz]
    exact ⟨none, 0, rfl, Nat.le_refl _, ⟨hz, by omega, fun j hj => by omega, h.2⟩, fun x hx => by (cases hx), fun _ => rfl, by omega⟩
  · have hm := hcm
    unfold maxLen at hm
    refine ⟨some ⟨g, 0, none⟩, cap, rfl, hnc, ⟨rfl, by omega, fun j hj => ⟨g, 0, rfl, ?_, ?_, ?_⟩, h.2⟩, fun x hx => (by cases hx; exact ⟨hb, (h1.lt g rfl).2⟩), fun e => (by cases e), by omega⟩
    · rw [Nat.zero_add, h1.cellAt (j * 3) (by omega), rcl_0 L j hj]
    · rw [Nat.zero_add, h1.cellAt (j * 3 + 1) (by omega), rcl_1 L j hj]
    · rw [Nat.zero_add, h1.cellAt (j * 3 + 2) (by omega), rcl_2 L j hj]
theorem OwnR.row {w : World} {base : Nat} {T : TypeId} {v : Value} {L : List Trm} (h : OwnR w base T v L) : L.length ≤ 9223372036854775807 := by
  obtain ⟨a, cap, _, _, _, _, _, h1⟩ := h.trs
  exact h1
/-- append(out, t), t in a new block -/
theorem appR {ops : Array Oper} {rest : List Oper} {o : Oper} {act : Act} {Q : Exit → Act → World → Prop} (hgd : o.guard = none) (s x : Operand) (T S : TypeId) (z : Value) (bytes : Nat)
    (hI : (Tryd.prog.info? T).map (fun i => (i.zero, i.size, i.bytes)) = some (some z, 3, bytes)) (hU : Tryd.prog.underlying S = some (.slice T)) (hzs : z.cells.size = 3) (hby : bytes ≤ 1000)
    (ho : o.op = .call { callee := .builtin .append, args := #[s, x], argTypes := #[S, S] })
    (base : Nat) (W : World) (T' : TypeId) (v : Value) (L : List Trm) (k : Int) (t : List UInt8) (n : Int) (hown : OwnR W base T v L) (hs : act.eval s = v) (hx : act.eval x = .slice (some ⟨W.heap.size, 0, none⟩) 1 1) (hy : TrR (k, t, n)) (hl : L.length ≤ 1000000000) (hbase : base ≤ W.heap.size)
    (h : ∀ v' w', OwnR w' base T v' (L ++ [(k, t, n)]) → W.grownBy w' v.ownBlock → wpList Tryd.prog ops Q rest (act.put o.dst v') w') : wpList Tryd.prog ops Q (o :: rest) act (W.alloc (.cells #[.int .i64 k, .string (tx t), .int .i64 n] T')) := by
  obtain ⟨i0, hi, hz0, hz1, hz2⟩ := info_parts hI
  have hc : ∀ j u, ([Value.int .i64 k, .string (tx t), .int .i64 n] : List Value)[j]? = some u → (W.alloc (.cells #[.int .i64 k, .string (tx t), .int .i64 n] T')).cell? ⟨W.heap.size, j, none⟩ = some u := by
    intro j u hu
    rw [cell_of_row _ _ j _ T' (0, 0) (heap_alloc_new W _)]
    simpa using hu
  have hown' : (W.alloc (.cells #[.int .i64 k, .string (tx t), .int .i64 n] T')).ownsRow base T 3 v L.length (rcl L) := hown.1.alloc _
  have hbb : (L.length + 1) * bytes ≤ 1000000001 * 1000 := Nat.mul_le_mul (by omega) hby
  refine wpList_append_own _ hgd s x _ ho base T i0 z 3 bytes hU hi hz0 hz1 hz2 hzs (by omega) v L.length _ hs hown' ⟨W.heap.size, 0, none⟩ 1 1 [.int .i64 k, .string (tx t), .int .i64 n] hx rfl ?_ ?_ (by unfold maxLen; omega) (by omega) (by show base ≤ (W.alloc _).heap.size; simp; omega) ?_
  · intro j u hj
    rw [Addr.add_lit, Nat.zero_add]
    exact hc j u hj
  · intro u hu
    simp at hu
    rcases hu with rfl | rfl | rfl <;> rfl
  · intro v' w' h1 h2 _
    refine h v' w' ⟨?_, ?_⟩ (grown_trans (World.grownBy_alloc W _ _) h2)
    · rw [rcl_app, List.length_append]; exact h1
    · intro y hy'
      rcases List.mem_append.1 hy' with hy' | hy'
      · exact hown.2 y hy'
      · simp at hy'; rw [hy']; exact hy
end Go.Proofs.YtokipobjpinhmaaDoor
