/- Slices of tokens: what the walks say of them; one token appended. -/
import Derived.Test.YtokipobjpinhmaaDoorTx0
import Derived.Test.YtokipobjpinhmaaDoorGrown
import Derived.Test.YtokipobjpinhmaaDoorLater
import Derived.Test.YtokipobjpinhmaaDoorSl
import Derived.WalkSmall
import Derived.Deep.DeepMust
namespace Go.Proofs.YtokipobjpinhmaaDoor
open Go.RowKit
set_option maxHeartbeats 2000000
set_option linter.unusedVariables false
set_option linter.unusedSimpArgs false
/-- a token: its kind, its text -/
abbrev Tkn := Int × List UInt8
def tkx (L : List Tkn) (j : Nat) : Int := (L.getD j (0, [])).1
def tsx (L : List Tkn) (j : Nat) : List UInt8 := (L.getD j (0, [])).2
/-- the cells of a list of tokens -/
def tcl : List Tkn → List Value
  | [] => []
  | x :: r => .int .i64 x.1 :: .string (tx x.2) :: tcl r
theorem tcl_len : ∀ L, (tcl L).length = L.length * 2
  | [] => rfl
  | x :: r => by simp [tcl, tcl_len r]; omega
theorem tcl_app : ∀ L M, tcl (L ++ M) = tcl L ++ tcl M
  | [], M => rfl
  | x :: r, M => by simp [tcl, tcl_app r M]
theorem tcl_0 : ∀ (L : List Tkn) (j : Nat), j < L.length → (tcl L)[j * 2]? = some (.int .i64 (tkx L j))
  | [], j, h => by simp at h
  | x :: r, 0, h => rfl
  | x :: r, j + 1, h => by
    rw [show (j + 1) * 2 = j * 2 + 1 + 1 by omega]
    show (tcl r)[j * 2]? = _
    rw [tcl_0 r j (by simpa using h)]; rfl
theorem tcl_1 : ∀ (L : List Tkn) (j : Nat), j < L.length → (tcl L)[j * 2 + 1]? = some (.string (tx (tsx L j)))
  | [], j, h => by simp at h
  | x :: r, 0, h => rfl
  | x :: r, j + 1, h => by
    rw [show (j + 1) * 2 + 1 = (j * 2 + 1) + 1 + 1 by omega]
    show (tcl r)[j * 2 + 1]? = _
    rw [tcl_1 r j (by simpa using h)]; rfl
theorem kx_mem (L : List Tkn) (j : Nat) (h : j < L.length) : (tkx L j, tsx L j) ∈ L := by
  have : L.getD j (0, []) = L[j] := by rw [List.getD_eq_getElem?_getD, List.getElem?_eq_getElem h]; rfl
  unfold tkx tsx; rw [this]; exact List.getElem_mem _
theorem kx_at (L : List Tkn) (j : Nat) (h : j < L.length) : L[j] = (tkx L j, tsx L j) := by
  have : L.getD j (0, []) = L[j] := by rw [List.getD_eq_getElem?_getD, List.getElem?_eq_getElem h]; rfl
  unfold tkx tsx; rw [this]
/-- kinds are 64 bits wide, texts are not too long -/
def TkR (x : Tkn) : Prop := InR x.1 ∧ x.2.length ≤ 1048576
/-- 'the slice value (a, n, ..) of tokens reads as L' -/
def Tks (w : World) (a : Option Addr) (n : Nat) (L : List Tkn) : Prop :=
  L.length = n ∧ n ≤ 9223372036854775807 ∧ (∀ j, j < n → ∃ b off, a = some ⟨b, off, none⟩ ∧ w.cell? ⟨b, off + j * 2, none⟩ = some (.int .i64 (tkx L j)) ∧ w.cell? ⟨b, off + j * 2 + 1, none⟩ = some (.string (tx (tsx L j)))) ∧ ∀ x ∈ L, TkR x
theorem Tks.rng {w : World} {a : Option Addr} {n : Nat} {L : List Tkn} (h : Tks w a n L) (j : Nat) (hj : j < n) : InR (tkx L j) ∧ (tsx L j).length ≤ 1048576 := h.2.2.2 _ (kx_mem L j (by rw [h.1]; exact hj))
theorem Tks.later {w w' : World} {a : Option Addr} {n : Nat} {L : List Tkn} (h : Tks w a n L) (hb : Later w w') : Tks w' a n L := by
  obtain ⟨h1, h2, h3, h4⟩ := h
  refine ⟨h1, h2, fun j hj => ?_, h4⟩
  obtain ⟨b, off, rfl, hc, hd⟩ := h3 j hj
  exact ⟨b, off, rfl, by rw [hb.cell (p := ⟨b, off + j * 2, none⟩) (cell_lt hc)]; exact hc, by rw [hb.cell (p := ⟨b, off + j * 2 + 1, none⟩) (cell_lt hd)]; exact hd⟩
theorem Tks.kept {w w' : World} {a : Option Addr} {n : Nat} {L : List Tkn} {r : Option Nat} (h : Tks w a n L) (hg : w.grownBy w' r) (hr : ∀ x, a = some x → r ≠ some x.block) : Tks w' a n L := by
  obtain ⟨h1, h2, h3, h4⟩ := h
  refine ⟨h1, h2, fun j hj => ?_, h4⟩
  obtain ⟨b, off, rfl, hc, hd⟩ := h3 j hj
  exact ⟨b, off, rfl, hg.cell hc (fun e => hr _ rfl e.symm), hg.cell hd (fun e => hr _ rfl e.symm)⟩
/-- 'v is such a slice of the call's own, in blocks from base on' -/
def OwnK (w : World) (base : Nat) (T : TypeId) (v : Value) (L : List Tkn) : Prop :=
  w.ownsRow base T 2 v L.length (tcl L) ∧ ∀ x ∈ L, TkR x
theorem OwnK.lt {w : World} {base : Nat} {T : TypeId} {v : Value} {L : List Tkn} (h : OwnK w base T v L) : ∀ k, v.ownBlock = some k → base ≤ k ∧ k < w.heap.size := h.1.lt
theorem OwnK.kept {w w' : World} {base : Nat} {T : TypeId} {v : Value} {L : List Tkn} {row : Option Nat} (h : OwnK w base T v L) (hg : w.grownBy w' row) (hr : ∀ k, v.ownBlock = some k → row ≠ some k) : OwnK w' base T v L := by
  refine ⟨h.1.kept hg ?_, h.2⟩
  cases hv : v.ownBlock with
  | none => exact .inl rfl
  | some k => exact .inr (fun e => hr k hv e.symm)
theorem OwnK.later {w w' : World} {base : Nat} {T : TypeId} {v : Value} {L : List Tkn} (h : OwnK w base T v L) (k : Later w w') : OwnK w' base T v L :=
  h.kept (row := none) ⟨k.os, k.tape, k.output, k.size, fun i hi _ => k.block i hi⟩ (fun _ _ e => by cases e)
theorem OwnK.mono {w : World} {base base' : Nat} {T : TypeId} {v : Value} {L : List Tkn} (h : OwnK w base T v L) (hb : base' ≤ base) : OwnK w base' T v L := by
  refine ⟨⟨h.1.1, ?_⟩, h.2⟩
  rcases h.1.2 with h0 | ⟨g, cap, cur, e, hg, r⟩
  · exact .inl h0
  · exact .inr ⟨g, cap, cur, e, by omega, r⟩
theorem ownK_none (w : World) (base : Nat) (T : TypeId) : OwnK w base T (.slice none 0 0) [] := ⟨⟨rfl, .inl ⟨rfl, rfl⟩⟩, fun x hx => by simp at hx⟩
theorem ownK_new (w : World) (base : Nat) (T : TypeId) (h : base ≤ w.heap.size) : OwnK (w.alloc (.cells #[] T)) base T (.slice (some ⟨w.heap.size, 0, none⟩) 0 0) [] :=
  ⟨World.ownsRow_made w #[] 0 h (by unfold maxLen; omega) (by simp), fun x hx => by simp at hx⟩
theorem OwnK.tks {w : World} {base : Nat} {T : TypeId} {v : Value} {L : List Tkn} (h : OwnK w base T v L) : ∃ a cap, v = .slice a L.length cap ∧ L.length ≤ cap ∧ Tks w a L.length L ∧ (∀ x, a = some x → base ≤ x.block ∧ x.block < w.heap.size) ∧ (a = none → cap = 0) ∧ L.length ≤ 9223372036854775807 := by
  have h1 := h.1
  rcases h1.2 with ⟨rfl, hz⟩ | ⟨g, cap, cur, rfl, hb, hg, hnc, hcm, _⟩
  · rw [hz]
    exact ⟨none, 0, rfl, Nat.le_refl _, ⟨hz, by omega, fun j hj => by omega, h.2⟩, fun x hx => by (cases hx), fun _ => rfl, by omega⟩
  · have hm := hcm
    unfold maxLen at hm
    refine ⟨some ⟨g, 0, none⟩, cap, rfl, hnc, ⟨rfl, by omega, fun j hj => ⟨g, 0, rfl, ?_, ?_⟩, h.2⟩, fun x hx => (by cases hx; exact ⟨hb, (h1.lt g rfl).2⟩), fun e => (by cases e), by omega⟩
    · rw [Nat.zero_add, h1.cellAt (j * 2) (by omega), tcl_0 L j hj]
    · rw [Nat.zero_add, h1.cellAt (j * 2 + 1) (by omega), tcl_1 L j hj]
theorem OwnK.row {w : World} {base : Nat} {T : TypeId} {v : Value} {L : List Tkn} (h : OwnK w base T v L) : L.length ≤ 9223372036854775807 := by
  obtain ⟨a, cap, _, _, _, _, _, h1⟩ := h.tks
  exact h1
/-- append(out, t), t in a new block -/
theorem appK {ops : Array Oper} {rest : List Oper} {o : Oper} {act : Act} {Q : Exit → Act → World → Prop} (hgd : o.guard = none) (s x : Operand) (T S : TypeId) (z : Value) (bytes : Nat)
    (hI : (Tryd.prog.info? T).map (fun i => (i.zero, i.size, i.bytes)) = some (some z, 2, bytes)) (hU : Tryd.prog.underlying S = some (.slice T)) (hzs : z.cells.size = 2) (hby : bytes ≤ 1000)
    (ho : o.op = .call { callee := .builtin .append, args := #[s, x], argTypes := #[S, S] })
    (base : Nat) (W : World) (T' : TypeId) (v : Value) (L : List Tkn) (k : Int) (t : List UInt8) (hown : OwnK W base T v L) (hs : act.eval s = v) (hx : act.eval x = .slice (some ⟨W.heap.size, 0, none⟩) 1 1) (hy : TkR (k, t)) (hl : L.length ≤ 1000000000) (hbase : base ≤ W.heap.size)
    (h : ∀ v' w', OwnK w' base T v' (L ++ [(k, t)]) → W.grownBy w' v.ownBlock → wpList Tryd.prog ops Q rest (act.put o.dst v') w') : wpList Tryd.prog ops Q (o :: rest) act (W.alloc (.cells #[.int .i64 k, .string (tx t)] T')) := by
  obtain ⟨i0, hi, hz0, hz1, hz2⟩ := info_parts hI
  have hc : ∀ j u, ([Value.int .i64 k, .string (tx t)] : List Value)[j]? = some u → (W.alloc (.cells #[.int .i64 k, .string (tx t)] T')).cell? ⟨W.heap.size, j, none⟩ = some u := by
    intro j u hu
    rw [cell_of_row _ _ j _ T' (0, 0) (heap_alloc_new W _)]
    simpa using hu
  have hown' : (W.alloc (.cells #[.int .i64 k, .string (tx t)] T')).ownsRow base T 2 v L.length (tcl L) := hown.1.alloc _
  have hbb : (L.length + 1) * bytes ≤ 1000000001 * 1000 := Nat.mul_le_mul (by omega) hby
  refine wpList_append_own _ hgd s x _ ho base T i0 z 2 bytes hU hi hz0 hz1 hz2 hzs (by omega) v L.length _ hs hown' ⟨W.heap.size, 0, none⟩ 1 1 [.int .i64 k, .string (tx t)] hx rfl ?_ ?_ (by unfold maxLen; omega) (by omega) (by show base ≤ (W.alloc _).heap.size; simp; omega) ?_
  · intro j u hj
    rw [Addr.add_lit, Nat.zero_add]
    exact hc j u hj
  · intro u hu
    simp at hu
    rcases hu with rfl | rfl <;> rfl
  · intro v' w' h1 h2 _
    refine h v' w' ⟨?_, ?_⟩ (grown_trans (World.grownBy_alloc W _ _) h2)
    · rw [tcl_app, List.length_append]; exact h1
    · intro y hy'
      rcases List.mem_append.1 hy' with hy' | hy'
      · exact hown.2 y hy'
      · simp at hy'; rw [hy']; exact hy
end Go.Proofs.YtokipobjpinhmaaDoor
