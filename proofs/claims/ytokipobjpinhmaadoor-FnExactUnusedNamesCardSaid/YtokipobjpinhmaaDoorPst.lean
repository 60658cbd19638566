/- Slices of strings, lines and programs: what they are, and what the walks say of them. -/
import Derived.Test.YtokipobjpinhmaaDoorPss
import Derived.Test.YtokipobjpinhmaaDoorOwnT
namespace Go.Proofs.YtokipobjpinhmaaDoor
open Go.RowKit
set_option maxHeartbeats 2000000
set_option maxRecDepth 100000
set_option linter.unusedVariables false
set_option linter.unusedSimpArgs false
/-- the text of place j -/
def wx (W : List (List UInt8)) (j : Nat) : List UInt8 := W.getD j []
theorem wx_mem (W : List (List UInt8)) (j : Nat) (h : j < W.length) : wx W j ∈ W := by
  have : W.getD j [] = W[j] := by rw [List.getD_eq_getElem?_getD, List.getElem?_eq_getElem h]; rfl
  unfold wx; rw [this]; exact List.getElem_mem _
theorem wx_at (W : List (List UInt8)) (j : Nat) (h : j < W.length) : W[j] = wx W j := by
  unfold wx; rw [List.getD_eq_getElem?_getD, List.getElem?_eq_getElem h]; rfl
/-- 'the slice value (a, n, ..) of strings reads as W', the texts of at most m bytes -/
def Stm (m : Nat) (w : World) (a : Option Addr) (n : Nat) (W : List (List UInt8)) : Prop :=
  W.length = n ∧ n ≤ 9223372036854775807 ∧ (∀ j, j < n → ∃ b off, a = some ⟨b, off, none⟩ ∧ w.cell? ⟨b, off + j, none⟩ = some (.string (tx (wx W j)))) ∧ ∀ x ∈ W, x.length ≤ m
abbrev Sts := Stm 1048576
theorem Stm.later {m : Nat} {w w' : World} {a : Option Addr} {n : Nat} {W : List (List UInt8)} (h : Stm m w a n W) (hb : Later w w') : Stm m w' a n W := by
  obtain ⟨h1, h2, h3, h4⟩ := h
  refine ⟨h1, h2, fun j hj => ?_, h4⟩
  obtain ⟨b, off, rfl, hc⟩ := h3 j hj
  exact ⟨b, off, rfl, by rw [hb.cell (p := ⟨b, off + j, none⟩) (cell_lt hc)]; exact hc⟩
theorem Stm.short {m k : Nat} {w : World} {a : Option Addr} {n : Nat} {W : List (List UInt8)} (h : Stm m w a n W) (hs : ∀ j, j < n → (wx W j).length ≤ k) : Stm k w a n W := by
  refine ⟨h.1, h.2.1, h.2.2.1, fun x hx => ?_⟩
  obtain ⟨j, hj, rfl⟩ := List.mem_iff_getElem.1 hx
  rw [wx_at W j hj]; exact hs j (by rw [← h.1]; exact hj)
theorem Stm.at {m : Nat} {w : World} {a : Option Addr} {n : Nat} {W : List (List UInt8)} (h : Stm m w a n W) (j : Nat) (hj : j < n) : ∃ b off, a = some ⟨b, off, none⟩ ∧ w.cell? ⟨b, off + j, none⟩ = some (.string (tx (wx W j))) := h.2.2.1 j hj
theorem Stm.len {m : Nat} {w : World} {a : Option Addr} {n : Nat} {W : List (List UInt8)} (h : Stm m w a n W) (j : Nat) (hj : j < n) : (wx W j).length ≤ m := h.2.2.2 _ (wx_mem W j (by rw [h.1]; exact hj))
theorem OwnT.sts {w : World} {base : Nat} {v : Value} {W : List (List UInt8)} (h : OwnT w base v W) (hs : ∀ x ∈ W, x.length ≤ 1048576) : ∃ a cap, v = .slice a W.length cap ∧ W.length ≤ cap ∧ Sts w a W.length W ∧ (∀ x, a = some x → base ≤ x.block ∧ x.block < w.heap.size) := by
  have h1 : w.ownsRow base 9 1 v W.length (W.map (fun x => Value.string (tx x))) := h
  rcases h1.2 with ⟨rfl, hz⟩ | ⟨g, cap, cur, rfl, hb, hg, hnc, hcm, _⟩
  · rw [hz]
    exact ⟨none, 0, rfl, Nat.le_refl _, ⟨hz, by omega, fun j hj => by omega, hs⟩, fun x hx => by (cases hx)⟩
  · have hm := hcm
    unfold maxLen at hm
    refine ⟨some ⟨g, 0, none⟩, cap, rfl, hnc, ⟨rfl, by omega, fun j hj => ⟨g, 0, rfl, ?_⟩, hs⟩, fun x hx => (by cases hx; exact ⟨hb, (h1.lt g rfl).2⟩)⟩
    rw [Nat.zero_add, h1.cellAt j (by omega), List.getElem?_map, List.getElem?_eq_getElem hj]
    unfold wx
    rw [List.getD_eq_getElem?_getD, List.getElem?_eq_getElem hj]; rfl
/-- a line: its target, its terms -/
abbrev Lne := List UInt8 × List Trm
def ltx (M : List Lne) (j : Nat) : List UInt8 := (M.getD j ([], [])).1
def lrx (M : List Lne) (j : Nat) : List Trm := (M.getD j ([], [])).2
theorem lx_mem (M : List Lne) (j : Nat) (h : j < M.length) : (ltx M j, lrx M j) ∈ M := by
  have : M.getD j ([], []) = M[j] := by rw [List.getD_eq_getElem?_getD, List.getElem?_eq_getElem h]; rfl
  unfold ltx lrx; rw [this]; exact List.getElem_mem _
theorem lx_at (M : List Lne) (j : Nat) (h : j < M.length) : M[j] = (ltx M j, lrx M j) := by
  have : M.getD j ([], []) = M[j] := by rw [List.getD_eq_getElem?_getD, List.getElem?_eq_getElem h]; rfl
  unfold ltx lrx; rw [this]
/-- 'the slice value (a, n, ..) of lines reads as M' -/
def Lns (w : World) (a : Option Addr) (n : Nat) (M : List Lne) : Prop :=
  M.length = n ∧ n ≤ 9223372036854775807 ∧ (∀ j, j < n → ∃ b off ta tc, a = some ⟨b, off, none⟩ ∧ w.cell? ⟨b, off + j * 2, none⟩ = some (.string (tx (ltx M j))) ∧ w.cell? ⟨b, off + j * 2 + 1, none⟩ = some (.slice ta (lrx M j).length tc) ∧ Trs w ta (lrx M j).length (lrx M j)) ∧ ∀ x ∈ M, x.1.length ≤ 1048576 ∧ x.2.length ≤ 1048576
theorem Lns.later {w w' : World} {a : Option Addr} {n : Nat} {M : List Lne} (h : Lns w a n M) (hb : Later w w') : Lns w' a n M := by
  obtain ⟨h1, h2, h3, h4⟩ := h
  refine ⟨h1, h2, fun j hj => ?_, h4⟩
  obtain ⟨b, off, ta, tc, rfl, hc, hd, he⟩ := h3 j hj
  exact ⟨b, off, ta, tc, rfl, by rw [hb.cell (p := ⟨b, off + j * 2, none⟩) (cell_lt hc)]; exact hc, by rw [hb.cell (p := ⟨b, off + j * 2 + 1, none⟩) (cell_lt hd)]; exact hd, he.later hb⟩
theorem Lns.rng {w : World} {a : Option Addr} {n : Nat} {M : List Lne} (h : Lns w a n M) (j : Nat) (hj : j < n) : (ltx M j).length ≤ 1048576 ∧ (lrx M j).length ≤ 1048576 := h.2.2.2 _ (lx_mem M j (by rw [h.1]; exact hj))
/-- a program -/
structure Prg where
  nm : List UInt8
  ins : List (List UInt8)
  vrs : List (List UInt8)
  outs : List (List UInt8)
  grd : List UInt8
  lns : List Lne
/-- 'the value v reads as the program p' -/
def PgV (w : World) (v : Value) (p : Prg) : Prop :=
  ∃ a1 c1 a2 c2 a3 c3 a4 c4, v = .agg #[.string (tx p.nm), .slice a1 p.ins.length c1, .slice a2 p.vrs.length c2, .slice a3 p.outs.length c3, .string (tx p.grd), .slice a4 p.lns.length c4] ∧
    Sts w a1 p.ins.length p.ins ∧ Sts w a2 p.vrs.length p.vrs ∧ Sts w a3 p.outs.length p.outs ∧ Lns w a4 p.lns.length p.lns ∧ p.nm.length ≤ 1048576 ∧ p.grd.length ≤ 1048576
theorem PgV.later {w w' : World} {v : Value} {p : Prg} (h : PgV w v p) (hb : Later w w') : PgV w' v p := by
  obtain ⟨a1, c1, a2, c2, a3, c3, a4, c4, h0, h1, h2, h3, h4, h5, h6⟩ := h
  exact ⟨a1, c1, a2, c2, a3, c3, a4, c4, h0, h1.later hb, h2.later hb, h3.later hb, h4.later hb, h5, h6⟩
/-! what is written -/
def allN (W : List (List UInt8)) : Bool := (List.range W.length).all fun j => nmB (wx W j)
def nmsB (W : List (List UInt8)) : Bool := allN W && decide (W.length ≤ 20)
def lnOk (M : List Lne) (j : Nat) : Bool := nmB (ltx M j) && exB (lrx M j)
def allL (M : List Lne) : Bool := (List.range M.length).all (lnOk M)
def lnsB (M : List Lne) : Bool := allL M && decide (1 ≤ M.length) && decide (M.length ≤ 40)
def wrtB (p : Prg) : Bool := nmB p.nm && (decide (p.grd = []) || nmB p.grd) && decide (1 ≤ p.ins.length) && decide (1 ≤ p.outs.length) && nmsB p.ins && nmsB p.vrs && nmsB p.outs && lnsB p.lns
theorem allN_all (W : List (List UInt8)) (h : ∀ j, j < W.length → nmB (wx W j) = true) : allN W = true := List.all_eq_true.2 fun j hj => h j (by simpa using hj)
theorem allN_bad (W : List (List UInt8)) (j : Nat) (h : j < W.length) (hb : nmB (wx W j) = false) : allN W = false := by
  cases h2 : allN W with
  | false => rfl
  | true =>
    have := List.all_eq_true.1 h2 j (by simpa using h)
    simp only [hb] at this; cases this
theorem allL_all (M : List Lne) (h : ∀ j, j < M.length → lnOk M j = true) : allL M = true := List.all_eq_true.2 fun j hj => h j (by simpa using hj)
theorem allL_bad (M : List Lne) (j : Nat) (h : j < M.length) (hb : lnOk M j = false) : allL M = false := by
  cases h2 : allL M with
  | false => rfl
  | true =>
    have := List.all_eq_true.1 h2 j (by simpa using h)
    rw [hb] at this; cases this
end Go.Proofs.YtokipobjpinhmaaDoor
