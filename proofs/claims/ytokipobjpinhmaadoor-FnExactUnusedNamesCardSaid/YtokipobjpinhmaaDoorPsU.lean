/- Programs that came in, opened to cells. -/
import Derived.Test.YtokipobjpinhmaaDoorPst
import Derived.Test.YtokipobjpinhmaaDoorPsO
namespace Go.Proofs.YtokipobjpinhmaaDoor
open Go.RowKit Go.ChangeShapes Go.WideShapes Go.Deep
set_option maxHeartbeats 2000000
set_option maxRecDepth 100000
set_option linter.unusedVariables false
set_option linter.unusedSimpArgs false
abbrev Sto := Stm maxLen
def Lno (w : World) (a : Option Addr) (n : Nat) (M : List Lne) : Prop :=
  M.length = n ∧ n ≤ 9223372036854775807 ∧ (∀ j, j < n → ∃ b off ta tc, a = some ⟨b, off, none⟩ ∧ w.cell? ⟨b, off + j * 2, none⟩ = some (.string (tx (ltx M j))) ∧ w.cell? ⟨b, off + j * 2 + 1, none⟩ = some (.slice ta (lrx M j).length tc) ∧ Tro w ta (lrx M j).length (lrx M j)) ∧ ∀ x ∈ M, x.1.length ≤ maxLen
theorem Lno.later {w w' : World} {a : Option Addr} {n : Nat} {M : List Lne} (h : Lno w a n M) (hb : Later w w') : Lno w' a n M := by
  obtain ⟨h1, h2, h3, h4⟩ := h
  refine ⟨h1, h2, fun j hj => ?_, h4⟩
  obtain ⟨b, off, ta, tc, rfl, hc, hd, he⟩ := h3 j hj
  exact ⟨b, off, ta, tc, rfl, by rw [hb.cell (p := ⟨b, off + j * 2, none⟩) (cell_lt hc)]; exact hc, by rw [hb.cell (p := ⟨b, off + j * 2 + 1, none⟩) (cell_lt hd)]; exact hd, he.later hb⟩
/-- line j of M is short -/
def LShort (M : List Lne) (j : Nat) : Prop := (ltx M j).length ≤ 1048576 ∧ (lrx M j).length ≤ 1048576 ∧ ∀ i, i < (lrx M j).length → (rsx (lrx M j) i).length ≤ 1048576
theorem Lno.lns {w : World} {a : Option Addr} {n : Nat} {M : List Lne} (h : Lno w a n M) (hs : ∀ j, j < n → LShort M j) : Lns w a n M := by
  obtain ⟨h1, h2, h3, h4⟩ := h
  refine ⟨h1, h2, fun j hj => ?_, fun x hx => ?_⟩
  · obtain ⟨b, off, ta, tc, e, hc, hd, he⟩ := h3 j hj
    exact ⟨b, off, ta, tc, e, hc, hd, he.trs (hs j hj).2.2⟩
  · obtain ⟨j, hj, rfl⟩ := List.mem_iff_getElem.1 hx
    rw [lx_at M j hj]
    have := hs j (by rw [← h1]; exact hj)
    exact ⟨this.1, this.2.1⟩
/-- 'the value v that came in reads as the program p' -/
def PgO (w : World) (v : Value) (p : Prg) : Prop :=
  ∃ a1 c1 a2 c2 a3 c3 a4 c4, v = .agg #[.string (tx p.nm), .slice a1 p.ins.length c1, .slice a2 p.vrs.length c2, .slice a3 p.outs.length c3, .string (tx p.grd), .slice a4 p.lns.length c4] ∧
    Sto w a1 p.ins.length p.ins ∧ Sto w a2 p.vrs.length p.vrs ∧ Sto w a3 p.outs.length p.outs ∧ Lno w a4 p.lns.length p.lns ∧ p.nm.length ≤ maxLen ∧ p.grd.length ≤ maxLen
section
variable {H : Type} {enc : TypeId × Value → H} {w : World} {base : Nat} {spare : Nat → Bool} {held : Bool}
theorem cells_lln : Tryd.prog.cellsOf 111 = 2 := by kernel_rfl
theorem cells_lpg : Tryd.prog.cellsOf 41 = 6 := by kernel_rfl
theorem cells_sls : Tryd.prog.cellsOf 24 = 1 := by kernel_rfl
theorem cells_slt : Tryd.prog.cellsOf 109 = 1 := by kernel_rfl
theorem cells_sll : Tryd.prog.cellsOf 39 = 1 := by kernel_rfl
theorem tr_strs {fuel : Nat} {cs : List Value} {y : DataW H × List MemPlace} (hsp : ∀ b, spare b = true) (h : DataW.trod enc Tryd.prog w base spare held fuel 24 cs = some y) :
    ∃ (A : Option Addr) (cap : Nat) (W : List (List UInt8)), cs = [.slice A W.length cap] ∧ W.length ≤ cap ∧ Sto w A W.length W := by
  rcases open_slice Tryd.underlying24 h with ⟨e, _⟩ | ⟨a, len, cap, m, n, D, Pl, e, hb, hl, hm, hmm, _, hi⟩
  · exact ⟨none, 0, [], e, Nat.le_refl _, rfl, by simp, fun k hk => by simp at hk, fun x hx => by simp at hx⟩
  · rw [hsp, if_pos rfl] at hmm
    have hlm : len ≤ m := by omega
    have key : ∀ i : Nat, ∃ x : List UInt8, i < len → w.cell? (a.add i) = some (.string (tx x)) ∧ x.length ≤ maxLen := by
      intro i
      by_cases hlt : i < len
      · obtain ⟨cs', hc, ht⟩ := hi i (by omega)
        rw [cells_str, Nat.mul_one] at hc
        obtain ⟨_, hcl, hat⟩ := World.cells?_some hc
        obtain ⟨s, es, _, rs⟩ := DataW.trod_string Tryd.underlying9 ht
        have h0 := hat 0 (by omega)
        rw [Go.Deep.add_add] at h0
        refine ⟨s.data.toList, fun _ => ⟨?_, rs⟩⟩
        rw [show i = i + 0 by omega, h0, es]; rfl
      · exact ⟨[], fun hh => absurd hh hlt⟩
    obtain ⟨f, hf⟩ := Classical.axiomOfChoice key
    have hkx : ∀ j, j < len → wx ((List.range len).map f) j = f j := by
      intro j hj
      unfold wx
      rw [List.getD_eq_getElem?_getD]
      simp [hj]
    have hln : ((List.range len).map f).length = len := by simp
    refine ⟨some a, cap, (List.range len).map f, by rw [hln]; exact e, by rw [hln]; exact hl, ?_⟩
    rw [hln]
    refine ⟨by simp, by unfold maxLen at hm; omega, fun k hk => ?_, fun x hx => ?_⟩
    · obtain ⟨h0, _⟩ := hf k hk
      obtain ⟨b, off, spot⟩ := a
      have h00 := (hf 0 (by omega)).1
      have hspot : spot = none := by simpa [Addr.add] using World.cell?_spot h00
      subst hspot
      refine ⟨b, off, rfl, ?_⟩
      rw [Addr.add_lit] at h0; rw [h0, hkx k hk]
    · obtain ⟨i, hi', rfl⟩ := List.mem_map.1 hx
      exact (hf i (by simpa using hi')).2
theorem tr_line {n : Nat} {cs : List Value} {y : DataW H × List MemPlace} (hsp : ∀ b, spare b = true) (h : DataW.trod enc Tryd.prog w base spare held n 111 cs = some y) :
    ∃ (t : List UInt8) (A : Option Addr) (cap : Nat) (L : List Trm), cs = [.string (tx t), .slice A L.length cap] ∧ t.length ≤ maxLen ∧ Tro w A L.length L := by
  obtain ⟨xs, m, _, _, hl, hlen, hf⟩ := DataW.trod_struct Tryd.underlying111 h
  rw [cells_lln] at hl
  have h0 := hf 0 _ rfl
  have h1 := hf 1 _ rfl
  rw [List.getElem?_eq_getElem (by rw [hlen]; decide)] at h0 h1
  obtain ⟨s, es, _, rs⟩ := DataW.trod_string Tryd.underlying9 h0
  obtain ⟨A, len, cap, L, ea, _, ta⟩ := tr_terms hsp h1
  have es : (cs.drop 0).take (Tryd.prog.cellsOf 9) = [.string s] := es
  have ea : (cs.drop 1).take (Tryd.prog.cellsOf 109) = [.slice A len cap] := ea
  rw [cells_str] at es; rw [cells_slt] at ea
  have es := tf_one_at es; have ea := tf_one_at ea
  have hll := ta.1
  subst hll
  match cs, hl with
  | [c0, c1], _ =>
    simp at ea es
    exact ⟨s.data.toList, A, cap, L, by rw [ea, es]; rfl, rs, ta⟩
theorem tr_lines {fuel : Nat} {cs : List Value} {y : DataW H × List MemPlace} (hsp : ∀ b, spare b = true) (h : DataW.trod enc Tryd.prog w base spare held fuel 39 cs = some y) :
    ∃ (A : Option Addr) (cap : Nat) (M : List Lne), cs = [.slice A M.length cap] ∧ M.length ≤ cap ∧ Lno w A M.length M := by
  rcases open_slice Tryd.underlying39 h with ⟨e, _⟩ | ⟨a, len, cap, m, n, D, Pl, e, hb, hl, hm, hmm, _, hi⟩
  · exact ⟨none, 0, [], e, Nat.le_refl _, rfl, by simp, fun k hk => by simp at hk, fun x hx => by simp at hx⟩
  · rw [hsp, if_pos rfl] at hmm
    have hlm : len ≤ m := by omega
    have key : ∀ i : Nat, ∃ x : Lne, i < len → ∃ ta tc, w.cell? (a.add (i * 2)) = some (.string (tx x.1)) ∧ w.cell? (a.add (i * 2 + 1)) = some (.slice ta x.2.length tc) ∧ x.1.length ≤ maxLen ∧ Tro w ta x.2.length x.2 := by
      intro i
      by_cases hlt : i < len
      · obtain ⟨cs', hc, ht⟩ := hi i (by omega)
        rw [cells_lln] at hc
        obtain ⟨_, hcl, hat⟩ := World.cells?_some hc
        obtain ⟨t, A, c, L, ex, hx, hT⟩ := tr_line hsp ht
        have h0 := hat 0 (by omega)
        have h1 := hat 1 (by omega)
        rw [Go.Deep.add_add] at h0 h1
        refine ⟨(t, L), fun _ => ⟨A, c, ?_, ?_, hx, hT⟩⟩
        · rw [show i * 2 = i * 2 + 0 by omega, h0, ex]; rfl
        · rw [h1, ex]; rfl
      · exact ⟨([], []), fun hh => absurd hh hlt⟩
    obtain ⟨f, hf⟩ := Classical.axiomOfChoice key
    have hkx : ∀ j, j < len → ltx ((List.range len).map f) j = (f j).1 ∧ lrx ((List.range len).map f) j = (f j).2 := by
      intro j hj
      unfold ltx lrx
      rw [List.getD_eq_getElem?_getD]
      simp [hj]
    have hln : ((List.range len).map f).length = len := by simp
    refine ⟨some a, cap, (List.range len).map f, by rw [hln]; exact e, by rw [hln]; exact hl, ?_⟩
    rw [hln]
    refine ⟨by simp, by unfold maxLen at hm; omega, fun k hk => ?_, fun x hx => ?_⟩
    · obtain ⟨ta, tc, h0, h1, _, hT⟩ := hf k hk
      obtain ⟨b, off, spot⟩ := a
      obtain ⟨_, _, h00, _⟩ := hf 0 (by omega)
      have hspot : spot = none := by simpa [Addr.add] using World.cell?_spot h00
      subst hspot
      obtain ⟨e1, e2⟩ := hkx k hk
      refine ⟨b, off, ta, tc, rfl, ?_, ?_, ?_⟩
      · rw [Addr.add_lit] at h0; rw [h0, e1]
      · rw [Addr.add_lit] at h1
        rw [show off + k * 2 + 1 = off + (k * 2 + 1) by omega, h1, e2]
      · rw [e2]; exact hT
    · obtain ⟨i, hi', rfl⟩ := List.mem_map.1 hx
      obtain ⟨_, _, _, _, h3, _⟩ := hf i (by simpa using hi')
      exact h3
theorem tr_prog {n : Nat} {cs : List Value} {y : DataW H × List MemPlace} (hsp : ∀ b, spare b = true) (h : DataW.trod enc Tryd.prog w base spare held n 41 cs = some y) :
    ∃ p : Prg, ∃ v : Value, cs = v.cells.toList ∧ PgO w v p ∧ (∃ q, v = .agg q) := by
  obtain ⟨xs, m, _, _, hl, hlen, hf⟩ := DataW.trod_struct Tryd.underlying41 h
  rw [cells_lpg] at hl
  have h0 := hf 0 _ rfl
  have h1 := hf 1 _ rfl
  have h2 := hf 2 _ rfl
  have h3 := hf 3 _ rfl
  have h4 := hf 4 _ rfl
  have h5 := hf 5 _ rfl
  rw [List.getElem?_eq_getElem (by rw [hlen]; decide)] at h0 h1 h2 h3 h4 h5
  obtain ⟨s0, e0, _, r0⟩ := DataW.trod_string Tryd.underlying9 h0
  obtain ⟨A1, c1, W1, e1, _, t1⟩ := tr_strs hsp h1
  obtain ⟨A2, c2, W2, e2, _, t2⟩ := tr_strs hsp h2
  obtain ⟨A3, c3, W3, e3, _, t3⟩ := tr_strs hsp h3
  obtain ⟨s4, e4, _, r4⟩ := DataW.trod_string Tryd.underlying9 h4
  obtain ⟨A5, c5, M, e5, _, t5⟩ := tr_lines hsp h5
  have e0 : (cs.drop 0).take (Tryd.prog.cellsOf 9) = [.string s0] := e0
  have e1 : (cs.drop 1).take (Tryd.prog.cellsOf 24) = [.slice A1 W1.length c1] := e1
  have e2 : (cs.drop 2).take (Tryd.prog.cellsOf 24) = [.slice A2 W2.length c2] := e2
  have e3 : (cs.drop 3).take (Tryd.prog.cellsOf 24) = [.slice A3 W3.length c3] := e3
  have e4 : (cs.drop 4).take (Tryd.prog.cellsOf 9) = [.string s4] := e4
  have e5 : (cs.drop 5).take (Tryd.prog.cellsOf 39) = [.slice A5 M.length c5] := e5
  rw [cells_str] at e0 e4
  rw [cells_sls] at e1 e2 e3
  rw [cells_sll] at e5
  have e0 := tf_one_at e0; have e1 := tf_one_at e1; have e2 := tf_one_at e2; have e3 := tf_one_at e3; have e4 := tf_one_at e4; have e5 := tf_one_at e5
  match cs, hl with
  | [d0, d1, d2, d3, d4, d5], _ =>
    simp at e0 e1 e2 e3 e4 e5
    refine ⟨⟨s0.data.toList, W1, W2, W3, s4.data.toList, M⟩, .agg #[.string s0, .slice A1 W1.length c1, .slice A2 W2.length c2, .slice A3 W3.length c3, .string s4, .slice A5 M.length c5], ?_, ⟨A1, c1, A2, c2, A3, c3, A5, c5, rfl, t1, t2, t3, t5, r0, r4⟩, _, rfl⟩
    rw [e0, e1, e2, e3, e4, e5]; rfl
end
theorem open_prog {H : Type} {enc : TypeId × Value → H} {w : World} {base : Nat} {spare : Nat → Bool} {held : Bool} {r : Reach} {b0 : Nat} {v : Value} {d : DataW H} {p : List MemPlace} (hsp : ∀ b, spare b = true) (hv : Value.okWide Tryd.prog w r b0 41 v) (h : DataW.Trod enc Tryd.prog w base spare held 41 v d p) :
    ∃ q : Prg, PgO w v q := by
  obtain ⟨cs, rfl, hsz⟩ := okWide_struct Tryd.underlying41 hv
  obtain ⟨fuel, hf⟩ := h
  obtain ⟨q, u, e, ho, cu, rfl⟩ := tr_prog hsp hf
  refine ⟨q, ?_⟩
  have e2 : cs = cu := Array.toList_inj.1 (by simpa [Value.cells] using e)
  rw [e2]; exact ho
end Go.Proofs.YtokipobjpinhmaaDoor
