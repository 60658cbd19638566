/- Lists of terms that came in, opened to cells. -/
import Derived.Test.YtokipobjpinhmaaDoorPss
import Derived.Test.YtokipobjpinhmaaDoorTkO
namespace Go.Proofs.YtokipobjpinhmaaDoor
open Go.RowKit Go.ChangeShapes Go.WideShapes Go.Deep
set_option maxHeartbeats 2000000
set_option maxRecDepth 100000
set_option linter.unusedVariables false
set_option linter.unusedSimpArgs false
/-- 'the slice value (a, n, ..) of terms that came in reads as L': their names may be long -/
def Tro (w : World) (a : Option Addr) (n : Nat) (L : List Trm) : Prop :=
  L.length = n ∧ n ≤ 9223372036854775807 ∧ (∀ j, j < n → ∃ b off, a = some ⟨b, off, none⟩ ∧ w.cell? ⟨b, off + j * 3, none⟩ = some (.int .i64 (rkx L j)) ∧ w.cell? ⟨b, off + j * 3 + 1, none⟩ = some (.string (tx (rsx L j))) ∧ w.cell? ⟨b, off + j * 3 + 2, none⟩ = some (.int .i64 (rnx L j))) ∧ ∀ x ∈ L, InR x.1 ∧ x.2.1.length ≤ maxLen ∧ InR x.2.2
theorem Tro.later {w w' : World} {a : Option Addr} {n : Nat} {L : List Trm} (h : Tro w a n L) (hb : Later w w') : Tro w' a n L := by
  obtain ⟨h1, h2, h3, h4⟩ := h
  refine ⟨h1, h2, fun j hj => ?_, h4⟩
  obtain ⟨b, off, rfl, hc, hd, he⟩ := h3 j hj
  exact ⟨b, off, rfl, by rw [hb.cell (p := ⟨b, off + j * 3, none⟩) (cell_lt hc)]; exact hc, by rw [hb.cell (p := ⟨b, off + j * 3 + 1, none⟩) (cell_lt hd)]; exact hd, by rw [hb.cell (p := ⟨b, off + j * 3 + 2, none⟩) (cell_lt he)]; exact he⟩
theorem Tro.trs {w : World} {a : Option Addr} {n : Nat} {L : List Trm} (h : Tro w a n L) (hs : ∀ j, j < n → (rsx L j).length ≤ 1048576) : Trs w a n L := by
  refine ⟨h.1, h.2.1, h.2.2.1, fun x hx => ?_⟩
  obtain ⟨j, hj, rfl⟩ := List.mem_iff_getElem.1 hx
  have h1 := (h.2.2.2 _ hx)
  rw [rk_at L j hj] at h1 ⊢
  exact ⟨h1.1, hs j (by rw [← h.1]; exact hj), h1.2.2⟩
section
variable {H : Type} {enc : TypeId × Value → H} {w : World} {base : Nat} {spare : Nat → Bool} {held : Bool}
theorem cells_ltr : Tryd.prog.cellsOf 134 = 3 := by kernel_rfl
theorem tr_trm {n : Nat} {cs : List Value} {y : DataW H × List MemPlace} (h : DataW.trod enc Tryd.prog w base spare held n 134 cs = some y) :
    ∃ (k : Int) (t : List UInt8) (m : Int), cs = [.int .i64 k, .string (tx t), .int .i64 m] ∧ InR k ∧ t.length ≤ maxLen ∧ InR m := by
  obtain ⟨xs, m, _, _, hl, hlen, hf⟩ := DataW.trod_struct Tryd.underlying134 h
  rw [cells_ltr] at hl
  have h0 := hf 0 _ rfl
  have h1 := hf 1 _ rfl
  have h2 := hf 2 _ rfl
  rw [List.getElem?_eq_getElem (by rw [hlen]; decide)] at h0 h1 h2
  obtain ⟨a, ea, ra⟩ := tf_int h0
  obtain ⟨s, es, _, rs⟩ := DataW.trod_string Tryd.underlying9 h1
  obtain ⟨c, ec, rc⟩ := tf_int h2
  have ea : (cs.drop 0).take (Tryd.prog.cellsOf 2) = [.int .i64 a] := ea
  have es : (cs.drop 1).take (Tryd.prog.cellsOf 9) = [.string s] := es
  have ec : (cs.drop 2).take (Tryd.prog.cellsOf 2) = [.int .i64 c] := ec
  rw [tf_cells] at ea ec
  rw [cells_str] at es
  have ea := tf_one_at ea; have es := tf_one_at es; have ec := tf_one_at ec
  match cs, hl with
  | [c0, c1, c2], _ =>
    simp at ea es ec
    exact ⟨a, s.data.toList, c, by rw [ea, es, ec]; rfl, ra, rs, rc⟩
theorem tr_terms {fuel : Nat} {cs : List Value} {y : DataW H × List MemPlace} (hsp : ∀ b, spare b = true) (h : DataW.trod enc Tryd.prog w base spare held fuel 109 cs = some y) :
    ∃ (A : Option Addr) (len cap : Nat) (L : List Trm), cs = [.slice A len cap] ∧ len ≤ cap ∧ Tro w A len L := by
  rcases open_slice Tryd.underlying109 h with ⟨e, _⟩ | ⟨a, len, cap, m, n, D, Pl, e, hb, hl, hm, hmm, _, hi⟩
  · exact ⟨none, 0, 0, [], e, Nat.le_refl _, rfl, by omega, fun k hk => by omega, fun x hx => by simp at hx⟩
  · rw [hsp, if_pos rfl] at hmm
    have hlm : len ≤ m := by omega
    have key : ∀ i : Nat, ∃ x : Trm, i < len → w.cell? (a.add (i * 3)) = some (.int .i64 x.1) ∧ w.cell? (a.add (i * 3 + 1)) = some (.string (tx x.2.1)) ∧ w.cell? (a.add (i * 3 + 2)) = some (.int .i64 x.2.2) ∧ InR x.1 ∧ x.2.1.length ≤ maxLen ∧ InR x.2.2 := by
      intro i
      by_cases hlt : i < len
      · obtain ⟨cs', hc, ht⟩ := hi i (by omega)
        rw [cells_ltr] at hc
        obtain ⟨_, hcl, hat⟩ := World.cells?_some hc
        obtain ⟨k, t, m', ex, hk, hx, hm'⟩ := tr_trm ht
        have h0 := hat 0 (by omega)
        have h1 := hat 1 (by omega)
        have h2 := hat 2 (by omega)
        rw [Go.Deep.add_add] at h0 h1 h2
        refine ⟨(k, t, m'), fun _ => ⟨?_, ?_, ?_, hk, hx, hm'⟩⟩
        · rw [show i * 3 = i * 3 + 0 by omega, h0, ex]; rfl
        · rw [h1, ex]; rfl
        · rw [h2, ex]; rfl
      · exact ⟨(0, [], 0), fun hh => absurd hh hlt⟩
    obtain ⟨f, hf⟩ := Classical.axiomOfChoice key
    have hkx : ∀ j, j < len → rkx ((List.range len).map f) j = (f j).1 ∧ rsx ((List.range len).map f) j = (f j).2.1 ∧ rnx ((List.range len).map f) j = (f j).2.2 := by
      intro j hj
      unfold rkx rsx rnx
      rw [List.getD_eq_getElem?_getD]
      simp [hj]
    refine ⟨some a, len, cap, (List.range len).map f, e, hl, by simp, by unfold maxLen at hm; omega, fun k hk => ?_, fun x hx => ?_⟩
    · obtain ⟨h0, h1, h2, _⟩ := hf k hk
      obtain ⟨b, off, spot⟩ := a
      have h00 := (hf 0 (by omega)).1
      have hspot : spot = none := by simpa [Addr.add] using World.cell?_spot h00
      subst hspot
      obtain ⟨e1, e2, e3⟩ := hkx k hk
      refine ⟨b, off, rfl, ?_, ?_, ?_⟩
      · rw [Addr.add_lit] at h0; rw [h0, e1]
      · rw [Addr.add_lit] at h1
        rw [show off + k * 3 + 1 = off + (k * 3 + 1) by omega, h1, e2]
      · rw [Addr.add_lit] at h2
        rw [show off + k * 3 + 2 = off + (k * 3 + 2) by omega, h2, e3]
    · obtain ⟨i, hi', rfl⟩ := List.mem_map.1 hx
      obtain ⟨_, _, _, h2, h3, h4⟩ := hf i (by simpa using hi')
      exact ⟨h2, h3, h4⟩
end
theorem open_terms {H : Type} {enc : TypeId × Value → H} {w : World} {base : Nat} {spare : Nat → Bool} {held : Bool} {r : Reach} {b0 : Nat} {v : Value} {d : DataW H} {p : List MemPlace} (hsp : ∀ b, spare b = true) (hv : Value.okWide Tryd.prog w r b0 109 v) (h : DataW.Trod enc Tryd.prog w base spare held 109 v d p) :
    ∃ (A : Option Addr) (len cap : Nat) (L : List Trm), v = .slice A len cap ∧ len ≤ cap ∧ Tro w A len L := by
  obtain ⟨A, len, cap, rfl⟩ := okWide_slice Tryd.underlying109 hv
  obtain ⟨fuel, hf⟩ := h
  obtain ⟨A', len', cap', L, e, hl, ht⟩ := tr_terms hsp hf
  simp [Value.cells] at e
  obtain ⟨rfl, rfl, rfl⟩ := e
  exact ⟨_, _, _, L, rfl, hl, ht⟩
end Go.Proofs.YtokipobjpinhmaaDoor
