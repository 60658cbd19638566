/- Tokens, and lists of them, that came in, opened to cells. -/
import Derived.Test.YtpeebgkgccacbaaDoorTks
import Derived.Test.YtpeebgkgccacbaaDoorTfO
namespace Go.Proofs.YtpeebgkgccacbaaDoor
open Go.RowKit Go.ChangeShapes Go.WideShapes Go.Deep
set_option maxHeartbeats 2000000
set_option maxRecDepth 100000
set_option linter.unusedVariables false
set_option linter.unusedSimpArgs false
/-- 'the slice value (a, n, ..) of tokens that came in reads as L': their texts may be long -/
def Tko (w : World) (a : Option Addr) (n : Nat) (L : List Tkn) : Prop :=
  L.length = n ∧ n ≤ 9223372036854775807 ∧ (∀ j, j < n → ∃ b off, a = some ⟨b, off, none⟩ ∧ w.cell? ⟨b, off + j * 2, none⟩ = some (.int .i64 (tkx L j)) ∧ w.cell? ⟨b, off + j * 2 + 1, none⟩ = some (.string (tx (tsx L j)))) ∧ ∀ x ∈ L, InR x.1 ∧ x.2.length ≤ maxLen
theorem Tko.later {w w' : World} {a : Option Addr} {n : Nat} {L : List Tkn} (h : Tko w a n L) (hb : Later w w') : Tko w' a n L := by
  obtain ⟨h1, h2, h3, h4⟩ := h
  refine ⟨h1, h2, fun j hj => ?_, h4⟩
  obtain ⟨b, off, rfl, hc, hd⟩ := h3 j hj
  exact ⟨b, off, rfl, by rw [hb.cell (p := ⟨b, off + j * 2, none⟩) (cell_lt hc)]; exact hc, by rw [hb.cell (p := ⟨b, off + j * 2 + 1, none⟩) (cell_lt hd)]; exact hd⟩
theorem Tko.tks {w : World} {a : Option Addr} {n : Nat} {L : List Tkn} (h : Tko w a n L) (hs : ∀ j, j < n → (tsx L j).length ≤ 1048576) : Tks w a n L := by
  refine ⟨h.1, h.2.1, h.2.2.1, fun x hx => ?_⟩
  obtain ⟨j, hj, rfl⟩ := List.mem_iff_getElem.1 hx
  have h1 := (h.2.2.2 _ hx).1
  rw [kx_at L j hj] at h1 ⊢
  exact ⟨h1, hs j (by rw [← h.1]; exact hj)⟩
section
variable {H : Type} {enc : TypeId × Value → H} {w : World} {base : Nat} {spare : Nat → Bool} {held : Bool}
theorem cells_ltk : Tryd.prog.cellsOf 44 = 2 := by kernel_rfl
theorem cells_str : Tryd.prog.cellsOf 9 = 1 := by kernel_rfl
theorem tk_tok {n : Nat} {cs : List Value} {y : DataW H × List MemPlace} (h : DataW.trod enc Tryd.prog w base spare held n 44 cs = some y) :
    ∃ (k : Int) (t : List UInt8), cs = [.int .i64 k, .string (tx t)] ∧ InR k ∧ t.length ≤ maxLen := by
  obtain ⟨xs, m, _, _, hl, hlen, hf⟩ := DataW.trod_struct Tryd.underlying44 h
  rw [cells_ltk] at hl
  have h0 := hf 0 _ rfl
  have h1 := hf 1 _ rfl
  rw [List.getElem?_eq_getElem (by rw [hlen]; decide)] at h0 h1
  obtain ⟨a, ea, ra⟩ := tf_int h0
  obtain ⟨s, es, _, rs⟩ := DataW.trod_string Tryd.underlying9 h1
  have ea : (cs.drop 0).take (Tryd.prog.cellsOf 2) = [.int .i64 a] := ea
  have es : (cs.drop 1).take (Tryd.prog.cellsOf 9) = [.string s] := es
  rw [tf_cells] at ea
  rw [cells_str] at es
  have ea := tf_one_at ea; have es := tf_one_at es
  match cs, hl with
  | [c0, c1], _ =>
    simp at ea es
    exact ⟨a, s.data.toList, by rw [ea, es]; rfl, ra, rs⟩
theorem tk_tokens {fuel : Nat} {cs : List Value} {y : DataW H × List MemPlace} (hsp : ∀ b, spare b = true) (h : DataW.trod enc Tryd.prog w base spare held fuel 48 cs = some y) :
    ∃ (A : Option Addr) (len cap : Nat) (L : List Tkn), cs = [.slice A len cap] ∧ len ≤ cap ∧ Tko w A len L := by
  rcases open_slice Tryd.underlying48 h with ⟨e, _⟩ | ⟨a, len, cap, m, n, D, Pl, e, hb, hl, hm, hmm, _, hi⟩
  · exact ⟨none, 0, 0, [], e, Nat.le_refl _, rfl, by omega, fun k hk => by omega, fun x hx => by simp at hx⟩
  · rw [hsp, if_pos rfl] at hmm
    have hlm : len ≤ m := by omega
    have key : ∀ i : Nat, ∃ x : Tkn, i < len → w.cell? (a.add (i * 2)) = some (.int .i64 x.1) ∧ w.cell? (a.add (i * 2 + 1)) = some (.string (tx x.2)) ∧ InR x.1 ∧ x.2.length ≤ maxLen := by
      intro i
      by_cases hlt : i < len
      · obtain ⟨cs', hc, ht⟩ := hi i (by omega)
        rw [cells_ltk] at hc
        obtain ⟨_, hcl, hat⟩ := World.cells?_some hc
        obtain ⟨k, t, ex, hk, hx⟩ := tk_tok ht
        have h0 := hat 0 (by omega)
        have h1 := hat 1 (by omega)
        rw [Go.Deep.add_add] at h0 h1
        refine ⟨(k, t), fun _ => ⟨?_, ?_, hk, hx⟩⟩
        · rw [show i * 2 = i * 2 + 0 by omega, h0, ex]; rfl
        · rw [h1, ex]; rfl
      · exact ⟨(0, []), fun hh => absurd hh hlt⟩
    obtain ⟨f, hf⟩ := Classical.axiomOfChoice key
    have hkx : ∀ j, j < len → tkx ((List.range len).map f) j = (f j).1 ∧ tsx ((List.range len).map f) j = (f j).2 := by
      intro j hj
      unfold tkx tsx
      rw [List.getD_eq_getElem?_getD]
      simp [hj]
    refine ⟨some a, len, cap, (List.range len).map f, e, hl, by simp, by unfold maxLen at hm; omega, fun k hk => ?_, fun x hx => ?_⟩
    · obtain ⟨h0, h1, _⟩ := hf k hk
      obtain ⟨b, off, spot⟩ := a
      have h00 := (hf 0 (by omega)).1
      have hspot : spot = none := by simpa [Addr.add] using World.cell?_spot h00
      subst hspot
      obtain ⟨e1, e2⟩ := hkx k hk
      refine ⟨b, off, rfl, ?_, ?_⟩
      · rw [Addr.add_lit] at h0; rw [h0, e1]
      · rw [Addr.add_lit] at h1
        rw [show off + k * 2 + 1 = off + (k * 2 + 1) by omega, h1, e2]
    · obtain ⟨i, hi', rfl⟩ := List.mem_map.1 hx
      obtain ⟨_, _, h2, h3⟩ := hf i (by simpa using hi')
      exact ⟨h2, h3⟩
end
theorem open_tokens {H : Type} {enc : TypeId × Value → H} {w : World} {base : Nat} {spare : Nat → Bool} {held : Bool} {r : Reach} {b0 : Nat} {v : Value} {d : DataW H} {p : List MemPlace} (hsp : ∀ b, spare b = true) (hv : Value.okWide Tryd.prog w r b0 48 v) (h : DataW.Trod enc Tryd.prog w base spare held 48 v d p) :
    ∃ (A : Option Addr) (len cap : Nat) (L : List Tkn), v = .slice A len cap ∧ len ≤ cap ∧ Tko w A len L := by
  obtain ⟨A, len, cap, rfl⟩ := okWide_slice Tryd.underlying48 hv
  obtain ⟨fuel, hf⟩ := h
  obtain ⟨A', len', cap', L, e, hl, ht⟩ := tk_tokens hsp hf
  simp [Value.cells] at e
  obtain ⟨rfl, rfl, rfl⟩ := e
  exact ⟨_, _, _, L, rfl, hl, ht⟩
theorem open_token {H : Type} {enc : TypeId × Value → H} {w : World} {base : Nat} {spare : Nat → Bool} {held : Bool} {r : Reach} {b0 : Nat} {v : Value} {d : DataW H} {p : List MemPlace} (hv : Value.okWide Tryd.prog w r b0 44 v) (h : DataW.Trod enc Tryd.prog w base spare held 44 v d p) :
    ∃ (k : Int) (t : List UInt8), v = .agg #[.int .i64 k, .string (tx t)] ∧ InR k ∧ t.length ≤ maxLen := by
  obtain ⟨cs, rfl, hsz⟩ := okWide_struct Tryd.underlying44 hv
  obtain ⟨fuel, hf⟩ := h
  obtain ⟨k, t, e, hk, ht⟩ := tk_tok hf
  refine ⟨k, t, ?_, hk, ht⟩
  have e2 : cs.toList = [.int .i64 k, .string (tx t)] := by simpa [Value.cells] using e
  have e3 : cs = #[.int .i64 k, .string (tx t)] := Array.toList_inj.1 e2
  rw [e3]
end Go.Proofs.YtpeebgkgccacbaaDoor
