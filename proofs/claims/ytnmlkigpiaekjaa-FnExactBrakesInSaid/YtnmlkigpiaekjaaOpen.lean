/- Segments and layouts that came in, opened to cells. -/
import Derived.Test.YtnmlkigpiaekjaaSgs
import Derived.Deep.Slices
import Derived.ChangeSame
namespace Go.Proofs.Ytnmlkigpiaekjaa
open Go.RowKit Go.ChangeShapes Go.WideShapes Go.Deep
set_option maxHeartbeats 2000000
set_option maxRecDepth 100000
set_option linter.unusedVariables false
set_option linter.unusedSimpArgs false
section
variable {H : Type} {enc : TypeId × Value → H} {w : World} {base : Nat} {spare : Nat → Bool} {held : Bool}
theorem one_at {cs : List Value} {o : Nat} {v : Value} (h : (cs.drop o).take 1 = [v]) : cs[o]? = some v := by
  have := congrArg (fun l => l[0]?) h
  simpa using this
theorem two_at {cs : List Value} {o : Nat} {u v : Value} (h : (cs.drop o).take 2 = [u, v]) : cs[o]? = some u ∧ cs[o + 1]? = some v := by
  have h0 := congrArg (fun l => l[0]?) h
  have h1 := congrArg (fun l => l[1]?) h
  exact ⟨by simpa using h0, by simpa using h1⟩
theorem cells_i64 : Try.prog.cellsOf 2 = 1 := by kernel_rfl
theorem cells_liv : Try.prog.cellsOf 46 = 2 := by kernel_rfl
theorem cells_lseg : Try.prog.cellsOf 116 = 7 := by kernel_rfl
theorem i64_of_wf {a : Int} (h : (Lit.int .i64 a).wf = true) : -9223372036854775808 ≤ a ∧ a ≤ 9223372036854775807 := by
  simpa [Lit.wf, IntKind.min, IntKind.max, IntKind.signed, IntKind.bits] using h
theorem fld_int {n : Nat} {cs : List Value} {y : DataW H × List MemPlace} (h : DataW.trod enc Try.prog w base spare held n 2 cs = some y) : ∃ a : Int, cs = [.int .i64 a] ∧ -9223372036854775808 ≤ a ∧ a ≤ 9223372036854775807 := by
  obtain ⟨a, e, _, hw⟩ := DataW.trod_int Try.underlying2 h
  exact ⟨a, e, i64_of_wf hw⟩
theorem fld_iv {n : Nat} {cs : List Value} {y : DataW H × List MemPlace} (h : DataW.trod enc Try.prog w base spare held n 46 cs = some y) :
    ∃ a b : Int, cs = [.int .i64 a, .int .i64 b] ∧ (-9223372036854775808 ≤ a ∧ a ≤ 9223372036854775807) ∧ (-9223372036854775808 ≤ b ∧ b ≤ 9223372036854775807) := by
  obtain ⟨xs, m, _, _, hl, hlen, hf⟩ := DataW.trod_struct Try.underlying46 h
  rw [cells_liv] at hl
  have h0 := hf 0 _ rfl
  have h1 := hf 1 _ rfl
  rw [List.getElem?_eq_getElem (by rw [hlen]; decide)] at h0 h1
  obtain ⟨a, ea, ra⟩ := fld_int h0
  obtain ⟨b, eb, rb⟩ := fld_int h1
  have ea : (cs.drop 0).take (Try.prog.cellsOf 2) = [.int .i64 a] := ea
  have eb : (cs.drop 1).take (Try.prog.cellsOf 2) = [.int .i64 b] := eb
  rw [cells_i64] at ea eb
  have ea := one_at ea; have eb := one_at eb
  match cs, hl with
  | [c0, c1], _ =>
    simp at ea eb
    exact ⟨a, b, by rw [ea, eb], ra, rb⟩
theorem fld_seg {n : Nat} {cs : List Value} {y : DataW H × List MemPlace} (h : DataW.trod enc Try.prog w base spare held n 116 cs = some y) :
    ∃ x : Sg, cs = [.int .i64 x.k, .int .i64 x.l, .int .i64 x.r, .int .i64 x.a, .int .i64 x.b, .int .i64 x.c, .int .i64 x.d] ∧ x.In := by
  obtain ⟨xs, m, _, _, hl, hlen, hf⟩ := DataW.trod_struct Try.underlying116 h
  rw [cells_lseg] at hl
  have h0 := hf 0 _ rfl
  have h1 := hf 1 _ rfl
  have h2 := hf 2 _ rfl
  have h3 := hf 3 _ rfl
  have h4 := hf 4 _ rfl
  rw [List.getElem?_eq_getElem (by rw [hlen]; decide)] at h0 h1 h2 h3 h4
  obtain ⟨k, ek, rk⟩ := fld_int h0
  obtain ⟨l, el, rl⟩ := fld_int h1
  obtain ⟨r, er, rr⟩ := fld_int h2
  obtain ⟨a, b, eab, ra, rb⟩ := fld_iv h3
  obtain ⟨c, d, ecd, rc, rd⟩ := fld_iv h4
  have ek : (cs.drop 0).take (Try.prog.cellsOf 2) = [.int .i64 k] := ek
  have el : (cs.drop 1).take (Try.prog.cellsOf 2) = [.int .i64 l] := el
  have er : (cs.drop 2).take (Try.prog.cellsOf 2) = [.int .i64 r] := er
  have eab : (cs.drop 3).take (Try.prog.cellsOf 46) = [.int .i64 a, .int .i64 b] := eab
  have ecd : (cs.drop 5).take (Try.prog.cellsOf 46) = [.int .i64 c, .int .i64 d] := ecd
  rw [cells_i64] at ek el er
  rw [cells_liv] at eab ecd
  have ek := one_at ek; have el := one_at el; have er := one_at er
  obtain ⟨ea, eb⟩ := two_at eab
  obtain ⟨ec, ed⟩ := two_at ecd
  match cs, hl with
  | [c0, c1, c2, c3, c4, c5, c6], _ =>
    simp at ek el er ea eb ec ed
    refine ⟨⟨k, l, r, a, b, c, d⟩, by rw [ek, el, er, ea, eb, ec, ed], fun j => ?_⟩
    unfold Sg.at
    split <;> assumption
/-- a segment that came in -/
theorem open_segment {r : Reach} {b0 : Nat} {v : Value} {d : DataW H} {p : List MemPlace} (hv : Value.okWide Try.prog w r b0 116 v) (h : DataW.Trod enc Try.prog w base spare held 116 v d p) :
    ∃ x : Sg, v = .agg #[.int .i64 x.k, .int .i64 x.l, .int .i64 x.r, .int .i64 x.a, .int .i64 x.b, .int .i64 x.c, .int .i64 x.d] ∧ x.In := by
  obtain ⟨cs, rfl, hsz⟩ := okWide_struct Try.underlying116 hv
  obtain ⟨fuel, hf⟩ := h
  obtain ⟨x, e, hx⟩ := fld_seg hf
  refine ⟨x, ?_, hx⟩
  have e' : cs.toList = _ := e
  rw [← Array.toArray_toList (xs := cs), e']
/-- a slice of segments that came in -/
theorem fld_segs {fuel : Nat} {cs : List Value} {y : DataW H × List MemPlace} (hsp : ∀ b, spare b = true) (h : DataW.trod enc Try.prog w base spare held fuel 43 cs = some y) :
    ∃ (A : Option Addr) (len cap : Nat) (L : List Sg), cs = [.slice A len cap] ∧ len ≤ cap ∧ Sgs w A len L := by
  rcases open_slice Try.underlying43 h with ⟨e, _⟩ | ⟨a, len, cap, m, n, D, Pl, e, hb, hl, hm, hmm, _, hi⟩
  · exact ⟨none, 0, 0, [], e, Nat.le_refl _, Sgs.nil w none⟩
  · rw [hsp, if_pos rfl] at hmm
    have hlm : len ≤ m := by omega
    have key : ∀ i : Nat, ∃ x : Sg, i < len → (∀ j, j < 7 → w.cell? (a.add (i * 7 + j)) = some (.int .i64 (x.at j))) ∧ x.In := by
      intro i
      by_cases hlt : i < len
      · obtain ⟨cs', hc, ht⟩ := hi i (by omega)
        rw [cells_lseg] at hc
        obtain ⟨_, hcl, hat⟩ := World.cells?_some hc
        obtain ⟨x, ex, hx⟩ := fld_seg ht
        refine ⟨x, fun _ => ⟨fun j hj => ?_, hx⟩⟩
        have h1 := hat j hj
        rw [Go.Deep.add_add] at h1
        rw [h1, ex]
        have hj' : j = 0 ∨ j = 1 ∨ j = 2 ∨ j = 3 ∨ j = 4 ∨ j = 5 ∨ j = 6 := by omega
        rcases hj' with rfl | rfl | rfl | rfl | rfl | rfl | rfl <;> rfl
      · exact ⟨sg0, fun hh => absurd hh hlt⟩
    obtain ⟨f, hf⟩ := Classical.axiomOfChoice key
    refine ⟨some a, len, cap, (List.range len).map f, e, hl, by simp, by unfold maxLen at hm; omega, fun k hk => ?_, fun x hx => ?_⟩
    · have h0 := (hf 0 (by omega)).1 0 (by omega)
      obtain ⟨b, off, spot⟩ := a
      have hspot : spot = none := by simpa [Addr.add] using World.cell?_spot h0
      subst hspot
      refine ⟨b, off, rfl, fun j hj => ?_⟩
      have h1 := (hf k hk).1 j hj
      rw [Addr.add_lit] at h1
      rw [show off + k * 7 + j = off + (k * 7 + j) by omega, h1]
      simp [sx, hk]
    · obtain ⟨i, hi', rfl⟩ := List.mem_map.1 hx
      exact (hf i (List.mem_range.1 hi')).2
/-- a layout that came in -/
theorem open_layout {r : Reach} {b0 : Nat} {v : Value} {d : DataW H} {p : List MemPlace} (hsp : ∀ b, spare b = true) (hv : Value.okWide Try.prog w r b0 45 v) (h : DataW.Trod enc Try.prog w base spare held 45 v d p) :
    ∃ (A : Option Addr) (len cap : Nat) (L : List Sg), v = .agg #[.slice A len cap] ∧ len ≤ cap ∧ Sgs w A len L := by
  obtain ⟨cs, rfl, hsz⟩ := okWide_struct Try.underlying45 hv
  obtain ⟨fuel, hf⟩ := h
  obtain ⟨xs, m, _, _, hl, hlen, hff⟩ := DataW.trod_struct Try.underlying45 hf
  rw [show Try.prog.cellsOf 45 = 1 by kernel_rfl] at hsz
  have h0 := hff 0 _ rfl
  rw [List.getElem?_eq_getElem (by rw [hlen]; decide)] at h0
  obtain ⟨A, len, cap, L, e, hc, hs⟩ := fld_segs hsp h0
  refine ⟨A, len, cap, L, ?_, hc, hs⟩
  have e : (cs.toList.drop 0).take (Try.prog.cellsOf 43) = [.slice A len cap] := e
  rw [show Try.prog.cellsOf 43 = 1 by kernel_rfl] at e
  have e' := one_at e
  obtain ⟨l⟩ := cs
  match l, hsz with
  | [c0], _ =>
    simp at e'
    rw [e']
end
end Go.Proofs.Ytnmlkigpiaekjaa
