/- Lists of faults and reports that came in, opened to cells. -/
import Derived.Test.YtdaihpkjnigjgaaTfO
import Derived.Test.YtdaihpkjnigjgaaWd
namespace Go.Proofs.Ytdaihpkjnigjgaa
open Go.RowKit Go.ChangeShapes Go.WideShapes Go.Deep
set_option maxHeartbeats 2000000
set_option maxRecDepth 100000
set_option linter.unusedVariables false
set_option linter.unusedSimpArgs false
section
variable {H : Type} {enc : TypeId × Value → H} {w : World} {base : Nat} {spare : Nat → Bool} {held : Bool}
theorem cells_lflt : Try.prog.cellsOf 125 = 3 := by kernel_rfl
theorem ik_flt {n : Nat} {cs : List Value} {y : DataW H × List MemPlace} (h : DataW.trod enc Try.prog w base spare held n 125 cs = some y) :
    ∃ f : Nat → Int, cs = [.int .i64 (f 0), .int .i64 (f 1), .int .i64 (f 2)] ∧ ∀ j, InR (f j) := by
  obtain ⟨xs, m, _, _, hl, hlen, hf⟩ := DataW.trod_struct Try.underlying125 h
  rw [cells_lflt] at hl
  have h0 := hf 0 _ rfl
  have h1 := hf 1 _ rfl
  have h2 := hf 2 _ rfl
  rw [List.getElem?_eq_getElem (by rw [hlen]; decide)] at h0 h1 h2
  obtain ⟨a, ea, ra⟩ := tf_int h0
  obtain ⟨b, eb, rb⟩ := tf_int h1
  obtain ⟨c, ec, rc⟩ := tf_int h2
  have ea : (cs.drop 0).take (Try.prog.cellsOf 2) = [.int .i64 a] := ea
  have eb : (cs.drop 1).take (Try.prog.cellsOf 2) = [.int .i64 b] := eb
  have ec : (cs.drop 2).take (Try.prog.cellsOf 2) = [.int .i64 c] := ec
  rw [tf_cells] at ea eb ec
  have ea := tf_one_at ea; have eb := tf_one_at eb; have ec := tf_one_at ec
  match cs, hl with
  | [c0, c1, c2], _ =>
    simp at ea eb ec
    refine ⟨fun j => if j = 0 then a else if j = 1 then b else c, by rw [ea, eb, ec]; rfl, fun j => ?_⟩
    by_cases e0 : j = 0
    · simp only [e0, if_pos]; exact ra
    · by_cases e1 : j = 1
      · simp only [e1]; exact rb
      · simp only [e0, e1, if_false]; exact rc
theorem ik_faults {fuel : Nat} {cs : List Value} {y : DataW H × List MemPlace} (hsp : ∀ b, spare b = true) (h : DataW.trod enc Try.prog w base spare held fuel 75 cs = some y) :
    ∃ (A : Option Addr) (len cap : Nat) (L : List Int), cs = [.slice A len cap] ∧ len ≤ cap ∧ Wd w A len 3 L := by
  rcases open_slice Try.underlying75 h with ⟨e, _⟩ | ⟨a, len, cap, m, n, D, Pl, e, hb, hl, hm, hmm, _, hi⟩
  · exact ⟨none, 0, 0, [], e, Nat.le_refl _, rfl, by omega, fun k hk => by omega, fun x hx => by simp at hx⟩
  · rw [hsp, if_pos rfl] at hmm
    have hlm : len ≤ m := by omega
    have key : ∀ i : Nat, ∃ f : Nat → Int, i < len → (∀ j, j < 3 → w.cell? (a.add (i * 3 + j)) = some (.int .i64 (f j))) ∧ ∀ j, InR (f j) := by
      intro i
      by_cases hlt : i < len
      · obtain ⟨cs', hc, ht⟩ := hi i (by omega)
        rw [cells_lflt] at hc
        obtain ⟨_, hcl, hat⟩ := World.cells?_some hc
        obtain ⟨f, ex, hx⟩ := ik_flt ht
        refine ⟨f, fun _ => ⟨fun j hj => ?_, hx⟩⟩
        have h1 := hat j hj
        rw [Go.Deep.add_add] at h1
        rw [h1, ex]
        have hj' : j = 0 ∨ j = 1 ∨ j = 2 := by omega
        rcases hj' with rfl | rfl | rfl <;> rfl
      · exact ⟨fun _ => 0, fun hh => absurd hh hlt⟩
    obtain ⟨f, hf⟩ := Classical.axiomOfChoice key
    refine ⟨some a, len, cap, (List.range (len * 3)).map fun j => f (j / 3) (j % 3), e, hl, by simp, by unfold maxLen at hm; omega, fun k hk => ?_, fun x hx => ?_⟩
    · have hq : k / 3 < len := by omega
      have h00 := (hf 0 (by omega)).1 0 (by omega)
      obtain ⟨b, off, spot⟩ := a
      have hspot : spot = none := by simpa [Addr.add] using World.cell?_spot h00
      subst hspot
      have h0 := (hf (k / 3) hq).1 (k % 3) (by omega)
      refine ⟨b, off, rfl, ?_⟩
      rw [Addr.add_lit, show k / 3 * 3 + k % 3 = k by omega] at h0
      rw [h0, gx_of _ _ (by simpa using hk)]
      simp
    · obtain ⟨i, hi', rfl⟩ := List.mem_map.1 hx
      have := List.mem_range.1 hi'
      exact (hf (i / 3) (by omega)).2 _
/-- a list of faults that came in -/
theorem open_faults {r : Reach} {b0 : Nat} {v : Value} {d : DataW H} {p : List MemPlace} (hsp : ∀ b, spare b = true) (hv : Value.okWide Try.prog w r b0 75 v) (h : DataW.Trod enc Try.prog w base spare held 75 v d p) :
    ∃ (A : Option Addr) (len cap : Nat) (L : List Int), v = .slice A len cap ∧ len ≤ cap ∧ Wd w A len 3 L := by
  obtain ⟨a, len, cap, rfl⟩ := okWide_slice Try.underlying75 hv
  obtain ⟨fuel, hf⟩ := h
  obtain ⟨A, len', cap', L, e, hc, hs⟩ := ik_faults hsp hf
  simp [Value.cells] at e
  obtain ⟨rfl, rfl, rfl⟩ := e
  exact ⟨_, _, _, L, rfl, hc, hs⟩
/-- a report that came in -/
theorem open_report {r : Reach} {b0 : Nat} {v : Value} {d : DataW H} {p : List MemPlace} (hsp : ∀ b, spare b = true) (hv : Value.okWide Try.prog w r b0 83 v) (h : DataW.Trod enc Try.prog w base spare held 83 v d p) :
    ∃ (A1 : Option Addr) (n1 c1 : Nat) (L1 : List Int) (A2 : Option Addr) (n2 c2 : Nat) (L2 : List Int), v = .agg #[.slice A1 n1 c1, .slice A2 n2 c2] ∧ n1 ≤ c1 ∧ Sl w A1 n1 L1 ∧ n2 ≤ c2 ∧ Sl w A2 n2 L2 := by
  obtain ⟨cs, rfl, hsz⟩ := okWide_struct Try.underlying83 hv
  obtain ⟨fuel, hf⟩ := h
  obtain ⟨xs, m, _, _, hl, hlen, hff⟩ := DataW.trod_struct Try.underlying83 hf
  rw [show Try.prog.cellsOf 83 = 2 by kernel_rfl] at hsz
  have h0 := hff 0 _ rfl
  have h1 := hff 1 _ rfl
  rw [List.getElem?_eq_getElem (by rw [hlen]; decide)] at h0 h1
  obtain ⟨A1, n1, c1, L1, e1, hc1, hs1⟩ := tf_ints hsp h0
  obtain ⟨A2, n2, c2, L2, e2, hc2, hs2⟩ := tf_ints hsp h1
  refine ⟨A1, n1, c1, L1, A2, n2, c2, L2, ?_, hc1, hs1, hc2, hs2⟩
  have e1 : (cs.toList.drop 0).take (Try.prog.cellsOf 24) = [.slice A1 n1 c1] := e1
  have e2 : (cs.toList.drop 1).take (Try.prog.cellsOf 24) = [.slice A2 n2 c2] := e2
  rw [show Try.prog.cellsOf 24 = 1 by kernel_rfl] at e1 e2
  have e1 := tf_one_at e1
  have e2 := tf_one_at e2
  obtain ⟨l⟩ := cs
  match l, hsz with
  | [c0, c1], _ =>
    simp at e1 e2
    rw [e1, e2]
end
end Go.Proofs.Ytdaihpkjnigjgaa
