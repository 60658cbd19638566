/- Traffic that came in, opened to cells. -/
import Derived.Test.YtokipobjpinhmaaDoorSl
import Derived.Deep.Slices
import Derived.ChangeSame
namespace Go.Proofs.YtokipobjpinhmaaDoor
open Go.RowKit Go.ChangeShapes Go.WideShapes Go.Deep
set_option maxHeartbeats 2000000
set_option maxRecDepth 100000
set_option linter.unusedVariables false
set_option linter.unusedSimpArgs false
section
variable {H : Type} {enc : TypeId × Value → H} {w : World} {base : Nat} {spare : Nat → Bool} {held : Bool}
theorem tf_one_at {cs : List Value} {o : Nat} {v : Value} (h : (cs.drop o).take 1 = [v]) : cs[o]? = some v := by
  have := congrArg (fun l => l[0]?) h
  simpa using this
theorem tf_cells : Tryd.prog.cellsOf 2 = 1 := by kernel_rfl
theorem tf_wf {a : Int} (h : (Lit.int .i64 a).wf = true) : InR a := by
  simpa [InR, Lit.wf, IntKind.min, IntKind.max, IntKind.signed, IntKind.bits] using h
theorem tf_int {n : Nat} {cs : List Value} {y : DataW H × List MemPlace} (h : DataW.trod enc Tryd.prog w base spare held n 2 cs = some y) : ∃ a : Int, cs = [.int .i64 a] ∧ InR a := by
  obtain ⟨a, e, _, hw⟩ := DataW.trod_int Tryd.underlying2 h
  exact ⟨a, e, tf_wf hw⟩
/-- a slice of integers that came in -/
theorem tf_ints {fuel : Nat} {cs : List Value} {y : DataW H × List MemPlace} (hsp : ∀ b, spare b = true) (h : DataW.trod enc Tryd.prog w base spare held fuel 36 cs = some y) :
    ∃ (A : Option Addr) (len cap : Nat) (L : List Int), cs = [.slice A len cap] ∧ len ≤ cap ∧ Sl w A len L := by
  rcases open_slice Tryd.underlying36 h with ⟨e, _⟩ | ⟨a, len, cap, m, n, D, Pl, e, hb, hl, hm, hmm, _, hi⟩
  · exact ⟨none, 0, 0, [], e, Nat.le_refl _, rfl, by omega, fun k hk => by omega, fun x hx => by simp at hx⟩
  · rw [hsp, if_pos rfl] at hmm
    have hlm : len ≤ m := by omega
    have key : ∀ i : Nat, ∃ x : Int, i < len → w.cell? (a.add i) = some (.int .i64 x) ∧ InR x := by
      intro i
      by_cases hlt : i < len
      · obtain ⟨cs', hc, ht⟩ := hi i (by omega)
        rw [tf_cells] at hc
        obtain ⟨_, hcl, hat⟩ := World.cells?_some hc
        obtain ⟨x, ex, hx⟩ := tf_int ht
        refine ⟨x, fun _ => ⟨?_, hx⟩⟩
        have h1 := hat 0 (by omega)
        rw [Go.Deep.add_add] at h1
        rw [show i = i * 1 + 0 by omega, h1, ex]; rfl
      · exact ⟨0, fun hh => absurd hh hlt⟩
    obtain ⟨f, hf⟩ := Classical.axiomOfChoice key
    refine ⟨some a, len, cap, (List.range len).map f, e, hl, by simp, by unfold maxLen at hm; omega, fun k hk => ?_, fun x hx => ?_⟩
    · have h0 := (hf 0 (by omega)).1
      obtain ⟨b, off, spot⟩ := a
      have hspot : spot = none := by simpa [Addr.add] using World.cell?_spot h0
      subst hspot
      refine ⟨b, off, rfl, ?_⟩
      have h1 := (hf k hk).1
      rw [Addr.add_lit] at h1
      rw [h1]
      simp [gx, hk]
    · obtain ⟨i, hi', rfl⟩ := List.mem_map.1 hx
      exact (hf i (List.mem_range.1 hi')).2
end
end Go.Proofs.YtokipobjpinhmaaDoor
