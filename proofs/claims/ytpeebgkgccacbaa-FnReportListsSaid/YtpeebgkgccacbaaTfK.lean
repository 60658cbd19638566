/- Contracts of chapter 10: moves, of the program. -/
import Derived.Test.YtpeebgkgccacbaaTfJ
import Derived.Test.YtpeebgkgccacbaaApp
import Derived.Laws.CopyOwn
import Derived.Deep.RegionLaw
import Derived.Deep.DeepMust
import Derived.StillTailTactics
namespace Go.Proofs.Ytpeebgkgccacbaa
open Go.RowKit
set_option maxHeartbeats 4000000
set_option linter.unusedVariables false
set_option linter.unusedSimpArgs false
theorem tf_size : (Try.prog.info? 2).map (·.size) = some 1 := by kernel_rfl
/-- a traffic of the call's own in a box -/
def TBox (W : World) (base p g n : Nat) (B : Int) (l : List Int) : Prop :=
  base ≤ p ∧ p < W.heap.size ∧ p ≠ g ∧ W.cell? ⟨p, 0, none⟩ = some (.int .i64 B) ∧ W.cell? ⟨p, 1, none⟩ = some (.slice (some ⟨g, 0, none⟩) n n) ∧ Own W base (.slice (some ⟨g, 0, none⟩) n n) l ∧ l.length = n
theorem TBox.later {W W1 : World} {base p g n : Nat} {B : Int} {l : List Int} (h : TBox W base p g n B l) (k : Later W W1) : TBox W1 base p g n B l := by
  obtain ⟨h1, h2, h3, h4, h5, h6, h7⟩ := h
  exact ⟨h1, Nat.lt_of_lt_of_le h2 k.size, h3, by rw [k.cell (p := ⟨p, 0, none⟩) h2]; exact h4, by rw [k.cell (p := ⟨p, 1, none⟩) h2]; exact h5, tf_lat h6 k, h7⟩
theorem TBox.mono {W : World} {b1 b2 p g n : Nat} {B : Int} {l : List Int} (h : TBox W b1 p g n B l) (hb : b2 ≤ b1) : TBox W b2 p g n B l := by
  obtain ⟨h1, h2, h3, h4, h5, h6, h7⟩ := h
  exact ⟨by omega, h2, h3, h4, h5, tf_mono h6 hb, h7⟩
theorem made_row {w2 : World} {base g n : Nat} (h : w2.ownsRow base 2 1 (.slice (some ⟨g, 0, none⟩) n n) n (madeCells (Value.int .i64 0).cells (n * 1)).toList) :
    Hid (w2.heap[g]? = some (.cells (List.replicate n (Value.int .i64 0)).toArray 2 (0, 0))) ∧ base ≤ g := by
  rcases h.2 with ⟨e, _⟩ | ⟨g', c', cur, e, hb, hg, _, _, hsz, hcur⟩
  · cases e
  · cases e
    have hcs : cur.toList = List.replicate n (Value.int .i64 0) := by
      have h1 := hcur
      rw [List.take_of_length_le (by simp; omega)] at h1
      rw [h1]; have := toList_madeCells_one (.int .i64 0) n; simpa [Value.cells] using this
    refine ⟨Lib.hid ?_, hb⟩
    rw [← hcs]
    simpa using hg
/-- a row that is known whole is of the call's own -/
theorem own_row {w : World} {base g n : Nat} {l : List Int} (hb : base ≤ g) (hg : w.heap[g]? = some (.cells (l.map (Value.int .i64)).toArray 2 (0, 0))) (hl : l.length = n) (hn : n ≤ 1000) (hr : ∀ x ∈ l, InR x) : Own w base (.slice (some ⟨g, 0, none⟩) n n) l := by
  subst hl
  refine ⟨⟨by simp, .inr ⟨g, l.length, (l.map (Value.int .i64)).toArray, rfl, hb, hg, Nat.le_refl _, by unfold maxLen; omega, by simp, by simp [List.take_of_length_le]⟩⟩, hr⟩
theorem splice_all {l : List Int} {n : Nat} (hl : l.length = n) : splice (List.replicate n (Value.int .i64 0)) 0 (l.map (Value.int .i64)) = l.map (Value.int .i64) := by
  unfold splice; simp [List.drop_eq_nil_of_le, hl]
theorem copy_new {ops : Array Oper} {rest : List Oper} {o : Oper} {a : Act} {Q : Exit → Act → World → Prop} {w2 : World} (hgd : o.guard = none) (d s : Operand) (dT sT : TypeId)
    (ho : o.op = .call { callee := .builtin .copy, args := #[d, s], argTypes := #[dT, sT] }) (hu : Try.prog.underlying dT = some (.slice 2)) (g n cap b off : Nat) (l : List Int) (hd : a.eval d = .slice (some ⟨g, 0, none⟩) n n) (hs : a.eval s = .slice (some ⟨b, off, none⟩) n cap)
    (hg : w2.heap[g]? = some (.cells (List.replicate n (Value.int .i64 0)).toArray 2 (0, 0))) (hsl : Sl w2 (some ⟨b, off, none⟩) n l) (hn : n ≤ 1000)
    (h : ∀ w', Own w' g (.slice (some ⟨g, 0, none⟩) n n) l → Below g w2 w' → wpList Try.prog ops Q rest (a.put o.dst (goInt n)) w') : wpList Try.prog ops Q (o :: rest) a w2 := by
  have hl := hsl.1
  have hcl : (l.map (Value.int .i64)).length = n := by rw [List.length_map]; exact hl
  refine wpList_copy_splice hgd d s _ _ ho 2 hu tf_size _ _ n n n cap hd hs g 0 (List.replicate n (Value.int .i64 0)) 2 hg (l.map (Value.int .i64)) (by rw [hcl]; simp) (fun _ => ⟨rfl, _, rfl, cells_of_sl (by rw [hl]; exact hsl)⟩) (by rw [hcl]; simp) (by intro v hv; obtain ⟨x, _, rfl⟩ := List.mem_map.1 hv; rfl) g w2 (Below.refl _ _) (Nat.le_refl _) ?_
  intro w3 hg3 hb3
  rw [hcl]
  refine h w3 (own_row (Nat.le_refl _) ?_ hl hn hsl.2.2.2) hb3
  have := hg3.out
  rw [splice_all hl] at this
  exact this
/-- a new traffic in a box of its own -/
def NewBox (w : World) (n : Nat) (B : Int) (l : List Int) (e : Ending) (w' : World) : Prop := ∃ p g, e = .returned (.pointer (some ⟨p, 0, none⟩)) ∧ TBox w' w.heap.size p g n B l ∧ Later w w'
theorem tbox_put {W : World} {base p g n : Nat} {B : Int} {l : List Int} (h : TBox W base p g n B l) (k : Nat) (y : Int) (hy : InR y) : TBox (W.setCell ⟨g, k, none⟩ (.int .i64 y)) base p g n B (l.set k y) ∧ W.grownBy (W.setCell ⟨g, k, none⟩ (.int .i64 y)) (some g) := by
  obtain ⟨h1, h2, h3, h4, h5, h6, h7⟩ := h
  obtain ⟨r1, r2⟩ := own_put h6 h7 k y hy
  exact ⟨⟨h1, by rw [World.size_setCell]; exact h2, h3, r2.cell h4 (by simpa using h3), r2.cell h5 (by simpa using h3), r1, by simpa using h7⟩, r2⟩
theorem i_placeQ (b p : Int) (w : World) (hb : -1000000000000000000 ≤ b) (hb2 : b ≤ 1000000000000000000) (hp : 0 ≤ p) (hp2 : p ≤ 2) : Calls Try.prog 42 #[.int .i64 b, .int .i64 p] w fun e w' => e = .returned (.int .i64 (3 * b + p)) ∧ w' = w :=
  (i_placeIn b p w hb hb2 hp hp2).mono fun _ _ h => ⟨h.1, h.2.symm⟩
theorem i_placeR (b : Int) (w : World) (hb : -1000000000000000000 ≤ b) (hb2 : b ≤ 1000000000000000000) : Calls Try.prog 42 #[.int .i64 b, .int .i64 0] w fun e w' => e = .returned (.int .i64 (3 * b)) ∧ w' = w :=
  (i_placeIn b 0 w hb hb2 (by omega) (by omega)).mono fun _ _ h => ⟨by rw [h.1, Int.add_zero], h.2.symm⟩
/-- a new traffic, handed back -/
def NewT (w : World) (B : Int) (l : List Int) (e : Ending) (w' : World) : Prop := ∃ v, e = .returned (.agg #[.int .i64 B, v]) ∧ Own w' w.heap.size v l ∧ Later w w'
def NewTC (w : World) (B : Int) (l : List Int) (c : Int) (e : Ending) (w' : World) : Prop := ∃ v, e = .returned (.tuple #[.agg #[.int .i64 B, v], .int .i64 c]) ∧ Own w' w.heap.size v l ∧ Later w w'
/-- a result's cells written -/
theorem put_res {w w2 : World} {R : Nat} (hR : w.heap.size ≤ R) (h : Later w w2) {u0 u1 : Value} : Later w ((w2.setCell ⟨R, 0, none⟩ u0).setCell ⟨R, 1, none⟩ u1) :=
  (h.setCell (p := ⟨R, 0, none⟩) hR u0).setCell (p := ⟨R, 1, none⟩) hR u1
theorem own_res {w2 : World} {base R : Nat} {v : Value} {l : List Int} (h : Own w2 base v l) (hR : R < base) {u0 u1 : Value} : Own ((w2.setCell ⟨R, 0, none⟩ u0).setCell ⟨R, 1, none⟩ u1) base v l :=
  (h.kept (grown_set _ _ _ _) (fun k e => by cases e; exact hR)).kept (grown_set _ _ _ _) (fun k e => by cases e; exact hR)
theorem thE_ok {B : Int} {l : List Int} {t : Int} (h0 : thE B l t = 0) : tfB B l = true ∧ hasT l t = true := by
  unfold thE at h0
  cases hv : tfB B l
  · rw [hv] at h0; simp at h0
  · cases hk : hasT l t
    · rw [hv, hk] at h0; simp at h0
    · exact ⟨rfl, rfl⟩
def mtV (B : Int) (l : List Int) (t : Int) : List Int := if thE B l t = 0 then mvL B l t.toNat else []
def mtB (B : Int) (l : List Int) (t : Int) : Int := if thE B l t = 0 then B else 0
end Go.Proofs.Ytpeebgkgccacbaa
