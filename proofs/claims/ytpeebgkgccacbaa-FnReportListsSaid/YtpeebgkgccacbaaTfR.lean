/- Contracts of chapter 10: the model's runs of moves. -/
import Derived.Test.YtpeebgkgccacbaaTfV
namespace Go.Proofs.Ytpeebgkgccacbaa
open Go.RowKit
set_option maxHeartbeats 4000000
set_option maxRecDepth 100000
set_option linter.unusedVariables false
set_option linter.unusedSimpArgs false
theorem rnE_1 {B : Int} {l ts : List Int} (h : tfB B l = false) : rnE B l ts = 1 := by unfold rnE; rw [h]; rfl
theorem rnE_3 {B : Int} {l ts : List Int} (h : tfB B l = true) (k : ¬ ts.length ≤ 200) : rnE B l ts = 3 := by unfold rnE; rw [h, if_pos rfl, if_neg k]
theorem rnE_2 {B : Int} {l ts : List Int} (h : tfB B l = true) (k : ts.length ≤ 200) (q : ts.all (hasT l) = false) : rnE B l ts = 2 := by unfold rnE; rw [h, if_pos rfl, if_pos k, q]; rfl
theorem mwE_0 {B : Int} {l ts : List Int} (h : tfB B l = true) (k : ts.length ≤ 200) (q : ts.all (hasT l) = true) : mwE B l ts = 0 := by unfold mwE; rw [h, if_pos rfl, if_pos k, q]; rfl
/-- a traffic in a box of the call's own that is written again and again -/
def OBox (W : World) (base o g n c : Nat) (B : Int) (l : List Int) : Prop :=
  base ≤ o ∧ o < W.heap.size ∧ o ≠ g ∧ W.cell? ⟨o, 0, none⟩ = some (.int .i64 B) ∧ W.cell? ⟨o, 1, none⟩ = some (.slice (some ⟨g, 0, none⟩) n c) ∧ W.frozen? ⟨o, 0, none⟩ = false ∧ W.frozen? ⟨o, 1, none⟩ = false ∧ Own W base (.slice (some ⟨g, 0, none⟩) n c) l ∧ l.length = n
def RSt (w W : World) (R o g n c : Nat) (B : Int) (l : List Int) : Prop :=
  OBox W (R + 1) o g n c B l ∧ W.cell? ⟨R, 0, none⟩ = some (.int .i64 0) ∧ W.cell? ⟨R, 1, none⟩ = some (.slice none 0 0) ∧ W.frozen? ⟨R, 0, none⟩ = false ∧ W.frozen? ⟨R, 1, none⟩ = false ∧ Later w W ∧ w.heap.size ≤ R
theorem RSt.later {w W W1 : World} {R o g n c : Nat} {B : Int} {l : List Int} (h : RSt w W R o g n c B l) (k : Later W W1) : RSt w W1 R o g n c B l := by
  obtain ⟨⟨h1, h2, h3, h4, h5, h6, h7, h8, h9⟩, k1, k2, k3, k4, k5, k6⟩ := h
  have hR := cell_lt k1
  exact ⟨⟨h1, Nat.lt_of_lt_of_le h2 k.size, h3, by rw [k.cell (p := ⟨o, 0, none⟩) h2]; exact h4, by rw [k.cell (p := ⟨o, 1, none⟩) h2]; exact h5, by rw [Below.frozen (p := ⟨o, 0, none⟩) k h2]; exact h6, by rw [Below.frozen (p := ⟨o, 1, none⟩) k h2]; exact h7, tf_lat h8 k, h9⟩,
    by rw [k.cell (p := ⟨R, 0, none⟩) hR]; exact k1, by rw [k.cell (p := ⟨R, 1, none⟩) hR]; exact k2, by rw [Below.frozen (p := ⟨R, 0, none⟩) k hR]; exact k3, by rw [Below.frozen (p := ⟨R, 1, none⟩) k hR]; exact k4, k5.trans k, k6⟩
/-- the box is written -/
theorem RSt.put {w W W1 : World} {R o g n c g2 c2 : Nat} {B : Int} {l l2 : List Int} (h : RSt w W R o g n c B l) (k : Later W W1) (ho : Own W1 W.heap.size (.slice (some ⟨g2, 0, none⟩) n c2) l2) (hl : l2.length = n) :
    RSt w ((W1.setCell ⟨o, 0, none⟩ (.int .i64 B)).setCell ⟨o, 1, none⟩ (.slice (some ⟨g2, 0, none⟩) n c2)) R o g2 n c2 B l2 := by
  have ho2 := h.1.2.1
  obtain ⟨⟨h1, h2, h3, h4, h5, h6, h7, h8, h9⟩, k1, k2, k3, k4, k5, k6⟩ := h.later k
  have hg := (ho.lt g2 rfl).1
  have e1 : (W1.setCell ⟨o, 0, none⟩ (.int .i64 B)).cell? ⟨o, 0, none⟩ = some (.int .i64 B) := World.cell?_setCell_same _ _ _ h4
  have e2 : (W1.setCell ⟨o, 0, none⟩ (.int .i64 B)).cell? ⟨o, 1, none⟩ = some (.slice (some ⟨g, 0, none⟩) n c) := by rw [World.cell?_setCell_other _ _ _ _ (by simp)]; exact h5
  have f1 : ((W1.setCell ⟨o, 0, none⟩ (.int .i64 B)).setCell ⟨o, 1, none⟩ (.slice (some ⟨g2, 0, none⟩) n c2)).cell? ⟨o, 0, none⟩ = some (.int .i64 B) := by rw [World.cell?_setCell_other _ _ _ _ (by simp)]; exact e1
  have f2 := World.cell?_setCell_same (W1.setCell ⟨o, 0, none⟩ (.int .i64 B)) ⟨o, 1, none⟩ (.slice (some ⟨g2, 0, none⟩) n c2) e2
  refine ⟨⟨h1, by simpa using h2, by omega, f1, f2, by simpa using h6, by simpa using h7, tf_mono (own_res ho ho2) (by omega), hl⟩, ?_, ?_, by simpa using k3, by simpa using k4, put_res (by omega) k5, k6⟩
  · rw [World.cell?_setCell_far _ _ _ _ (by show o ≠ R; omega), World.cell?_setCell_far _ _ _ _ (by show o ≠ R; omega)]; exact k1
  · rw [World.cell?_setCell_far _ _ _ _ (by show o ≠ R; omega), World.cell?_setCell_far _ _ _ _ (by show o ≠ R; omega)]; exact k2
/-- the two ways in which the box may be made -/
theorem rst_A {w wr w3 : World} {R g n c : Nat} {B : Int} {l : List Int} {T : TypeId} (hw : Later w wr) (hR : w.heap.size ≤ R) (r0 : wr.cell? ⟨R, 0, none⟩ = some (.int .i64 0)) (r1 : wr.cell? ⟨R, 1, none⟩ = some (.slice none 0 0)) (r2 : wr.frozen? ⟨R, 0, none⟩ = false) (r3 : wr.frozen? ⟨R, 1, none⟩ = false)
    (h : Later wr.drew w3) (ho : Own w3 wr.drew.heap.size (.slice (some ⟨g, 0, none⟩) n c) l) (hl : l.length = n) : RSt w (w3.alloc (.cells #[.int .i64 B, .slice (some ⟨g, 0, none⟩) n c] T)) R w3.heap.size g n c B l := by
  have h := later_undrew h
  have ho : Own w3 wr.heap.size (.slice (some ⟨g, 0, none⟩) n c) l := ho
  have hA : Later wr (w3.alloc (.cells #[.int .i64 B, .slice (some ⟨g, 0, none⟩) n c] T)) := h.alloc _
  have hb := cell_lt r0
  have hg := (ho.lt g rfl)
  have hg2 : g < w3.heap.size := hg.2
  have hs := h.size
  refine ⟨⟨by omega, by simp, by omega, by simp, by simp, by simp, by simp, tf_mono (ho.alloc _) (by omega), hl⟩, ?_, ?_, ?_, ?_, hw.trans hA, hR⟩
  · rw [hA.cell (p := ⟨R, 0, none⟩) hb]; exact r0
  · rw [hA.cell (p := ⟨R, 1, none⟩) hb]; exact r1
  · rw [Below.frozen (p := ⟨R, 0, none⟩) hA hb]; exact r2
  · rw [Below.frozen (p := ⟨R, 1, none⟩) hA hb]; exact r3
theorem rst_B {w wr w3 : World} {R g n c : Nat} {B : Int} {l : List Int} {T : TypeId} (hw : Later w wr) (hR : w.heap.size ≤ R) (r0 : wr.cell? ⟨R, 0, none⟩ = some (.int .i64 0)) (r1 : wr.cell? ⟨R, 1, none⟩ = some (.slice none 0 0)) (r2 : wr.frozen? ⟨R, 0, none⟩ = false) (r3 : wr.frozen? ⟨R, 1, none⟩ = false)
    (h : Later (wr.alloc (.cells #[.int .i64 0, .slice none 0 0] T)).drew w3) (ho : Own w3 (wr.alloc (.cells #[.int .i64 0, .slice none 0 0] T)).drew.heap.size (.slice (some ⟨g, 0, none⟩) n c) l) (hl : l.length = n) :
    RSt w ((w3.setCell ⟨wr.heap.size, 0, none⟩ (.int .i64 B)).setCell ⟨wr.heap.size, 1, none⟩ (.slice (some ⟨g, 0, none⟩) n c)) R wr.heap.size g n c B l := by
  have h := later_undrew h
  have ho : Own w3 (wr.alloc (.cells #[.int .i64 0, .slice none 0 0] T)).heap.size (.slice (some ⟨g, 0, none⟩) n c) l := ho
  rw [World.size_alloc] at ho
  have hA : Later wr w3 := ((Later.refl wr).alloc _).trans h
  have hb := cell_lt r0
  have hg : wr.heap.size + 1 ≤ g := (ho.lt g rfl).1
  have hs := h.size
  rw [World.size_alloc] at hs
  have n0 : w3.cell? ⟨wr.heap.size, 0, none⟩ = some (.int .i64 0) := by rw [h.cell (p := ⟨wr.heap.size, 0, none⟩) (by simp)]; simp
  have n1 : w3.cell? ⟨wr.heap.size, 1, none⟩ = some (.slice none 0 0) := by rw [h.cell (p := ⟨wr.heap.size, 1, none⟩) (by simp)]; simp
  have n2 : w3.frozen? ⟨wr.heap.size, 0, none⟩ = false := by rw [Below.frozen (p := ⟨wr.heap.size, 0, none⟩) h (by simp)]; simp
  have n3 : w3.frozen? ⟨wr.heap.size, 1, none⟩ = false := by rw [Below.frozen (p := ⟨wr.heap.size, 1, none⟩) h (by simp)]; simp
  have e1 : (w3.setCell ⟨wr.heap.size, 0, none⟩ (.int .i64 B)).cell? ⟨wr.heap.size, 0, none⟩ = some (.int .i64 B) := World.cell?_setCell_same _ _ _ n0
  have e2 : (w3.setCell ⟨wr.heap.size, 0, none⟩ (.int .i64 B)).cell? ⟨wr.heap.size, 1, none⟩ = some (.slice none 0 0) := by rw [World.cell?_setCell_other _ _ _ _ (by simp)]; exact n1
  have f1 : ((w3.setCell ⟨wr.heap.size, 0, none⟩ (.int .i64 B)).setCell ⟨wr.heap.size, 1, none⟩ (.slice (some ⟨g, 0, none⟩) n c)).cell? ⟨wr.heap.size, 0, none⟩ = some (.int .i64 B) := by rw [World.cell?_setCell_other _ _ _ _ (by simp)]; exact e1
  have f2 := World.cell?_setCell_same (w3.setCell ⟨wr.heap.size, 0, none⟩ (.int .i64 B)) ⟨wr.heap.size, 1, none⟩ (.slice (some ⟨g, 0, none⟩) n c) e2
  refine ⟨⟨by omega, by simp; omega, by omega, f1, f2, by simpa using n2, by simpa using n3, tf_mono (own_res ho (by omega)) (by omega), hl⟩, ?_, ?_, ?_, ?_, put_res (Nat.le_trans hR (Nat.le_of_lt hb)) (hw.trans hA), hR⟩
  · rw [World.cell?_setCell_far _ _ _ _ (by show wr.heap.size ≠ R; omega), World.cell?_setCell_far _ _ _ _ (by show wr.heap.size ≠ R; omega), hA.cell (p := ⟨R, 0, none⟩) hb]; exact r0
  · rw [World.cell?_setCell_far _ _ _ _ (by show wr.heap.size ≠ R; omega), World.cell?_setCell_far _ _ _ _ (by show wr.heap.size ≠ R; omega), hA.cell (p := ⟨R, 1, none⟩) hb]; exact r1
  · have := Below.frozen (p := ⟨R, 0, none⟩) hA hb; simp; rw [this]; exact r2
  · have := Below.frozen (p := ⟨R, 1, none⟩) hA hb; simp; rw [this]; exact r3
theorem own_some {w : World} {base n : Nat} {v : Value} {l : List Int} (h : Own w base v l) (hl : l.length = n) (h1 : 1 ≤ n) : ∃ g c, v = .slice (some ⟨g, 0, none⟩) n c := by
  rcases h.1.2 with ⟨e, h0⟩ | ⟨g, c, _, e, _⟩
  · omega
  · exact ⟨g, c, by rw [e, hl]⟩
end Go.Proofs.Ytpeebgkgccacbaa
