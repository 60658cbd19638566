/- The draws of blocks and a report. -/
import Derived.Test.YtpeebgkgccacbaaIlA
namespace Go.Proofs.Ytpeebgkgccacbaa
open Go.RowKit
set_option maxHeartbeats 4000000
set_option maxRecDepth 100000
set_option linter.unusedVariables false
set_option linter.unusedSimpArgs false
def DrawnCB (w : World) (e : Ending) (w' : World) : Prop :=
  ∃ (Bt : Int) (v1 v2 : Value) (l1 l2 : List Int), e = .returned (.tuple #[.int .i64 Bt, .agg #[v1, v2]]) ∧ InR Bt ∧ Own w' w.heap.size v1 l1 ∧ Own w' w.heap.size v2 l2 ∧ Later w w'
set_option maxRecDepth 100000 in
theorem s_DrawClearBlocks (a : Option Addr) (len cap : Nat) (w : World) (hs : Bytes w a len) :
    Calls Try.prog 6 #[.slice a len cap] w (DrawnCB w) := by
  have HS := Lib.hid hs
  clear hs
  go_enter Try.func6, Try.ntmps6
  go_wp2_with fail
  refine (s_From a len cap _ (HS.out.later ((Below.refl _ _).alloc (Nat.le_refl _) _))).mono ?_
  rintro e w1 ⟨rfl, src, lt, bel⟩
  rw [World.size_alloc] at src lt bel ⊢
  have S1 := Lib.hid src
  have d0 : w1.cell? ⟨w.heap.size, 0, none⟩ = some (.slice none 0 0) := by rw [bel.cell (p := ⟨w.heap.size, 0, none⟩) (Nat.lt_succ_self _)]; simp
  have d1 : w1.cell? ⟨w.heap.size, 1, none⟩ = some (.slice none 0 0) := by rw [bel.cell (p := ⟨w.heap.size, 1, none⟩) (Nat.lt_succ_self _)]; simp
  have d2 : w1.frozen? ⟨w.heap.size, 0, none⟩ = false := by rw [Below.frozen (p := ⟨w.heap.size, 0, none⟩) bel (Nat.lt_succ_self _)]; simp
  have d3 : w1.frozen? ⟨w.heap.size, 1, none⟩ = false := by rw [Below.frozen (p := ⟨w.heap.size, 1, none⟩) bel (Nat.lt_succ_self _)]; simp
  have B1 : Hid (Later w w1) := Lib.hid (((Later.refl w).alloc _).trans (show Later _ w1 from by rw [Later, World.size_alloc]; exact bel))
  have KR : Hid (∀ W, w1.grownBy W (some (w.heap.size + 1)) → W.cell? ⟨w.heap.size, 0, none⟩ = some (.slice none 0 0) ∧ W.cell? ⟨w.heap.size, 1, none⟩ = some (.slice none 0 0) ∧ W.frozen? ⟨w.heap.size, 0, none⟩ = false ∧ W.frozen? ⟨w.heap.size, 1, none⟩ = false) := Lib.hid (fun W gr => ⟨gr.cell d0 (by simp), gr.cell d1 (by simp), by rw [World.frozen?_of_block (w := w1) (gr.block w.heap.size (by omega) (by simp))]; exact d2, by rw [World.frozen?_of_block (w := w1) (gr.block w.heap.size (by omega) (by simp))]; exact d3⟩)
  have KL : Hid (∀ W, w1.grownBy W (some (w.heap.size + 1)) → Later w W) := Lib.hid (fun W gr => Below.grown B1.out gr B1.out.size (fun k e => by cases e; omega))
  have T1 := Lib.hid (St.begin S1.out)
  clear src bel d0 d1 d2 d3 S1
  go_wp2_with fail
  refine (s_Next (w.heap.size + 1) a len cap 7 _ T1.out.src (by omega) (by omega)).mono ?_
  rintro e w2 ⟨x, rfl, x0, x1, x2, src, gr⟩
  have hx := x1 (by omega)
  have T2 := Lib.hid (T1.out.call src gr)
  clear gr src x1 x2 T1
  go_wp2_with fail
  refine (s_Next (w.heap.size + 1) a len cap 7 _ T2.out.src (by omega) (by omega)).mono ?_
  rintro e w3 ⟨y, rfl, y0, y1, y2, src, gr⟩
  have hy := y1 (by omega)
  have T3 := Lib.hid (T2.out.call src gr)
  clear gr src y1 y2 T2
  go_wp2_with fail
  have hl3 := sl_new w3 [1, 8, 9, -5] 2 (by simp) (by intro x hx; simp at hx; unfold InR; omega)
  refine (s_Pick (w.heap.size + 1) a len cap ⟨w3.heap.size, 0, none⟩ 4 4 _ _ (T3.out.src.alloc _) hl3 (by have := T3.out.src.lt; show w3.heap.size ≠ w.heap.size + 1; omega) (by omega)).mono ?_
  rintro e w4 ⟨z, rfl, hz, src, gr⟩
  have T4 := Lib.hid ((T3.out.alloc _).call src gr)
  have hz2 : -5 ≤ z ∧ z ≤ 9 := by simp at hz; omega
  obtain ⟨hza, hzb⟩ := hz2
  clear gr src hl3 hz T3
  go_wp2_with fail
  have hl3 := sl_new w4 [2 + x, 2 + y, 3, z] 2 (by simp) (by intro x hx; simp at hx; unfold InR; omega)
  refine (s_Pick (w.heap.size + 1) a len cap ⟨w4.heap.size, 0, none⟩ 4 4 _ _ (T4.out.src.alloc _) hl3 (by have := T4.out.src.lt; show w4.heap.size ≠ w.heap.size + 1; omega) (by omega)).mono ?_
  rintro e w5 ⟨Bt, rfl, hz, src, gr⟩
  have T5 := Lib.hid ((T4.out.alloc _).call src gr)
  have HB : Hid (InR Bt) := Lib.hid (by simp at hz; unfold InR; omega)
  clear gr src hl3 hz T4 x0 hx y0 hy hza hzb
  go_wp2_with fail
  refine (s_l11DrawReport (w.heap.size + 1) a len cap Bt HB.out _ T5.out.src).mono ?_
  rintro e w6 ⟨v1, v2, l1, l2, rfl, ho1, ho2, src, gr⟩
  have T6 := Lib.hid (T5.out.call src gr)
  have hz6 : w.heap.size + 1 ≤ w5.heap.size := Nat.le_trans (Nat.le_of_lt lt) T5.out.le
  obtain ⟨a1, c1, e1, _, _⟩ := ho1.sl
  obtain ⟨a2, c2, e2, _, _⟩ := ho2.sl
  generalize l1.length = m1 at e1
  generalize l2.length = m2 at e2
  subst e1; subst e2
  have O1 := Lib.hid ho1; have O2 := Lib.hid ho2
  clear gr src ho1 ho2 T5
  obtain ⟨c0, c1', c2', c3⟩ := KR.out _ T6.out.grown
  have L6 := Lib.hid (KL.out _ T6.out.grown)
  go_wp2_with fail
  exact bodyPost_ret (v := .tuple #[.int .i64 Bt, .agg #[.slice a1 m1 c1, .slice a2 m2 c2]]) (by simp [results, Try.results6, go_sem, *]) rfl ⟨Bt, _, _, l1, l2, rfl, HB.out, tf_mono (own_res O1.out (by omega)) (by omega), tf_mono (own_res O2.out (by omega)) (by omega), put_res (Nat.le_refl _) L6.out⟩
end Go.Proofs.Ytpeebgkgccacbaa
