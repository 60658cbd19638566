/- Contracts of chapter 10: the model's runs of moves. | The model's source of drawn numbers: whatever the bytes are, it hands out numbers within their range and touches nothing but itself. | The model's source out of a code; numbers picked and drawn. | Slices that came in, as the shell of a proof says them. | The walks of the exact laws of chapter 10 (gen/gen_tf.py). | The walk of the exact law on reading a traffic's text (gen/gen_tfz.py). -/
import Derived.Test.YtdaihpkjnigjgaaDoorTfV
import Derived.Test.YtdaihpkjnigjgaaDoorSl
import Derived.Test.YtdaihpkjnigjgaaDoorGrown
import Derived.WalkSmall
import Derived.RegionTactic
import Derived.ChangeAlike
import Derived.Test.YtdaihpkjnigjgaaDoorTfL
import Derived.Test.YtdaihpkjnigjgaaDoorHeld
import Derived.Test.YtdaihpkjnigjgaaDoorTfw
namespace Go.Proofs.YtdaihpkjnigjgaaDoor
open Go.RowKit
set_option maxHeartbeats 4000000
set_option maxRecDepth 100000
set_option linter.unusedVariables false
set_option linter.unusedSimpArgs false
theorem rnE_1 {B : Int} {l ts : List Int} (h : tfB B l = false) : rnE B l ts = 1 := by unfold rnE; rw [h]; rfl
theorem rnE_3 {B : Int} {l ts : List Int} (h : tfB B l = true) (k : ¬ ts.length ≤ 200) : rnE B l ts = 3 := by unfold rnE; rw [h, if_pos rfl, if_neg k]
theorem rnE_2 {B : Int} {l ts : List Int} (h : tfB B l = true) (k : ts.length ≤ 200) (q : ts.all (hasT l) = false) : rnE B l ts = 2 := by unfold rnE; rw [h, if_pos rfl, if_pos k, q]; rfl
theorem mwE_0 {B : Int} {l ts : List Int} (h : tfB B l = true) (k : ts.length ≤ 200) (q : ts.all (hasT l) = true) : mwE B l ts = 0 := by unfold mwE; rw [h, if_pos rfl, if_pos k, q]; rfl
/-- a traffic in a box of the call's own that is written again and again -/
def OBox (W : World) (base o g n c : Nat) (B : Int) (l : List Int) : Prop :=
  base ≤ o ∧ o < W.heap.size ∧ o ≠ g ∧ W.cell? ⟨o, 0, none⟩ = some (.int .i64 B) ∧ W.cell? ⟨o, 1, none⟩ = some (.slice (some ⟨g, 0, none⟩) n c) ∧ W.frozen? ⟨o, 0, none⟩ = false ∧ W.frozen? ⟨o, 1, none⟩ = false ∧ Own W base (.slice (some ⟨g, 0, none⟩) n c) l ∧ l.length = n
def RSt (w W : World) (R o g n c : Nat) (B : Int) (l : List Int) : Prop :=
  OBox W (R + 1) o g n c B l ∧ W.cell? ⟨R, 0, none⟩ = some (.int .i64 0) ∧ W.cell? ⟨R, 1, none⟩ = some (.slice none 0 0) ∧ W.frozen? ⟨R, 0, none⟩ = false ∧ W.frozen? ⟨R, 1, none⟩ = false ∧ Later w W ∧ w.heap.size ≤ R
theorem RSt.later {w W W1 : World} {R o g n c : Nat} {B : Int} {l : List Int} (h : RSt w W R o g n c B l) (k : Later W W1) : RSt w W1 R o g n c B l := by
  obtain ⟨⟨h1, h2, h3, h4, h5, h6, h7, h8, h9⟩, k1, k2, k3, k4, k5, k6⟩ := h
  have hR := cell_lt k1
  exact ⟨⟨h1, Nat.lt_of_lt_of_le h2 k.size, h3, by rw [k.cell (p := ⟨o, 0, none⟩) h2]; exact h4, by rw [k.cell (p := ⟨o, 1, none⟩) h2]; exact h5, by rw [Below.frozen (p := ⟨o, 0, none⟩) k h2]; exact h6, by rw [Below.frozen (p := ⟨o, 1, none⟩) k h2]; exact h7, tf_lat h8 k, h9⟩,
    by rw [k.cell (p := ⟨R, 0, none⟩) hR]; exact k1, by rw [k.cell (p := ⟨R, 1, none⟩) hR]; exact k2, by rw [Below.frozen (p := ⟨R, 0, none⟩) k hR]; exact k3, by rw [Below.frozen (p := ⟨R, 1, none⟩) k hR]; exact k4, k5.trans k, k6⟩
/-- the box is written -/
theorem RSt.put {w W W1 : World} {R o g n c g2 c2 : Nat} {B : Int} {l l2 : List Int} (h : RSt w W R o g n c B l) (k : Later W W1) (ho : Own W1 W.heap.size (.slice (some ⟨g2, 0, none⟩) n c2) l2) (hl : l2.length = n) :
    RSt w ((W1.setCell ⟨o, 0, none⟩ (.int .i64 B)).setCell ⟨o, 1, none⟩ (.slice (some ⟨g2, 0, none⟩) n c2)) R o g2 n c2 B l2 := by
  have ho2 := h.1.2.1
  obtain ⟨⟨h1, h2, h3, h4, h5, h6, h7, h8, h9⟩, k1, k2, k3, k4, k5, k6⟩ := h.later k
  have hg := (ho.lt g2 rfl).1
  have e1 : (W1.setCell ⟨o, 0, none⟩ (.int .i64 B)).cell? ⟨o, 0, none⟩ = some (.int .i64 B) := World.cell?_setCell_same _ _ _ h4
  have e2 : (W1.setCell ⟨o, 0, none⟩ (.int .i64 B)).cell? ⟨o, 1, none⟩ = some (.slice (some ⟨g, 0, none⟩) n c) := by rw [World.cell?_setCell_other _ _ _ _ (by simp)]; exact h5
  have f1 : ((W1.setCell ⟨o, 0, none⟩ (.int .i64 B)).setCell ⟨o, 1, none⟩ (.slice (some ⟨g2, 0, none⟩) n c2)).cell? ⟨o, 0, none⟩ = some (.int .i64 B) := by rw [World.cell?_setCell_other _ _ _ _ (by simp)]; exact e1
  have f2 := World.cell?_setCell_same (W1.setCell ⟨o, 0, none⟩ (.int .i64 B)) ⟨o, 1, none⟩ (.slice (some ⟨g2, 0, none⟩) n c2) e2
  refine ⟨⟨h1, by simpa using h2, by omega, f1, f2, by simpa using h6, by simpa using h7, tf_mono (own_res ho ho2) (by omega), hl⟩, ?_, ?_, by simpa using k3, by simpa using k4, put_res (by omega) k5, k6⟩
  · rw [World.cell?_setCell_far _ _ _ _ (by show o ≠ R; omega), World.cell?_setCell_far _ _ _ _ (by show o ≠ R; omega)]; exact k1
  · rw [World.cell?_setCell_far _ _ _ _ (by show o ≠ R; omega), World.cell?_setCell_far _ _ _ _ (by show o ≠ R; omega)]; exact k2
/-- the two ways in which the box may be made -/
theorem rst_A {w wr w3 : World} {R g n c : Nat} {B : Int} {l : List Int} {T : TypeId} (hw : Later w wr) (hR : w.heap.size ≤ R) (r0 : wr.cell? ⟨R, 0, none⟩ = some (.int .i64 0)) (r1 : wr.cell? ⟨R, 1, none⟩ = some (.slice none 0 0)) (r2 : wr.frozen? ⟨R, 0, none⟩ = false) (r3 : wr.frozen? ⟨R, 1, none⟩ = false)
    (h : Later wr.drew w3) (ho : Own w3 wr.drew.heap.size (.slice (some ⟨g, 0, none⟩) n c) l) (hl : l.length = n) : RSt w (w3.alloc (.cells #[.int .i64 B, .slice (some ⟨g, 0, none⟩) n c] T)) R w3.heap.size g n c B l := by
  have h := later_undrew h
  have ho : Own w3 wr.heap.size (.slice (some ⟨g, 0, none⟩) n c) l := ho
  have hA : Later wr (w3.alloc (.cells #[.int .i64 B, .slice (some ⟨g, 0, none⟩) n c] T)) := h.alloc _
  have hb := cell_lt r0
  have hg := (ho.lt g rfl)
  have hg2 : g < w3.heap.size := hg.2
  have hs := h.size
  refine ⟨⟨by omega, by simp, by omega, by simp, by simp, by simp, by simp, tf_mono (ho.alloc _) (by omega), hl⟩, ?_, ?_, ?_, ?_, hw.trans hA, hR⟩
  · rw [hA.cell (p := ⟨R, 0, none⟩) hb]; exact r0
  · rw [hA.cell (p := ⟨R, 1, none⟩) hb]; exact r1
  · rw [Below.frozen (p := ⟨R, 0, none⟩) hA hb]; exact r2
  · rw [Below.frozen (p := ⟨R, 1, none⟩) hA hb]; exact r3
theorem rst_B {w wr w3 : World} {R g n c : Nat} {B : Int} {l : List Int} {T : TypeId} (hw : Later w wr) (hR : w.heap.size ≤ R) (r0 : wr.cell? ⟨R, 0, none⟩ = some (.int .i64 0)) (r1 : wr.cell? ⟨R, 1, none⟩ = some (.slice none 0 0)) (r2 : wr.frozen? ⟨R, 0, none⟩ = false) (r3 : wr.frozen? ⟨R, 1, none⟩ = false)
    (h : Later (wr.alloc (.cells #[.int .i64 0, .slice none 0 0] T)).drew w3) (ho : Own w3 (wr.alloc (.cells #[.int .i64 0, .slice none 0 0] T)).drew.heap.size (.slice (some ⟨g, 0, none⟩) n c) l) (hl : l.length = n) :
    RSt w ((w3.setCell ⟨wr.heap.size, 0, none⟩ (.int .i64 B)).setCell ⟨wr.heap.size, 1, none⟩ (.slice (some ⟨g, 0, none⟩) n c)) R wr.heap.size g n c B l := by
  have h := later_undrew h
  have ho : Own w3 (wr.alloc (.cells #[.int .i64 0, .slice none 0 0] T)).heap.size (.slice (some ⟨g, 0, none⟩) n c) l := ho
  rw [World.size_alloc] at ho
  have hA : Later wr w3 := ((Later.refl wr).alloc _).trans h
  have hb := cell_lt r0
  have hg : wr.heap.size + 1 ≤ g := (ho.lt g rfl).1
  have hs := h.size
  rw [World.size_alloc] at hs
  have n0 : w3.cell? ⟨wr.heap.size, 0, none⟩ = some (.int .i64 0) := by rw [h.cell (p := ⟨wr.heap.size, 0, none⟩) (by simp)]; simp
  have n1 : w3.cell? ⟨wr.heap.size, 1, none⟩ = some (.slice none 0 0) := by rw [h.cell (p := ⟨wr.heap.size, 1, none⟩) (by simp)]; simp
  have n2 : w3.frozen? ⟨wr.heap.size, 0, none⟩ = false := by rw [Below.frozen (p := ⟨wr.heap.size, 0, none⟩) h (by simp)]; simp
  have n3 : w3.frozen? ⟨wr.heap.size, 1, none⟩ = false := by rw [Below.frozen (p := ⟨wr.heap.size, 1, none⟩) h (by simp)]; simp
  have e1 : (w3.setCell ⟨wr.heap.size, 0, none⟩ (.int .i64 B)).cell? ⟨wr.heap.size, 0, none⟩ = some (.int .i64 B) := World.cell?_setCell_same _ _ _ n0
  have e2 : (w3.setCell ⟨wr.heap.size, 0, none⟩ (.int .i64 B)).cell? ⟨wr.heap.size, 1, none⟩ = some (.slice none 0 0) := by rw [World.cell?_setCell_other _ _ _ _ (by simp)]; exact n1
  have f1 : ((w3.setCell ⟨wr.heap.size, 0, none⟩ (.int .i64 B)).setCell ⟨wr.heap.size, 1, none⟩ (.slice (some ⟨g, 0, none⟩) n c)).cell? ⟨wr.heap.size, 0, none⟩ = some (.int .i64 B) := by rw [World.cell?_setCell_other _ _ _ _ (by simp)]; exact e1
  have f2 := World.cell?_setCell_same (w3.setCell ⟨wr.heap.size, 0, none⟩ (.int .i64 B)) ⟨wr.heap.size, 1, none⟩ (.slice (some ⟨g, 0, none⟩) n c) e2
  refine ⟨⟨by omega, by simp; omega, by omega, f1, f2, by simpa using n2, by simpa using n3, tf_mono (own_res ho (by omega)) (by omega), hl⟩, ?_, ?_, ?_, ?_, put_res (Nat.le_trans hR (Nat.le_of_lt hb)) (hw.trans hA), hR⟩
  · rw [World.cell?_setCell_far _ _ _ _ (by show wr.heap.size ≠ R; omega), World.cell?_setCell_far _ _ _ _ (by show wr.heap.size ≠ R; omega), hA.cell (p := ⟨R, 0, none⟩) hb]; exact r0
  · rw [World.cell?_setCell_far _ _ _ _ (by show wr.heap.size ≠ R; omega), World.cell?_setCell_far _ _ _ _ (by show wr.heap.size ≠ R; omega), hA.cell (p := ⟨R, 1, none⟩) hb]; exact r1
  · have := Below.frozen (p := ⟨R, 0, none⟩) hA hb; simp; rw [this]; exact r2
  · have := Below.frozen (p := ⟨R, 1, none⟩) hA hb; simp; rw [this]; exact r3
theorem own_some {w : World} {base n : Nat} {v : Value} {l : List Int} (h : Own w base v l) (hl : l.length = n) (h1 : 1 ≤ n) : ∃ g c, v = .slice (some ⟨g, 0, none⟩) n c := by
  rcases h.1.2 with ⟨e, h0⟩ | ⟨g, c, _, e, _⟩
  · omega
  · exact ⟨g, c, by rw [e, hl]⟩
end Go.Proofs.YtdaihpkjnigjgaaDoor
namespace Go.Proofs.YtdaihpkjnigjgaaDoor
open Go.RowKit
set_option maxHeartbeats 2000000
set_option linter.unusedVariables false
set_option linter.unusedSimpArgs false
/-- the bytes of the code, seen from a source in block B -/
def Code8 (w : World) (B : Nat) (a : Option Addr) (len : Nat) : Prop :=
  len ≤ 9223372036854775807 ∧ ∀ k, k < len → ∃ b off x, a = some ⟨b, off, none⟩ ∧ b ≠ B ∧ w.cell? ⟨b, off + k, none⟩ = some (.int .u8 x) ∧ 0 ≤ x ∧ x ≤ 255
def Src (w : World) (B : Nat) (a : Option Addr) (len cap : Nat) : Prop :=
  (∃ (p : Nat) (s : Int), p ≤ len ∧ 0 ≤ s ∧ s < 2147483647 ∧ w.heap[B]? = some (.cells #[.slice a len cap, .int .i64 p, .int .i64 s] 60 (0, 0))) ∧ Code8 w B a len
theorem Code8.kept {w w' : World} {B : Nat} {a : Option Addr} {len : Nat} (h : Code8 w B a len) (hg : w.grownBy w' (some B)) : Code8 w' B a len := by
  refine ⟨h.1, fun k hk => ?_⟩
  obtain ⟨b, off, x, rfl, hb, hc, h0, h1⟩ := h.2 k hk
  exact ⟨b, off, x, rfl, hb, hg.cell hc (by simpa using hb), h0, h1⟩
theorem set2 {w : World} {B : Nat} {c0 c1 c2 u : Value} {T : TypeId} (h : w.heap[B]? = some (.cells #[c0, c1, c2] T (0, 0))) : (w.setCell ⟨B, 2, none⟩ u).heap[B]? = some (.cells #[c0, c1, u] T (0, 0)) := by
  rw [heap_setCell_same w B 2 _ T u h]; rfl
theorem set1 {w : World} {B : Nat} {c0 c1 c2 u : Value} {T : TypeId} (h : w.heap[B]? = some (.cells #[c0, c1, c2] T (0, 0))) : (w.setCell ⟨B, 1, none⟩ u).heap[B]? = some (.cells #[c0, u, c2] T (0, 0)) := by
  rw [heap_setCell_same w B 1 _ T u h]; rfl
def Nexted (w : World) (B : Nat) (a : Option Addr) (len cap : Nat) (n : Int) (e : Ending) (w' : World) : Prop :=
  ∃ r : Int, e = .returned (.int .i64 r) ∧ 0 ≤ r ∧ (1 < n → r < n) ∧ (n ≤ 1 → r = 0) ∧ Src w' B a len cap ∧ w.grownBy w' (some B)
theorem next_fin0 {w : World} {B : Nat} {a : Option Addr} {len cap p : Nat} {s s' : Int} (q : Nat) (hb : w.heap[B]? = some (.cells #[.slice a len cap, .int .i64 p, .int .i64 s] 60 (0, 0))) (hc : Code8 w B a len) (hp : p ≤ len) (s0 : 0 ≤ s') (s1 : s' < 2147483647) :
    Src ((w.setCell ⟨B, 2, none⟩ (.int .i64 s')).drewN q) B a len cap ∧ w.grownBy ((w.setCell ⟨B, 2, none⟩ (.int .i64 s')).drewN q) (some B) := by
  have g : w.grownBy ((w.setCell ⟨B, 2, none⟩ (.int .i64 s')).drewN q) (some B) := grown_trans (grown_set _ _ _ _) (grown_drewN _ _ _)
  exact ⟨⟨⟨p, s', hp, s0, s1, set2 hb⟩, hc.kept g⟩, g⟩
theorem next_fin {w : World} {B : Nat} {a : Option Addr} {len cap p : Nat} {s s' x : Int} (q q' : Nat) (hb : w.heap[B]? = some (.cells #[.slice a len cap, .int .i64 p, .int .i64 s] 60 (0, 0))) (hc : Code8 w B a len) (hp : p + 1 ≤ len) (hx : x = ((p + 1 : Nat) : Int)) (s0 : 0 ≤ s') (s1 : s' < 2147483647) :
    Src ((((w.setCell ⟨B, 2, none⟩ (.int .i64 s')).drewN q).setCell ⟨B, 1, none⟩ (.int .i64 x)).drewN q') B a len cap ∧ w.grownBy ((((w.setCell ⟨B, 2, none⟩ (.int .i64 s')).drewN q).setCell ⟨B, 1, none⟩ (.int .i64 x)).drewN q') (some B) := by
  have g : w.grownBy ((((w.setCell ⟨B, 2, none⟩ (.int .i64 s')).drewN q).setCell ⟨B, 1, none⟩ (.int .i64 x)).drewN q') (some B) :=
    grown_trans (grown_trans (grown_trans (grown_set _ _ _ _) (grown_drewN _ _ _)) (grown_set _ _ _ _)) (grown_drewN _ _ _)
  subst hx
  exact ⟨⟨⟨p + 1, s', hp, s0, s1, set1 (show ((w.setCell ⟨B, 2, none⟩ (.int .i64 s')).drewN q).heap[B]? = _ from set2 hb)⟩, hc.kept g⟩, g⟩
theorem s_Next (B : Nat) (a : Option Addr) (len cap : Nat) (n : Int) (w : World) (hs : Src w B a len cap) (hn : -9223372036854775808 ≤ n) (hn2 : n ≤ 9223372036854775807) :
    Calls Tryd.prog 28 #[.pointer (some ⟨B, 0, none⟩), .int .i64 n] w (Nexted w B a len cap n) := by
  have HS := Lib.hid hs
  obtain ⟨⟨p, s, p1, s0, s1, hb⟩, hcode⟩ := hs
  have HB := Lib.hid hb
  have HC := Lib.hid hcode
  have hl := hcode.1
  clear hcode
  have c0 : w.cell? ⟨B, 0, none⟩ = some (.slice a len cap) := by simp [World.cell?, hb]
  have c1 : w.cell? ⟨B, 1, none⟩ = some (.int .i64 p) := by simp [World.cell?, hb]
  have c2 : w.cell? ⟨B, 2, none⟩ = some (.int .i64 s) := by simp [World.cell?, hb]
  have f1 : w.frozen? ⟨B, 1, none⟩ = false := by simp [World.frozen?, hb]
  have f2 : w.frozen? ⟨B, 2, none⟩ = false := by simp [World.frozen?, hb]
  clear hb
  by_cases h1 : n ≤ 1
  · go_enter Tryd.func28, Tryd.ntmps28
    go_wp2
    go_ret
    exact ⟨0, rfl, by omega, fun h => by omega, fun _ => rfl, HS.out, ⟨rfl, rfl, rfl, Nat.le_refl _, fun _ _ _ => rfl⟩⟩
  · have hm : 0 ≤ (s * 48271 + 29) % 2147483647 / 31 := by omega
    have mod_bd : ∀ x : Int, 0 ≤ x → 0 ≤ x % n ∧ x % n < n := fun x hx => ⟨Int.emod_nonneg _ (by omega), Int.emod_lt_of_pos _ (by omega)⟩
    have MB := Lib.hid mod_bd
    clear mod_bd
    by_cases h2 : p < len
    · obtain ⟨b, off, x, rfl, hne, hx, x0, x1⟩ := HC.out.2 p h2
      by_cases h3 : n ≤ 256
      · have d3 : decide (n ≤ 256) = true := by simpa using h3
        by_cases h4 : (p + 1) % 2 = 0
        · have d4 : (((p : Int) + 1) % 2 == 0) = true := by simp; omega
          go_enter Tryd.func28, Tryd.ntmps28
          go_wp2
          go_quiet (fail)
          go_wp2
          go_quiet (fail)
          go_wp2
          go_quiet (fail)
          go_wp2
          go_ret
          obtain ⟨r0, r1⟩ := MB.out x x0
          obtain ⟨f1, f2⟩ := next_fin _ _ HB.out HC.out (show p + 1 ≤ len by omega) (show (p : Int) + 1 = _ by omega) (show 0 ≤ (s * 48271 + 29) % 2147483647 by omega) (by omega)
          exact ⟨_, rfl, r0, fun _ => r1, fun h => by omega, f1, f2⟩
        · have d4 : (((p : Int) + 1) % 2 == 0) = false := by simp; omega
          have hm2 : 0 ≤ (s * 48271 + 29) % 2147483647 / 31 + x := by omega
          go_enter Tryd.func28, Tryd.ntmps28
          go_wp2
          go_quiet (fail)
          go_wp2
          go_quiet (fail)
          go_wp2
          go_ret
          obtain ⟨r0, r1⟩ := MB.out _ hm2
          obtain ⟨f1, f2⟩ := next_fin _ 0 HB.out HC.out (show p + 1 ≤ len by omega) (show (p : Int) + 1 = _ by omega) (show 0 ≤ (s * 48271 + 29) % 2147483647 by omega) (by omega)
          exact ⟨_, rfl, r0, fun _ => r1, fun h => by omega, f1, f2⟩
      · have d3 : decide (n ≤ 256) = false := by simpa using h3
        have hm2 : 0 ≤ (s * 48271 + 29) % 2147483647 / 31 + x := by omega
        go_enter Tryd.func28, Tryd.ntmps28
        go_wp2
        go_quiet (fail)
        go_wp2
        go_quiet (fail)
        go_wp2
        go_ret
        obtain ⟨r0, r1⟩ := MB.out _ hm2
        obtain ⟨f1, f2⟩ := next_fin _ 0 HB.out HC.out (show p + 1 ≤ len by omega) (show (p : Int) + 1 = _ by omega) (show 0 ≤ (s * 48271 + 29) % 2147483647 by omega) (by omega)
        exact ⟨_, rfl, r0, fun _ => r1, fun h => by omega, f1, f2⟩
    · go_enter Tryd.func28, Tryd.ntmps28
      go_wp2
      go_quiet (fail)
      go_wp2
      go_ret
      obtain ⟨r0, r1⟩ := MB.out _ hm
      obtain ⟨f1, f2⟩ := next_fin0 _ HB.out HC.out p1 (show 0 ≤ (s * 48271 + 29) % 2147483647 by omega) (by omega)
      exact ⟨_, rfl, r0, fun _ => r1, fun h => by omega, f1, f2⟩
end Go.Proofs.YtdaihpkjnigjgaaDoor
namespace Go.Proofs.YtdaihpkjnigjgaaDoor
open Go.RowKit
set_option maxHeartbeats 2000000
set_option linter.unusedVariables false
set_option linter.unusedSimpArgs false
/-- a slice of bytes that came in -/
def Bytes (w : World) (a : Option Addr) (len : Nat) : Prop :=
  len ≤ 9223372036854775807 ∧ ∀ k, k < len → ∃ b off x, a = some ⟨b, off, none⟩ ∧ w.cell? ⟨b, off + k, none⟩ = some (.int .u8 x) ∧ 0 ≤ x ∧ x ≤ 255
theorem bytes_code {w w' : World} {a : Option Addr} {len : Nat} (h : Bytes w a len) (hb : Below w.heap.size w w') : Code8 w' w.heap.size a len := by
  refine ⟨h.1, fun k hk => ?_⟩
  obtain ⟨b, off, x, rfl, hc, h0, h1⟩ := h.2 k hk
  have hl := cell_lt hc
  exact ⟨b, off, x, rfl, by omega, by rw [hb.cell (p := ⟨b, off + k, none⟩) hl]; exact hc, h0, h1⟩
def Began (w : World) (a : Option Addr) (len cap : Nat) (e : Ending) (w' : World) : Prop :=
  e = .returned (.pointer (some ⟨w.heap.size, 0, none⟩)) ∧ Src w' w.heap.size a len cap ∧ w.heap.size < w'.heap.size ∧ Below w.heap.size w w'
theorem s_From (a : Option Addr) (len cap : Nat) (w : World) (hs : Bytes w a len) :
    Calls Tryd.prog 20 #[.slice a len cap] w (Began w a len cap) := by
  have HS := Lib.hid hs
  have hl := hs.1
  clear hs
  go_enter Tryd.func20, Tryd.ntmps20
  go_wp2
  go_loopw [4] (fun i wr => ∃ (k : Nat) (s : Int), k ≤ len ∧ i = .int .i64 k ∧ 0 ≤ s ∧ s < 2147483647 ∧ wr.heap[w.heap.size]? = some (.cells #[.slice a len cap, .int .i64 0, .int .i64 s] 60 (0, 0)) ∧ Below w.heap.size w wr) (fun i _ => len - (intOf i).toNat)
  case atStart => exact ⟨0, 52021, by omega, rfl, by omega, by omega, heap_alloc_new w _, (Below.refl _ _).alloc (Nat.le_refl _) _⟩
  case round =>
    obtain ⟨k, s, hk, rfl, s0, s1, hb, hB⟩ := hrel
    have HB := Lib.hid hb
    have HW := Lib.hid hB
    have c2 : wr.cell? ⟨w.heap.size, 2, none⟩ = some (.int .i64 s) := by simp [World.cell?, hb]
    have f2 : wr.frozen? ⟨w.heap.size, 2, none⟩ = false := by simp [World.frozen?, hb]
    clear hb hB
    by_cases hlt : k < len ∧ k < 64
    · obtain ⟨h1, h2⟩ := hlt
      obtain ⟨b, off, x, rfl, hx0, x0, x1⟩ := HS.out.2 k h1
      have hx : wr.cell? ⟨b, off + k, none⟩ = some (.int .u8 x) := by rw [HW.out.cell (p := ⟨b, off + k, none⟩) (cell_lt hx0)]; exact hx0
      clear hx0
      go_wp2
      go_region
      go_wp2
      go_roundw
      case rel => exact ⟨k + 1, (s * 59 + x) % 2147483647, by omega, by go_num, by omega, by omega, set2 HB.out, (HW.out.drew.setCell (Nat.le_refl _) _)⟩
      case measure => simp [intOf]; omega
    · by_cases h1 : k < len
      · have h2 : decide (k < 64) = false := by simp; omega
        have h3 : ¬ k < 64 := by omega
        clear hlt
        go_wp2
        go_ret
        exact ⟨rfl, ⟨⟨0, s, by omega, s0, s1, HB.out⟩, bytes_code HS.out HW.out⟩, cell_lt c2, HW.out⟩
      · clear hlt
        go_wp2
        go_ret
        exact ⟨rfl, ⟨⟨0, s, by omega, s0, s1, HB.out⟩, bytes_code HS.out HW.out⟩, cell_lt c2, HW.out⟩
/-- what a draw leaves: the source, and everything else as it was -/
def Drawn (w : World) (B : Nat) (a : Option Addr) (len cap : Nat) (P : Int → Prop) (e : Ending) (w' : World) : Prop :=
  ∃ r : Int, e = .returned (.int .i64 r) ∧ P r ∧ Src w' B a len cap ∧ w.grownBy w' (some B)
theorem Src.lt {w : World} {B : Nat} {a : Option Addr} {len cap : Nat} (h : Src w B a len cap) : B < w.heap.size := by
  obtain ⟨⟨p, s, _, _, _, hb⟩, _⟩ := h
  exact (Array.getElem?_eq_some_iff.1 hb).1
theorem Src.drewN {w : World} {B : Nat} {a : Option Addr} {len cap : Nat} (h : Src w B a len cap) (q : Nat) : Src (w.drewN q) B a len cap := h
theorem Src.alloc {w : World} {B : Nat} {a : Option Addr} {len cap : Nat} (h : Src w B a len cap) (o : Obj) : Src (w.alloc o) B a len cap := by
  have hB := h.lt
  obtain ⟨⟨p, s, h1, h2, h3, hb⟩, hc⟩ := h
  refine ⟨⟨p, s, h1, h2, h3, by rw [← hb]; exact Below.heap_alloc w o B hB⟩, hc.kept (World.grownBy_alloc w o _)⟩
/-- the source outlives writes to other blocks -/
theorem Src.kept {w w' : World} {B : Nat} {a : Option Addr} {len cap : Nat} {row : Option Nat} (h : Src w B a len cap) (hg : w.grownBy w' row) (hB : some B ≠ row) (hr : ∀ x, a = some x → some x.block ≠ row) : Src w' B a len cap := by
  have hlt := h.lt
  obtain ⟨⟨p, s, h1, h2, h3, hb⟩, hc⟩ := h
  refine ⟨⟨p, s, h1, h2, h3, by rw [← hb]; exact hg.block B hlt hB⟩, hc.1, fun k hk => ?_⟩
  obtain ⟨b, off, x, rfl, hne, hx, x0, x1⟩ := hc.2 k hk
  exact ⟨b, off, x, rfl, hne, hg.cell hx (hr ⟨b, off, none⟩ rfl), x0, x1⟩
theorem s_Pick (B : Nat) (a : Option Addr) (len cap : Nat) (b : Addr) (n m : Nat) (l : List Int) (w : World) (hs : Src w B a len cap) (hl : Sl w (some b) n l) (hb : b.block ≠ B) (hn : 1 ≤ n) :
    Calls Tryd.prog 41 #[.pointer (some ⟨B, 0, none⟩), .slice (some b) n m] w (Drawn w B a len cap (fun r => r ∈ l)) := by
  have HS := Lib.hid hs
  have HL := Lib.hid hl
  have HB := Lib.hid hb
  have hn2 := hl.2.1
  clear hs hl hb
  go_enter Tryd.func41, Tryd.ntmps41
  go_wp2_with fail
  refine (s_Next B a len cap n w HS.out (by omega) (by omega)).mono ?_
  rintro e w' ⟨r, rfl, r0, r1, r2, src, gr⟩
  have hr : r < n := by
    by_cases h : 1 < n
    · exact r1 (by omega)
    · have := r2 (by omega); omega
  obtain ⟨k, rfl⟩ := Int.eq_ofNat_of_zero_le r0
  have hk : k < n := by omega
  obtain ⟨bb, off, hbb, hc⟩ := HL.out.2.2.1 k hk
  simp only [Option.some.injEq] at hbb
  subst hbb
  have hc' : w'.cell? ⟨bb, off + k, none⟩ = some (.int .i64 (gx l k)) := gr.cell hc (by simpa using HB.out)
  have HG := Lib.hid gr; have HR := Lib.hid src
  have HM := Lib.hid (gx_mem l k (by rw [HL.out.1]; exact hk))
  clear gr src r1 r2 hc
  go_wp2
  go_ret
  exact ⟨_, rfl, HM.out, HR.out, HG.out⟩
theorem Src.kept2 {w w' : World} {B : Nat} {a : Option Addr} {len cap : Nat} {row : Option Nat} (h : Src w B a len cap) (hab : 0 < len → ∀ x, a = some x → x.block < B) (hg : w.grownBy w' row) (hr : ∀ k, row = some k → B < k) : Src w' B a len cap := by
  have hlt := h.lt
  obtain ⟨⟨p, s, h1, h2, h3, hb⟩, hc⟩ := h
  refine ⟨⟨p, s, h1, h2, h3, by rw [← hb]; exact hg.block B hlt (fun e => by have := hr B e.symm; omega)⟩, hc.1, fun k hk => ?_⟩
  obtain ⟨b, off, x, rfl, hne, hx, x0, x1⟩ := hc.2 k hk
  exact ⟨b, off, x, rfl, hne, hg.cell hx (fun e => by have := hr b e.symm; have := hab (by omega) ⟨b, off, none⟩ rfl; simp at this; omega), x0, x1⟩
theorem Bytes.low {w : World} {a : Option Addr} {len : Nat} (h : Bytes w a len) : 0 < len → ∀ x, a = some x → x.block < w.heap.size := by
  intro hl x hx
  obtain ⟨b, off, y, hb, hc, _⟩ := h.2 0 hl
  rw [hx] at hb; cases hb
  exact cell_lt hc
theorem Bytes.later {w w' : World} {a : Option Addr} {len : Nat} (h : Bytes w a len) (hb : Below w.heap.size w w') : Bytes w' a len := by
  refine ⟨h.1, fun k hk => ?_⟩
  obtain ⟨b, off, x, rfl, hc, x0, x1⟩ := h.2 k hk
  exact ⟨b, off, x, rfl, by rw [hb.cell (p := ⟨b, off + k, none⟩) (cell_lt hc)]; exact hc, x0, x1⟩
end Go.Proofs.YtdaihpkjnigjgaaDoor
namespace Go.Proofs.YtdaihpkjnigjgaaDoor
open Go.RowKit
set_option maxHeartbeats 2000000
set_option linter.unusedVariables false
set_option linter.unusedSimpArgs false
/-- a slice of integers that came in, as the shell of a proof says it -/
def IsRow (k : IntKind) (w : World) (a : Option Addr) (len cap : Nat) (zs : List Int) : Prop :=
  (a = none ∧ len = 0 ∧ cap = 0 ∧ zs = []) ∨
  ∃ x, a = some x ∧ len ≤ cap ∧ cap ≤ maxLen ∧ zs.length = cap ∧ (∀ i, i < zs.length → w.cell? (x.add i) = some (.int k (zs.getD i 0))) ∧ ∀ n ∈ zs, (Lit.int k n).wf = true
theorem isRow_sl {w : World} {a : Option Addr} {len cap : Nat} {zs : List Int} (h : IsRow .i64 w a len cap zs) : Sl w a len (zs.take len) := by
  rcases h with ⟨rfl, rfl, rfl, rfl⟩ | ⟨x, rfl, hl, hm, hz, hc, hw⟩
  · exact ⟨rfl, by omega, fun k hk => absurd hk (by omega), fun x hx => by simp at hx⟩
  · unfold maxLen at hm
    refine ⟨by rw [List.length_take]; omega, by omega, fun k hk => ?_, fun y hy => ?_⟩
    · have h0 := hc 0 (by omega)
      have hk0 := hc k (by omega)
      obtain ⟨b, off, spot⟩ := x
      have hspot : spot = none := by simpa [Addr.add] using World.cell?_spot h0
      subst hspot
      rw [Addr.add_lit] at hk0
      exact ⟨b, off, rfl, by rw [gx_take _ _ _ hk]; exact hk0⟩
    · have := hw y (List.mem_of_mem_take hy)
      simp [Lit.wf, IntKind.min, IntKind.max, IntKind.signed, IntKind.bits] at this
      exact this
theorem isRow_bytes {w : World} {a : Option Addr} {len cap : Nat} {zs : List Int} (h : IsRow .u8 w a len cap zs) : Bytes w a len := by
  rcases h with ⟨rfl, rfl, rfl, rfl⟩ | ⟨x, rfl, hl, hm, hz, hc, hw⟩
  · exact ⟨by omega, fun k hk => absurd hk (by omega)⟩
  · unfold maxLen at hm
    refine ⟨by omega, fun k hk => ?_⟩
    have h0 := hc 0 (by omega)
    have hk0 := hc k (by omega)
    obtain ⟨b, off, spot⟩ := x
    have hspot : spot = none := by simpa [Addr.add] using World.cell?_spot h0
    subst hspot
    rw [Addr.add_lit] at hk0
    have hb := hw (zs.getD k 0) (show gx zs k ∈ zs from gx_mem zs k (by omega))
    simp [Lit.wf, IntKind.min, IntKind.max, IntKind.signed, IntKind.bits] at hb
    exact ⟨b, off, zs.getD k 0, rfl, hk0, by simpa using hb.1, by simpa using hb.2⟩
end Go.Proofs.YtdaihpkjnigjgaaDoor
namespace Go.Proofs.YtdaihpkjnigjgaaDoor
open Go.RowKit
set_option maxHeartbeats 4000000
set_option maxRecDepth 100000
set_option linter.unusedVariables false
set_option linter.unusedSimpArgs false
theorem szT_big {n : Nat} (h : 1048576 < n) : szT n = -1 := by unfold szT; rw [if_neg (by omega)]
theorem szT_ok {n : Nat} (h : n ≤ 1048576) : szT n = 1048576 - (n : Int) := by unfold szT; rw [if_pos h]
theorem ht_box2 {l : List (Nat × Nat × Value)} {w0 W : World} (h : Held l w0 W) (v0 v1 : Value) (T : TypeId) : Held ((W.heap.size, 0, v0) :: (W.heap.size, 1, v1) :: l) w0 (W.alloc (.cells #[v0, v1] T)) :=
  held_more (held_more (h.alloc _) _ _ _ (cl_new _ _ _ _ _ _ rfl rfl) (by simp)) _ _ _ (cl_new _ _ _ _ _ _ rfl rfl) (by simp)
theorem ht_grown {l : List (Nat × Nat × Value)} {w0 w1 w2 : World} {r : Option Nat} (h : Held l w0 w1) (g : w1.grownBy w2 r) (hr : ∀ x ∈ l, r ≠ some x.1) (hw : ∀ k, r = some k → w0.heap.size ≤ k) : Held l w0 w2 :=
  ⟨fun x hx => ⟨Nat.lt_of_lt_of_le (h.1 x hx).1 g.size, g.cell (h.1 x hx).2 (fun e => hr x hx e.symm)⟩, Below.grown h.2 g h.2.size hw⟩
theorem own_keptT {w w' : World} {base : Nat} {v : Value} {l : List Int} {row : Option Nat} (h : Own w base v l) (hg : w.grownBy w' row) (hr : ∀ k, v.ownBlock = some k → row ≠ some k) : Own w' base v l := by
  refine ⟨h.1.kept hg ?_, h.2⟩
  cases hv : v.ownBlock with
  | none => exact .inl rfl
  | some k => exact .inr (fun e => hr k hv e.symm)
theorem l_eqIT (a b : Option Addr) (n cap m cap' : Nat) (l : List Int) (w : World) (hs : Sl w a n l) (ht : Sl w b m l) :
    Calls Tryd.prog 38 #[.slice a n cap, .slice b m cap'] w fun e w' => e = .returned (.bool true) ∧ Later w w' :=
  (l_eqInt64S a b n cap m cap' l w hs ht).mono fun e w' ⟨he, q, hq⟩ => ⟨he, by rw [hq]; exact (Later.refl _).drewN q⟩
theorem own_slT {w : World} {base n cap : Nat} {a : Option Addr} {l : List Int} (h : Own w base (.slice a n cap) l) : Sl w a n l := by
  obtain ⟨a', c', e, s, _⟩ := h.sl
  cases e; exact s
theorem alL_le (B : Int) (l : List Int) (h : l.length ≤ 4) : (alL B l l.length).length ≤ 1000 := Nat.le_trans (alL_len _ _ _) (by omega)
theorem udV_le (B : Int) (l : List Int) (t : Int) : (udV B l t).length ≤ 1000 := by
  unfold udV
  by_cases h : thE B l t = 0
  · rw [if_pos h]
    obtain ⟨hv, _⟩ := thE_ok h
    obtain ⟨_, b2, _, _, _⟩ := (tfB_iff B l).1 hv
    exact Nat.le_trans (ulM_len _ _ _) (by omega)
  · rw [if_neg h]; simp
theorem usV_le (B : Int) (l : List Int) : (usV B l).length ≤ 1000 := by
  unfold usV
  cases h : tfB B l
  · simp
  · obtain ⟨_, b2, _, _, _⟩ := (tfB_iff B l).1 h
    rw [if_pos rfl, ldL_len]; omega
theorem awV_le (B : Int) (l : List Int) : (awV B l).length ≤ 1000 := by
  unfold awV
  cases h : sfB B l
  · simp
  · obtain ⟨_, _, _, b4, _⟩ := (tfB_iff B l).1 (sfB_tf h)
    rw [if_pos rfl]; exact alL_le B l b4
theorem mtV_le (B : Int) (l : List Int) (t : Int) : (mtV B l t).length ≤ 1000 := by
  unfold mtV
  by_cases h : thE B l t = 0
  · rw [if_pos h, mvL_len]
    obtain ⟨hv, _⟩ := thE_ok h
    obtain ⟨_, _, _, b4, _⟩ := (tfB_iff B l).1 hv
    omega
  · rw [if_neg h]; simp
theorem rvV_le (B : Int) (l ts : List Int) : (rvV B l ts).length ≤ 1000 := by
  unfold rvV
  by_cases h : rnE B l ts = 0
  · rw [if_pos h, rnL_len]
    cases hv : tfB B l
    · rw [rnE_1 hv] at h; simp at h
    · obtain ⟨_, _, _, b4, _⟩ := (tfB_iff B l).1 hv
      omega
  · rw [if_neg h]; simp
theorem row_nil {k : IntKind} {w : World} {a : Option Addr} {len cap : Nat} {zs : List Int} (h : IsRow k w a len cap zs) : len ≤ cap := by
  rcases h with ⟨rfl, rfl, rfl, rfl⟩ | ⟨x, rfl, hl, _⟩
  · exact Nat.le_refl _
  · exact hl

end Go.Proofs.YtdaihpkjnigjgaaDoor
namespace Go.Proofs.YtdaihpkjnigjgaaDoor
open Go.RowKit Go.Shelf
set_option maxHeartbeats 4000000
set_option maxRecDepth 100000
set_option linter.unusedVariables false
set_option linter.unusedSimpArgs false
/-- what a reading of a text leaves, whichever way -/
def NewRF (w : World) (B : Int) (V : List Int) (ok : Bool) (e : Ending) (w' : World) : Prop := ∃ v, e = .returned (.tuple #[.agg #[.int .i64 B, v], .bool ok]) ∧ Own w' w.heap.size v V ∧ Later w w'
theorem rf_same (l : List UInt8) : ∃ (B : Int) (V : List Int) (ok : Bool), V.length ≤ 1000 ∧ (∀ w e w', ReadsF w l e w' → NewRF w B V ok e w') ∧ (ok = true → IsTx l B V) ∧ (ok = false → B = 0 ∧ V = [] ∧ ∀ B L, ¬ IsTx l B L) := by
  by_cases h : ∃ B L, IsTx l B L
  · obtain ⟨B, L, hx⟩ := h
    obtain ⟨_, _, _, b4, _⟩ := (tfB_iff B L).1 hx.1
    refine ⟨B, L, true, by omega, fun w e w' hr => ?_, fun _ => hx, fun h => by cases h⟩
    obtain ⟨hb, hr⟩ := hr
    rcases hr with ⟨B', L', v, hx', he, ho⟩ | ⟨hno, _⟩
    · obtain ⟨e1, e2⟩ := isTx_inj hx hx'
      rw [e1, e2]
      exact ⟨v, he, ho, hb⟩
    · exact absurd hx (hno B L)
  · have hno : ∀ B L, ¬ IsTx l B L := fun B L hx => h ⟨B, L, hx⟩
    refine ⟨0, [], false, by simp, fun w e w' hr => ?_, fun h => (by cases h), fun _ => ⟨rfl, rfl, hno⟩⟩
    obtain ⟨hb, hr⟩ := hr
    rcases hr with ⟨B', L', v, hx', _⟩ | ⟨_, he⟩
    · exact absurd hx' (hno B' L')
    · exact ⟨_, he, tf_none _ _, hb⟩
theorem walk_FnExactReadTraffic (s : ByteArray) (hml : s.size ≤ maxLen) (w : World) (hx : Tab w ∧ MaxL w ∧ Errs w) :
    Calls Tryd.prog 5 #[.string s] w fun e w' => e = .returned (.bool true) ∧ Below w.heap.size w w' := by
  clear hml
  have HT := Lib.hid hx.1; have HM := Lib.hid hx.2.1; have HE := Lib.hid hx.2.2
  clear hx
  by_cases hs : 1048576 < s.size
  · have e1 : decide ((1048576 : Int) < s.size) = true := by simp; omega
    go_enter Tryd.func5, Tryd.ntmps5
    go_wp2_with fail
    go_ret
    exact ⟨rfl, by first | exact Later.refl _ | exact (Later.refl _).drew⟩
  have hs2 : s.size ≤ 1048576 := by omega
  have e1 : decide ((1048576 : Int) < s.size) = false := by simp; omega
  clear hs
  obtain ⟨B2, V, ok, hVl, hRF, _, _⟩ := rf_same s.data.toList
  have SC : Hid (∀ W, Calls Tryd.prog 11 #[.string s] W (NewRF W B2 V ok)) := Lib.hid (fun W => (s_ReadTraffic s W hs2).mono (fun e w' h => hRF _ _ _ h))
  have IC : Hid (∀ W, Later w W → Calls Tryd.prog 9 #[.string s] W (NewRF W B2 V ok)) := Lib.hid (fun W h => (i_ReadTraffic s W hs2 (HT.out.later h) (HM.out.later h) (HE.out.lat h)).mono (fun e w' h => hRF _ _ _ h))
  clear hRF
  have e0 : (ok != ok) = false := by simp
  go_enter Tryd.func5, Tryd.ntmps5
  have K0 : Hid (Held [] w w) := Lib.hid (held_none w)
  go_wp2_with fail
  refine (SC.out _).mono ?_
  rintro e w1 ⟨vW, rfl, ho, hb⟩
  obtain ⟨aW, cW, rfl, _, _⟩ := ho.sl
  have bW := ho.lt
  have OW := Lib.hid ho
  clear ho
  have K1 := Lib.hid (Held.later K0.out (show Later _ w1 from hb))
  have z1 := Later.size (show Later _ w1 from hb)
  try simp only [World.size_alloc] at z1
  clear hb
  clear K0
  obtain ⟨bWlo, hbWlo⟩ : ∃ x, x = w.heap.size := ⟨_, rfl⟩
  have bW' : ∀ k, (Value.slice aW V.length cW).ownBlock = some k → w.heap.size ≤ k ∧ k < w1.heap.size := bW
  clear hbWlo bWlo
  have K2 := Lib.hid (ht_box2 K1.out (.int .i64 B2) (.slice aW V.length cW) 26)
  clear K1
  have OW' := Lib.hid (OW.out.alloc (.cells #[.int .i64 B2, .slice aW V.length cW] 26))
  clear OW
  have OW := OW'
  clear OW'
  obtain ⟨c0, c1, _⟩ := Held.s2 K2.out
  go_wp2_with fail
  clear c0 c1
  refine (IC.out _ (show Later w _ from K2.out.2)).mono ?_
  rintro e w2 ⟨vG, rfl, ho, hb⟩
  try simp only [World.size_alloc] at ho
  obtain ⟨aG, cG, rfl, _, _⟩ := ho.sl
  have bG := ho.lt
  have OG := Lib.hid ho
  clear ho
  have K3 := Lib.hid (Held.later K2.out (show Later _ w2 from hb))
  have z2 := Later.size (show Later _ w2 from hb)
  try simp only [World.size_alloc] at z2
  have OW' := Lib.hid (tf_lat OW.out (show Later _ w2 from hb))
  clear OW
  have OW := OW'
  clear OW'
  clear hb
  clear K2
  have K4 := Lib.hid (ht_box2 K3.out (.int .i64 B2) (.slice aG V.length cG) 26)
  clear K3
  have OW' := Lib.hid (OW.out.alloc (.cells #[.int .i64 B2, .slice aG V.length cG] 26))
  clear OW
  have OW := OW'
  clear OW'
  have OG' := Lib.hid (OG.out.alloc (.cells #[.int .i64 B2, .slice aG V.length cG] 26))
  clear OG
  have OG := OG'
  clear OG'
  obtain ⟨c0, c1, c2, c3, _⟩ := Held.s4 K4.out
  go_wp2_with fail
  clear c0 c1 c2 c3
  refine (l_eqTraffic _ _ _ _ _ _ _ V _ (own_slT OG.out) (own_slT OW.out)).mono ?_
  rintro e w3 ⟨rfl, hb⟩
  have K5 := Lib.hid (Held.later K4.out (show Later _ w3 from hb))
  have z3 := Later.size (show Later _ w3 from hb)
  try simp only [World.size_alloc] at z3
  have OW' := Lib.hid (tf_lat OW.out (show Later _ w3 from hb))
  clear OW
  have OW := OW'
  clear OW'
  have OG' := Lib.hid (tf_lat OG.out (show Later _ w3 from hb))
  clear OG
  have OG := OG'
  clear OG'
  clear hb
  clear K4
  obtain ⟨c0, c1, c2, c3, _⟩ := Held.s4 K5.out
  go_wp2_with fail
  clear c0 c1 c2 c3
  refine (l_markTraffic _ _ _ V _ OG.out (by omega)).mono ?_
  rintro e w4 ⟨rfl, hm, hg⟩
  have OM := Lib.hid hm
  clear hm OG
  have K6 := Lib.hid (ht_grown K5.out hg (by intro x hx; simp only [List.mem_cons, List.not_mem_nil, or_false] at hx; rcases hx with rfl | rfl | rfl | rfl <;> (intro e; have := bG _ e; (try simp only [] at this); omega)) (by intro k e; have := bG k e; omega))
  have z4 := hg.size
  have OW' := Lib.hid (own_keptT OW.out hg (by intro k hk e; have := bW' k hk; have := bG k e; omega))
  clear OW
  have OW := OW'
  clear OW'
  clear hg
  clear K5
  obtain ⟨c0, c1, c2, c3, _⟩ := Held.s4 K6.out
  go_wp2_with fail
  clear c0 c1 c2 c3
  refine (l_heldTraffic _ _ _ V _ OM.out (by omega)).mono ?_
  rintro e w5 ⟨rfl, hb⟩
  have K7 := Lib.hid (Held.later K6.out (show Later _ w5 from hb))
  have z5 := Later.size (show Later _ w5 from hb)
  try simp only [World.size_alloc] at z5
  have OW' := Lib.hid (tf_lat OW.out (show Later _ w5 from hb))
  clear OW
  have OW := OW'
  clear OW'
  have OM' := Lib.hid (tf_lat OM.out (show Later _ w5 from hb))
  clear OM
  have OM := OM'
  clear OM'
  clear hb
  clear K6
  obtain ⟨c0, c1, c2, c3, _⟩ := Held.s4 K7.out
  go_wp2_with fail
  clear c0 c1 c2 c3
  refine (IC.out _ (show Later w _ from K7.out.2)).mono ?_
  rintro e w6 ⟨vH, rfl, ho, hb⟩
  obtain ⟨aH, cH, rfl, _, _⟩ := ho.sl
  have OH := Lib.hid ho
  clear ho
  have K8 := Lib.hid (Held.later K7.out (show Later _ w6 from hb))
  have z6 := Later.size (show Later _ w6 from hb)
  try simp only [World.size_alloc] at z6
  have OW' := Lib.hid (tf_lat OW.out (show Later _ w6 from hb))
  clear OW
  have OW := OW'
  clear OW'
  have OM' := Lib.hid (tf_lat OM.out (show Later _ w6 from hb))
  clear OM
  have OM := OM'
  clear OM'
  clear hb
  clear K7
  have K9 := Lib.hid (ht_box2 K8.out (.int .i64 B2) (.slice aH V.length cH) 26)
  clear K8
  have OW' := Lib.hid (OW.out.alloc (.cells #[.int .i64 B2, .slice aH V.length cH] 26))
  clear OW
  have OW := OW'
  clear OW'
  have OM' := Lib.hid (OM.out.alloc (.cells #[.int .i64 B2, .slice aH V.length cH] 26))
  clear OM
  have OM := OM'
  clear OM'
  have OH' := Lib.hid (OH.out.alloc (.cells #[.int .i64 B2, .slice aH V.length cH] 26))
  clear OH
  have OH := OH'
  clear OH'
  obtain ⟨c0, c1, c2, c3, c4, c5, _⟩ := Held.s6 K9.out
  go_wp2_with fail
  clear c0 c1 c2 c3 c4 c5
  refine (l_eqTraffic _ _ _ _ _ _ _ V _ (own_slT OH.out) (own_slT OW.out)).mono ?_
  rintro e w7 ⟨rfl, hb⟩
  have K10 := Lib.hid (Held.later K9.out (show Later _ w7 from hb))
  have z7 := Later.size (show Later _ w7 from hb)
  try simp only [World.size_alloc] at z7
  have OW' := Lib.hid (tf_lat OW.out (show Later _ w7 from hb))
  clear OW
  have OW := OW'
  clear OW'
  have OM' := Lib.hid (tf_lat OM.out (show Later _ w7 from hb))
  clear OM
  have OM := OM'
  clear OM'
  have OH' := Lib.hid (tf_lat OH.out (show Later _ w7 from hb))
  clear OH
  have OH := OH'
  clear OH'
  clear hb
  clear K9
  obtain ⟨c0, c1, c2, c3, c4, c5, _⟩ := Held.s6 K10.out
  go_wp2_with fail
  clear c0 c1 c2 c3 c4 c5
  refine (l_heldTraffic _ _ _ V _ OM.out (by omega)).mono ?_
  rintro e w8 ⟨rfl, hb⟩
  have K11 := Lib.hid (Held.later K10.out (show Later _ w8 from hb))
  have z8 := Later.size (show Later _ w8 from hb)
  try simp only [World.size_alloc] at z8
  have OW' := Lib.hid (tf_lat OW.out (show Later _ w8 from hb))
  clear OW
  have OW := OW'
  clear OW'
  have OM' := Lib.hid (tf_lat OM.out (show Later _ w8 from hb))
  clear OM
  have OM := OM'
  clear OM'
  have OH' := Lib.hid (tf_lat OH.out (show Later _ w8 from hb))
  clear OH
  have OH := OH'
  clear OH'
  clear hb
  clear K10
  obtain ⟨c0, c1, c2, c3, c4, c5, _⟩ := Held.s6 K11.out
  go_wp2_with fail
  go_ret
  exact ⟨rfl, K11.out.2⟩
end Go.Proofs.YtdaihpkjnigjgaaDoor
