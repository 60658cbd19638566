/- Drawn runs: a layout, the index of a segment, a count. -/
import Derived.Test.YtnmlkigpiaekjaaEnF
import Derived.Test.YtnmlkigpiaekjaaDL
import Derived.Test.YtnmlkigpiaekjaaSgB
namespace Go.Proofs.Ytnmlkigpiaekjaa
open Go.RowKit
set_option maxHeartbeats 4000000
set_option linter.unusedVariables false
set_option linter.unusedSimpArgs false
/-- a drawn layout and two numbers, by a function that the source is handed to -/
def DrawnRn (w : World) (B : Nat) (a : Option Addr) (len cap : Nat) (e : Ending) (w' : World) : Prop :=
  ∃ (a' : Option Addr) (n cap' : Nat) (L : List Sg) (p q : Int), e = .returned (.tuple #[.agg #[.slice a' n cap'], .int .i64 p, .int .i64 q]) ∧ Sgs w' a' n L ∧ n ≤ cap' ∧ (∀ x, a' = some x → 0 < n → w.heap.size ≤ x.block) ∧ InR p ∧ InR q ∧ w.grownBy w' (some B) ∧ Src w' B a len cap
theorem sl_latQ {w w' : World} {a : Option Addr} {n : Nat} {l : List Int} (h : Sl w a n l) (hb : Later w w') : Sl w' a n l := sl_later h hb
set_option maxRecDepth 100000 in
theorem s_l06DrawRun (B : Nat) (a : Option Addr) (len cap : Nat) (w : World) (hs : Src w B a len cap) :
    Calls Try.prog 36 #[.pointer (some ⟨B, 0, none⟩)] w (DrawnRn w B a len cap) := by
  have HS := Lib.hid hs
  have hB := hs.lt
  clear hs
  go_enter Try.func36, Try.ntmps36
  go_wp2_with fail
  have S1 : Hid (Src (w.alloc (.cells #[.slice none 0 0] 26)) B a len cap) := Lib.hid (HS.out.alloc _)
  refine (s_Draw B a len cap _ S1.out).mono ?_
  rintro e w2 ⟨a', n, cap', L, rfl, hl, hcap, h26, hsm, hbl, src, gr⟩
  rw [World.size_alloc] at hbl
  obtain ⟨w1, hw1⟩ : ∃ w1, w.alloc (.cells #[.slice none 0 0] 26) = w1 := ⟨_, rfl⟩
  have hz1 : w1.heap.size = w.heap.size + 1 := by rw [← hw1, World.size_alloc]
  have RC : Hid (w1.cell? ⟨w.heap.size, 0, none⟩ = some (.slice none 0 0)) := Lib.hid (by rw [← hw1]; simp)
  have RF : Hid (w1.frozen? ⟨w.heap.size, 0, none⟩ = false) := Lib.hid (by rw [← hw1]; simp)
  have G1 : Hid (w.grownBy w1 (some B)) := Lib.hid (by rw [← hw1]; exact World.grownBy_alloc w _ _)
  rw [hw1] at S1 gr
  have hne1 : 0 < len → ∀ x, a = some x → x.block ≠ w.heap.size := fun h x hx => by have := HS.out.low h x hx; omega
  have D2 : Hid (DL [] w.heap.size a' n L B a len cap w1 w2) := Lib.hid ⟨(St.begin S1.out).call src gr, hl, fun x hx hn => ⟨by have := hbl x hx; omega, by have := hbl x hx; omega⟩⟩
  have HL1 : Hid (∀ x, a' = some x → 0 < n → w.heap.size ≤ x.block) := Lib.hid (fun x hx hn => by have := hbl x hx; omega)
  have hz2 := gr.size
  have hn1 : w2.heap.size ≠ w.heap.size := by omega
  have hn2 : w.heap.size ≠ w2.heap.size := by omega
  have hBn : B ≠ w.heap.size := by omega
  have D3 := Lib.hid (D2.out.box (.slice a' n cap') 26)
  have hnm := hl.2.1
  clear hl hbl src gr hsm S1 D2 hw1
  go_wp2_with fail
  refine (s_Next B a len cap (n : Int) _ D3.out.src (by omega) (by omega)).mono ?_
  rintro e w3 ⟨f, rfl, x0, x1, x2, src, gr⟩
  have D4 := Lib.hid (D3.out.call src gr)
  have Hf : Hid (InR f) := Lib.hid ⟨by omega, by by_cases h : (1 : Int) < (n : Int); (have := x1 h; omega); (have := x2 (by omega); omega)⟩
  clear src gr x0 x1 x2
  go_wp2_with fail
  refine (s_Next B a len cap 24 _ D4.out.src (by omega) (by omega)).mono ?_
  rintro e w4 ⟨c, rfl, x0, x1, x2, src, gr⟩
  have D5 := Lib.hid (D4.out.call src gr)
  have hz5 := D5.out.1.le
  have c5 := D5.out.c1; have rc5 := D5.out.old RC.out (by omega); have rf5 := D5.out.oldF RC.out RF.out (by omega)
  clear src gr x1 x2
  by_cases k0 : c = 0
  · subst k0
    go_wp2_with fail
    have hlv := sl_new w4 [-1, (n : Int)] 2 (by simp) (by intro x hx; simp at hx; unfold InR; omega)
    refine (s_Pick B a len cap ⟨w4.heap.size, 0, none⟩ 2 2 _ _ (D5.out.src.alloc _) hlv (by have := D5.out.src.lt; show w4.heap.size ≠ B; omega) (by omega)).mono ?_
    rintro e w5 ⟨g, rfl, hg, src, gr⟩
    have D6 := Lib.hid ((D5.out.alloc _).call src gr)
    have Hg : Hid (InR g) := Lib.hid (by simp at hg; unfold InR; omega)
    have c6 := D6.out.c1; have rc6 := D6.out.old RC.out (by omega); have rf6 := D6.out.oldF RC.out RF.out (by omega)
    clear src gr hlv hg c5 rc5 rf5
    go_wp2_with fail
    go_region_held3 (fun w' => w'.cell? ⟨w2.heap.size, 0, none⟩ = some (.slice a' n cap')) (first | (refine DL.c1 (l := []) (g := w.heap.size) (a' := a') (n := n) (L := L) (B := B) (a := a) (len := len) (cap := cap) (w0 := w1) ?_; ((repeat (first | (with_reducible exact Hid.out (by assumption)) | (with_reducible refine DL.alloc ?_ _) | (with_reducible refine DL.drewN ?_ _) | (with_reducible refine DL.drew ?_) | (with_reducible refine DL.later ?_ (Hid.out (by assumption))))); done)) | (rw [World.cell?_setCell_other _ _ _ _ (by simp [hn1, hn2])]; refine DL.c1 (l := []) (g := w.heap.size) (a' := a') (n := n) (L := L) (B := B) (a := a) (len := len) (cap := cap) (w0 := w1) ?_; ((repeat (first | (with_reducible exact Hid.out (by assumption)) | (with_reducible refine DL.alloc ?_ _) | (with_reducible refine DL.drewN ?_ _) | (with_reducible refine DL.drew ?_) | (with_reducible refine DL.later ?_ (Hid.out (by assumption))))); done)))
      ((go_at_call 40; refine (s_Next B a len cap 7 _ (show DL [(w2.heap.size, 0, .slice a' n cap')] w.heap.size a' n L B a len cap w1 _ from (by repeat (first | (with_reducible exact Hid.out (by assumption)) | (with_reducible refine DL.alloc ?_ _) | (with_reducible refine DL.drewN ?_ _) | (with_reducible refine DL.drew ?_) | (with_reducible refine DL.later ?_ (Hid.out (by assumption)))))).src (by omega) (by omega)).mono ?_; rintro e w8 ⟨q, rfl, q0, q1, q2, src, gr⟩; have Hq : Hid (InR q) := Lib.hid ⟨by omega, by have := q1 (by omega); omega⟩; have D8 := Lib.hid (DL.call (show DL [(w2.heap.size, 0, .slice a' n cap')] w.heap.size a' n L B a len cap w1 _ from (by repeat (first | (with_reducible exact Hid.out (by assumption)) | (with_reducible refine DL.alloc ?_ _) | (with_reducible refine DL.drewN ?_ _) | (with_reducible refine DL.drew ?_) | (with_reducible refine DL.later ?_ (Hid.out (by assumption)))))) src gr); have rc8 := D8.out.old RC.out (by omega); have rf8 := D8.out.oldF RC.out RF.out (by omega); clear src gr q0 q1 q2))
    all_goals
      go_wp2_with fail
      refine bodyPost_ret (v := .tuple #[.agg #[.slice a' n cap'], .int .i64 g, .int .i64 q]) (by simp [results, Try.results36, go_sem, *]) rfl ⟨a', n, cap', L, g, q, rfl, D8.out.set _ _, hcap, HL1.out, Hg.out, Hq.out, grown_set_new (grown_trans G1.out D8.out.1.grown) (p := ⟨w.heap.size, 0, none⟩) (Nat.le_refl _) _, Src.set1 (g := w.heap.size) (j := 0) D8.out.1.src hBn hne1⟩
  · have e0 : (c == 0) = false := by simpa using k0
    clear k0
    by_cases k1 : c = 1
    · subst k1
      go_wp2_with fail
      go_region_held3 (fun w' => w'.cell? ⟨w2.heap.size, 0, none⟩ = some (.slice a' n cap')) (first | (refine DL.c1 (l := []) (g := w.heap.size) (a' := a') (n := n) (L := L) (B := B) (a := a) (len := len) (cap := cap) (w0 := w1) ?_; ((repeat (first | (with_reducible exact Hid.out (by assumption)) | (with_reducible refine DL.alloc ?_ _) | (with_reducible refine DL.drewN ?_ _) | (with_reducible refine DL.drew ?_) | (with_reducible refine DL.later ?_ (Hid.out (by assumption))))); done)) | (rw [World.cell?_setCell_other _ _ _ _ (by simp [hn1, hn2])]; refine DL.c1 (l := []) (g := w.heap.size) (a' := a') (n := n) (L := L) (B := B) (a := a) (len := len) (cap := cap) (w0 := w1) ?_; ((repeat (first | (with_reducible exact Hid.out (by assumption)) | (with_reducible refine DL.alloc ?_ _) | (with_reducible refine DL.drewN ?_ _) | (with_reducible refine DL.drew ?_) | (with_reducible refine DL.later ?_ (Hid.out (by assumption))))); done)))
        ((go_at_call 71; refine (s_Pick B a len cap _ 3 3 [-1, 24, 25] _ (show DL [(w2.heap.size, 0, .slice a' n cap')] w.heap.size a' n L B a len cap w1 _ from (by repeat (first | (with_reducible exact Hid.out (by assumption)) | (with_reducible refine DL.alloc ?_ _) | (with_reducible refine DL.drewN ?_ _) | (with_reducible refine DL.drew ?_) | (with_reducible refine DL.later ?_ (Hid.out (by assumption)))))).src (by first | exact sl_new _ [-1, 24, 25] 2 (by simp) (by intro x hx; simp at hx; unfold InR; omega) | exact sl_latQ (sl_new _ [-1, 24, 25] 2 (by simp) (by intro x hx; simp at hx; unfold InR; omega)) ((Later.refl _).drew) | exact sl_latQ (sl_new _ [-1, 24, 25] 2 (by simp) (by intro x hx; simp at hx; unfold InR; omega)) ((Later.refl _).drewN _)) (by simp; omega) (by omega)).mono ?_; rintro e w8 ⟨q, rfl, hq, src, gr⟩; have Hq : Hid (InR q) := Lib.hid (by simp at hq; unfold InR; omega); have D8 := Lib.hid (DL.call (show DL [(w2.heap.size, 0, .slice a' n cap')] w.heap.size a' n L B a len cap w1 _ from (by repeat (first | (with_reducible exact Hid.out (by assumption)) | (with_reducible refine DL.alloc ?_ _) | (with_reducible refine DL.drewN ?_ _) | (with_reducible refine DL.drew ?_) | (with_reducible refine DL.later ?_ (Hid.out (by assumption)))))) src gr); have rc8 := D8.out.old RC.out (by omega); have rf8 := D8.out.oldF RC.out RF.out (by omega); clear src gr hq))
      all_goals
        go_wp2_with fail
        refine bodyPost_ret (v := .tuple #[.agg #[.slice a' n cap'], .int .i64 f, .int .i64 q]) (by simp [results, Try.results36, go_sem, *]) rfl ⟨a', n, cap', L, f, q, rfl, D8.out.set _ _, hcap, HL1.out, Hf.out, Hq.out, grown_set_new (grown_trans G1.out D8.out.1.grown) (p := ⟨w.heap.size, 0, none⟩) (Nat.le_refl _) _, Src.set1 (g := w.heap.size) (j := 0) D8.out.1.src hBn hne1⟩
    · have e1 : (c == 1) = false := by simpa using k1
      clear k1
      go_wp2_with fail
      go_region_held3 (fun w' => w'.cell? ⟨w2.heap.size, 0, none⟩ = some (.slice a' n cap')) (first | (refine DL.c1 (l := []) (g := w.heap.size) (a' := a') (n := n) (L := L) (B := B) (a := a) (len := len) (cap := cap) (w0 := w1) ?_; ((repeat (first | (with_reducible exact Hid.out (by assumption)) | (with_reducible refine DL.alloc ?_ _) | (with_reducible refine DL.drewN ?_ _) | (with_reducible refine DL.drew ?_) | (with_reducible refine DL.later ?_ (Hid.out (by assumption))))); done)) | (rw [World.cell?_setCell_other _ _ _ _ (by simp [hn1, hn2])]; refine DL.c1 (l := []) (g := w.heap.size) (a' := a') (n := n) (L := L) (B := B) (a := a) (len := len) (cap := cap) (w0 := w1) ?_; ((repeat (first | (with_reducible exact Hid.out (by assumption)) | (with_reducible refine DL.alloc ?_ _) | (with_reducible refine DL.drewN ?_ _) | (with_reducible refine DL.drew ?_) | (with_reducible refine DL.later ?_ (Hid.out (by assumption))))); done)))
        ((go_at_call 40; refine (s_Next B a len cap 7 _ (show DL [(w2.heap.size, 0, .slice a' n cap')] w.heap.size a' n L B a len cap w1 _ from (by repeat (first | (with_reducible exact Hid.out (by assumption)) | (with_reducible refine DL.alloc ?_ _) | (with_reducible refine DL.drewN ?_ _) | (with_reducible refine DL.drew ?_) | (with_reducible refine DL.later ?_ (Hid.out (by assumption)))))).src (by omega) (by omega)).mono ?_; rintro e w8 ⟨q, rfl, q0, q1, q2, src, gr⟩; have Hq : Hid (InR q) := Lib.hid ⟨by omega, by have := q1 (by omega); omega⟩; have D8 := Lib.hid (DL.call (show DL [(w2.heap.size, 0, .slice a' n cap')] w.heap.size a' n L B a len cap w1 _ from (by repeat (first | (with_reducible exact Hid.out (by assumption)) | (with_reducible refine DL.alloc ?_ _) | (with_reducible refine DL.drewN ?_ _) | (with_reducible refine DL.drew ?_) | (with_reducible refine DL.later ?_ (Hid.out (by assumption)))))) src gr); have rc8 := D8.out.old RC.out (by omega); have rf8 := D8.out.oldF RC.out RF.out (by omega); clear src gr q0 q1 q2))
      all_goals
        go_wp2_with fail
        refine bodyPost_ret (v := .tuple #[.agg #[.slice a' n cap'], .int .i64 f, .int .i64 q]) (by simp [results, Try.results36, go_sem, *]) rfl ⟨a', n, cap', L, f, q, rfl, D8.out.set _ _, hcap, HL1.out, Hf.out, Hq.out, grown_set_new (grown_trans G1.out D8.out.1.grown) (p := ⟨w.heap.size, 0, none⟩) (Nat.le_refl _) _, Src.set1 (g := w.heap.size) (j := 0) D8.out.1.src hBn hne1⟩
end Go.Proofs.Ytnmlkigpiaekjaa
