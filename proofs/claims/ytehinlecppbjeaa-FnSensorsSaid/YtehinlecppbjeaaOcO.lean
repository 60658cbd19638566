/- The draws of GapAhead and AreSeparate. -/
import Derived.Test.YtehinlecppbjeaaOcG
import Derived.Test.YtehinlecppbjeaaOcL
namespace Go.Proofs.Ytehinlecppbjeaa
open Go.RowKit
set_option maxHeartbeats 4000000
set_option linter.unusedVariables false
set_option linter.unusedSimpArgs false
/-- a drawn layout and three numbers -/
def DrawnL3 (w : World) (e : Ending) (w' : World) : Prop :=
  ∃ (a' : Option Addr) (n cap' : Nat) (L : List Sg) (p r q : Int), e = .returned (.tuple #[.agg #[.slice a' n cap'], .int .i64 p, .int .i64 r, .int .i64 q]) ∧ Sgs w' a' n L ∧ n ≤ cap' ∧ InR p ∧ InR r ∧ InR q ∧ Below w.heap.size w w'
/-- a drawn layout, a list, a number -/
def DrawnLF (w : World) (e : Ending) (w' : World) : Prop :=
  ∃ (a' : Option Addr) (n cap' : Nat) (L : List Sg) (A : Option Addr) (m capF : Nat) (F : List Int) (q : Int), e = .returned (.tuple #[.agg #[.slice a' n cap'], .slice A m capF, .int .i64 q]) ∧ Sgs w' a' n L ∧ n ≤ cap' ∧ Sl w' A m F ∧ m ≤ capF ∧ m ≤ 1000 ∧ InR q ∧ Below w.heap.size w w'
theorem Own.rows {w : World} {base : Nat} {v : Value} {l : List Int} (h : Own w base v l) : ∃ A cap, v = .slice A l.length cap ∧ Sl w A l.length l ∧ l.length ≤ cap ∧ ∀ x, A = some x → base ≤ x.block := by
  obtain ⟨A, cap, e, hs, hb⟩ := h.sl
  refine ⟨A, cap, e, hs, ?_, hb⟩
  subst e
  rcases h.1.2 with ⟨e, h0⟩ | ⟨g, cap2, cur, e, _, _, h1, h2, _⟩
  · simp only [Value.slice.injEq] at e; omega
  · simp only [Value.slice.injEq] at e; omega
theorem Sl.far {w : World} {A : Option Addr} {n : Nat} {l : List Int} (h : Sl w A n l) (g j : Nat) (u : Value) (hne : ∀ x, A = some x → x.block ≠ g) : Sl (w.setCell ⟨g, j, none⟩ u) A n l := by
  obtain ⟨h1, h2, h3, h4⟩ := h
  refine ⟨h1, h2, fun k hk => ?_, h4⟩
  obtain ⟨b, off, rfl, hc⟩ := h3 k hk
  exact ⟨b, off, rfl, by rw [World.cell?_setCell_far _ _ _ _ (Ne.symm (hne _ rfl))]; exact hc⟩
set_option maxRecDepth 100000 in
theorem s_DrawGapAhead (a : Option Addr) (len cap : Nat) (w : World) (hs : Bytes w a len) :
    Calls Try.prog 26 #[.slice a len cap] w (DrawnL3 w) := by
  have HS := Lib.hid hs
  clear hs
  go_enter Try.func26, Try.ntmps26
  go_wp2_with fail
  refine (s_From a len cap _ (HS.out.later ((Below.refl _ _).alloc (Nat.le_refl _) _))).mono ?_
  rintro e w1 ⟨rfl, src, lt, bel⟩
  rw [World.size_alloc] at src lt bel ⊢
  have S1 := Lib.hid src
  have BL := Lib.hid bel
  clear src bel
  go_wp2_with fail
  refine (s_Draw (w.heap.size + 1) a len cap _ S1.out).mono ?_
  rintro e w2 ⟨a', n, cap', L, rfl, hl, hcap, h26, hsm, hbl, src, gr⟩
  obtain ⟨d2, b1, rc, rf, hz1⟩ := dl_begin S1.out BL.out hl hbl src gr
  have D2 := Lib.hid d2
  have B1 := Lib.hid b1
  have RC := Lib.hid rc; have RF := Lib.hid rf
  have SM : Hid (∀ x ∈ L, SmW x) := Lib.hid (fun x hx => (hsm x hx).w)
  have hz2 := gr.size
  have hn1 : w2.heap.size ≠ w.heap.size := by omega
  have hn2 : w.heap.size ≠ w2.heap.size := by omega
  have D3 := Lib.hid (D2.out.box (.slice a' n cap') 26)
  clear hl hbl src gr d2 b1 rc rf hsm lt S1 BL D2
  go_wp2_with fail
  refine (s_DrawLength5 (w.heap.size + 1) a len cap a' n cap' L _ D3.out.src D3.out.sg h26 SM.out D3.out.nB).mono ?_
  rintro e w3 ⟨q, rfl, hq, src, gr⟩
  have Hq : Hid (-300000000 ≤ q ∧ q ≤ 300000000) := Lib.hid (by omega)
  have D4 := Lib.hid (D3.out.call src gr); have c4 := D4.out.c1; have rc4 := D4.out.old RC.out (by omega); have rf4 := D4.out.oldF RC.out RF.out (by omega); clear src gr
  clear hq
  go_wp2_with fail
  refine (s_DrawPositionW (w.heap.size + 1) a len cap a' n cap' L _ D4.out.src D4.out.sg h26 SM.out).mono ?_
  rintro e w4 ⟨p, rfl, hp, src, gr⟩
  have Hp := Lib.hid hp
  have D5 := Lib.hid (D4.out.call src gr); have c5 := D5.out.c1; have rc5 := D5.out.old RC.out (by omega); have rf5 := D5.out.oldF RC.out RF.out (by omega); clear src gr
  clear hp c4 rc4 rf4
  go_wp2_with fail
  refine (s_Total_sm a' n cap' L _ D5.out.sg h26 SM.out).mono ?_
  rintro e w5 ⟨rfl, hb⟩
  have D6 := Lib.hid (D5.out.later hb)
  have c6 := D6.out.c1; have rc6 := D6.out.old RC.out (by omega); have rf6 := D6.out.oldF RC.out RF.out (by omega)
  clear hb c5 rc5 rf5
  obtain ⟨t1, t2⟩ := tot_sm D6.out.sg.1 h26 SM.out
  generalize totL L = t at t1 t2 ⊢
  have wr1 := fun x => wr_rng x
  have WR := Lib.hid wr1; clear wr1
  rcases Int.lt_or_le 1 t with h1 | h1
  · go_wp2_with fail
    refine (s_Next (w.heap.size + 1) a len cap 4 _ D6.out.src (by omega) (by omega)).mono ?_
    rintro e w6 ⟨c, rfl, c0, c1, c2, src, gr⟩
    have D7 := Lib.hid (D6.out.call src gr); have c7 := D7.out.c1; have rc7 := D7.out.old RC.out (by omega); have rf7 := D7.out.oldF RC.out RF.out (by omega); clear src gr
    clear c1 c2 c6 rc6 rf6
    by_cases k0 : c = 0
    · subst k0
      go_wp2_with fail
      go_region_held3 (fun w' => w'.cell? ⟨w2.heap.size, 0, none⟩ = some (.slice a' n cap')) (first | (refine DL.c1 (l := []) (g := w.heap.size) (a' := a') (n := n) (L := L) (B := w.heap.size + 1) (a := a) (len := len) (cap := cap) (w0 := w1) ?_; ((repeat (first | (with_reducible exact Hid.out (by assumption)) | (with_reducible refine DL.alloc ?_ _) | (with_reducible refine DL.drewN ?_ _) | (with_reducible refine DL.drew ?_) | (with_reducible refine DL.later ?_ (Hid.out (by assumption))))); done)) | (rw [World.cell?_setCell_other _ _ _ _ (by simp [hn1, hn2])]; refine DL.c1 (l := []) (g := w.heap.size) (a' := a') (n := n) (L := L) (B := w.heap.size + 1) (a := a) (len := len) (cap := cap) (w0 := w1) ?_; ((repeat (first | (with_reducible exact Hid.out (by assumption)) | (with_reducible refine DL.alloc ?_ _) | (with_reducible refine DL.drewN ?_ _) | (with_reducible refine DL.drew ?_) | (with_reducible refine DL.later ?_ (Hid.out (by assumption))))); done)))
        (first
          | (go_at_call 79; refine (s_Next (w.heap.size + 1) a len cap 2 _ (show DL [(w2.heap.size, 0, .slice a' n cap')] w.heap.size a' n L (w.heap.size + 1) a len cap w1 _ from (by repeat (first | (with_reducible exact Hid.out (by assumption)) | (with_reducible refine DL.alloc ?_ _) | (with_reducible refine DL.drewN ?_ _) | (with_reducible refine DL.drew ?_) | (with_reducible refine DL.later ?_ (Hid.out (by assumption)))))).src (by omega) (by omega)).mono ?_; rintro e w8 ⟨v, rfl, v0, v1, v2, src, gr⟩; have D8 := Lib.hid (DL.call (show DL [(w2.heap.size, 0, .slice a' n cap')] w.heap.size a' n L (w.heap.size + 1) a len cap w1 _ from (by repeat (first | (with_reducible exact Hid.out (by assumption)) | (with_reducible refine DL.alloc ?_ _) | (with_reducible refine DL.drewN ?_ _) | (with_reducible refine DL.drew ?_) | (with_reducible refine DL.later ?_ (Hid.out (by assumption)))))) src gr); have rc8 := D8.out.old RC.out (by omega); have rf8 := D8.out.oldF RC.out RF.out (by omega); clear src gr v1 v2)
          | (go_at_call 78; refine (s_l05ModE _ t _ (by omega) (by omega) (WR.out _).1 (WR.out _).2).mono ?_; rintro e w9 ⟨r, rfl, r0, r1, rfl⟩))
      all_goals
        go_wp2_with fail
        refine bodyPost_ret (v := .tuple #[.agg #[.slice a' n cap'], .int .i64 p, .int .i64 r, .int .i64 q]) (by simp [results, Try.results26, go_sem, *]) rfl ⟨a', n, cap', L, p, r, q, rfl, D8.out.set _ _, hcap, Hp.out, ⟨by omega, by omega⟩, ⟨by have := Hq.out; omega, by have := Hq.out; omega⟩, (dl_below D8.out B1.out).setCell (Nat.le_refl _) _⟩
    · have e0 : (c == 0) = false := by simpa using k0
      clear k0
      go_wp2_with fail
      go_region_held3 (fun w' => w'.cell? ⟨w2.heap.size, 0, none⟩ = some (.slice a' n cap')) (first | (refine DL.c1 (l := []) (g := w.heap.size) (a' := a') (n := n) (L := L) (B := w.heap.size + 1) (a := a) (len := len) (cap := cap) (w0 := w1) ?_; ((repeat (first | (with_reducible exact Hid.out (by assumption)) | (with_reducible refine DL.alloc ?_ _) | (with_reducible refine DL.drewN ?_ _) | (with_reducible refine DL.drew ?_) | (with_reducible refine DL.later ?_ (Hid.out (by assumption))))); done)) | (rw [World.cell?_setCell_other _ _ _ _ (by simp [hn1, hn2])]; refine DL.c1 (l := []) (g := w.heap.size) (a' := a') (n := n) (L := L) (B := w.heap.size + 1) (a := a) (len := len) (cap := cap) (w0 := w1) ?_; ((repeat (first | (with_reducible exact Hid.out (by assumption)) | (with_reducible refine DL.alloc ?_ _) | (with_reducible refine DL.drewN ?_ _) | (with_reducible refine DL.drew ?_) | (with_reducible refine DL.later ?_ (Hid.out (by assumption))))); done))) ((go_at_call 68; refine (s_DrawPositionW (w.heap.size + 1) a len cap a' n cap' L _ (show DL [(w2.heap.size, 0, .slice a' n cap')] w.heap.size a' n L (w.heap.size + 1) a len cap w1 _ from (by repeat (first | (with_reducible exact Hid.out (by assumption)) | (with_reducible refine DL.alloc ?_ _) | (with_reducible refine DL.drewN ?_ _) | (with_reducible refine DL.drew ?_) | (with_reducible refine DL.later ?_ (Hid.out (by assumption)))))).src (show DL [(w2.heap.size, 0, .slice a' n cap')] w.heap.size a' n L (w.heap.size + 1) a len cap w1 _ from (by repeat (first | (with_reducible exact Hid.out (by assumption)) | (with_reducible refine DL.alloc ?_ _) | (with_reducible refine DL.drewN ?_ _) | (with_reducible refine DL.drew ?_) | (with_reducible refine DL.later ?_ (Hid.out (by assumption)))))).sg h26 SM.out).mono ?_; rintro e w9 ⟨r, rfl, hr, src, gr⟩; have Hr := Lib.hid hr; have D9 := Lib.hid (DL.call (show DL [(w2.heap.size, 0, .slice a' n cap')] w.heap.size a' n L (w.heap.size + 1) a len cap w1 _ from (by repeat (first | (with_reducible exact Hid.out (by assumption)) | (with_reducible refine DL.alloc ?_ _) | (with_reducible refine DL.drewN ?_ _) | (with_reducible refine DL.drew ?_) | (with_reducible refine DL.later ?_ (Hid.out (by assumption)))))) src gr); have rc9 := D9.out.old RC.out (by omega); have rf9 := D9.out.oldF RC.out RF.out (by omega); clear src gr hr))
      all_goals
        go_wp2_with fail
        refine bodyPost_ret (v := .tuple #[.agg #[.slice a' n cap'], .int .i64 p, .int .i64 r, .int .i64 q]) (by simp [results, Try.results26, go_sem, *]) rfl ⟨a', n, cap', L, p, r, q, rfl, D9.out.set _ _, hcap, Hp.out, Hr.out, ⟨by have := Hq.out; omega, by have := Hq.out; omega⟩, (dl_below D9.out B1.out).setCell (Nat.le_refl _) _⟩
  · go_wp2_with fail
    refine (s_Next (w.heap.size + 1) a len cap 4 _ D6.out.src (by omega) (by omega)).mono ?_
    rintro e w6 ⟨c, rfl, c0, c1, c2, src, gr⟩
    have D7 := Lib.hid (D6.out.call src gr); have c7 := D7.out.c1; have rc7 := D7.out.old RC.out (by omega); have rf7 := D7.out.oldF RC.out RF.out (by omega); clear src gr
    clear c1 c2 c6 rc6 rf6
    by_cases k0 : c = 0
    · subst k0
      go_wp2_with fail
      go_region_held3 (fun w' => w'.cell? ⟨w2.heap.size, 0, none⟩ = some (.slice a' n cap')) (first | (refine DL.c1 (l := []) (g := w.heap.size) (a' := a') (n := n) (L := L) (B := w.heap.size + 1) (a := a) (len := len) (cap := cap) (w0 := w1) ?_; ((repeat (first | (with_reducible exact Hid.out (by assumption)) | (with_reducible refine DL.alloc ?_ _) | (with_reducible refine DL.drewN ?_ _) | (with_reducible refine DL.drew ?_) | (with_reducible refine DL.later ?_ (Hid.out (by assumption))))); done)) | (rw [World.cell?_setCell_other _ _ _ _ (by simp [hn1, hn2])]; refine DL.c1 (l := []) (g := w.heap.size) (a' := a') (n := n) (L := L) (B := w.heap.size + 1) (a := a) (len := len) (cap := cap) (w0 := w1) ?_; ((repeat (first | (with_reducible exact Hid.out (by assumption)) | (with_reducible refine DL.alloc ?_ _) | (with_reducible refine DL.drewN ?_ _) | (with_reducible refine DL.drew ?_) | (with_reducible refine DL.later ?_ (Hid.out (by assumption))))); done)))
        (first
          | (go_at_call 79; refine (s_Next (w.heap.size + 1) a len cap 2 _ (show DL [(w2.heap.size, 0, .slice a' n cap')] w.heap.size a' n L (w.heap.size + 1) a len cap w1 _ from (by repeat (first | (with_reducible exact Hid.out (by assumption)) | (with_reducible refine DL.alloc ?_ _) | (with_reducible refine DL.drewN ?_ _) | (with_reducible refine DL.drew ?_) | (with_reducible refine DL.later ?_ (Hid.out (by assumption)))))).src (by omega) (by omega)).mono ?_; rintro e w8 ⟨v, rfl, v0, v1, v2, src, gr⟩; have D8 := Lib.hid (DL.call (show DL [(w2.heap.size, 0, .slice a' n cap')] w.heap.size a' n L (w.heap.size + 1) a len cap w1 _ from (by repeat (first | (with_reducible exact Hid.out (by assumption)) | (with_reducible refine DL.alloc ?_ _) | (with_reducible refine DL.drewN ?_ _) | (with_reducible refine DL.drew ?_) | (with_reducible refine DL.later ?_ (Hid.out (by assumption)))))) src gr); have rc8 := D8.out.old RC.out (by omega); have rf8 := D8.out.oldF RC.out RF.out (by omega); clear src gr v1 v2)
          | (go_at_call 78; refine (s_l05ModE _ 1 _ (by omega) (by omega) (WR.out _).1 (WR.out _).2).mono ?_; rintro e w9 ⟨r, rfl, r0, r1, rfl⟩))
      all_goals
        go_wp2_with fail
        refine bodyPost_ret (v := .tuple #[.agg #[.slice a' n cap'], .int .i64 p, .int .i64 r, .int .i64 q]) (by simp [results, Try.results26, go_sem, *]) rfl ⟨a', n, cap', L, p, r, q, rfl, D8.out.set _ _, hcap, Hp.out, ⟨by omega, by omega⟩, ⟨by have := Hq.out; omega, by have := Hq.out; omega⟩, (dl_below D8.out B1.out).setCell (Nat.le_refl _) _⟩
    · have e0 : (c == 0) = false := by simpa using k0
      clear k0
      go_wp2_with fail
      go_region_held3 (fun w' => w'.cell? ⟨w2.heap.size, 0, none⟩ = some (.slice a' n cap')) (first | (refine DL.c1 (l := []) (g := w.heap.size) (a' := a') (n := n) (L := L) (B := w.heap.size + 1) (a := a) (len := len) (cap := cap) (w0 := w1) ?_; ((repeat (first | (with_reducible exact Hid.out (by assumption)) | (with_reducible refine DL.alloc ?_ _) | (with_reducible refine DL.drewN ?_ _) | (with_reducible refine DL.drew ?_) | (with_reducible refine DL.later ?_ (Hid.out (by assumption))))); done)) | (rw [World.cell?_setCell_other _ _ _ _ (by simp [hn1, hn2])]; refine DL.c1 (l := []) (g := w.heap.size) (a' := a') (n := n) (L := L) (B := w.heap.size + 1) (a := a) (len := len) (cap := cap) (w0 := w1) ?_; ((repeat (first | (with_reducible exact Hid.out (by assumption)) | (with_reducible refine DL.alloc ?_ _) | (with_reducible refine DL.drewN ?_ _) | (with_reducible refine DL.drew ?_) | (with_reducible refine DL.later ?_ (Hid.out (by assumption))))); done))) ((go_at_call 68; refine (s_DrawPositionW (w.heap.size + 1) a len cap a' n cap' L _ (show DL [(w2.heap.size, 0, .slice a' n cap')] w.heap.size a' n L (w.heap.size + 1) a len cap w1 _ from (by repeat (first | (with_reducible exact Hid.out (by assumption)) | (with_reducible refine DL.alloc ?_ _) | (with_reducible refine DL.drewN ?_ _) | (with_reducible refine DL.drew ?_) | (with_reducible refine DL.later ?_ (Hid.out (by assumption)))))).src (show DL [(w2.heap.size, 0, .slice a' n cap')] w.heap.size a' n L (w.heap.size + 1) a len cap w1 _ from (by repeat (first | (with_reducible exact Hid.out (by assumption)) | (with_reducible refine DL.alloc ?_ _) | (with_reducible refine DL.drewN ?_ _) | (with_reducible refine DL.drew ?_) | (with_reducible refine DL.later ?_ (Hid.out (by assumption)))))).sg h26 SM.out).mono ?_; rintro e w9 ⟨r, rfl, hr, src, gr⟩; have Hr := Lib.hid hr; have D9 := Lib.hid (DL.call (show DL [(w2.heap.size, 0, .slice a' n cap')] w.heap.size a' n L (w.heap.size + 1) a len cap w1 _ from (by repeat (first | (with_reducible exact Hid.out (by assumption)) | (with_reducible refine DL.alloc ?_ _) | (with_reducible refine DL.drewN ?_ _) | (with_reducible refine DL.drew ?_) | (with_reducible refine DL.later ?_ (Hid.out (by assumption)))))) src gr); have rc9 := D9.out.old RC.out (by omega); have rf9 := D9.out.oldF RC.out RF.out (by omega); clear src gr hr))
      all_goals
        go_wp2_with fail
        refine bodyPost_ret (v := .tuple #[.agg #[.slice a' n cap'], .int .i64 p, .int .i64 r, .int .i64 q]) (by simp [results, Try.results26, go_sem, *]) rfl ⟨a', n, cap', L, p, r, q, rfl, D9.out.set _ _, hcap, Hp.out, Hr.out, ⟨by have := Hq.out; omega, by have := Hq.out; omega⟩, (dl_below D9.out B1.out).setCell (Nat.le_refl _) _⟩
set_option maxRecDepth 100000 in
theorem s_DrawAreSeparate (a : Option Addr) (len cap : Nat) (w : World) (hs : Bytes w a len) :
    Calls Try.prog 29 #[.slice a len cap] w (DrawnLF w) := by
  have HS := Lib.hid hs
  clear hs
  go_enter Try.func29, Try.ntmps29
  go_wp2_with fail
  refine (s_From a len cap _ (HS.out.later ((Below.refl _ _).alloc (Nat.le_refl _) _))).mono ?_
  rintro e w1 ⟨rfl, src, lt, bel⟩
  rw [World.size_alloc] at src lt bel ⊢
  have S1 := Lib.hid src
  have BL := Lib.hid bel
  clear src bel
  go_wp2_with fail
  refine (s_Draw (w.heap.size + 1) a len cap _ S1.out).mono ?_
  rintro e w2 ⟨a', n, cap', L, rfl, hl, hcap, h26, hsm, hbl, src, gr⟩
  obtain ⟨d2, b1, rc, rf, hz1⟩ := dl_begin S1.out BL.out hl hbl src gr
  have D2 := Lib.hid d2
  have B1 := Lib.hid b1
  have RC := Lib.hid rc; have RF := Lib.hid rf
  have SM : Hid (∀ x ∈ L, SmW x) := Lib.hid (fun x hx => (hsm x hx).w)
  have hz2 := gr.size
  have hn1 : w2.heap.size ≠ w.heap.size := by omega
  have hn2 : w.heap.size ≠ w2.heap.size := by omega
  have D3 := Lib.hid (D2.out.box (.slice a' n cap') 26)
  clear hl hbl src gr d2 b1 rc rf hsm lt S1 BL D2
  go_wp2_with fail
  refine (s_DrawLength5 (w.heap.size + 1) a len cap a' n cap' L _ D3.out.src D3.out.sg h26 SM.out D3.out.nB).mono ?_
  rintro e w3 ⟨q, rfl, hq, src, gr⟩
  have Hq : Hid (-300000000 ≤ q ∧ q ≤ 300000000) := Lib.hid (by omega)
  have D4 := Lib.hid (D3.out.call src gr); have c4 := D4.out.c1; have rc4 := D4.out.old RC.out (by omega); have rf4 := D4.out.oldF RC.out RF.out (by omega); clear src gr
  clear hq
  go_wp2_with fail
  go_region_held3 (fun w' => w'.cell? ⟨w2.heap.size, 0, none⟩ = some (.slice a' n cap')) (first | (refine DL.c1 (l := []) (g := w.heap.size) (a' := a') (n := n) (L := L) (B := w.heap.size + 1) (a := a) (len := len) (cap := cap) (w0 := w1) ?_; ((repeat (first | (with_reducible exact Hid.out (by assumption)) | (with_reducible refine DL.alloc ?_ _) | (with_reducible refine DL.drewN ?_ _) | (with_reducible refine DL.drew ?_) | (with_reducible refine DL.later ?_ (Hid.out (by assumption))))); done)) | (rw [World.cell?_setCell_other _ _ _ _ (by simp [hn1, hn2])]; refine DL.c1 (l := []) (g := w.heap.size) (a' := a') (n := n) (L := L) (B := w.heap.size + 1) (a := a) (len := len) (cap := cap) (w0 := w1) ?_; ((repeat (first | (with_reducible exact Hid.out (by assumption)) | (with_reducible refine DL.alloc ?_ _) | (with_reducible refine DL.drewN ?_ _) | (with_reducible refine DL.drew ?_) | (with_reducible refine DL.later ?_ (Hid.out (by assumption))))); done)))
    ((go_at_call 83; refine (s_DrawFronts5 (w.heap.size + 1) a len cap a' n cap' L q _ (show DL [(w2.heap.size, 0, .slice a' n cap')] w.heap.size a' n L (w.heap.size + 1) a len cap w1 _ from (by repeat (first | (with_reducible exact Hid.out (by assumption)) | (with_reducible refine DL.alloc ?_ _) | (with_reducible refine DL.drewN ?_ _) | (with_reducible refine DL.drew ?_) | (with_reducible refine DL.later ?_ (Hid.out (by assumption)))))).src (show DL [(w2.heap.size, 0, .slice a' n cap')] w.heap.size a' n L (w.heap.size + 1) a len cap w1 _ from (by repeat (first | (with_reducible exact Hid.out (by assumption)) | (with_reducible refine DL.alloc ?_ _) | (with_reducible refine DL.drewN ?_ _) | (with_reducible refine DL.drew ?_) | (with_reducible refine DL.later ?_ (Hid.out (by assumption)))))).sg h26 SM.out Hq.out.1 Hq.out.2).mono ?_; rintro e w5 ⟨v, F, rfl, ho, hm, src, gr⟩; have hz5 := (show DL [(w2.heap.size, 0, .slice a' n cap')] w.heap.size a' n L (w.heap.size + 1) a len cap w1 _ from (by repeat (first | (with_reducible exact Hid.out (by assumption)) | (with_reducible refine DL.alloc ?_ _) | (with_reducible refine DL.drewN ?_ _) | (with_reducible refine DL.drew ?_) | (with_reducible refine DL.later ?_ (Hid.out (by assumption)))))).1.le; obtain ⟨A, capF, rfl, hsl, hcF, hbA⟩ := ho.rows; have O5 := Lib.hid hsl; have HA : Hid (∀ x, A = some x → x.block ≠ w.heap.size) := Lib.hid (fun x hx => by have h9 := hbA x hx; have h8 := D4.out.drew.1.le; omega); have D5 := Lib.hid (DL.call (show DL [(w2.heap.size, 0, .slice a' n cap')] w.heap.size a' n L (w.heap.size + 1) a len cap w1 _ from (by repeat (first | (with_reducible exact Hid.out (by assumption)) | (with_reducible refine DL.alloc ?_ _) | (with_reducible refine DL.drewN ?_ _) | (with_reducible refine DL.drew ?_) | (with_reducible refine DL.later ?_ (Hid.out (by assumption)))))) src gr); have rc5 := D5.out.old RC.out (by omega); have rf5 := D5.out.oldF RC.out RF.out (by omega); clear src gr ho hsl hbA))
  all_goals
    go_wp2_with fail
    refine bodyPost_ret (v := .tuple #[.agg #[.slice a' n cap'], .slice A F.length capF, .int .i64 q]) (by simp [results, Try.results29, go_sem, *]) rfl ⟨a', n, cap', L, A, F.length, capF, F, q, rfl, D5.out.set _ _, hcap, O5.out.far _ _ _ HA.out, hcF, hm, ⟨by have := Hq.out; omega, by have := Hq.out; omega⟩, (dl_below D5.out B1.out).setCell (Nat.le_refl _) _⟩
end Go.Proofs.Ytehinlecppbjeaa
