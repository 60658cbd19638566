/- The draws of SensorsPassed and SensorsCovered. -/
import Derived.Test.YtehinlecppbjeaaOcO
import Derived.Test.YtehinlecppbjeaaOcJ
namespace Go.Proofs.Ytehinlecppbjeaa
open Go.RowKit
set_option maxHeartbeats 4000000
set_option linter.unusedVariables false
set_option linter.unusedSimpArgs false
/-- a drawn layout, a list, two numbers -/
def DrawnLS (w : World) (e : Ending) (w' : World) : Prop :=
  ∃ (a' : Option Addr) (n cap' : Nat) (L : List Sg) (A : Option Addr) (m capF : Nat) (F : List Int) (p q : Int), e = .returned (.tuple #[.agg #[.slice a' n cap'], .slice A m capF, .int .i64 p, .int .i64 q]) ∧ Sgs w' a' n L ∧ n ≤ cap' ∧ Sl w' A m F ∧ m ≤ capF ∧ m ≤ 1000 ∧ InR p ∧ InR q ∧ Below w.heap.size w w'
theorem Sl.keptB {w w' : World} {A : Option Addr} {n B : Nat} {l : List Int} (h : Sl w A n l) (gr : w.grownBy w' (some B)) (hne : ∀ x, A = some x → x.block ≠ B) : Sl w' A n l := by
  obtain ⟨h1, h2, h3, h4⟩ := h
  refine ⟨h1, h2, fun k hk => ?_, h4⟩
  obtain ⟨b, off, rfl, hc⟩ := h3 k hk
  exact ⟨b, off, rfl, gr.cell hc (by have := hne _ rfl; simpa using this)⟩
theorem dl_le {l : List (Nat × Nat × Value)} {g : Nat} {a' : Option Addr} {n : Nat} {L : List Sg} {B : Nat} {a : Option Addr} {len cap : Nat} {w0 W W1 : World} {r : Option Nat} (h : DL l g a' n L B a len cap w0 W) (gr : W.grownBy W1 r) : w0.heap.size ≤ W.heap.size := h.1.le
set_option maxRecDepth 100000 in
theorem s_DrawSensorsCovered (a : Option Addr) (len cap : Nat) (w : World) (hs : Bytes w a len) :
    Calls Try.prog 44 #[.slice a len cap] w (DrawnLS w) := by
  have HS := Lib.hid hs
  clear hs
  go_enter Try.func44, Try.ntmps44
  go_wp2_with fail
  refine (s_From a len cap _ (HS.out.later ((Below.refl _ _).alloc (Nat.le_refl _) _))).mono ?_
  rintro e w1 ⟨rfl, src, lt, bel⟩
  rw [World.size_alloc] at src lt bel ⊢
  have S1 := Lib.hid src
  have BL := Lib.hid bel
  clear src bel
  go_wp2_with fail
  refine (s_Draw (w.heap.size + 1) a len cap _ S1.out).mono ?_
  rintro e w2 ⟨a', n, cap', L, rfl, hl, hcap, h26, hsm, hbl, src, gr⟩
  obtain ⟨d2, b1, rc, rf, hz1⟩ := dl_begin S1.out BL.out hl hbl src gr
  have D2 := Lib.hid d2
  have B1 := Lib.hid b1
  have RC := Lib.hid rc; have RF := Lib.hid rf
  have SM : Hid (∀ x ∈ L, SmW x) := Lib.hid (fun x hx => (hsm x hx).w)
  have hz2 := gr.size
  have hn1 : w2.heap.size ≠ w.heap.size := by omega
  have hn2 : w.heap.size ≠ w2.heap.size := by omega
  have D3 := Lib.hid (D2.out.box (.slice a' n cap') 26)
  clear hl hbl src gr d2 b1 rc rf hsm lt S1 BL D2
  go_wp2_with fail
  go_region_held3 (fun w' => w'.cell? ⟨w2.heap.size, 0, none⟩ = some (.slice a' n cap')) (first | (refine DL.c1 (l := []) (g := w.heap.size) (a' := a') (n := n) (L := L) (B := w.heap.size + 1) (a := a) (len := len) (cap := cap) (w0 := w1) ?_; ((repeat (first | (with_reducible exact Hid.out (by assumption)) | (with_reducible refine DL.alloc ?_ _) | (with_reducible refine DL.drewN ?_ _) | (with_reducible refine DL.drew ?_) | (with_reducible refine DL.later ?_ (Hid.out (by assumption))))); done)) | (rw [World.cell?_setCell_other _ _ _ _ (by simp [hn1, hn2])]; refine DL.c1 (l := []) (g := w.heap.size) (a' := a') (n := n) (L := L) (B := w.heap.size + 1) (a := a) (len := len) (cap := cap) (w0 := w1) ?_; ((repeat (first | (with_reducible exact Hid.out (by assumption)) | (with_reducible refine DL.alloc ?_ _) | (with_reducible refine DL.drewN ?_ _) | (with_reducible refine DL.drew ?_) | (with_reducible refine DL.later ?_ (Hid.out (by assumption))))); done)))
    (first
      | (go_at_call 96; refine (s_DrawSensors5 (w.heap.size + 1) a len cap a' n cap' L _ (show DL [(w2.heap.size, 0, .slice a' n cap')] w.heap.size a' n L (w.heap.size + 1) a len cap w1 _ from (by repeat (first | (with_reducible exact Hid.out (by assumption)) | (with_reducible refine DL.alloc ?_ _) | (with_reducible refine DL.drewN ?_ _) | (with_reducible refine DL.drew ?_) | (with_reducible refine DL.later ?_ (Hid.out (by assumption)))))).src (show DL [(w2.heap.size, 0, .slice a' n cap')] w.heap.size a' n L (w.heap.size + 1) a len cap w1 _ from (by repeat (first | (with_reducible exact Hid.out (by assumption)) | (with_reducible refine DL.alloc ?_ _) | (with_reducible refine DL.drewN ?_ _) | (with_reducible refine DL.drew ?_) | (with_reducible refine DL.later ?_ (Hid.out (by assumption)))))).sg h26 SM.out).mono ?_; rintro e w5 ⟨v, F, rfl, ho, hm, src, gr⟩; have hz5 := dl_le (show DL [(w2.heap.size, 0, .slice a' n cap')] w.heap.size a' n L (w.heap.size + 1) a len cap w1 _ from (by repeat (first | (with_reducible exact Hid.out (by assumption)) | (with_reducible refine DL.alloc ?_ _) | (with_reducible refine DL.drewN ?_ _) | (with_reducible refine DL.drew ?_) | (with_reducible refine DL.later ?_ (Hid.out (by assumption)))))) gr; have O5 := Lib.hid ho; have D5 := Lib.hid (DL.call (show DL [(w2.heap.size, 0, .slice a' n cap')] w.heap.size a' n L (w.heap.size + 1) a len cap w1 _ from (by repeat (first | (with_reducible exact Hid.out (by assumption)) | (with_reducible refine DL.alloc ?_ _) | (with_reducible refine DL.drewN ?_ _) | (with_reducible refine DL.drew ?_) | (with_reducible refine DL.later ?_ (Hid.out (by assumption)))))) src gr); have rc5 := D5.out.old RC.out (by omega); have rf5 := D5.out.oldF RC.out RF.out (by omega); clear src gr ho)
      | (go_at_call 68; refine (s_DrawPositionW (w.heap.size + 1) a len cap a' n cap' L _ (show DL [(w2.heap.size, 0, .slice a' n cap')] w.heap.size a' n L (w.heap.size + 1) a len cap w1 _ from (by repeat (first | (with_reducible exact Hid.out (by assumption)) | (with_reducible refine DL.alloc ?_ _) | (with_reducible refine DL.drewN ?_ _) | (with_reducible refine DL.drew ?_) | (with_reducible refine DL.later ?_ (Hid.out (by assumption)))))).src (show DL [(w2.heap.size, 0, .slice a' n cap')] w.heap.size a' n L (w.heap.size + 1) a len cap w1 _ from (by repeat (first | (with_reducible exact Hid.out (by assumption)) | (with_reducible refine DL.alloc ?_ _) | (with_reducible refine DL.drewN ?_ _) | (with_reducible refine DL.drew ?_) | (with_reducible refine DL.later ?_ (Hid.out (by assumption)))))).sg h26 SM.out).mono ?_; rintro e w6 ⟨p, rfl, hp, src, gr⟩; have Hp := Lib.hid hp; have O6 := Lib.hid ((O5.out.lat (show Later w5 _ from (by repeat (first | (with_reducible exact Later.refl _) | (with_reducible exact Hid.out (by assumption)) | (with_reducible refine Later.alloc ?_ _) | (with_reducible refine Later.setCell ?_ (by simp; omega) _) | (with_reducible refine Later.setCell ?_ (by simp) _) | (with_reducible refine Later.drewN ?_ _) | (with_reducible refine Later.drew ?_) | (with_reducible refine Later.trans ?_ (Hid.out (by assumption))))))).kept gr (fun k e => by have := Option.some.inj e; omega)); have D6 := Lib.hid (DL.call (show DL [(w2.heap.size, 0, .slice a' n cap')] w.heap.size a' n L (w.heap.size + 1) a len cap w1 _ from (by repeat (first | (with_reducible exact Hid.out (by assumption)) | (with_reducible refine DL.alloc ?_ _) | (with_reducible refine DL.drewN ?_ _) | (with_reducible refine DL.drew ?_) | (with_reducible refine DL.later ?_ (Hid.out (by assumption)))))) src gr); have rc6 := D6.out.old RC.out (by omega); have rf6 := D6.out.oldF RC.out RF.out (by omega); clear src gr hp)
      | (go_at_call 74; refine (s_DrawLength5 (w.heap.size + 1) a len cap a' n cap' L _ (show DL [(w2.heap.size, 0, .slice a' n cap')] w.heap.size a' n L (w.heap.size + 1) a len cap w1 _ from (by repeat (first | (with_reducible exact Hid.out (by assumption)) | (with_reducible refine DL.alloc ?_ _) | (with_reducible refine DL.drewN ?_ _) | (with_reducible refine DL.drew ?_) | (with_reducible refine DL.later ?_ (Hid.out (by assumption)))))).src (show DL [(w2.heap.size, 0, .slice a' n cap')] w.heap.size a' n L (w.heap.size + 1) a len cap w1 _ from (by repeat (first | (with_reducible exact Hid.out (by assumption)) | (with_reducible refine DL.alloc ?_ _) | (with_reducible refine DL.drewN ?_ _) | (with_reducible refine DL.drew ?_) | (with_reducible refine DL.later ?_ (Hid.out (by assumption)))))).sg h26 SM.out (show DL [(w2.heap.size, 0, .slice a' n cap')] w.heap.size a' n L (w.heap.size + 1) a len cap w1 _ from (by repeat (first | (with_reducible exact Hid.out (by assumption)) | (with_reducible refine DL.alloc ?_ _) | (with_reducible refine DL.drewN ?_ _) | (with_reducible refine DL.drew ?_) | (with_reducible refine DL.later ?_ (Hid.out (by assumption)))))).nB).mono ?_; rintro e w7 ⟨q, rfl, hq, src, gr⟩; have Hq : Hid (InR q) := Lib.hid ⟨by omega, by omega⟩; have O7 := Lib.hid ((O6.out.lat (show Later w6 _ from (by repeat (first | (with_reducible exact Later.refl _) | (with_reducible exact Hid.out (by assumption)) | (with_reducible refine Later.alloc ?_ _) | (with_reducible refine Later.setCell ?_ (by simp; omega) _) | (with_reducible refine Later.setCell ?_ (by simp) _) | (with_reducible refine Later.drewN ?_ _) | (with_reducible refine Later.drew ?_) | (with_reducible refine Later.trans ?_ (Hid.out (by assumption))))))).kept gr (fun k e => by have := Option.some.inj e; omega)); have D7 := Lib.hid (DL.call (show DL [(w2.heap.size, 0, .slice a' n cap')] w.heap.size a' n L (w.heap.size + 1) a len cap w1 _ from (by repeat (first | (with_reducible exact Hid.out (by assumption)) | (with_reducible refine DL.alloc ?_ _) | (with_reducible refine DL.drewN ?_ _) | (with_reducible refine DL.drew ?_) | (with_reducible refine DL.later ?_ (Hid.out (by assumption)))))) src gr); have rc7 := D7.out.old RC.out (by omega); have rf7 := D7.out.oldF RC.out RF.out (by omega); clear src gr hq))
  all_goals
    obtain ⟨A, capF, rfl, hsl, hcF, hbA⟩ := O7.out.rows
    have HSL := Lib.hid hsl
    have HA : Hid (∀ x, A = some x → x.block ≠ w.heap.size) := Lib.hid (fun x hx => by have h9 := hbA x hx; omega)
    clear hsl hbA
    go_wp2_with fail
    refine bodyPost_ret (v := .tuple #[.agg #[.slice a' n cap'], .slice A F.length capF, .int .i64 p, .int .i64 q]) (by simp [results, Try.results44, go_sem, *]) rfl ⟨a', n, cap', L, A, F.length, capF, F, p, q, rfl, D7.out.set _ _, hcap, HSL.out.far _ _ _ HA.out, hcF, hm, Hp.out, Hq.out, (dl_below D7.out B1.out).setCell (Nat.le_refl _) _⟩
set_option maxRecDepth 100000 in
theorem s_DrawSensorsPassed (a : Option Addr) (len cap : Nat) (w : World) (hs : Bytes w a len) :
    Calls Try.prog 41 #[.slice a len cap] w (DrawnLS w) := by
  have HS := Lib.hid hs
  clear hs
  go_enter Try.func41, Try.ntmps41
  go_wp2_with fail
  refine (s_From a len cap _ (HS.out.later ((Below.refl _ _).alloc (Nat.le_refl _) _))).mono ?_
  rintro e w1 ⟨rfl, src, lt, bel⟩
  rw [World.size_alloc] at src lt bel ⊢
  have S1 := Lib.hid src
  have BL := Lib.hid bel
  clear src bel
  go_wp2_with fail
  refine (s_Draw (w.heap.size + 1) a len cap _ S1.out).mono ?_
  rintro e w2 ⟨a', n, cap', L, rfl, hl, hcap, h26, hsm, hbl, src, gr⟩
  obtain ⟨d2, b1, rc, rf, hz1⟩ := dl_begin S1.out BL.out hl hbl src gr
  have D2 := Lib.hid d2
  have B1 := Lib.hid b1
  have RC := Lib.hid rc; have RF := Lib.hid rf
  have SM : Hid (∀ x ∈ L, SmW x) := Lib.hid (fun x hx => (hsm x hx).w)
  have hz2 := gr.size
  have hn1 : w2.heap.size ≠ w.heap.size := by omega
  have hn2 : w.heap.size ≠ w2.heap.size := by omega
  have D3 := Lib.hid (D2.out.box (.slice a' n cap') 26)
  clear hl hbl src gr d2 b1 rc rf hsm lt S1 BL D2
  go_wp2_with fail
  refine (s_DrawSensors5 (w.heap.size + 1) a len cap a' n cap' L _ D3.out.src D3.out.sg h26 SM.out).mono ?_
  rintro e w4 ⟨v, F, rfl, ho, hm, src, gr⟩
  have hz3 := D3.out.1.le
  obtain ⟨A, capF, rfl, hsl, hcF, hbA⟩ := ho.rows
  have O4 := Lib.hid hsl
  have HA : Hid (∀ x, A = some x → x.block ≠ w.heap.size) := Lib.hid (fun x hx => by have h9 := hbA x hx; omega)
  have HB : Hid (∀ x, A = some x → x.block ≠ w.heap.size + 1) := Lib.hid (fun x hx => by have h9 := hbA x hx; omega)
  have D4 := Lib.hid (D3.out.call src gr); have c4 := D4.out.c1; have rc4 := D4.out.old RC.out (by omega); have rf4 := D4.out.oldF RC.out RF.out (by omega)
  clear src gr ho hsl hbA hz3
  go_wp2_with fail
  refine (s_DrawPositionW (w.heap.size + 1) a len cap a' n cap' L _ D4.out.src D4.out.sg h26 SM.out).mono ?_
  rintro e w5 ⟨p, rfl, hp, src, gr⟩
  have Hp := Lib.hid hp
  have O5 := Lib.hid (O4.out.keptB gr HB.out)
  have D5 := Lib.hid (D4.out.call src gr); have c5 := D5.out.c1; have rc5 := D5.out.old RC.out (by omega); have rf5 := D5.out.oldF RC.out RF.out (by omega)
  clear hp src gr c4 rc4 rf4
  by_cases hlen : 0 < F.length
  · go_wp2_with fail
    refine (s_Next (w.heap.size + 1) a len cap 4 _ D5.out.src (by omega) (by omega)).mono ?_
    rintro e w6 ⟨c, rfl, c0, c1, c2, src, gr⟩
    have O6 := Lib.hid (O5.out.keptB gr HB.out)
    have D6 := Lib.hid (D5.out.call src gr); have c6 := D6.out.c1; have rc6 := D6.out.old RC.out (by omega); have rf6 := D6.out.oldF RC.out RF.out (by omega)
    clear c1 c2 src gr c5 rc5 rf5
    by_cases k0 : c = 0
    · subst k0
      go_wp2_with fail
      refine (s_Next (w.heap.size + 1) a len cap F.length _ D6.out.src (by omega) (by omega)).mono ?_
      rintro e w7 ⟨v, rfl, v0, v1, v2, src, gr⟩
      have hv : v < F.length := by
        by_cases h : (1 : Int) < F.length
        · exact v1 h
        · have := v2 (by omega); omega
      obtain ⟨vn, rfl⟩ := Int.eq_ofNat_of_zero_le v0
      have hvn : vn < F.length := by omega
      have O7 := Lib.hid (O6.out.keptB gr HB.out)
      have D7 := Lib.hid (D6.out.call src gr); have c7 := D7.out.c1; have rc7 := D7.out.old RC.out (by omega); have rf7 := D7.out.oldF RC.out RF.out (by omega)
      obtain ⟨bA, oA, rfl, cA⟩ := O7.out.at vn hvn
      have Hg : Hid (InR (gx F vn)) := Lib.hid (O7.out.rng vn hvn)
      clear v1 v2 src gr c6 rc6 rf6
      go_wp2_with fail
      clear cA
      go_region_held3 (fun w' => w'.cell? ⟨w2.heap.size, 0, none⟩ = some (.slice a' n cap')) (first | (refine DL.c1 (l := []) (g := w.heap.size) (a' := a') (n := n) (L := L) (B := w.heap.size + 1) (a := a) (len := len) (cap := cap) (w0 := w1) ?_; ((repeat (first | (with_reducible exact Hid.out (by assumption)) | (with_reducible refine DL.alloc ?_ _) | (with_reducible refine DL.drewN ?_ _) | (with_reducible refine DL.drew ?_) | (with_reducible refine DL.later ?_ (Hid.out (by assumption))))); done)) | (rw [World.cell?_setCell_other _ _ _ _ (by simp [hn1, hn2])]; refine DL.c1 (l := []) (g := w.heap.size) (a' := a') (n := n) (L := L) (B := w.heap.size + 1) (a := a) (len := len) (cap := cap) (w0 := w1) ?_; ((repeat (first | (with_reducible exact Hid.out (by assumption)) | (with_reducible refine DL.alloc ?_ _) | (with_reducible refine DL.drewN ?_ _) | (with_reducible refine DL.drew ?_) | (with_reducible refine DL.later ?_ (Hid.out (by assumption))))); done)))
        ((go_at_call 69; refine (s_DrawDistance5 (w.heap.size + 1) a len cap a' n cap' L _ (show DL [(w2.heap.size, 0, .slice a' n cap')] w.heap.size a' n L (w.heap.size + 1) a len cap w1 _ from (by repeat (first | (with_reducible exact Hid.out (by assumption)) | (with_reducible refine DL.alloc ?_ _) | (with_reducible refine DL.drewN ?_ _) | (with_reducible refine DL.drew ?_) | (with_reducible refine DL.later ?_ (Hid.out (by assumption)))))).src (show DL [(w2.heap.size, 0, .slice a' n cap')] w.heap.size a' n L (w.heap.size + 1) a len cap w1 _ from (by repeat (first | (with_reducible exact Hid.out (by assumption)) | (with_reducible refine DL.alloc ?_ _) | (with_reducible refine DL.drewN ?_ _) | (with_reducible refine DL.drew ?_) | (with_reducible refine DL.later ?_ (Hid.out (by assumption)))))).sg h26 SM.out).mono ?_; rintro e w9 ⟨q, rfl, hq, src, gr⟩; have Hq := Lib.hid hq; have O9 := Lib.hid ((sl_lat O7.out (show Later w7 _ from (by repeat (first | (with_reducible exact Later.refl _) | (with_reducible exact Hid.out (by assumption)) | (with_reducible refine Later.alloc ?_ _) | (with_reducible refine Later.setCell ?_ (by simp; omega) _) | (with_reducible refine Later.setCell ?_ (by simp) _) | (with_reducible refine Later.drewN ?_ _) | (with_reducible refine Later.drew ?_) | (with_reducible refine Later.trans ?_ (Hid.out (by assumption))))))).keptB gr HB.out); have D9 := Lib.hid (DL.call (show DL [(w2.heap.size, 0, .slice a' n cap')] w.heap.size a' n L (w.heap.size + 1) a len cap w1 _ from (by repeat (first | (with_reducible exact Hid.out (by assumption)) | (with_reducible refine DL.alloc ?_ _) | (with_reducible refine DL.drewN ?_ _) | (with_reducible refine DL.drew ?_) | (with_reducible refine DL.later ?_ (Hid.out (by assumption)))))) src gr); have rc9 := D9.out.old RC.out (by omega); have rf9 := D9.out.oldF RC.out RF.out (by omega); clear src gr hq))
      all_goals
        go_wp2_with fail
        refine bodyPost_ret (v := .tuple #[.agg #[.slice a' n cap'], .slice (some ⟨bA, oA, none⟩) F.length capF, .int .i64 (gx F vn), .int .i64 q]) (by simp [results, Try.results41, go_sem, *]) rfl ⟨a', n, cap', L, some ⟨bA, oA, none⟩, F.length, capF, F, gx F vn, q, rfl, D9.out.set _ _, hcap, O9.out.far _ _ _ HA.out, hcF, hm, Hg.out, Hq.out, (dl_below D9.out B1.out).setCell (Nat.le_refl _) _⟩
    · have e0 : (c == 0) = false := by simpa using k0
      clear k0
      go_wp2_with fail
      go_region_held3 (fun w' => w'.cell? ⟨w2.heap.size, 0, none⟩ = some (.slice a' n cap')) (first | (refine DL.c1 (l := []) (g := w.heap.size) (a' := a') (n := n) (L := L) (B := w.heap.size + 1) (a := a) (len := len) (cap := cap) (w0 := w1) ?_; ((repeat (first | (with_reducible exact Hid.out (by assumption)) | (with_reducible refine DL.alloc ?_ _) | (with_reducible refine DL.drewN ?_ _) | (with_reducible refine DL.drew ?_) | (with_reducible refine DL.later ?_ (Hid.out (by assumption))))); done)) | (rw [World.cell?_setCell_other _ _ _ _ (by simp [hn1, hn2])]; refine DL.c1 (l := []) (g := w.heap.size) (a' := a') (n := n) (L := L) (B := w.heap.size + 1) (a := a) (len := len) (cap := cap) (w0 := w1) ?_; ((repeat (first | (with_reducible exact Hid.out (by assumption)) | (with_reducible refine DL.alloc ?_ _) | (with_reducible refine DL.drewN ?_ _) | (with_reducible refine DL.drew ?_) | (with_reducible refine DL.later ?_ (Hid.out (by assumption))))); done)))
        ((go_at_call 69; refine (s_DrawDistance5 (w.heap.size + 1) a len cap a' n cap' L _ (show DL [(w2.heap.size, 0, .slice a' n cap')] w.heap.size a' n L (w.heap.size + 1) a len cap w1 _ from (by repeat (first | (with_reducible exact Hid.out (by assumption)) | (with_reducible refine DL.alloc ?_ _) | (with_reducible refine DL.drewN ?_ _) | (with_reducible refine DL.drew ?_) | (with_reducible refine DL.later ?_ (Hid.out (by assumption)))))).src (show DL [(w2.heap.size, 0, .slice a' n cap')] w.heap.size a' n L (w.heap.size + 1) a len cap w1 _ from (by repeat (first | (with_reducible exact Hid.out (by assumption)) | (with_reducible refine DL.alloc ?_ _) | (with_reducible refine DL.drewN ?_ _) | (with_reducible refine DL.drew ?_) | (with_reducible refine DL.later ?_ (Hid.out (by assumption)))))).sg h26 SM.out).mono ?_; rintro e w9 ⟨q, rfl, hq, src, gr⟩; have Hq := Lib.hid hq; have O9 := Lib.hid ((sl_lat O6.out (show Later w6 _ from (by repeat (first | (with_reducible exact Later.refl _) | (with_reducible exact Hid.out (by assumption)) | (with_reducible refine Later.alloc ?_ _) | (with_reducible refine Later.setCell ?_ (by simp; omega) _) | (with_reducible refine Later.setCell ?_ (by simp) _) | (with_reducible refine Later.drewN ?_ _) | (with_reducible refine Later.drew ?_) | (with_reducible refine Later.trans ?_ (Hid.out (by assumption))))))).keptB gr HB.out); have D9 := Lib.hid (DL.call (show DL [(w2.heap.size, 0, .slice a' n cap')] w.heap.size a' n L (w.heap.size + 1) a len cap w1 _ from (by repeat (first | (with_reducible exact Hid.out (by assumption)) | (with_reducible refine DL.alloc ?_ _) | (with_reducible refine DL.drewN ?_ _) | (with_reducible refine DL.drew ?_) | (with_reducible refine DL.later ?_ (Hid.out (by assumption)))))) src gr); have rc9 := D9.out.old RC.out (by omega); have rf9 := D9.out.oldF RC.out RF.out (by omega); clear src gr hq))
      all_goals
        go_wp2_with fail
        refine bodyPost_ret (v := .tuple #[.agg #[.slice a' n cap'], .slice (A) F.length capF, .int .i64 (p), .int .i64 q]) (by simp [results, Try.results41, go_sem, *]) rfl ⟨a', n, cap', L, A, F.length, capF, F, p, q, rfl, D9.out.set _ _, hcap, O9.out.far _ _ _ HA.out, hcF, hm, Hp.out, Hq.out, (dl_below D9.out B1.out).setCell (Nat.le_refl _) _⟩
  · go_wp2_with fail
    go_region_held3 (fun w' => w'.cell? ⟨w2.heap.size, 0, none⟩ = some (.slice a' n cap')) (first | (refine DL.c1 (l := []) (g := w.heap.size) (a' := a') (n := n) (L := L) (B := w.heap.size + 1) (a := a) (len := len) (cap := cap) (w0 := w1) ?_; ((repeat (first | (with_reducible exact Hid.out (by assumption)) | (with_reducible refine DL.alloc ?_ _) | (with_reducible refine DL.drewN ?_ _) | (with_reducible refine DL.drew ?_) | (with_reducible refine DL.later ?_ (Hid.out (by assumption))))); done)) | (rw [World.cell?_setCell_other _ _ _ _ (by simp [hn1, hn2])]; refine DL.c1 (l := []) (g := w.heap.size) (a' := a') (n := n) (L := L) (B := w.heap.size + 1) (a := a) (len := len) (cap := cap) (w0 := w1) ?_; ((repeat (first | (with_reducible exact Hid.out (by assumption)) | (with_reducible refine DL.alloc ?_ _) | (with_reducible refine DL.drewN ?_ _) | (with_reducible refine DL.drew ?_) | (with_reducible refine DL.later ?_ (Hid.out (by assumption))))); done)))
      ((go_at_call 69; refine (s_DrawDistance5 (w.heap.size + 1) a len cap a' n cap' L _ (show DL [(w2.heap.size, 0, .slice a' n cap')] w.heap.size a' n L (w.heap.size + 1) a len cap w1 _ from (by repeat (first | (with_reducible exact Hid.out (by assumption)) | (with_reducible refine DL.alloc ?_ _) | (with_reducible refine DL.drewN ?_ _) | (with_reducible refine DL.drew ?_) | (with_reducible refine DL.later ?_ (Hid.out (by assumption)))))).src (show DL [(w2.heap.size, 0, .slice a' n cap')] w.heap.size a' n L (w.heap.size + 1) a len cap w1 _ from (by repeat (first | (with_reducible exact Hid.out (by assumption)) | (with_reducible refine DL.alloc ?_ _) | (with_reducible refine DL.drewN ?_ _) | (with_reducible refine DL.drew ?_) | (with_reducible refine DL.later ?_ (Hid.out (by assumption)))))).sg h26 SM.out).mono ?_; rintro e w9 ⟨q, rfl, hq, src, gr⟩; have Hq := Lib.hid hq; have O9 := Lib.hid ((sl_lat O5.out (show Later w5 _ from (by repeat (first | (with_reducible exact Later.refl _) | (with_reducible exact Hid.out (by assumption)) | (with_reducible refine Later.alloc ?_ _) | (with_reducible refine Later.setCell ?_ (by simp; omega) _) | (with_reducible refine Later.setCell ?_ (by simp) _) | (with_reducible refine Later.drewN ?_ _) | (with_reducible refine Later.drew ?_) | (with_reducible refine Later.trans ?_ (Hid.out (by assumption))))))).keptB gr HB.out); have D9 := Lib.hid (DL.call (show DL [(w2.heap.size, 0, .slice a' n cap')] w.heap.size a' n L (w.heap.size + 1) a len cap w1 _ from (by repeat (first | (with_reducible exact Hid.out (by assumption)) | (with_reducible refine DL.alloc ?_ _) | (with_reducible refine DL.drewN ?_ _) | (with_reducible refine DL.drew ?_) | (with_reducible refine DL.later ?_ (Hid.out (by assumption)))))) src gr); have rc9 := D9.out.old RC.out (by omega); have rf9 := D9.out.oldF RC.out RF.out (by omega); clear src gr hq))
    all_goals
      go_wp2_with fail
      refine bodyPost_ret (v := .tuple #[.agg #[.slice a' n cap'], .slice (A) F.length capF, .int .i64 (p), .int .i64 q]) (by simp [results, Try.results41, go_sem, *]) rfl ⟨a', n, cap', L, A, F.length, capF, F, p, q, rfl, D9.out.set _ _, hcap, O9.out.far _ _ _ HA.out, hcF, hm, Hp.out, Hq.out, (dl_below D9.out B1.out).setCell (Nat.le_refl _) _⟩
end Go.Proofs.Ytehinlecppbjeaa
