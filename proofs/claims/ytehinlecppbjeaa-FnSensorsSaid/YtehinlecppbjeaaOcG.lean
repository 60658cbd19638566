/- The draws of RearOf and MoveFront. -/
import Derived.Test.YtehinlecppbjeaaDL
import Derived.Test.YtehinlecppbjeaaOcD
namespace Go.Proofs.Ytehinlecppbjeaa
open Go.RowKit
set_option maxHeartbeats 4000000
set_option linter.unusedVariables false
set_option linter.unusedSimpArgs false
theorem drawn_mono {w : World} {B : Nat} {a : Option Addr} {len cap : Nat} {P Q : Int → Prop} (h : ∀ r, P r → Q r) {e : Ending} {w' : World} (k : Drawn w B a len cap P e w') : Drawn w B a len cap Q e w' := by
  obtain ⟨r, h1, h2, h3⟩ := k; exact ⟨r, h1, h r h2, h3⟩
/-- a drawn layout and two numbers -/
def DrawnL2 (w : World) (e : Ending) (w' : World) : Prop :=
  ∃ (a' : Option Addr) (n cap' : Nat) (L : List Sg) (p q : Int), e = .returned (.tuple #[.agg #[.slice a' n cap'], .int .i64 p, .int .i64 q]) ∧ Sgs w' a' n L ∧ n ≤ cap' ∧ InR p ∧ InR q ∧ Below w.heap.size w w'
set_option maxRecDepth 100000 in
theorem s_DrawMoveFront (a : Option Addr) (len cap : Nat) (w : World) (hs : Bytes w a len) :
    Calls Try.prog 18 #[.slice a len cap] w (DrawnL2 w) := by
  have HS := Lib.hid hs
  clear hs
  go_enter Try.func18, Try.ntmps18
  go_wp2_with fail
  refine (s_From a len cap _ (HS.out.later ((Below.refl _ _).alloc (Nat.le_refl _) _))).mono ?_
  rintro e w1 ⟨rfl, src, lt, bel⟩
  rw [World.size_alloc] at src lt bel ⊢
  have S1 := Lib.hid src
  have BL := Lib.hid bel
  clear src bel
  go_wp2_with fail
  refine (s_Draw (w.heap.size + 1) a len cap _ S1.out).mono ?_
  rintro e w2 ⟨a', n, cap', L, rfl, hl, hcap, h26, hsm, hbl, src, gr⟩
  obtain ⟨d2, b1, rc, rf, hz1⟩ := dl_begin S1.out BL.out hl hbl src gr
  have D2 := Lib.hid d2
  have B1 := Lib.hid b1
  have RC := Lib.hid rc; have RF := Lib.hid rf
  have SM : Hid (∀ x ∈ L, SmW x) := Lib.hid (fun x hx => (hsm x hx).w)
  have hz2 := gr.size
  have hn1 : w2.heap.size ≠ w.heap.size := by omega
  have hn2 : w.heap.size ≠ w2.heap.size := by omega
  have D3 := Lib.hid (D2.out.box (.slice a' n cap') 26)
  clear hl hbl src gr d2 b1 rc rf hsm lt S1 BL D2
  go_wp2_with fail
  go_region_held3 (fun w' => w'.cell? ⟨w2.heap.size, 0, none⟩ = some (.slice a' n cap')) (first | (refine DL.c1 (l := []) (g := w.heap.size) (a' := a') (n := n) (L := L) (B := w.heap.size + 1) (a := a) (len := len) (cap := cap) (w0 := w1) ?_; ((repeat (first | (with_reducible exact Hid.out (by assumption)) | (with_reducible refine DL.alloc ?_ _) | (with_reducible refine DL.drewN ?_ _) | (with_reducible refine DL.drew ?_) | (with_reducible refine DL.later ?_ (Hid.out (by assumption))))); done)) | (rw [World.cell?_setCell_other _ _ _ _ (by simp [hn1, hn2])]; refine DL.c1 (l := []) (g := w.heap.size) (a' := a') (n := n) (L := L) (B := w.heap.size + 1) (a := a) (len := len) (cap := cap) (w0 := w1) ?_; ((repeat (first | (with_reducible exact Hid.out (by assumption)) | (with_reducible refine DL.alloc ?_ _) | (with_reducible refine DL.drewN ?_ _) | (with_reducible refine DL.drew ?_) | (with_reducible refine DL.later ?_ (Hid.out (by assumption))))); done)))
    (first
      | (go_at_call 68; refine (s_DrawPositionW (w.heap.size + 1) a len cap a' n cap' L _ (show DL [(w2.heap.size, 0, .slice a' n cap')] w.heap.size a' n L (w.heap.size + 1) a len cap w1 _ from (by repeat (first | (with_reducible exact Hid.out (by assumption)) | (with_reducible refine DL.alloc ?_ _) | (with_reducible refine DL.drewN ?_ _) | (with_reducible refine DL.drew ?_) | (with_reducible refine DL.later ?_ (Hid.out (by assumption)))))).src (show DL [(w2.heap.size, 0, .slice a' n cap')] w.heap.size a' n L (w.heap.size + 1) a len cap w1 _ from (by repeat (first | (with_reducible exact Hid.out (by assumption)) | (with_reducible refine DL.alloc ?_ _) | (with_reducible refine DL.drewN ?_ _) | (with_reducible refine DL.drew ?_) | (with_reducible refine DL.later ?_ (Hid.out (by assumption)))))).sg h26 SM.out).mono ?_; rintro e w5 ⟨p, rfl, hp, src, gr⟩; have Hp := Lib.hid hp; have D5 := Lib.hid (DL.call (show DL [(w2.heap.size, 0, .slice a' n cap')] w.heap.size a' n L (w.heap.size + 1) a len cap w1 _ from (by repeat (first | (with_reducible exact Hid.out (by assumption)) | (with_reducible refine DL.alloc ?_ _) | (with_reducible refine DL.drewN ?_ _) | (with_reducible refine DL.drew ?_) | (with_reducible refine DL.later ?_ (Hid.out (by assumption)))))) src gr); have rc5 := D5.out.old RC.out (by omega); have rf5 := D5.out.oldF RC.out RF.out (by omega); clear src gr hp)
      | (go_at_call 69; refine (s_DrawDistance5 (w.heap.size + 1) a len cap a' n cap' L _ (show DL [(w2.heap.size, 0, .slice a' n cap')] w.heap.size a' n L (w.heap.size + 1) a len cap w1 _ from (by repeat (first | (with_reducible exact Hid.out (by assumption)) | (with_reducible refine DL.alloc ?_ _) | (with_reducible refine DL.drewN ?_ _) | (with_reducible refine DL.drew ?_) | (with_reducible refine DL.later ?_ (Hid.out (by assumption)))))).src (show DL [(w2.heap.size, 0, .slice a' n cap')] w.heap.size a' n L (w.heap.size + 1) a len cap w1 _ from (by repeat (first | (with_reducible exact Hid.out (by assumption)) | (with_reducible refine DL.alloc ?_ _) | (with_reducible refine DL.drewN ?_ _) | (with_reducible refine DL.drew ?_) | (with_reducible refine DL.later ?_ (Hid.out (by assumption)))))).sg h26 SM.out).mono ?_; rintro e w6 ⟨q, rfl, hq, src, gr⟩; have Hq := Lib.hid hq; have D6 := Lib.hid (DL.call (show DL [(w2.heap.size, 0, .slice a' n cap')] w.heap.size a' n L (w.heap.size + 1) a len cap w1 _ from (by repeat (first | (with_reducible exact Hid.out (by assumption)) | (with_reducible refine DL.alloc ?_ _) | (with_reducible refine DL.drewN ?_ _) | (with_reducible refine DL.drew ?_) | (with_reducible refine DL.later ?_ (Hid.out (by assumption)))))) src gr); have rc6 := D6.out.old RC.out (by omega); have rf6 := D6.out.oldF RC.out RF.out (by omega); clear src gr hq))
  all_goals
    go_wp2_with fail
    refine bodyPost_ret (v := .tuple #[.agg #[.slice a' n cap'], .int .i64 p, .int .i64 q]) (by simp [results, Try.results18, go_sem, *]) rfl ⟨a', n, cap', L, p, q, rfl, D6.out.set _ _, hcap, Hp.out, Hq.out, (dl_below D6.out B1.out).setCell (Nat.le_refl _) _⟩

set_option maxRecDepth 100000 in
theorem s_DrawRearOf (a : Option Addr) (len cap : Nat) (w : World) (hs : Bytes w a len) :
    Calls Try.prog 21 #[.slice a len cap] w (DrawnL2 w) := by
  have HS := Lib.hid hs
  clear hs
  go_enter Try.func21, Try.ntmps21
  go_wp2_with fail
  refine (s_From a len cap _ (HS.out.later ((Below.refl _ _).alloc (Nat.le_refl _) _))).mono ?_
  rintro e w1 ⟨rfl, src, lt, bel⟩
  rw [World.size_alloc] at src lt bel ⊢
  have S1 := Lib.hid src
  have BL := Lib.hid bel
  clear src bel
  go_wp2_with fail
  refine (s_Draw (w.heap.size + 1) a len cap _ S1.out).mono ?_
  rintro e w2 ⟨a', n, cap', L, rfl, hl, hcap, h26, hsm, hbl, src, gr⟩
  obtain ⟨d2, b1, rc, rf, hz1⟩ := dl_begin S1.out BL.out hl hbl src gr
  have D2 := Lib.hid d2
  have B1 := Lib.hid b1
  have RC := Lib.hid rc; have RF := Lib.hid rf
  have SM : Hid (∀ x ∈ L, SmW x) := Lib.hid (fun x hx => (hsm x hx).w)
  have hz2 := gr.size
  have hn1 : w2.heap.size ≠ w.heap.size := by omega
  have hn2 : w.heap.size ≠ w2.heap.size := by omega
  have D3 := Lib.hid (D2.out.box (.slice a' n cap') 26)
  clear hl hbl src gr d2 b1 rc rf hsm lt S1 BL D2
  go_wp2_with fail
  go_region_held3 (fun w' => w'.cell? ⟨w2.heap.size, 0, none⟩ = some (.slice a' n cap')) (first | (refine DL.c1 (l := []) (g := w.heap.size) (a' := a') (n := n) (L := L) (B := w.heap.size + 1) (a := a) (len := len) (cap := cap) (w0 := w1) ?_; ((repeat (first | (with_reducible exact Hid.out (by assumption)) | (with_reducible refine DL.alloc ?_ _) | (with_reducible refine DL.drewN ?_ _) | (with_reducible refine DL.drew ?_) | (with_reducible refine DL.later ?_ (Hid.out (by assumption))))); done)) | (rw [World.cell?_setCell_other _ _ _ _ (by simp [hn1, hn2])]; refine DL.c1 (l := []) (g := w.heap.size) (a' := a') (n := n) (L := L) (B := w.heap.size + 1) (a := a) (len := len) (cap := cap) (w0 := w1) ?_; ((repeat (first | (with_reducible exact Hid.out (by assumption)) | (with_reducible refine DL.alloc ?_ _) | (with_reducible refine DL.drewN ?_ _) | (with_reducible refine DL.drew ?_) | (with_reducible refine DL.later ?_ (Hid.out (by assumption))))); done)))
    (first
      | (go_at_call 68; refine (s_DrawPositionW (w.heap.size + 1) a len cap a' n cap' L _ (show DL [(w2.heap.size, 0, .slice a' n cap')] w.heap.size a' n L (w.heap.size + 1) a len cap w1 _ from (by repeat (first | (with_reducible exact Hid.out (by assumption)) | (with_reducible refine DL.alloc ?_ _) | (with_reducible refine DL.drewN ?_ _) | (with_reducible refine DL.drew ?_) | (with_reducible refine DL.later ?_ (Hid.out (by assumption)))))).src (show DL [(w2.heap.size, 0, .slice a' n cap')] w.heap.size a' n L (w.heap.size + 1) a len cap w1 _ from (by repeat (first | (with_reducible exact Hid.out (by assumption)) | (with_reducible refine DL.alloc ?_ _) | (with_reducible refine DL.drewN ?_ _) | (with_reducible refine DL.drew ?_) | (with_reducible refine DL.later ?_ (Hid.out (by assumption)))))).sg h26 SM.out).mono ?_; rintro e w5 ⟨p, rfl, hp, src, gr⟩; have Hp := Lib.hid hp; have D5 := Lib.hid (DL.call (show DL [(w2.heap.size, 0, .slice a' n cap')] w.heap.size a' n L (w.heap.size + 1) a len cap w1 _ from (by repeat (first | (with_reducible exact Hid.out (by assumption)) | (with_reducible refine DL.alloc ?_ _) | (with_reducible refine DL.drewN ?_ _) | (with_reducible refine DL.drew ?_) | (with_reducible refine DL.later ?_ (Hid.out (by assumption)))))) src gr); have rc5 := D5.out.old RC.out (by omega); have rf5 := D5.out.oldF RC.out RF.out (by omega); clear src gr hp)
      | (go_at_call 74; refine ((s_DrawLength5 (w.heap.size + 1) a len cap a' n cap' L _ (show DL [(w2.heap.size, 0, .slice a' n cap')] w.heap.size a' n L (w.heap.size + 1) a len cap w1 _ from (by repeat (first | (with_reducible exact Hid.out (by assumption)) | (with_reducible refine DL.alloc ?_ _) | (with_reducible refine DL.drewN ?_ _) | (with_reducible refine DL.drew ?_) | (with_reducible refine DL.later ?_ (Hid.out (by assumption)))))).src (show DL [(w2.heap.size, 0, .slice a' n cap')] w.heap.size a' n L (w.heap.size + 1) a len cap w1 _ from (by repeat (first | (with_reducible exact Hid.out (by assumption)) | (with_reducible refine DL.alloc ?_ _) | (with_reducible refine DL.drewN ?_ _) | (with_reducible refine DL.drew ?_) | (with_reducible refine DL.later ?_ (Hid.out (by assumption)))))).sg h26 SM.out (show DL [(w2.heap.size, 0, .slice a' n cap')] w.heap.size a' n L (w.heap.size + 1) a len cap w1 _ from (by repeat (first | (with_reducible exact Hid.out (by assumption)) | (with_reducible refine DL.alloc ?_ _) | (with_reducible refine DL.drewN ?_ _) | (with_reducible refine DL.drew ?_) | (with_reducible refine DL.later ?_ (Hid.out (by assumption)))))).nB).mono (fun e w' => drawn_mono (Q := InR) (fun r hr => ⟨by omega, by omega⟩))).mono ?_; rintro e w6 ⟨q, rfl, hq, src, gr⟩; have Hq := Lib.hid hq; have D6 := Lib.hid (DL.call (show DL [(w2.heap.size, 0, .slice a' n cap')] w.heap.size a' n L (w.heap.size + 1) a len cap w1 _ from (by repeat (first | (with_reducible exact Hid.out (by assumption)) | (with_reducible refine DL.alloc ?_ _) | (with_reducible refine DL.drewN ?_ _) | (with_reducible refine DL.drew ?_) | (with_reducible refine DL.later ?_ (Hid.out (by assumption)))))) src gr); have rc6 := D6.out.old RC.out (by omega); have rf6 := D6.out.oldF RC.out RF.out (by omega); clear src gr hq))
  all_goals
    go_wp2_with fail
    refine bodyPost_ret (v := .tuple #[.agg #[.slice a' n cap'], .int .i64 p, .int .i64 q]) (by simp [results, Try.results21, go_sem, *]) rfl ⟨a', n, cap', L, p, q, rfl, D6.out.set _ _, hcap, Hp.out, Hq.out, (dl_below D6.out B1.out).setCell (Nat.le_refl _) _⟩

end Go.Proofs.Ytehinlecppbjeaa
