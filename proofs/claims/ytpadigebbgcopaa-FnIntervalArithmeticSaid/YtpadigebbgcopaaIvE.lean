/- The walks of the exact laws of chapter 2. -/
import Derived.Test.YtpadigebbgcopaaIvL
import Derived.Test.YtpadigebbgcopaaHeld
namespace Go.Proofs.Ytpadigebbgcopaa
open Go.RowKit
set_option maxHeartbeats 4000000
set_option linter.unusedVariables false
set_option linter.unusedSimpArgs false
/-- what a call leaves in two slots: a box with an interval, and a number -/
def Got (l : List (Nat × Nat × Value)) (w0 : World) (L H E : Int) (s5 s6 : Value) (w : World) : Prop :=
  ∃ g : Nat, s5 = .pointer (some ⟨g, 0, none⟩) ∧ s6 = .int .i64 E ∧ Held ((g, 0, .int .i64 L) :: (g, 1, .int .i64 H) :: l) w0 w
/-- a Bool in a slot -/
def GotB (l : List (Nat × Nat × Value)) (w0 : World) (b : Bool) (s5 : Value) (w : World) : Prop := s5 = .bool b ∧ Held l w0 w
/-- two numbers in slots -/
def Got2 (l : List (Nat × Nat × Value)) (w0 : World) (x y : Int) (s5 s6 : Value) (w : World) : Prop := s5 = .int .i64 x ∧ s6 = .int .i64 y ∧ Held l w0 w
theorem l_eqInterval_same (a b : Int) (w : World) : Calls Try.prog 37 #[.agg #[.int .i64 a, .int .i64 b], .agg #[.int .i64 a, .int .i64 b]] w fun e w' => e = .returned (.bool true) ∧ Later w w' :=
  (l_eqInterval a b a b w).mono fun e w' ⟨h, k⟩ => ⟨h.trans (ret_b (by simp)), k⟩
theorem walk_FnExactAddIntervals (a b c d : Int) (w : World) :
    Calls Try.prog 7 #[.agg #[.int .i64 a, .int .i64 b], .agg #[.int .i64 c, .int .i64 d]] w fun e w' => e = .returned (.bool true) ∧ Later w w' := by
  go_enter Try.func7, Try.ntmps7
  go_upto_region 1 with (fail)
  refine into (Held [(w.heap.size, 0, .int .i64 a), (w.heap.size, 1, .int .i64 b), (w.heap.size + 1, 0, .int .i64 c), (w.heap.size + 1, 1, .int .i64 d)] w) ⟨by simp <;> omega, (((Later.refl _).alloc _).alloc _)⟩ ?_
  intro W hW
  go_cut [5, 6] (Got [(w.heap.size, 0, .int .i64 a), (w.heap.size, 1, .int .i64 b), (w.heap.size + 1, 0, .int .i64 c), (w.heap.size + 1, 1, .int .i64 d)] w (opL (ivB a b && ivB c d) (a + c) (b + d)) (opH (ivB a b && ivB c d) (a + c) (b + d)) (opE (ivB a b && ivB c d) (a + c) (b + d)))
  case first =>
    go_region_held3 (fun w' => w'.cell? ⟨w.heap.size, 0, none⟩ = some (.int .i64 a) ∧ w'.cell? ⟨w.heap.size, 1, none⟩ = some (.int .i64 b) ∧ w'.cell? ⟨w.heap.size + 1, 0, none⟩ = some (.int .i64 c) ∧ w'.cell? ⟨w.heap.size + 1, 1, none⟩ = some (.int .i64 d) ∧ Held [(w.heap.size, 0, .int .i64 a), (w.heap.size, 1, .int .i64 b), (w.heap.size + 1, 0, .int .i64 c), (w.heap.size + 1, 1, .int .i64 d)] w w') (exact Held.s4 (Held.later hW (by repeat (first | exact Later.refl _ | refine Later.drew ?_ | refine Later.drewN ?_ _ | refine Later.alloc ?_ _ | refine Later.trans ?_ (Hid.out (by assumption)) | refine Later.set_at ?_ ?_ _ _))))
      (first | (go_at_call 36; refine (l_toInterval _ _ _).mono ?_; rintro e w1 ⟨rfl, hb⟩; have H := Lib.hid hb; (first | (have F := fr_alloc hb; obtain ⟨f1, f2, f3, f4⟩ := Fr.o2 F) | (have F := fr_alloc_drew hb; obtain ⟨f1, f2, f3, f4⟩ := Fr.o2 F) | (have F := fr_later (by assumption) hb; obtain ⟨f1, f2, f3, f4⟩ := Fr.o2 F) | skip); clear hb) | (go_at_call 17; refine (s_AddIntervals _ _ _ _ _ ).mono ?_; rintro e w1 ⟨rfl, hb⟩; have H := Lib.hid hb; (first | (have F := fr_alloc hb; obtain ⟨f1, f2, f3, f4⟩ := Fr.o2 F) | (have F := fr_alloc_drew hb; obtain ⟨f1, f2, f3, f4⟩ := Fr.o2 F) | (have F := fr_later (by assumption) hb; obtain ⟨f1, f2, f3, f4⟩ := Fr.o2 F) | skip); clear hb))
    all_goals
      go_wp2_with fail
      go_meet
      exact ⟨_, rfl, rfl, held_more (held_more (Held.later hW (by repeat (first | exact Later.refl _ | refine Later.drew ?_ | refine Later.drewN ?_ _ | refine Later.alloc ?_ _ | refine Later.trans ?_ (Hid.out (by assumption)) | refine Later.set_at ?_ ?_ _ _))) _ _ _ (by first | (simp; done) | (simp [*]; done) | (simp [go_sem, *]; done)) (by first | (simp; done) | (simp; exact Fr.lt (by assumption)))) _ _ _ (by first | (simp; done) | (simp [*]; done) | (simp [go_sem, *]; done)) (by first | (simp; done) | (simp; exact Fr.lt (by assumption)))⟩
  case rest =>
    obtain ⟨g, rfl, rfl, hG⟩ := hcut
    go_upto_region 2 with (fail)
    go_cut [7, 8] (Got ((g, 0, .int .i64 (opL (ivB a b && ivB c d) (a + c) (b + d))) :: (g, 1, .int .i64 (opH (ivB a b && ivB c d) (a + c) (b + d))) :: [(w.heap.size, 0, .int .i64 a), (w.heap.size, 1, .int .i64 b), (w.heap.size + 1, 0, .int .i64 c), (w.heap.size + 1, 1, .int .i64 d)]) w (opL (ivB a b && ivB c d) (a + c) (b + d)) (opH (ivB a b && ivB c d) (a + c) (b + d)) (opE (ivB a b && ivB c d) (a + c) (b + d)))
    case first =>
      go_region_held3 (fun w' => w'.cell? ⟨g, 0, none⟩ = some (.int .i64 (opL (ivB a b && ivB c d) (a + c) (b + d))) ∧ w'.cell? ⟨g, 1, none⟩ = some (.int .i64 (opH (ivB a b && ivB c d) (a + c) (b + d))) ∧ w'.cell? ⟨w.heap.size, 0, none⟩ = some (.int .i64 a) ∧ w'.cell? ⟨w.heap.size, 1, none⟩ = some (.int .i64 b) ∧ w'.cell? ⟨w.heap.size + 1, 0, none⟩ = some (.int .i64 c) ∧ w'.cell? ⟨w.heap.size + 1, 1, none⟩ = some (.int .i64 d) ∧ Held ((g, 0, .int .i64 (opL (ivB a b && ivB c d) (a + c) (b + d))) :: (g, 1, .int .i64 (opH (ivB a b && ivB c d) (a + c) (b + d))) :: [(w.heap.size, 0, .int .i64 a), (w.heap.size, 1, .int .i64 b), (w.heap.size + 1, 0, .int .i64 c), (w.heap.size + 1, 1, .int .i64 d)]) w w') (exact Held.s6 (Held.later hG (by repeat (first | exact Later.refl _ | refine Later.drew ?_ | refine Later.drewN ?_ _ | refine Later.alloc ?_ _ | refine Later.trans ?_ (Hid.out (by assumption)) | refine Later.set_at ?_ ?_ _ _))))
        (first | (go_at_call 36; refine (l_toInterval _ _ _).mono ?_; rintro e w1 ⟨rfl, hb⟩; have H := Lib.hid hb; (first | (have F := fr_alloc hb; obtain ⟨f1, f2, f3, f4⟩ := Fr.o2 F) | (have F := fr_alloc_drew hb; obtain ⟨f1, f2, f3, f4⟩ := Fr.o2 F) | (have F := fr_later (by assumption) hb; obtain ⟨f1, f2, f3, f4⟩ := Fr.o2 F) | skip); clear hb) | (go_at_call 16; refine (i_AddIntervals _ _ _ _ _ ).mono ?_; rintro e w1 ⟨rfl, hb⟩; have H := Lib.hid hb; (first | (have F := fr_alloc hb; obtain ⟨f1, f2, f3, f4⟩ := Fr.o2 F) | (have F := fr_alloc_drew hb; obtain ⟨f1, f2, f3, f4⟩ := Fr.o2 F) | (have F := fr_later (by assumption) hb; obtain ⟨f1, f2, f3, f4⟩ := Fr.o2 F) | skip); clear hb))
      all_goals
        go_wp2_with fail
        go_meet
        exact ⟨_, rfl, rfl, held_more (held_more (Held.later hG (by repeat (first | exact Later.refl _ | refine Later.drew ?_ | refine Later.drewN ?_ _ | refine Later.alloc ?_ _ | refine Later.trans ?_ (Hid.out (by assumption)) | refine Later.set_at ?_ ?_ _ _))) _ _ _ (by first | (simp; done) | (simp [*]; done) | (simp [go_sem, *]; done)) (by first | (simp; done) | (simp; exact Fr.lt (by assumption)))) _ _ _ (by first | (simp; done) | (simp [*]; done) | (simp [go_sem, *]; done)) (by first | (simp; done) | (simp; exact Fr.lt (by assumption)))⟩
    case rest =>
      obtain ⟨g', rfl, rfl, hG'⟩ := hcut
      obtain ⟨q0, q1, q2, q3, q4, q5, q6, q7, _⟩ := Held.s8 hG'
      go_wp2_with (go_at_call 37; refine (l_eqInterval_same _ _ _).mono ?_; rintro e w1 ⟨rfl, hb⟩; have H := Lib.hid hb; clear hb)
      go_ret
      exact ⟨rfl, Later.trans (Held.is hG') (by repeat (first | exact Later.refl _ | refine Later.drew ?_ | refine Later.drewN ?_ _ | refine Later.alloc ?_ _ | refine Later.trans ?_ (Hid.out (by assumption)) | refine Later.set_at ?_ ?_ _ _))⟩
theorem walk_FnExactSubtractIntervals (a b c d : Int) (w : World) :
    Calls Try.prog 8 #[.agg #[.int .i64 a, .int .i64 b], .agg #[.int .i64 c, .int .i64 d]] w fun e w' => e = .returned (.bool true) ∧ Later w w' := by
  go_enter Try.func8, Try.ntmps8
  go_upto_region 1 with (fail)
  refine into (Held [(w.heap.size, 0, .int .i64 a), (w.heap.size, 1, .int .i64 b), (w.heap.size + 1, 0, .int .i64 c), (w.heap.size + 1, 1, .int .i64 d)] w) ⟨by simp <;> omega, (((Later.refl _).alloc _).alloc _)⟩ ?_
  intro W hW
  go_cut [5, 6] (Got [(w.heap.size, 0, .int .i64 a), (w.heap.size, 1, .int .i64 b), (w.heap.size + 1, 0, .int .i64 c), (w.heap.size + 1, 1, .int .i64 d)] w (opL (ivB a b && ivB c d) (a - d) (b - c)) (opH (ivB a b && ivB c d) (a - d) (b - c)) (opE (ivB a b && ivB c d) (a - d) (b - c)))
  case first =>
    go_region_held3 (fun w' => w'.cell? ⟨w.heap.size, 0, none⟩ = some (.int .i64 a) ∧ w'.cell? ⟨w.heap.size, 1, none⟩ = some (.int .i64 b) ∧ w'.cell? ⟨w.heap.size + 1, 0, none⟩ = some (.int .i64 c) ∧ w'.cell? ⟨w.heap.size + 1, 1, none⟩ = some (.int .i64 d) ∧ Held [(w.heap.size, 0, .int .i64 a), (w.heap.size, 1, .int .i64 b), (w.heap.size + 1, 0, .int .i64 c), (w.heap.size + 1, 1, .int .i64 d)] w w') (exact Held.s4 (Held.later hW (by repeat (first | exact Later.refl _ | refine Later.drew ?_ | refine Later.drewN ?_ _ | refine Later.alloc ?_ _ | refine Later.trans ?_ (Hid.out (by assumption)) | refine Later.set_at ?_ ?_ _ _))))
      (first | (go_at_call 36; refine (l_toInterval _ _ _).mono ?_; rintro e w1 ⟨rfl, hb⟩; have H := Lib.hid hb; (first | (have F := fr_alloc hb; obtain ⟨f1, f2, f3, f4⟩ := Fr.o2 F) | (have F := fr_alloc_drew hb; obtain ⟨f1, f2, f3, f4⟩ := Fr.o2 F) | (have F := fr_later (by assumption) hb; obtain ⟨f1, f2, f3, f4⟩ := Fr.o2 F) | skip); clear hb) | (go_at_call 19; refine (s_SubtractIntervals _ _ _ _ _ ).mono ?_; rintro e w1 ⟨rfl, hb⟩; have H := Lib.hid hb; (first | (have F := fr_alloc hb; obtain ⟨f1, f2, f3, f4⟩ := Fr.o2 F) | (have F := fr_alloc_drew hb; obtain ⟨f1, f2, f3, f4⟩ := Fr.o2 F) | (have F := fr_later (by assumption) hb; obtain ⟨f1, f2, f3, f4⟩ := Fr.o2 F) | skip); clear hb))
    all_goals
      go_wp2_with fail
      go_meet
      exact ⟨_, rfl, rfl, held_more (held_more (Held.later hW (by repeat (first | exact Later.refl _ | refine Later.drew ?_ | refine Later.drewN ?_ _ | refine Later.alloc ?_ _ | refine Later.trans ?_ (Hid.out (by assumption)) | refine Later.set_at ?_ ?_ _ _))) _ _ _ (by first | (simp; done) | (simp [*]; done) | (simp [go_sem, *]; done)) (by first | (simp; done) | (simp; exact Fr.lt (by assumption)))) _ _ _ (by first | (simp; done) | (simp [*]; done) | (simp [go_sem, *]; done)) (by first | (simp; done) | (simp; exact Fr.lt (by assumption)))⟩
  case rest =>
    obtain ⟨g, rfl, rfl, hG⟩ := hcut
    go_upto_region 2 with (fail)
    go_cut [7, 8] (Got ((g, 0, .int .i64 (opL (ivB a b && ivB c d) (a - d) (b - c))) :: (g, 1, .int .i64 (opH (ivB a b && ivB c d) (a - d) (b - c))) :: [(w.heap.size, 0, .int .i64 a), (w.heap.size, 1, .int .i64 b), (w.heap.size + 1, 0, .int .i64 c), (w.heap.size + 1, 1, .int .i64 d)]) w (opL (ivB a b && ivB c d) (a - d) (b - c)) (opH (ivB a b && ivB c d) (a - d) (b - c)) (opE (ivB a b && ivB c d) (a - d) (b - c)))
    case first =>
      go_region_held3 (fun w' => w'.cell? ⟨g, 0, none⟩ = some (.int .i64 (opL (ivB a b && ivB c d) (a - d) (b - c))) ∧ w'.cell? ⟨g, 1, none⟩ = some (.int .i64 (opH (ivB a b && ivB c d) (a - d) (b - c))) ∧ w'.cell? ⟨w.heap.size, 0, none⟩ = some (.int .i64 a) ∧ w'.cell? ⟨w.heap.size, 1, none⟩ = some (.int .i64 b) ∧ w'.cell? ⟨w.heap.size + 1, 0, none⟩ = some (.int .i64 c) ∧ w'.cell? ⟨w.heap.size + 1, 1, none⟩ = some (.int .i64 d) ∧ Held ((g, 0, .int .i64 (opL (ivB a b && ivB c d) (a - d) (b - c))) :: (g, 1, .int .i64 (opH (ivB a b && ivB c d) (a - d) (b - c))) :: [(w.heap.size, 0, .int .i64 a), (w.heap.size, 1, .int .i64 b), (w.heap.size + 1, 0, .int .i64 c), (w.heap.size + 1, 1, .int .i64 d)]) w w') (exact Held.s6 (Held.later hG (by repeat (first | exact Later.refl _ | refine Later.drew ?_ | refine Later.drewN ?_ _ | refine Later.alloc ?_ _ | refine Later.trans ?_ (Hid.out (by assumption)) | refine Later.set_at ?_ ?_ _ _))))
        (first | (go_at_call 36; refine (l_toInterval _ _ _).mono ?_; rintro e w1 ⟨rfl, hb⟩; have H := Lib.hid hb; (first | (have F := fr_alloc hb; obtain ⟨f1, f2, f3, f4⟩ := Fr.o2 F) | (have F := fr_alloc_drew hb; obtain ⟨f1, f2, f3, f4⟩ := Fr.o2 F) | (have F := fr_later (by assumption) hb; obtain ⟨f1, f2, f3, f4⟩ := Fr.o2 F) | skip); clear hb) | (go_at_call 18; refine (i_SubtractIntervals _ _ _ _ _ ).mono ?_; rintro e w1 ⟨rfl, hb⟩; have H := Lib.hid hb; (first | (have F := fr_alloc hb; obtain ⟨f1, f2, f3, f4⟩ := Fr.o2 F) | (have F := fr_alloc_drew hb; obtain ⟨f1, f2, f3, f4⟩ := Fr.o2 F) | (have F := fr_later (by assumption) hb; obtain ⟨f1, f2, f3, f4⟩ := Fr.o2 F) | skip); clear hb))
      all_goals
        go_wp2_with fail
        go_meet
        exact ⟨_, rfl, rfl, held_more (held_more (Held.later hG (by repeat (first | exact Later.refl _ | refine Later.drew ?_ | refine Later.drewN ?_ _ | refine Later.alloc ?_ _ | refine Later.trans ?_ (Hid.out (by assumption)) | refine Later.set_at ?_ ?_ _ _))) _ _ _ (by first | (simp; done) | (simp [*]; done) | (simp [go_sem, *]; done)) (by first | (simp; done) | (simp; exact Fr.lt (by assumption)))) _ _ _ (by first | (simp; done) | (simp [*]; done) | (simp [go_sem, *]; done)) (by first | (simp; done) | (simp; exact Fr.lt (by assumption)))⟩
    case rest =>
      obtain ⟨g', rfl, rfl, hG'⟩ := hcut
      obtain ⟨q0, q1, q2, q3, q4, q5, q6, q7, _⟩ := Held.s8 hG'
      go_wp2_with (go_at_call 37; refine (l_eqInterval_same _ _ _).mono ?_; rintro e w1 ⟨rfl, hb⟩; have H := Lib.hid hb; clear hb)
      go_ret
      exact ⟨rfl, Later.trans (Held.is hG') (by repeat (first | exact Later.refl _ | refine Later.drew ?_ | refine Later.drewN ?_ _ | refine Later.alloc ?_ _ | refine Later.trans ?_ (Hid.out (by assumption)) | refine Later.set_at ?_ ?_ _ _))⟩
theorem walk_FnExactHullOf (a b c d : Int) (w : World) :
    Calls Try.prog 10 #[.agg #[.int .i64 a, .int .i64 b], .agg #[.int .i64 c, .int .i64 d]] w fun e w' => e = .returned (.bool true) ∧ Later w w' := by
  go_enter Try.func10, Try.ntmps10
  go_upto_region 1 with (fail)
  refine into (Held [(w.heap.size, 0, .int .i64 a), (w.heap.size, 1, .int .i64 b), (w.heap.size + 1, 0, .int .i64 c), (w.heap.size + 1, 1, .int .i64 d)] w) ⟨by simp <;> omega, (((Later.refl _).alloc _).alloc _)⟩ ?_
  intro W hW
  go_cut [5, 6] (Got [(w.heap.size, 0, .int .i64 a), (w.heap.size, 1, .int .i64 b), (w.heap.size + 1, 0, .int .i64 c), (w.heap.size + 1, 1, .int .i64 d)] w (opL (ivB a b && ivB c d) (min a c) (max b d)) (opH (ivB a b && ivB c d) (min a c) (max b d)) (opE (ivB a b && ivB c d) (min a c) (max b d)))
  case first =>
    go_region_held3 (fun w' => w'.cell? ⟨w.heap.size, 0, none⟩ = some (.int .i64 a) ∧ w'.cell? ⟨w.heap.size, 1, none⟩ = some (.int .i64 b) ∧ w'.cell? ⟨w.heap.size + 1, 0, none⟩ = some (.int .i64 c) ∧ w'.cell? ⟨w.heap.size + 1, 1, none⟩ = some (.int .i64 d) ∧ Held [(w.heap.size, 0, .int .i64 a), (w.heap.size, 1, .int .i64 b), (w.heap.size + 1, 0, .int .i64 c), (w.heap.size + 1, 1, .int .i64 d)] w w') (exact Held.s4 (Held.later hW (by repeat (first | exact Later.refl _ | refine Later.drew ?_ | refine Later.drewN ?_ _ | refine Later.alloc ?_ _ | refine Later.trans ?_ (Hid.out (by assumption)) | refine Later.set_at ?_ ?_ _ _))))
      (first | (go_at_call 36; refine (l_toInterval _ _ _).mono ?_; rintro e w1 ⟨rfl, hb⟩; have H := Lib.hid hb; (first | (have F := fr_alloc hb; obtain ⟨f1, f2, f3, f4⟩ := Fr.o2 F) | (have F := fr_alloc_drew hb; obtain ⟨f1, f2, f3, f4⟩ := Fr.o2 F) | (have F := fr_later (by assumption) hb; obtain ⟨f1, f2, f3, f4⟩ := Fr.o2 F) | skip); clear hb) | (go_at_call 31; refine (s_HullOf _ _ _ _ _ ).mono ?_; rintro e w1 ⟨rfl, hb⟩; have H := Lib.hid hb; (first | (have F := fr_alloc hb; obtain ⟨f1, f2, f3, f4⟩ := Fr.o2 F) | (have F := fr_alloc_drew hb; obtain ⟨f1, f2, f3, f4⟩ := Fr.o2 F) | (have F := fr_later (by assumption) hb; obtain ⟨f1, f2, f3, f4⟩ := Fr.o2 F) | skip); clear hb))
    all_goals
      go_wp2_with fail
      go_meet
      exact ⟨_, rfl, rfl, held_more (held_more (Held.later hW (by repeat (first | exact Later.refl _ | refine Later.drew ?_ | refine Later.drewN ?_ _ | refine Later.alloc ?_ _ | refine Later.trans ?_ (Hid.out (by assumption)) | refine Later.set_at ?_ ?_ _ _))) _ _ _ (by first | (simp; done) | (simp [*]; done) | (simp [go_sem, *]; done)) (by first | (simp; done) | (simp; exact Fr.lt (by assumption)))) _ _ _ (by first | (simp; done) | (simp [*]; done) | (simp [go_sem, *]; done)) (by first | (simp; done) | (simp; exact Fr.lt (by assumption)))⟩
  case rest =>
    obtain ⟨g, rfl, rfl, hG⟩ := hcut
    go_upto_region 2 with (fail)
    go_cut [7, 8] (Got ((g, 0, .int .i64 (opL (ivB a b && ivB c d) (min a c) (max b d))) :: (g, 1, .int .i64 (opH (ivB a b && ivB c d) (min a c) (max b d))) :: [(w.heap.size, 0, .int .i64 a), (w.heap.size, 1, .int .i64 b), (w.heap.size + 1, 0, .int .i64 c), (w.heap.size + 1, 1, .int .i64 d)]) w (opL (ivB a b && ivB c d) (min a c) (max b d)) (opH (ivB a b && ivB c d) (min a c) (max b d)) (opE (ivB a b && ivB c d) (min a c) (max b d)))
    case first =>
      go_region_held3 (fun w' => w'.cell? ⟨g, 0, none⟩ = some (.int .i64 (opL (ivB a b && ivB c d) (min a c) (max b d))) ∧ w'.cell? ⟨g, 1, none⟩ = some (.int .i64 (opH (ivB a b && ivB c d) (min a c) (max b d))) ∧ w'.cell? ⟨w.heap.size, 0, none⟩ = some (.int .i64 a) ∧ w'.cell? ⟨w.heap.size, 1, none⟩ = some (.int .i64 b) ∧ w'.cell? ⟨w.heap.size + 1, 0, none⟩ = some (.int .i64 c) ∧ w'.cell? ⟨w.heap.size + 1, 1, none⟩ = some (.int .i64 d) ∧ Held ((g, 0, .int .i64 (opL (ivB a b && ivB c d) (min a c) (max b d))) :: (g, 1, .int .i64 (opH (ivB a b && ivB c d) (min a c) (max b d))) :: [(w.heap.size, 0, .int .i64 a), (w.heap.size, 1, .int .i64 b), (w.heap.size + 1, 0, .int .i64 c), (w.heap.size + 1, 1, .int .i64 d)]) w w') (exact Held.s6 (Held.later hG (by repeat (first | exact Later.refl _ | refine Later.drew ?_ | refine Later.drewN ?_ _ | refine Later.alloc ?_ _ | refine Later.trans ?_ (Hid.out (by assumption)) | refine Later.set_at ?_ ?_ _ _))))
        (first | (go_at_call 36; refine (l_toInterval _ _ _).mono ?_; rintro e w1 ⟨rfl, hb⟩; have H := Lib.hid hb; (first | (have F := fr_alloc hb; obtain ⟨f1, f2, f3, f4⟩ := Fr.o2 F) | (have F := fr_alloc_drew hb; obtain ⟨f1, f2, f3, f4⟩ := Fr.o2 F) | (have F := fr_later (by assumption) hb; obtain ⟨f1, f2, f3, f4⟩ := Fr.o2 F) | skip); clear hb) | (go_at_call 30; refine (i_HullOf _ _ _ _ _ ).mono ?_; rintro e w1 ⟨rfl, hb⟩; have H := Lib.hid hb; (first | (have F := fr_alloc hb; obtain ⟨f1, f2, f3, f4⟩ := Fr.o2 F) | (have F := fr_alloc_drew hb; obtain ⟨f1, f2, f3, f4⟩ := Fr.o2 F) | (have F := fr_later (by assumption) hb; obtain ⟨f1, f2, f3, f4⟩ := Fr.o2 F) | skip); clear hb))
      all_goals
        go_wp2_with fail
        go_meet
        exact ⟨_, rfl, rfl, held_more (held_more (Held.later hG (by repeat (first | exact Later.refl _ | refine Later.drew ?_ | refine Later.drewN ?_ _ | refine Later.alloc ?_ _ | refine Later.trans ?_ (Hid.out (by assumption)) | refine Later.set_at ?_ ?_ _ _))) _ _ _ (by first | (simp; done) | (simp [*]; done) | (simp [go_sem, *]; done)) (by first | (simp; done) | (simp; exact Fr.lt (by assumption)))) _ _ _ (by first | (simp; done) | (simp [*]; done) | (simp [go_sem, *]; done)) (by first | (simp; done) | (simp; exact Fr.lt (by assumption)))⟩
    case rest =>
      obtain ⟨g', rfl, rfl, hG'⟩ := hcut
      obtain ⟨q0, q1, q2, q3, q4, q5, q6, q7, _⟩ := Held.s8 hG'
      go_wp2_with (go_at_call 37; refine (l_eqInterval_same _ _ _).mono ?_; rintro e w1 ⟨rfl, hb⟩; have H := Lib.hid hb; clear hb)
      go_ret
      exact ⟨rfl, Later.trans (Held.is hG') (by repeat (first | exact Later.refl _ | refine Later.drew ?_ | refine Later.drewN ?_ _ | refine Later.alloc ?_ _ | refine Later.trans ?_ (Hid.out (by assumption)) | refine Later.set_at ?_ ?_ _ _))⟩
theorem walk_FnExactCommonPart (a b c d : Int) (w : World) :
    Calls Try.prog 11 #[.agg #[.int .i64 a, .int .i64 b], .agg #[.int .i64 c, .int .i64 d]] w fun e w' => e = .returned (.bool true) ∧ Later w w' := by
  go_enter Try.func11, Try.ntmps11
  go_upto_region 1 with (fail)
  refine into (Held [(w.heap.size, 0, .int .i64 a), (w.heap.size, 1, .int .i64 b), (w.heap.size + 1, 0, .int .i64 c), (w.heap.size + 1, 1, .int .i64 d)] w) ⟨by simp <;> omega, (((Later.refl _).alloc _).alloc _)⟩ ?_
  intro W hW
  go_cut [5, 6] (Got [(w.heap.size, 0, .int .i64 a), (w.heap.size, 1, .int .i64 b), (w.heap.size + 1, 0, .int .i64 c), (w.heap.size + 1, 1, .int .i64 d)] w (cpL (ivB a b && ivB c d) (max a c) (min b d)) (cpH (ivB a b && ivB c d) (max a c) (min b d)) (cpE (ivB a b && ivB c d) (max a c) (min b d)))
  case first =>
    go_region_held3 (fun w' => w'.cell? ⟨w.heap.size, 0, none⟩ = some (.int .i64 a) ∧ w'.cell? ⟨w.heap.size, 1, none⟩ = some (.int .i64 b) ∧ w'.cell? ⟨w.heap.size + 1, 0, none⟩ = some (.int .i64 c) ∧ w'.cell? ⟨w.heap.size + 1, 1, none⟩ = some (.int .i64 d) ∧ Held [(w.heap.size, 0, .int .i64 a), (w.heap.size, 1, .int .i64 b), (w.heap.size + 1, 0, .int .i64 c), (w.heap.size + 1, 1, .int .i64 d)] w w') (exact Held.s4 (Held.later hW (by repeat (first | exact Later.refl _ | refine Later.drew ?_ | refine Later.drewN ?_ _ | refine Later.alloc ?_ _ | refine Later.trans ?_ (Hid.out (by assumption)) | refine Later.set_at ?_ ?_ _ _))))
      (first | (go_at_call 36; refine (l_toInterval _ _ _).mono ?_; rintro e w1 ⟨rfl, hb⟩; have H := Lib.hid hb; (first | (have F := fr_alloc hb; obtain ⟨f1, f2, f3, f4⟩ := Fr.o2 F) | (have F := fr_alloc_drew hb; obtain ⟨f1, f2, f3, f4⟩ := Fr.o2 F) | (have F := fr_later (by assumption) hb; obtain ⟨f1, f2, f3, f4⟩ := Fr.o2 F) | skip); clear hb) | (go_at_call 29; refine (s_CommonPart _ _ _ _ _ ).mono ?_; rintro e w1 ⟨rfl, hb⟩; have H := Lib.hid hb; (first | (have F := fr_alloc hb; obtain ⟨f1, f2, f3, f4⟩ := Fr.o2 F) | (have F := fr_alloc_drew hb; obtain ⟨f1, f2, f3, f4⟩ := Fr.o2 F) | (have F := fr_later (by assumption) hb; obtain ⟨f1, f2, f3, f4⟩ := Fr.o2 F) | skip); clear hb))
    all_goals
      go_wp2_with fail
      go_meet
      exact ⟨_, rfl, rfl, held_more (held_more (Held.later hW (by repeat (first | exact Later.refl _ | refine Later.drew ?_ | refine Later.drewN ?_ _ | refine Later.alloc ?_ _ | refine Later.trans ?_ (Hid.out (by assumption)) | refine Later.set_at ?_ ?_ _ _))) _ _ _ (by first | (simp; done) | (simp [*]; done) | (simp [go_sem, *]; done)) (by first | (simp; done) | (simp; exact Fr.lt (by assumption)))) _ _ _ (by first | (simp; done) | (simp [*]; done) | (simp [go_sem, *]; done)) (by first | (simp; done) | (simp; exact Fr.lt (by assumption)))⟩
  case rest =>
    obtain ⟨g, rfl, rfl, hG⟩ := hcut
    go_upto_region 2 with (fail)
    go_cut [7, 8] (Got ((g, 0, .int .i64 (cpL (ivB a b && ivB c d) (max a c) (min b d))) :: (g, 1, .int .i64 (cpH (ivB a b && ivB c d) (max a c) (min b d))) :: [(w.heap.size, 0, .int .i64 a), (w.heap.size, 1, .int .i64 b), (w.heap.size + 1, 0, .int .i64 c), (w.heap.size + 1, 1, .int .i64 d)]) w (cpL (ivB a b && ivB c d) (max a c) (min b d)) (cpH (ivB a b && ivB c d) (max a c) (min b d)) (cpE (ivB a b && ivB c d) (max a c) (min b d)))
    case first =>
      go_region_held3 (fun w' => w'.cell? ⟨g, 0, none⟩ = some (.int .i64 (cpL (ivB a b && ivB c d) (max a c) (min b d))) ∧ w'.cell? ⟨g, 1, none⟩ = some (.int .i64 (cpH (ivB a b && ivB c d) (max a c) (min b d))) ∧ w'.cell? ⟨w.heap.size, 0, none⟩ = some (.int .i64 a) ∧ w'.cell? ⟨w.heap.size, 1, none⟩ = some (.int .i64 b) ∧ w'.cell? ⟨w.heap.size + 1, 0, none⟩ = some (.int .i64 c) ∧ w'.cell? ⟨w.heap.size + 1, 1, none⟩ = some (.int .i64 d) ∧ Held ((g, 0, .int .i64 (cpL (ivB a b && ivB c d) (max a c) (min b d))) :: (g, 1, .int .i64 (cpH (ivB a b && ivB c d) (max a c) (min b d))) :: [(w.heap.size, 0, .int .i64 a), (w.heap.size, 1, .int .i64 b), (w.heap.size + 1, 0, .int .i64 c), (w.heap.size + 1, 1, .int .i64 d)]) w w') (exact Held.s6 (Held.later hG (by repeat (first | exact Later.refl _ | refine Later.drew ?_ | refine Later.drewN ?_ _ | refine Later.alloc ?_ _ | refine Later.trans ?_ (Hid.out (by assumption)) | refine Later.set_at ?_ ?_ _ _))))
        (first | (go_at_call 36; refine (l_toInterval _ _ _).mono ?_; rintro e w1 ⟨rfl, hb⟩; have H := Lib.hid hb; (first | (have F := fr_alloc hb; obtain ⟨f1, f2, f3, f4⟩ := Fr.o2 F) | (have F := fr_alloc_drew hb; obtain ⟨f1, f2, f3, f4⟩ := Fr.o2 F) | (have F := fr_later (by assumption) hb; obtain ⟨f1, f2, f3, f4⟩ := Fr.o2 F) | skip); clear hb) | (go_at_call 28; refine (i_CommonPart _ _ _ _ _ ).mono ?_; rintro e w1 ⟨rfl, hb⟩; have H := Lib.hid hb; (first | (have F := fr_alloc hb; obtain ⟨f1, f2, f3, f4⟩ := Fr.o2 F) | (have F := fr_alloc_drew hb; obtain ⟨f1, f2, f3, f4⟩ := Fr.o2 F) | (have F := fr_later (by assumption) hb; obtain ⟨f1, f2, f3, f4⟩ := Fr.o2 F) | skip); clear hb))
      all_goals
        go_wp2_with fail
        go_meet
        exact ⟨_, rfl, rfl, held_more (held_more (Held.later hG (by repeat (first | exact Later.refl _ | refine Later.drew ?_ | refine Later.drewN ?_ _ | refine Later.alloc ?_ _ | refine Later.trans ?_ (Hid.out (by assumption)) | refine Later.set_at ?_ ?_ _ _))) _ _ _ (by first | (simp; done) | (simp [*]; done) | (simp [go_sem, *]; done)) (by first | (simp; done) | (simp; exact Fr.lt (by assumption)))) _ _ _ (by first | (simp; done) | (simp [*]; done) | (simp [go_sem, *]; done)) (by first | (simp; done) | (simp; exact Fr.lt (by assumption)))⟩
    case rest =>
      obtain ⟨g', rfl, rfl, hG'⟩ := hcut
      obtain ⟨q0, q1, q2, q3, q4, q5, q6, q7, _⟩ := Held.s8 hG'
      go_wp2_with (go_at_call 37; refine (l_eqInterval_same _ _ _).mono ?_; rintro e w1 ⟨rfl, hb⟩; have H := Lib.hid hb; clear hb)
      go_ret
      exact ⟨rfl, Later.trans (Held.is hG') (by repeat (first | exact Later.refl _ | refine Later.drew ?_ | refine Later.drewN ?_ _ | refine Later.alloc ?_ _ | refine Later.trans ?_ (Hid.out (by assumption)) | refine Later.set_at ?_ ?_ _ _))⟩
theorem walk_FnExactScaleInterval (a b k : Int) (w : World) :
    Calls Try.prog 9 #[.agg #[.int .i64 a, .int .i64 b], .int .i64 k] w fun e w' => e = .returned (.bool true) ∧ Later w w' := by
  go_enter Try.func9, Try.ntmps9
  go_upto_region 1 with (fail)
  refine into (Held [(w.heap.size, 0, .int .i64 a), (w.heap.size, 1, .int .i64 b)] w) ⟨by simp <;> omega, ((Later.refl _).alloc _)⟩ ?_
  intro W hW
  go_cut [5, 6] (Got [(w.heap.size, 0, .int .i64 a), (w.heap.size, 1, .int .i64 b)] w (scL (ivB a b) a b k) (scH (ivB a b) a b k) (scE (ivB a b) a b k))
  case first =>
    obtain ⟨q0, q1, _⟩ := Held.s2 hW
    go_wp2_with (first | (go_at_call 36; refine (l_toInterval _ _ _).mono ?_; rintro e w1 ⟨rfl, hb⟩; have H := Lib.hid hb; (first | (have F := fr_alloc hb; obtain ⟨f1, f2, f3, f4⟩ := Fr.o2 F) | (have F := fr_alloc_drew hb; obtain ⟨f1, f2, f3, f4⟩ := Fr.o2 F) | (have F := fr_later (by assumption) hb; obtain ⟨f1, f2, f3, f4⟩ := Fr.o2 F) | skip); clear hb) | (go_at_call 26; refine (s_ScaleInterval _ _ _ _ ).mono ?_; rintro e w1 ⟨rfl, hb⟩; have H := Lib.hid hb; (first | (have F := fr_alloc hb; obtain ⟨f1, f2, f3, f4⟩ := Fr.o2 F) | (have F := fr_alloc_drew hb; obtain ⟨f1, f2, f3, f4⟩ := Fr.o2 F) | (have F := fr_later (by assumption) hb; obtain ⟨f1, f2, f3, f4⟩ := Fr.o2 F) | skip); clear hb))
    all_goals
      go_meet
      exact ⟨_, rfl, rfl, held_more (held_more (Held.later hW (by repeat (first | exact Later.refl _ | refine Later.drew ?_ | refine Later.drewN ?_ _ | refine Later.alloc ?_ _ | refine Later.trans ?_ (Hid.out (by assumption)) | refine Later.set_at ?_ ?_ _ _))) _ _ _ (by first | (simp; done) | (simp [*]; done) | (simp [go_sem, *]; done)) (by first | (simp; done) | (simp; exact Fr.lt (by assumption)))) _ _ _ (by first | (simp; done) | (simp [*]; done) | (simp [go_sem, *]; done)) (by first | (simp; done) | (simp; exact Fr.lt (by assumption)))⟩
  case rest =>
    obtain ⟨g, rfl, rfl, hG⟩ := hcut
    go_upto_region 2 with (fail)
    go_cut [7, 8] (Got ((g, 0, .int .i64 (scL (ivB a b) a b k)) :: (g, 1, .int .i64 (scH (ivB a b) a b k)) :: [(w.heap.size, 0, .int .i64 a), (w.heap.size, 1, .int .i64 b)]) w (scL (ivB a b) a b k) (scH (ivB a b) a b k) (scE (ivB a b) a b k))
    case first =>
      obtain ⟨q0, q1, q2, q3, _⟩ := Held.s4 hG
      go_wp2_with (first | (go_at_call 36; refine (l_toInterval _ _ _).mono ?_; rintro e w1 ⟨rfl, hb⟩; have H := Lib.hid hb; (first | (have F := fr_alloc hb; obtain ⟨f1, f2, f3, f4⟩ := Fr.o2 F) | (have F := fr_alloc_drew hb; obtain ⟨f1, f2, f3, f4⟩ := Fr.o2 F) | (have F := fr_later (by assumption) hb; obtain ⟨f1, f2, f3, f4⟩ := Fr.o2 F) | skip); clear hb) | (go_at_call 25; refine (i_ScaleInterval _ _ _ _ ).mono ?_; rintro e w1 ⟨rfl, hb⟩; have H := Lib.hid hb; (first | (have F := fr_alloc hb; obtain ⟨f1, f2, f3, f4⟩ := Fr.o2 F) | (have F := fr_alloc_drew hb; obtain ⟨f1, f2, f3, f4⟩ := Fr.o2 F) | (have F := fr_later (by assumption) hb; obtain ⟨f1, f2, f3, f4⟩ := Fr.o2 F) | skip); clear hb))
      all_goals
        go_meet
        exact ⟨_, rfl, rfl, held_more (held_more (Held.later hG (by repeat (first | exact Later.refl _ | refine Later.drew ?_ | refine Later.drewN ?_ _ | refine Later.alloc ?_ _ | refine Later.trans ?_ (Hid.out (by assumption)) | refine Later.set_at ?_ ?_ _ _))) _ _ _ (by first | (simp; done) | (simp [*]; done) | (simp [go_sem, *]; done)) (by first | (simp; done) | (simp; exact Fr.lt (by assumption)))) _ _ _ (by first | (simp; done) | (simp [*]; done) | (simp [go_sem, *]; done)) (by first | (simp; done) | (simp; exact Fr.lt (by assumption)))⟩
    case rest =>
      obtain ⟨g', rfl, rfl, hG'⟩ := hcut
      obtain ⟨q0, q1, q2, q3, q4, q5, _⟩ := Held.s6 hG'
      go_wp2_with (go_at_call 37; refine (l_eqInterval_same _ _ _).mono ?_; rintro e w1 ⟨rfl, hb⟩; have H := Lib.hid hb; clear hb)
      go_ret
      exact ⟨rfl, Later.trans (Held.is hG') (by repeat (first | exact Later.refl _ | refine Later.drew ?_ | refine Later.drewN ?_ _ | refine Later.alloc ?_ _ | refine Later.trans ?_ (Hid.out (by assumption)) | refine Later.set_at ?_ ?_ _ _))⟩
theorem walk_FnExactIsInterval (a b : Int) (w : World) :
    Calls Try.prog 6 #[.agg #[.int .i64 a, .int .i64 b]] w fun e w' => e = .returned (.bool true) ∧ Later w w' := by
  go_enter Try.func6, Try.ntmps6
  go_upto_region 1 with (fail)
  refine into (Held [(w.heap.size, 0, .int .i64 a), (w.heap.size, 1, .int .i64 b)] w) ⟨by simp <;> omega, ((Later.refl _).alloc _)⟩ ?_
  intro W hW
  go_cut [3] (GotB [(w.heap.size, 0, .int .i64 a), (w.heap.size, 1, .int .i64 b)] w (ivB a b))
  case first =>
    obtain ⟨q0, q1, _⟩ := Held.s2 hW
    go_wp2_with (first | (go_at_call 36; refine (l_toInterval _ _ _).mono ?_; rintro e w1 ⟨rfl, hb⟩; have H := Lib.hid hb; (first | (have F := fr_alloc hb; obtain ⟨f1, f2, f3, f4⟩ := Fr.o2 F) | (have F := fr_alloc_drew hb; obtain ⟨f1, f2, f3, f4⟩ := Fr.o2 F) | (have F := fr_later (by assumption) hb; obtain ⟨f1, f2, f3, f4⟩ := Fr.o2 F) | skip); clear hb) | (go_at_call 35; refine (s_IsInterval _ _ _ ).mono ?_; rintro e w1 ⟨rfl, hb⟩; have H := Lib.hid hb; (first | (have F := fr_alloc hb; obtain ⟨f1, f2, f3, f4⟩ := Fr.o2 F) | (have F := fr_alloc_drew hb; obtain ⟨f1, f2, f3, f4⟩ := Fr.o2 F) | (have F := fr_later (by assumption) hb; obtain ⟨f1, f2, f3, f4⟩ := Fr.o2 F) | skip); clear hb))
    all_goals
      go_meet
      exact ⟨rfl, (Held.later hW (by repeat (first | exact Later.refl _ | refine Later.drew ?_ | refine Later.drewN ?_ _ | refine Later.alloc ?_ _ | refine Later.trans ?_ (Hid.out (by assumption)) | refine Later.set_at ?_ ?_ _ _)))⟩
  case rest =>
    obtain ⟨rfl, hG⟩ := hcut
    go_upto_region 2 with (fail)
    go_cut [4] (GotB [(w.heap.size, 0, .int .i64 a), (w.heap.size, 1, .int .i64 b)] w (ivB a b))
    case first =>
      obtain ⟨q0, q1, _⟩ := Held.s2 hG
      go_wp2_with (first | (go_at_call 36; refine (l_toInterval _ _ _).mono ?_; rintro e w1 ⟨rfl, hb⟩; have H := Lib.hid hb; (first | (have F := fr_alloc hb; obtain ⟨f1, f2, f3, f4⟩ := Fr.o2 F) | (have F := fr_alloc_drew hb; obtain ⟨f1, f2, f3, f4⟩ := Fr.o2 F) | (have F := fr_later (by assumption) hb; obtain ⟨f1, f2, f3, f4⟩ := Fr.o2 F) | skip); clear hb) | (go_at_call 20; refine (i_IsInterval _ _ _ ).mono ?_; rintro e w1 ⟨rfl, hb⟩; have H := Lib.hid hb; (first | (have F := fr_alloc hb; obtain ⟨f1, f2, f3, f4⟩ := Fr.o2 F) | (have F := fr_alloc_drew hb; obtain ⟨f1, f2, f3, f4⟩ := Fr.o2 F) | (have F := fr_later (by assumption) hb; obtain ⟨f1, f2, f3, f4⟩ := Fr.o2 F) | skip); clear hb))
      all_goals
        go_meet
        exact ⟨rfl, (Held.later hG (by repeat (first | exact Later.refl _ | refine Later.drew ?_ | refine Later.drewN ?_ _ | refine Later.alloc ?_ _ | refine Later.trans ?_ (Hid.out (by assumption)) | refine Later.set_at ?_ ?_ _ _)))⟩
    case rest =>
      obtain ⟨rfl, hG'⟩ := hcut
      go_wp2_with fail
      go_ret
      exact ⟨rfl, Later.trans (Held.is hG') (by repeat (first | exact Later.refl _ | refine Later.drew ?_ | refine Later.drewN ?_ _ | refine Later.alloc ?_ _ | refine Later.trans ?_ (Hid.out (by assumption)) | refine Later.set_at ?_ ?_ _ _))⟩
theorem walk_FnExactIsWithin (a b c d : Int) (w : World) :
    Calls Try.prog 12 #[.agg #[.int .i64 a, .int .i64 b], .agg #[.int .i64 c, .int .i64 d]] w fun e w' => e = .returned (.bool true) ∧ Later w w' := by
  go_enter Try.func12, Try.ntmps12
  go_upto_region 1 with (fail)
  refine into (Held [(w.heap.size, 0, .int .i64 a), (w.heap.size, 1, .int .i64 b), (w.heap.size + 1, 0, .int .i64 c), (w.heap.size + 1, 1, .int .i64 d)] w) ⟨by simp <;> omega, (((Later.refl _).alloc _).alloc _)⟩ ?_
  intro W hW
  go_cut [5] (GotB [(w.heap.size, 0, .int .i64 a), (w.heap.size, 1, .int .i64 b), (w.heap.size + 1, 0, .int .i64 c), (w.heap.size + 1, 1, .int .i64 d)] w (winB (ivB a b && ivB c d) a b c d))
  case first =>
    go_region_held3 (fun w' => w'.cell? ⟨w.heap.size, 0, none⟩ = some (.int .i64 a) ∧ w'.cell? ⟨w.heap.size, 1, none⟩ = some (.int .i64 b) ∧ w'.cell? ⟨w.heap.size + 1, 0, none⟩ = some (.int .i64 c) ∧ w'.cell? ⟨w.heap.size + 1, 1, none⟩ = some (.int .i64 d) ∧ Held [(w.heap.size, 0, .int .i64 a), (w.heap.size, 1, .int .i64 b), (w.heap.size + 1, 0, .int .i64 c), (w.heap.size + 1, 1, .int .i64 d)] w w') (exact Held.s4 (Held.later hW (by repeat (first | exact Later.refl _ | refine Later.drew ?_ | refine Later.drewN ?_ _ | refine Later.alloc ?_ _ | refine Later.trans ?_ (Hid.out (by assumption)) | refine Later.set_at ?_ ?_ _ _))))
      (first | (go_at_call 36; refine (l_toInterval _ _ _).mono ?_; rintro e w1 ⟨rfl, hb⟩; have H := Lib.hid hb; (first | (have F := fr_alloc hb; obtain ⟨f1, f2, f3, f4⟩ := Fr.o2 F) | (have F := fr_alloc_drew hb; obtain ⟨f1, f2, f3, f4⟩ := Fr.o2 F) | (have F := fr_later (by assumption) hb; obtain ⟨f1, f2, f3, f4⟩ := Fr.o2 F) | skip); clear hb) | (go_at_call 34; refine (s_IsWithin _ _ _ _ _ ).mono ?_; rintro e w1 ⟨rfl, hb⟩; have H := Lib.hid hb; (first | (have F := fr_alloc hb; obtain ⟨f1, f2, f3, f4⟩ := Fr.o2 F) | (have F := fr_alloc_drew hb; obtain ⟨f1, f2, f3, f4⟩ := Fr.o2 F) | (have F := fr_later (by assumption) hb; obtain ⟨f1, f2, f3, f4⟩ := Fr.o2 F) | skip); clear hb))
    all_goals
      go_wp2_with fail
      go_meet
      exact ⟨rfl, (Held.later hW (by repeat (first | exact Later.refl _ | refine Later.drew ?_ | refine Later.drewN ?_ _ | refine Later.alloc ?_ _ | refine Later.trans ?_ (Hid.out (by assumption)) | refine Later.set_at ?_ ?_ _ _)))⟩
  case rest =>
    obtain ⟨rfl, hG⟩ := hcut
    go_upto_region 2 with (fail)
    go_cut [6] (GotB [(w.heap.size, 0, .int .i64 a), (w.heap.size, 1, .int .i64 b), (w.heap.size + 1, 0, .int .i64 c), (w.heap.size + 1, 1, .int .i64 d)] w (winB (ivB a b && ivB c d) a b c d))
    case first =>
      go_region_held3 (fun w' => w'.cell? ⟨w.heap.size, 0, none⟩ = some (.int .i64 a) ∧ w'.cell? ⟨w.heap.size, 1, none⟩ = some (.int .i64 b) ∧ w'.cell? ⟨w.heap.size + 1, 0, none⟩ = some (.int .i64 c) ∧ w'.cell? ⟨w.heap.size + 1, 1, none⟩ = some (.int .i64 d) ∧ Held [(w.heap.size, 0, .int .i64 a), (w.heap.size, 1, .int .i64 b), (w.heap.size + 1, 0, .int .i64 c), (w.heap.size + 1, 1, .int .i64 d)] w w') (exact Held.s4 (Held.later hG (by repeat (first | exact Later.refl _ | refine Later.drew ?_ | refine Later.drewN ?_ _ | refine Later.alloc ?_ _ | refine Later.trans ?_ (Hid.out (by assumption)) | refine Later.set_at ?_ ?_ _ _))))
        (first | (go_at_call 36; refine (l_toInterval _ _ _).mono ?_; rintro e w1 ⟨rfl, hb⟩; have H := Lib.hid hb; (first | (have F := fr_alloc hb; obtain ⟨f1, f2, f3, f4⟩ := Fr.o2 F) | (have F := fr_alloc_drew hb; obtain ⟨f1, f2, f3, f4⟩ := Fr.o2 F) | (have F := fr_later (by assumption) hb; obtain ⟨f1, f2, f3, f4⟩ := Fr.o2 F) | skip); clear hb) | (go_at_call 23; refine (i_IsWithin _ _ _ _ _ ).mono ?_; rintro e w1 ⟨rfl, hb⟩; have H := Lib.hid hb; (first | (have F := fr_alloc hb; obtain ⟨f1, f2, f3, f4⟩ := Fr.o2 F) | (have F := fr_alloc_drew hb; obtain ⟨f1, f2, f3, f4⟩ := Fr.o2 F) | (have F := fr_later (by assumption) hb; obtain ⟨f1, f2, f3, f4⟩ := Fr.o2 F) | skip); clear hb))
      all_goals
        go_wp2_with fail
        go_meet
        exact ⟨rfl, (Held.later hG (by repeat (first | exact Later.refl _ | refine Later.drew ?_ | refine Later.drewN ?_ _ | refine Later.alloc ?_ _ | refine Later.trans ?_ (Hid.out (by assumption)) | refine Later.set_at ?_ ?_ _ _)))⟩
    case rest =>
      obtain ⟨rfl, hG'⟩ := hcut
      go_wp2_with fail
      go_ret
      exact ⟨rfl, Later.trans (Held.is hG') (by repeat (first | exact Later.refl _ | refine Later.drew ?_ | refine Later.drewN ?_ _ | refine Later.alloc ?_ _ | refine Later.trans ?_ (Hid.out (by assumption)) | refine Later.set_at ?_ ?_ _ _))⟩
theorem walk_FnExactCompareIntervals (a b c d : Int) (w : World) :
    Calls Try.prog 13 #[.agg #[.int .i64 a, .int .i64 b], .agg #[.int .i64 c, .int .i64 d]] w fun e w' => e = .returned (.bool true) ∧ Later w w' := by
  go_enter Try.func13, Try.ntmps13
  go_upto_region 1 with (fail)
  refine into (Held [(w.heap.size, 0, .int .i64 a), (w.heap.size, 1, .int .i64 b), (w.heap.size + 1, 0, .int .i64 c), (w.heap.size + 1, 1, .int .i64 d)] w) ⟨by simp <;> omega, (((Later.refl _).alloc _).alloc _)⟩ ?_
  intro W hW
  go_cut [5, 6] (Got2 [(w.heap.size, 0, .int .i64 a), (w.heap.size, 1, .int .i64 b), (w.heap.size + 1, 0, .int .i64 c), (w.heap.size + 1, 1, .int .i64 d)] w (ordV (ivB a b && ivB c d) a b c d) (ordE (ivB a b && ivB c d)))
  case first =>
    go_region_held3 (fun w' => w'.cell? ⟨w.heap.size, 0, none⟩ = some (.int .i64 a) ∧ w'.cell? ⟨w.heap.size, 1, none⟩ = some (.int .i64 b) ∧ w'.cell? ⟨w.heap.size + 1, 0, none⟩ = some (.int .i64 c) ∧ w'.cell? ⟨w.heap.size + 1, 1, none⟩ = some (.int .i64 d) ∧ Held [(w.heap.size, 0, .int .i64 a), (w.heap.size, 1, .int .i64 b), (w.heap.size + 1, 0, .int .i64 c), (w.heap.size + 1, 1, .int .i64 d)] w w') (exact Held.s4 (Held.later hW (by repeat (first | exact Later.refl _ | refine Later.drew ?_ | refine Later.drewN ?_ _ | refine Later.alloc ?_ _ | refine Later.trans ?_ (Hid.out (by assumption)) | refine Later.set_at ?_ ?_ _ _))))
      (first | (go_at_call 36; refine (l_toInterval _ _ _).mono ?_; rintro e w1 ⟨rfl, hb⟩; have H := Lib.hid hb; (first | (have F := fr_alloc hb; obtain ⟨f1, f2, f3, f4⟩ := Fr.o2 F) | (have F := fr_alloc_drew hb; obtain ⟨f1, f2, f3, f4⟩ := Fr.o2 F) | (have F := fr_later (by assumption) hb; obtain ⟨f1, f2, f3, f4⟩ := Fr.o2 F) | skip); clear hb) | (go_at_call 33; refine (s_CompareIntervals _ _ _ _ _ ).mono ?_; rintro e w1 ⟨rfl, hb⟩; have H := Lib.hid hb; (first | (have F := fr_alloc hb; obtain ⟨f1, f2, f3, f4⟩ := Fr.o2 F) | (have F := fr_alloc_drew hb; obtain ⟨f1, f2, f3, f4⟩ := Fr.o2 F) | (have F := fr_later (by assumption) hb; obtain ⟨f1, f2, f3, f4⟩ := Fr.o2 F) | skip); clear hb))
    all_goals
      go_wp2_with fail
      go_meet
      exact ⟨rfl, rfl, (Held.later hW (by repeat (first | exact Later.refl _ | refine Later.drew ?_ | refine Later.drewN ?_ _ | refine Later.alloc ?_ _ | refine Later.trans ?_ (Hid.out (by assumption)) | refine Later.set_at ?_ ?_ _ _)))⟩
  case rest =>
    obtain ⟨rfl, rfl, hG⟩ := hcut
    go_upto_region 2 with (fail)
    go_cut [7, 8] (Got2 [(w.heap.size, 0, .int .i64 a), (w.heap.size, 1, .int .i64 b), (w.heap.size + 1, 0, .int .i64 c), (w.heap.size + 1, 1, .int .i64 d)] w (ordV (ivB a b && ivB c d) a b c d) (ordE (ivB a b && ivB c d)))
    case first =>
      go_region_held3 (fun w' => w'.cell? ⟨w.heap.size, 0, none⟩ = some (.int .i64 a) ∧ w'.cell? ⟨w.heap.size, 1, none⟩ = some (.int .i64 b) ∧ w'.cell? ⟨w.heap.size + 1, 0, none⟩ = some (.int .i64 c) ∧ w'.cell? ⟨w.heap.size + 1, 1, none⟩ = some (.int .i64 d) ∧ Held [(w.heap.size, 0, .int .i64 a), (w.heap.size, 1, .int .i64 b), (w.heap.size + 1, 0, .int .i64 c), (w.heap.size + 1, 1, .int .i64 d)] w w') (exact Held.s4 (Held.later hG (by repeat (first | exact Later.refl _ | refine Later.drew ?_ | refine Later.drewN ?_ _ | refine Later.alloc ?_ _ | refine Later.trans ?_ (Hid.out (by assumption)) | refine Later.set_at ?_ ?_ _ _))))
        (first | (go_at_call 36; refine (l_toInterval _ _ _).mono ?_; rintro e w1 ⟨rfl, hb⟩; have H := Lib.hid hb; (first | (have F := fr_alloc hb; obtain ⟨f1, f2, f3, f4⟩ := Fr.o2 F) | (have F := fr_alloc_drew hb; obtain ⟨f1, f2, f3, f4⟩ := Fr.o2 F) | (have F := fr_later (by assumption) hb; obtain ⟨f1, f2, f3, f4⟩ := Fr.o2 F) | skip); clear hb) | (go_at_call 32; refine (i_CompareIntervals _ _ _ _ _ ).mono ?_; rintro e w1 ⟨rfl, hb⟩; have H := Lib.hid hb; (first | (have F := fr_alloc hb; obtain ⟨f1, f2, f3, f4⟩ := Fr.o2 F) | (have F := fr_alloc_drew hb; obtain ⟨f1, f2, f3, f4⟩ := Fr.o2 F) | (have F := fr_later (by assumption) hb; obtain ⟨f1, f2, f3, f4⟩ := Fr.o2 F) | skip); clear hb))
      all_goals
        go_wp2_with fail
        go_meet
        exact ⟨rfl, rfl, (Held.later hG (by repeat (first | exact Later.refl _ | refine Later.drew ?_ | refine Later.drewN ?_ _ | refine Later.alloc ?_ _ | refine Later.trans ?_ (Hid.out (by assumption)) | refine Later.set_at ?_ ?_ _ _)))⟩
    case rest =>
      obtain ⟨rfl, rfl, hG'⟩ := hcut
      go_wp2_with fail
      go_ret
      exact ⟨rfl, Later.trans (Held.is hG') (by repeat (first | exact Later.refl _ | refine Later.drew ?_ | refine Later.drewN ?_ _ | refine Later.alloc ?_ _ | refine Later.trans ?_ (Hid.out (by assumption)) | refine Later.set_at ?_ ?_ _ _))⟩
end Go.Proofs.Ytpadigebbgcopaa
