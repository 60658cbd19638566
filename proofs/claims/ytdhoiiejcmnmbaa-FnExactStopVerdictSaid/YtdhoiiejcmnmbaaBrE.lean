/- The walks of the exact laws of chapter 7 on one brake. -/
import Derived.Test.YtdhoiiejcmnmbaaBrK
import Derived.Test.YtdhoiiejcmnmbaaBrT
import Derived.Test.YtdhoiiejcmnmbaaSgL
import Derived.Test.YtdhoiiejcmnmbaaIvE
namespace Go.Proofs.Ytdhoiiejcmnmbaa
open Go.RowKit
set_option maxHeartbeats 4000000
set_option linter.unusedVariables false
set_option linter.unusedSimpArgs false
set_option maxRecDepth 100000 in
theorem walk_FnExactBrakeWork (x : Sg) (w : World) :
    Calls Try.prog 11 #[.agg #[.int .i64 x.k, .int .i64 x.l, .int .i64 x.r, .int .i64 x.a, .int .i64 x.b, .int .i64 x.c, .int .i64 x.d]] w fun e w' => e = .returned (.bool true) ∧ Later w w' := by
  have e0 : ((brE x) != (brE x)) = false := by simp
  go_enter Try.func11, Try.ntmps11
  go_upto_region 1 with (fail)
  refine into (Held [(w.heap.size, 0, .int .i64 x.k), (w.heap.size, 1, .int .i64 x.l), (w.heap.size, 2, .int .i64 x.r), (w.heap.size, 3, .int .i64 x.a), (w.heap.size, 4, .int .i64 x.b), (w.heap.size, 5, .int .i64 x.c), (w.heap.size, 6, .int .i64 x.d)] w) (by first | exact (held_box (held_start w) (w.heap.size) [.int .i64 x.k, .int .i64 x.l, .int .i64 x.r, .int .i64 x.a, .int .i64 x.b, .int .i64 x.c, .int .i64 x.d] _ (by simp)) | simpa using (held_box (held_start w) (w.heap.size) [.int .i64 x.k, .int .i64 x.l, .int .i64 x.r, .int .i64 x.a, .int .i64 x.b, .int .i64 x.c, .int .i64 x.d] _ (by simp))) ?_
  intro W hW
  go_cut [3, 4] (Got [(w.heap.size, 0, .int .i64 x.k), (w.heap.size, 1, .int .i64 x.l), (w.heap.size, 2, .int .i64 x.r), (w.heap.size, 3, .int .i64 x.a), (w.heap.size, 4, .int .i64 x.b), (w.heap.size, 5, .int .i64 x.c), (w.heap.size, 6, .int .i64 x.d)] w (bwL x) (bwH x) (brE x))
  case first =>
    obtain ⟨q0, q1, q2, q3, q4, q5, q6, _⟩ := Held.s7 hW
    go_wp2_with (first | (go_at_call 37; refine (l_toSegment x _).mono ?_; rintro e w1 ⟨rfl, hb⟩; have H := Lib.hid hb; (first | (have F := fr_alloc hb; obtain ⟨f1, f2, f3, f4⟩ := Fr.o2 F) | (have F := fr_alloc_drew hb; obtain ⟨f1, f2, f3, f4⟩ := Fr.o2 F) | (have F := fr_later (by assumption) hb; obtain ⟨f1, f2, f3, f4⟩ := Fr.o2 F) | skip); clear hb) | (go_at_call 46; refine (s_BrakeWork x _).mono ?_; rintro e w1 ⟨rfl, hb⟩; have H := Lib.hid hb; (first | (have F := fr_alloc hb; obtain ⟨f1, f2, f3, f4⟩ := Fr.o2 F) | (have F := fr_alloc_drew hb; obtain ⟨f1, f2, f3, f4⟩ := Fr.o2 F) | (have F := fr_later (by assumption) hb; obtain ⟨f1, f2, f3, f4⟩ := Fr.o2 F) | skip); clear hb))
    all_goals
      go_meet
      exact ⟨_, rfl, rfl, held_more (held_more (Held.later hW (by repeat (first | exact Later.refl _ | refine Later.drew ?_ | refine Later.drewN ?_ _ | refine Later.alloc ?_ _ | refine Later.trans ?_ (Hid.out (by assumption)) | refine Later.set_at ?_ ?_ _ _))) _ _ _ (by first | (simp; done) | (simp [*]; done) | (simp [go_sem, *]; done)) (by first | (simp; done) | (simp; exact Fr.lt (by assumption)))) _ _ _ (by first | (simp; done) | (simp [*]; done) | (simp [go_sem, *]; done)) (by first | (simp; done) | (simp; exact Fr.lt (by assumption)))⟩
  case rest =>
    obtain ⟨g, rfl, rfl, hG⟩ := hcut
    go_upto_region 2 with (fail)
    go_cut [5, 6] (Got ((g, 0, .int .i64 (bwL x)) :: (g, 1, .int .i64 (bwH x)) :: [(w.heap.size, 0, .int .i64 x.k), (w.heap.size, 1, .int .i64 x.l), (w.heap.size, 2, .int .i64 x.r), (w.heap.size, 3, .int .i64 x.a), (w.heap.size, 4, .int .i64 x.b), (w.heap.size, 5, .int .i64 x.c), (w.heap.size, 6, .int .i64 x.d)]) w (bwL x) (bwH x) (brE x))
    case first =>
      obtain ⟨q0, q1, q2, q3, q4, q5, q6, q7, q8, _⟩ := Held.s9 hG
      go_wp2_with (first | (go_at_call 37; refine (l_toSegment x _).mono ?_; rintro e w1 ⟨rfl, hb⟩; have H := Lib.hid hb; (first | (have F := fr_alloc hb; obtain ⟨f1, f2, f3, f4⟩ := Fr.o2 F) | (have F := fr_alloc_drew hb; obtain ⟨f1, f2, f3, f4⟩ := Fr.o2 F) | (have F := fr_later (by assumption) hb; obtain ⟨f1, f2, f3, f4⟩ := Fr.o2 F) | skip); clear hb) | (go_at_call 45; refine (i_BrakeWork x _).mono ?_; rintro e w1 ⟨rfl, hb⟩; have H := Lib.hid hb; (first | (have F := fr_alloc hb; obtain ⟨f1, f2, f3, f4⟩ := Fr.o2 F) | (have F := fr_alloc_drew hb; obtain ⟨f1, f2, f3, f4⟩ := Fr.o2 F) | (have F := fr_later (by assumption) hb; obtain ⟨f1, f2, f3, f4⟩ := Fr.o2 F) | skip); clear hb))
      all_goals
        go_meet
        exact ⟨_, rfl, rfl, held_more (held_more (Held.later hG (by repeat (first | exact Later.refl _ | refine Later.drew ?_ | refine Later.drewN ?_ _ | refine Later.alloc ?_ _ | refine Later.trans ?_ (Hid.out (by assumption)) | refine Later.set_at ?_ ?_ _ _))) _ _ _ (by first | (simp; done) | (simp [*]; done) | (simp [go_sem, *]; done)) (by first | (simp; done) | (simp; exact Fr.lt (by assumption)))) _ _ _ (by first | (simp; done) | (simp [*]; done) | (simp [go_sem, *]; done)) (by first | (simp; done) | (simp; exact Fr.lt (by assumption)))⟩
    case rest =>
      obtain ⟨g', rfl, rfl, hG'⟩ := hcut
      have q0 := hG'.at g' 0 (.int .i64 (bwL x)) (by simp)
      have q1 := hG'.at g' 1 (.int .i64 (bwH x)) (by simp)
      have q2 := hG'.at g 0 (.int .i64 (bwL x)) (by simp)
      have q3 := hG'.at g 1 (.int .i64 (bwH x)) (by simp)
      go_wp2_with (go_at_call 39; refine (l_eqInterval_same _ _ _).mono ?_; rintro e w1 ⟨rfl, hb⟩; have H := Lib.hid hb; clear hb)
      go_ret
      exact ⟨rfl, Later.trans (Held.is hG') (by repeat (first | exact Later.refl _ | refine Later.drew ?_ | refine Later.drewN ?_ _ | refine Later.alloc ?_ _ | refine Later.trans ?_ (Hid.out (by assumption)) | refine Later.set_at ?_ ?_ _ _))⟩
set_option maxRecDepth 100000 in
theorem walk_FnExactGreatestStop (x : Sg) (w : World) :
    Calls Try.prog 14 #[.agg #[.int .i64 x.k, .int .i64 x.l, .int .i64 x.r, .int .i64 x.a, .int .i64 x.b, .int .i64 x.c, .int .i64 x.d]] w fun e w' => e = .returned (.bool true) ∧ Later w w' := by
  have e0 : ((gsV x) != (gsV x)) = false := by simp
  have e1 : ((slE x) != (slE x)) = false := by simp
  go_enter Try.func14, Try.ntmps14
  go_upto_region 1 with (fail)
  refine into (Held [(w.heap.size, 0, .int .i64 x.k), (w.heap.size, 1, .int .i64 x.l), (w.heap.size, 2, .int .i64 x.r), (w.heap.size, 3, .int .i64 x.a), (w.heap.size, 4, .int .i64 x.b), (w.heap.size, 5, .int .i64 x.c), (w.heap.size, 6, .int .i64 x.d)] w) (by first | exact (held_box (held_start w) (w.heap.size) [.int .i64 x.k, .int .i64 x.l, .int .i64 x.r, .int .i64 x.a, .int .i64 x.b, .int .i64 x.c, .int .i64 x.d] _ (by simp)) | simpa using (held_box (held_start w) (w.heap.size) [.int .i64 x.k, .int .i64 x.l, .int .i64 x.r, .int .i64 x.a, .int .i64 x.b, .int .i64 x.c, .int .i64 x.d] _ (by simp))) ?_
  intro W hW
  go_cut [3, 4] (Got2 [(w.heap.size, 0, .int .i64 x.k), (w.heap.size, 1, .int .i64 x.l), (w.heap.size, 2, .int .i64 x.r), (w.heap.size, 3, .int .i64 x.a), (w.heap.size, 4, .int .i64 x.b), (w.heap.size, 5, .int .i64 x.c), (w.heap.size, 6, .int .i64 x.d)] w (gsV x) (slE x))
  case first =>
    obtain ⟨q0, q1, q2, q3, q4, q5, q6, _⟩ := Held.s7 hW
    go_wp2_with (first | (go_at_call 37; refine (l_toSegment x _).mono ?_; rintro e w1 ⟨rfl, hb⟩; have H := Lib.hid hb; (first | (have F := fr_alloc hb; obtain ⟨f1, f2, f3, f4⟩ := Fr.o2 F) | (have F := fr_alloc_drew hb; obtain ⟨f1, f2, f3, f4⟩ := Fr.o2 F) | (have F := fr_later (by assumption) hb; obtain ⟨f1, f2, f3, f4⟩ := Fr.o2 F) | skip); clear hb) | (go_at_call 52; refine (s_GreatestStop x _).mono ?_; rintro e w1 ⟨rfl, hb⟩; have H := Lib.hid hb; (first | (have F := fr_alloc hb; obtain ⟨f1, f2, f3, f4⟩ := Fr.o2 F) | (have F := fr_alloc_drew hb; obtain ⟨f1, f2, f3, f4⟩ := Fr.o2 F) | (have F := fr_later (by assumption) hb; obtain ⟨f1, f2, f3, f4⟩ := Fr.o2 F) | skip); clear hb))
    all_goals
      go_meet
      exact ⟨rfl, rfl, (Held.later hW (by repeat (first | exact Later.refl _ | refine Later.drew ?_ | refine Later.drewN ?_ _ | refine Later.alloc ?_ _ | refine Later.trans ?_ (Hid.out (by assumption)) | refine Later.set_at ?_ ?_ _ _)))⟩
  case rest =>
    obtain ⟨rfl, rfl, hG⟩ := hcut
    go_upto_region 2 with (fail)
    go_cut [5, 6] (Got2 [(w.heap.size, 0, .int .i64 x.k), (w.heap.size, 1, .int .i64 x.l), (w.heap.size, 2, .int .i64 x.r), (w.heap.size, 3, .int .i64 x.a), (w.heap.size, 4, .int .i64 x.b), (w.heap.size, 5, .int .i64 x.c), (w.heap.size, 6, .int .i64 x.d)] w (gsV x) (slE x))
    case first =>
      obtain ⟨q0, q1, q2, q3, q4, q5, q6, _⟩ := Held.s7 hG
      go_wp2_with (first | (go_at_call 37; refine (l_toSegment x _).mono ?_; rintro e w1 ⟨rfl, hb⟩; have H := Lib.hid hb; (first | (have F := fr_alloc hb; obtain ⟨f1, f2, f3, f4⟩ := Fr.o2 F) | (have F := fr_alloc_drew hb; obtain ⟨f1, f2, f3, f4⟩ := Fr.o2 F) | (have F := fr_later (by assumption) hb; obtain ⟨f1, f2, f3, f4⟩ := Fr.o2 F) | skip); clear hb) | (go_at_call 47; refine (i_GreatestStop x _).mono ?_; rintro e w1 ⟨rfl, hb⟩; have H := Lib.hid hb; (first | (have F := fr_alloc hb; obtain ⟨f1, f2, f3, f4⟩ := Fr.o2 F) | (have F := fr_alloc_drew hb; obtain ⟨f1, f2, f3, f4⟩ := Fr.o2 F) | (have F := fr_later (by assumption) hb; obtain ⟨f1, f2, f3, f4⟩ := Fr.o2 F) | skip); clear hb))
      all_goals
        go_meet
        exact ⟨rfl, rfl, (Held.later hG (by repeat (first | exact Later.refl _ | refine Later.drew ?_ | refine Later.drewN ?_ _ | refine Later.alloc ?_ _ | refine Later.trans ?_ (Hid.out (by assumption)) | refine Later.set_at ?_ ?_ _ _)))⟩
    case rest =>
      obtain ⟨rfl, rfl, hG'⟩ := hcut
      go_wp2_with fail
      go_ret
      exact ⟨rfl, Later.trans (Held.is hG') (by repeat (first | exact Later.refl _ | refine Later.drew ?_ | refine Later.drewN ?_ _ | refine Later.alloc ?_ _ | refine Later.trans ?_ (Hid.out (by assumption)) | refine Later.set_at ?_ ?_ _ _))⟩
set_option maxRecDepth 100000 in
theorem walk_FnExactStopVerdict (x : Sg) (a b : Int) (w : World) :
    Calls Try.prog 13 #[.agg #[.int .i64 x.k, .int .i64 x.l, .int .i64 x.r, .int .i64 x.a, .int .i64 x.b, .int .i64 x.c, .int .i64 x.d], .agg #[.int .i64 a, .int .i64 b]] w fun e w' => e = .returned (.bool true) ∧ Later w w' := by
  have e0 : ((svV x a b) != (svV x a b)) = false := by simp
  have e1 : ((svE x a b) != (svE x a b)) = false := by simp
  go_enter Try.func13, Try.ntmps13
  go_upto_region 1 with (fail)
  refine into (Held [(w.heap.size + 1, 0, .int .i64 a), (w.heap.size + 1, 1, .int .i64 b), (w.heap.size, 0, .int .i64 x.k), (w.heap.size, 1, .int .i64 x.l), (w.heap.size, 2, .int .i64 x.r), (w.heap.size, 3, .int .i64 x.a), (w.heap.size, 4, .int .i64 x.b), (w.heap.size, 5, .int .i64 x.c), (w.heap.size, 6, .int .i64 x.d)] w) (by first | exact (held_box (held_box (held_start w) (w.heap.size) [.int .i64 x.k, .int .i64 x.l, .int .i64 x.r, .int .i64 x.a, .int .i64 x.b, .int .i64 x.c, .int .i64 x.d] _ (by simp)) (w.heap.size + 1) [.int .i64 a, .int .i64 b] _ (by simp)) | simpa using (held_box (held_box (held_start w) (w.heap.size) [.int .i64 x.k, .int .i64 x.l, .int .i64 x.r, .int .i64 x.a, .int .i64 x.b, .int .i64 x.c, .int .i64 x.d] _ (by simp)) (w.heap.size + 1) [.int .i64 a, .int .i64 b] _ (by simp))) ?_
  intro W hW
  go_cut [5, 6] (Got2 [(w.heap.size + 1, 0, .int .i64 a), (w.heap.size + 1, 1, .int .i64 b), (w.heap.size, 0, .int .i64 x.k), (w.heap.size, 1, .int .i64 x.l), (w.heap.size, 2, .int .i64 x.r), (w.heap.size, 3, .int .i64 x.a), (w.heap.size, 4, .int .i64 x.b), (w.heap.size, 5, .int .i64 x.c), (w.heap.size, 6, .int .i64 x.d)] w (svV x a b) (svE x a b))
  case first =>
    go_region_held3 (fun w' => w'.cell? ⟨w.heap.size + 1, 0, none⟩ = some (.int .i64 a) ∧ w'.cell? ⟨w.heap.size + 1, 1, none⟩ = some (.int .i64 b) ∧ w'.cell? ⟨w.heap.size, 0, none⟩ = some (.int .i64 x.k) ∧ w'.cell? ⟨w.heap.size, 1, none⟩ = some (.int .i64 x.l) ∧ w'.cell? ⟨w.heap.size, 2, none⟩ = some (.int .i64 x.r) ∧ w'.cell? ⟨w.heap.size, 3, none⟩ = some (.int .i64 x.a) ∧ w'.cell? ⟨w.heap.size, 4, none⟩ = some (.int .i64 x.b) ∧ w'.cell? ⟨w.heap.size, 5, none⟩ = some (.int .i64 x.c) ∧ w'.cell? ⟨w.heap.size, 6, none⟩ = some (.int .i64 x.d) ∧ Held [(w.heap.size + 1, 0, .int .i64 a), (w.heap.size + 1, 1, .int .i64 b), (w.heap.size, 0, .int .i64 x.k), (w.heap.size, 1, .int .i64 x.l), (w.heap.size, 2, .int .i64 x.r), (w.heap.size, 3, .int .i64 x.a), (w.heap.size, 4, .int .i64 x.b), (w.heap.size, 5, .int .i64 x.c), (w.heap.size, 6, .int .i64 x.d)] w w') (exact Held.s9 (Held.later hW (by repeat (first | exact Later.refl _ | refine Later.drew ?_ | refine Later.drewN ?_ _ | refine Later.alloc ?_ _ | refine Later.trans ?_ (Hid.out (by assumption)) | refine Later.set_at ?_ ?_ _ _))))
      (first | (go_at_call 37; refine (l_toSegment x _).mono ?_; rintro e w1 ⟨rfl, hb⟩; have H := Lib.hid hb; (first | (have F := fr_alloc hb; obtain ⟨f1, f2, f3, f4⟩ := Fr.o2 F) | (have F := fr_alloc_drew hb; obtain ⟨f1, f2, f3, f4⟩ := Fr.o2 F) | (have F := fr_later (by assumption) hb; obtain ⟨f1, f2, f3, f4⟩ := Fr.o2 F) | skip); clear hb) | (go_at_call 38; refine (l_toInterval _ _ _).mono ?_; rintro e w1 ⟨rfl, hb⟩; have H := Lib.hid hb; (first | (have F := fr_alloc hb; obtain ⟨f1, f2, f3, f4⟩ := Fr.o2 F) | (have F := fr_alloc_drew hb; obtain ⟨f1, f2, f3, f4⟩ := Fr.o2 F) | (have F := fr_later (by assumption) hb; obtain ⟨f1, f2, f3, f4⟩ := Fr.o2 F) | skip); clear hb) | (go_at_call 44; refine (s_StopVerdict x a b _).mono ?_; rintro e w1 ⟨rfl, hb⟩; have H := Lib.hid hb; (first | (have F := fr_alloc hb; obtain ⟨f1, f2, f3, f4⟩ := Fr.o2 F) | (have F := fr_alloc_drew hb; obtain ⟨f1, f2, f3, f4⟩ := Fr.o2 F) | (have F := fr_later (by assumption) hb; obtain ⟨f1, f2, f3, f4⟩ := Fr.o2 F) | skip); clear hb))
    all_goals
      go_wp2_with fail
      go_meet
      exact ⟨rfl, rfl, (Held.later hW (by repeat (first | exact Later.refl _ | refine Later.drew ?_ | refine Later.drewN ?_ _ | refine Later.alloc ?_ _ | refine Later.trans ?_ (Hid.out (by assumption)) | refine Later.set_at ?_ ?_ _ _)))⟩
  case rest =>
    obtain ⟨rfl, rfl, hG⟩ := hcut
    go_upto_region 2 with (fail)
    go_cut [7, 8] (Got2 [(w.heap.size + 1, 0, .int .i64 a), (w.heap.size + 1, 1, .int .i64 b), (w.heap.size, 0, .int .i64 x.k), (w.heap.size, 1, .int .i64 x.l), (w.heap.size, 2, .int .i64 x.r), (w.heap.size, 3, .int .i64 x.a), (w.heap.size, 4, .int .i64 x.b), (w.heap.size, 5, .int .i64 x.c), (w.heap.size, 6, .int .i64 x.d)] w (svV x a b) (svE x a b))
    case first =>
      go_region_held3 (fun w' => w'.cell? ⟨w.heap.size + 1, 0, none⟩ = some (.int .i64 a) ∧ w'.cell? ⟨w.heap.size + 1, 1, none⟩ = some (.int .i64 b) ∧ w'.cell? ⟨w.heap.size, 0, none⟩ = some (.int .i64 x.k) ∧ w'.cell? ⟨w.heap.size, 1, none⟩ = some (.int .i64 x.l) ∧ w'.cell? ⟨w.heap.size, 2, none⟩ = some (.int .i64 x.r) ∧ w'.cell? ⟨w.heap.size, 3, none⟩ = some (.int .i64 x.a) ∧ w'.cell? ⟨w.heap.size, 4, none⟩ = some (.int .i64 x.b) ∧ w'.cell? ⟨w.heap.size, 5, none⟩ = some (.int .i64 x.c) ∧ w'.cell? ⟨w.heap.size, 6, none⟩ = some (.int .i64 x.d) ∧ Held [(w.heap.size + 1, 0, .int .i64 a), (w.heap.size + 1, 1, .int .i64 b), (w.heap.size, 0, .int .i64 x.k), (w.heap.size, 1, .int .i64 x.l), (w.heap.size, 2, .int .i64 x.r), (w.heap.size, 3, .int .i64 x.a), (w.heap.size, 4, .int .i64 x.b), (w.heap.size, 5, .int .i64 x.c), (w.heap.size, 6, .int .i64 x.d)] w w') (exact Held.s9 (Held.later hG (by repeat (first | exact Later.refl _ | refine Later.drew ?_ | refine Later.drewN ?_ _ | refine Later.alloc ?_ _ | refine Later.trans ?_ (Hid.out (by assumption)) | refine Later.set_at ?_ ?_ _ _))))
        (first | (go_at_call 37; refine (l_toSegment x _).mono ?_; rintro e w1 ⟨rfl, hb⟩; have H := Lib.hid hb; (first | (have F := fr_alloc hb; obtain ⟨f1, f2, f3, f4⟩ := Fr.o2 F) | (have F := fr_alloc_drew hb; obtain ⟨f1, f2, f3, f4⟩ := Fr.o2 F) | (have F := fr_later (by assumption) hb; obtain ⟨f1, f2, f3, f4⟩ := Fr.o2 F) | skip); clear hb) | (go_at_call 38; refine (l_toInterval _ _ _).mono ?_; rintro e w1 ⟨rfl, hb⟩; have H := Lib.hid hb; (first | (have F := fr_alloc hb; obtain ⟨f1, f2, f3, f4⟩ := Fr.o2 F) | (have F := fr_alloc_drew hb; obtain ⟨f1, f2, f3, f4⟩ := Fr.o2 F) | (have F := fr_later (by assumption) hb; obtain ⟨f1, f2, f3, f4⟩ := Fr.o2 F) | skip); clear hb) | (go_at_call 43; refine (i_StopVerdict x a b _).mono ?_; rintro e w1 ⟨rfl, hb⟩; have H := Lib.hid hb; (first | (have F := fr_alloc hb; obtain ⟨f1, f2, f3, f4⟩ := Fr.o2 F) | (have F := fr_alloc_drew hb; obtain ⟨f1, f2, f3, f4⟩ := Fr.o2 F) | (have F := fr_later (by assumption) hb; obtain ⟨f1, f2, f3, f4⟩ := Fr.o2 F) | skip); clear hb))
      all_goals
        go_wp2_with fail
        go_meet
        exact ⟨rfl, rfl, (Held.later hG (by repeat (first | exact Later.refl _ | refine Later.drew ?_ | refine Later.drewN ?_ _ | refine Later.alloc ?_ _ | refine Later.trans ?_ (Hid.out (by assumption)) | refine Later.set_at ?_ ?_ _ _)))⟩
    case rest =>
      obtain ⟨rfl, rfl, hG'⟩ := hcut
      go_wp2_with fail
      go_ret
      exact ⟨rfl, Later.trans (Held.is hG') (by repeat (first | exact Later.refl _ | refine Later.drew ?_ | refine Later.drewN ?_ _ | refine Later.alloc ?_ _ | refine Later.trans ?_ (Hid.out (by assumption)) | refine Later.set_at ?_ ?_ _ _))⟩
set_option maxRecDepth 100000 in
theorem walk_FnExactStoppingDistance (x : Sg) (a b : Int) (w : World) :
    Calls Try.prog 12 #[.agg #[.int .i64 x.k, .int .i64 x.l, .int .i64 x.r, .int .i64 x.a, .int .i64 x.b, .int .i64 x.c, .int .i64 x.d], .agg #[.int .i64 a, .int .i64 b]] w fun e w' => e = .returned (.bool true) ∧ Later w w' := by
  have e0 : ((dsE x a b) != (dsE x a b)) = false := by simp
  go_enter Try.func12, Try.ntmps12
  go_upto_region 1 with (fail)
  refine into (Held [(w.heap.size + 1, 0, .int .i64 a), (w.heap.size + 1, 1, .int .i64 b), (w.heap.size, 0, .int .i64 x.k), (w.heap.size, 1, .int .i64 x.l), (w.heap.size, 2, .int .i64 x.r), (w.heap.size, 3, .int .i64 x.a), (w.heap.size, 4, .int .i64 x.b), (w.heap.size, 5, .int .i64 x.c), (w.heap.size, 6, .int .i64 x.d)] w) (by first | exact (held_box (held_box (held_start w) (w.heap.size) [.int .i64 x.k, .int .i64 x.l, .int .i64 x.r, .int .i64 x.a, .int .i64 x.b, .int .i64 x.c, .int .i64 x.d] _ (by simp)) (w.heap.size + 1) [.int .i64 a, .int .i64 b] _ (by simp)) | simpa using (held_box (held_box (held_start w) (w.heap.size) [.int .i64 x.k, .int .i64 x.l, .int .i64 x.r, .int .i64 x.a, .int .i64 x.b, .int .i64 x.c, .int .i64 x.d] _ (by simp)) (w.heap.size + 1) [.int .i64 a, .int .i64 b] _ (by simp))) ?_
  intro W hW
  go_cut [5, 6] (Got [(w.heap.size + 1, 0, .int .i64 a), (w.heap.size + 1, 1, .int .i64 b), (w.heap.size, 0, .int .i64 x.k), (w.heap.size, 1, .int .i64 x.l), (w.heap.size, 2, .int .i64 x.r), (w.heap.size, 3, .int .i64 x.a), (w.heap.size, 4, .int .i64 x.b), (w.heap.size, 5, .int .i64 x.c), (w.heap.size, 6, .int .i64 x.d)] w (dsL x a b) (dsH x a b) (dsE x a b))
  case first =>
    go_region_held3 (fun w' => w'.cell? ⟨w.heap.size + 1, 0, none⟩ = some (.int .i64 a) ∧ w'.cell? ⟨w.heap.size + 1, 1, none⟩ = some (.int .i64 b) ∧ w'.cell? ⟨w.heap.size, 0, none⟩ = some (.int .i64 x.k) ∧ w'.cell? ⟨w.heap.size, 1, none⟩ = some (.int .i64 x.l) ∧ w'.cell? ⟨w.heap.size, 2, none⟩ = some (.int .i64 x.r) ∧ w'.cell? ⟨w.heap.size, 3, none⟩ = some (.int .i64 x.a) ∧ w'.cell? ⟨w.heap.size, 4, none⟩ = some (.int .i64 x.b) ∧ w'.cell? ⟨w.heap.size, 5, none⟩ = some (.int .i64 x.c) ∧ w'.cell? ⟨w.heap.size, 6, none⟩ = some (.int .i64 x.d) ∧ Held [(w.heap.size + 1, 0, .int .i64 a), (w.heap.size + 1, 1, .int .i64 b), (w.heap.size, 0, .int .i64 x.k), (w.heap.size, 1, .int .i64 x.l), (w.heap.size, 2, .int .i64 x.r), (w.heap.size, 3, .int .i64 x.a), (w.heap.size, 4, .int .i64 x.b), (w.heap.size, 5, .int .i64 x.c), (w.heap.size, 6, .int .i64 x.d)] w w') (exact Held.s9 (Held.later hW (by repeat (first | exact Later.refl _ | refine Later.drew ?_ | refine Later.drewN ?_ _ | refine Later.alloc ?_ _ | refine Later.trans ?_ (Hid.out (by assumption)) | refine Later.set_at ?_ ?_ _ _))))
      (first | (go_at_call 37; refine (l_toSegment x _).mono ?_; rintro e w1 ⟨rfl, hb⟩; have H := Lib.hid hb; (first | (have F := fr_alloc hb; obtain ⟨f1, f2, f3, f4⟩ := Fr.o2 F) | (have F := fr_alloc_drew hb; obtain ⟨f1, f2, f3, f4⟩ := Fr.o2 F) | (have F := fr_later (by assumption) hb; obtain ⟨f1, f2, f3, f4⟩ := Fr.o2 F) | skip); clear hb) | (go_at_call 38; refine (l_toInterval _ _ _).mono ?_; rintro e w1 ⟨rfl, hb⟩; have H := Lib.hid hb; (first | (have F := fr_alloc hb; obtain ⟨f1, f2, f3, f4⟩ := Fr.o2 F) | (have F := fr_alloc_drew hb; obtain ⟨f1, f2, f3, f4⟩ := Fr.o2 F) | (have F := fr_later (by assumption) hb; obtain ⟨f1, f2, f3, f4⟩ := Fr.o2 F) | skip); clear hb) | (go_at_call 42; refine (s_StoppingDistance x a b _).mono ?_; rintro e w1 ⟨rfl, hb⟩; have H := Lib.hid hb; (first | (have F := fr_alloc hb; obtain ⟨f1, f2, f3, f4⟩ := Fr.o2 F) | (have F := fr_alloc_drew hb; obtain ⟨f1, f2, f3, f4⟩ := Fr.o2 F) | (have F := fr_later (by assumption) hb; obtain ⟨f1, f2, f3, f4⟩ := Fr.o2 F) | skip); clear hb))
    all_goals
      go_wp2_with fail
      go_meet
      exact ⟨_, rfl, rfl, held_more (held_more (Held.later hW (by repeat (first | exact Later.refl _ | refine Later.drew ?_ | refine Later.drewN ?_ _ | refine Later.alloc ?_ _ | refine Later.trans ?_ (Hid.out (by assumption)) | refine Later.set_at ?_ ?_ _ _))) _ _ _ (by first | (simp; done) | (simp [*]; done) | (simp [go_sem, *]; done)) (by first | (simp; done) | (simp; exact Fr.lt (by assumption)))) _ _ _ (by first | (simp; done) | (simp [*]; done) | (simp [go_sem, *]; done)) (by first | (simp; done) | (simp; exact Fr.lt (by assumption)))⟩
  case rest =>
    obtain ⟨g, rfl, rfl, hG⟩ := hcut
    go_upto_region 2 with (fail)
    go_cut [7, 8] (Got ((g, 0, .int .i64 (dsL x a b)) :: (g, 1, .int .i64 (dsH x a b)) :: [(w.heap.size + 1, 0, .int .i64 a), (w.heap.size + 1, 1, .int .i64 b), (w.heap.size, 0, .int .i64 x.k), (w.heap.size, 1, .int .i64 x.l), (w.heap.size, 2, .int .i64 x.r), (w.heap.size, 3, .int .i64 x.a), (w.heap.size, 4, .int .i64 x.b), (w.heap.size, 5, .int .i64 x.c), (w.heap.size, 6, .int .i64 x.d)]) w (dsL x a b) (dsH x a b) (dsE x a b))
    case first =>
      go_region_held3 (fun w' => w'.cell? ⟨g, 0, none⟩ = some (.int .i64 (dsL x a b)) ∧ w'.cell? ⟨g, 1, none⟩ = some (.int .i64 (dsH x a b)) ∧ w'.cell? ⟨w.heap.size + 1, 0, none⟩ = some (.int .i64 a) ∧ w'.cell? ⟨w.heap.size + 1, 1, none⟩ = some (.int .i64 b) ∧ w'.cell? ⟨w.heap.size, 0, none⟩ = some (.int .i64 x.k) ∧ w'.cell? ⟨w.heap.size, 1, none⟩ = some (.int .i64 x.l) ∧ w'.cell? ⟨w.heap.size, 2, none⟩ = some (.int .i64 x.r) ∧ w'.cell? ⟨w.heap.size, 3, none⟩ = some (.int .i64 x.a) ∧ w'.cell? ⟨w.heap.size, 4, none⟩ = some (.int .i64 x.b) ∧ w'.cell? ⟨w.heap.size, 5, none⟩ = some (.int .i64 x.c) ∧ w'.cell? ⟨w.heap.size, 6, none⟩ = some (.int .i64 x.d) ∧ Held ((g, 0, .int .i64 (dsL x a b)) :: (g, 1, .int .i64 (dsH x a b)) :: [(w.heap.size + 1, 0, .int .i64 a), (w.heap.size + 1, 1, .int .i64 b), (w.heap.size, 0, .int .i64 x.k), (w.heap.size, 1, .int .i64 x.l), (w.heap.size, 2, .int .i64 x.r), (w.heap.size, 3, .int .i64 x.a), (w.heap.size, 4, .int .i64 x.b), (w.heap.size, 5, .int .i64 x.c), (w.heap.size, 6, .int .i64 x.d)]) w w') (exact Held.s11 (Held.later hG (by repeat (first | exact Later.refl _ | refine Later.drew ?_ | refine Later.drewN ?_ _ | refine Later.alloc ?_ _ | refine Later.trans ?_ (Hid.out (by assumption)) | refine Later.set_at ?_ ?_ _ _))))
        (first | (go_at_call 37; refine (l_toSegment x _).mono ?_; rintro e w1 ⟨rfl, hb⟩; have H := Lib.hid hb; (first | (have F := fr_alloc hb; obtain ⟨f1, f2, f3, f4⟩ := Fr.o2 F) | (have F := fr_alloc_drew hb; obtain ⟨f1, f2, f3, f4⟩ := Fr.o2 F) | (have F := fr_later (by assumption) hb; obtain ⟨f1, f2, f3, f4⟩ := Fr.o2 F) | skip); clear hb) | (go_at_call 38; refine (l_toInterval _ _ _).mono ?_; rintro e w1 ⟨rfl, hb⟩; have H := Lib.hid hb; (first | (have F := fr_alloc hb; obtain ⟨f1, f2, f3, f4⟩ := Fr.o2 F) | (have F := fr_alloc_drew hb; obtain ⟨f1, f2, f3, f4⟩ := Fr.o2 F) | (have F := fr_later (by assumption) hb; obtain ⟨f1, f2, f3, f4⟩ := Fr.o2 F) | skip); clear hb) | (go_at_call 41; refine (i_StoppingDistance x a b _).mono ?_; rintro e w1 ⟨rfl, hb⟩; have H := Lib.hid hb; (first | (have F := fr_alloc hb; obtain ⟨f1, f2, f3, f4⟩ := Fr.o2 F) | (have F := fr_alloc_drew hb; obtain ⟨f1, f2, f3, f4⟩ := Fr.o2 F) | (have F := fr_later (by assumption) hb; obtain ⟨f1, f2, f3, f4⟩ := Fr.o2 F) | skip); clear hb))
      all_goals
        go_wp2_with fail
        go_meet
        exact ⟨_, rfl, rfl, held_more (held_more (Held.later hG (by repeat (first | exact Later.refl _ | refine Later.drew ?_ | refine Later.drewN ?_ _ | refine Later.alloc ?_ _ | refine Later.trans ?_ (Hid.out (by assumption)) | refine Later.set_at ?_ ?_ _ _))) _ _ _ (by first | (simp; done) | (simp [*]; done) | (simp [go_sem, *]; done)) (by first | (simp; done) | (simp; exact Fr.lt (by assumption)))) _ _ _ (by first | (simp; done) | (simp [*]; done) | (simp [go_sem, *]; done)) (by first | (simp; done) | (simp; exact Fr.lt (by assumption)))⟩
    case rest =>
      obtain ⟨g', rfl, rfl, hG'⟩ := hcut
      have q0 := hG'.at g' 0 (.int .i64 (dsL x a b)) (by simp)
      have q1 := hG'.at g' 1 (.int .i64 (dsH x a b)) (by simp)
      have q2 := hG'.at g 0 (.int .i64 (dsL x a b)) (by simp)
      have q3 := hG'.at g 1 (.int .i64 (dsH x a b)) (by simp)
      go_wp2_with (go_at_call 39; refine (l_eqInterval_same _ _ _).mono ?_; rintro e w1 ⟨rfl, hb⟩; have H := Lib.hid hb; clear hb)
      go_ret
      exact ⟨rfl, Later.trans (Held.is hG') (by repeat (first | exact Later.refl _ | refine Later.drew ?_ | refine Later.drewN ?_ _ | refine Later.alloc ?_ _ | refine Later.trans ?_ (Hid.out (by assumption)) | refine Later.set_at ?_ ?_ _ _))⟩
end Go.Proofs.Ytdhoiiejcmnmbaa
