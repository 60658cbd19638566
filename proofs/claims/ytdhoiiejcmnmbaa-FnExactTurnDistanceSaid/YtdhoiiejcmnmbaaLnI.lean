/- Contracts of chapter 8: the program's functions on one segment whose device is on. -/
import Derived.Test.YtdhoiiejcmnmbaaLnM
import Derived.Test.YtdhoiiejcmnmbaaBrI
import Derived.Test.YtdhoiiejcmnmbaaEnL
namespace Go.Proofs.Ytdhoiiejcmnmbaa
open Go.RowKit
set_option maxHeartbeats 4000000
set_option linter.unusedVariables false
set_option linter.unusedSimpArgs false
theorem i_coasted (x : Sg) (a b : Int) (w : World) (h : sgB x = true) (h2 : enB a b = true) :
    Calls Try.prog 66 #[.agg #[.int .i64 x.k, .int .i64 x.l, .int .i64 x.r, .int .i64 x.a, .int .i64 x.b, .int .i64 x.c, .int .i64 x.d], .agg #[.int .i64 a, .int .i64 b]] w fun e w' => e = .returned (.agg #[.int .i64 (a + chL x), .int .i64 (b + chH x)]) ∧ Later w w' := by
  obtain ⟨c4, c5, c6⟩ := (enB_iff a b).1 h2
  obtain ⟨c1, c2, c3⟩ := ch_bd x h
  obtain ⟨g1, g2, g3, g4, g5, g6⟩ := fc_bd x h
  go_enter Try.func66, Try.ntmps66
  go_upto_region 1 with (fail)
  refine into (fun W => Held [(w.heap.size + 1, 0, .int .i64 a), (w.heap.size + 1, 1, .int .i64 b), (w.heap.size, 0, .int .i64 x.k), (w.heap.size, 1, .int .i64 x.l), (w.heap.size, 2, .int .i64 x.r), (w.heap.size, 3, .int .i64 x.a), (w.heap.size, 4, .int .i64 x.b), (w.heap.size, 5, .int .i64 x.c), (w.heap.size, 6, .int .i64 x.d)] w W ∧ Fr (w.heap.size + 1 + 1) [.int .i64 0, .int .i64 0] W) ⟨?_, ?_⟩ ?_
  · exact ((held_box (held_box (held_start w) (w.heap.size) [.int .i64 x.k, .int .i64 x.l, .int .i64 x.r, .int .i64 x.a, .int .i64 x.b, .int .i64 x.c, .int .i64 x.d] _ (by first | rfl | simp)) (w.heap.size + 1) [.int .i64 a, .int .i64 b] _ (by first | rfl | simp))).alloc _
  · have F := fr_alloc (X := ((w.alloc (.cells [(.int .i64 x.k : Value), .int .i64 x.l, .int .i64 x.r, .int .i64 x.a, .int .i64 x.b, .int .i64 x.c, .int .i64 x.d].toArray 27)).alloc (.cells [(.int .i64 a : Value), .int .i64 b].toArray 25))) (l := [.int .i64 0, .int .i64 0]) (T := 25) (Later.refl _)
    simp only [World.size_alloc] at F
    exact F
  rintro W ⟨hW, hF⟩
  obtain ⟨p0, p1, p2, p3, p4, p5, p6, p7, p8, _⟩ := Held.s9 hW
  have z0 := Held.lt hW (w.heap.size) 0 (.int .i64 x.k) (by simp)
  have z1 := Held.lt hW (w.heap.size + 1) 0 (.int .i64 a) (by simp)
  obtain ⟨r0, r1, r2, r3⟩ := Fr.o2 hF
  have zr := Fr.lt hF
  clear p0 p1 p2 p3 p4 p5 p6 p7 p8 r0 r1 r2 r3
  have F := hF
  go_region_held3 (fun w' => w'.cell? ⟨w.heap.size + 1, 0, none⟩ = some (.int .i64 a) ∧ w'.cell? ⟨w.heap.size + 1, 1, none⟩ = some (.int .i64 b) ∧ w'.cell? ⟨w.heap.size, 0, none⟩ = some (.int .i64 x.k) ∧ w'.cell? ⟨w.heap.size, 1, none⟩ = some (.int .i64 x.l) ∧ w'.cell? ⟨w.heap.size, 2, none⟩ = some (.int .i64 x.r) ∧ w'.cell? ⟨w.heap.size, 3, none⟩ = some (.int .i64 x.a) ∧ w'.cell? ⟨w.heap.size, 4, none⟩ = some (.int .i64 x.b) ∧ w'.cell? ⟨w.heap.size, 5, none⟩ = some (.int .i64 x.c) ∧ w'.cell? ⟨w.heap.size, 6, none⟩ = some (.int .i64 x.d) ∧ Held [(w.heap.size + 1, 0, .int .i64 a), (w.heap.size + 1, 1, .int .i64 b), (w.heap.size, 0, .int .i64 x.k), (w.heap.size, 1, .int .i64 x.l), (w.heap.size, 2, .int .i64 x.r), (w.heap.size, 3, .int .i64 x.a), (w.heap.size, 4, .int .i64 x.b), (w.heap.size, 5, .int .i64 x.c), (w.heap.size, 6, .int .i64 x.d)] w w') ((refine Held.s9 ?_; (repeat (first | refine Held.drew ?_ | refine Held.drewN ?_ _ | refine Held.setCell ?_ _ _ (by simp <;> omega) (by simp <;> omega))); refine Held.later hW ?_; repeat (first | exact Later.refl _ | refine Later.drew ?_ | refine Later.drewN ?_ _ | refine Later.alloc ?_ _ | refine Later.trans ?_ (Hid.out (by assumption)))))
    (first | (go_at_call 71; refine (i_coastingChange x _ h).mono ?_; rintro e w1 ⟨rfl, hb⟩; have H := Lib.hid hb; (first | (have F := fr_later F hb; obtain ⟨f1, f2, f3, f4⟩ := Fr.o2 F) | (have F := fr_later F (later_undrew hb); obtain ⟨f1, f2, f3, f4⟩ := Fr.o2 F) | (have F := fr_later F (later_undrewN hb); obtain ⟨f1, f2, f3, f4⟩ := Fr.o2 F)); clear hb) | (go_at_call 76; refine (i_plus _ _ _ _ _ (by omega) (by omega) (by omega) (by omega) (by omega) (by omega) (by omega) (by omega) ).mono ?_; rintro e w1 ⟨rfl, hb⟩; have H := Lib.hid hb; (first | (have F := fr_later F hb; obtain ⟨f1, f2, f3, f4⟩ := Fr.o2 F) | (have F := fr_later F (later_undrew hb); obtain ⟨f1, f2, f3, f4⟩ := Fr.o2 F) | (have F := fr_later F (later_undrewN hb); obtain ⟨f1, f2, f3, f4⟩ := Fr.o2 F)); clear hb))
  all_goals
    go_wp2_with fail
    refine bodyPost_ret (v := .agg #[.int .i64 (a + chL x), .int .i64 (b + chH x)]) (by simp [results, Try.results66, go_sem, *]) rfl ⟨rfl, (by repeat (first | exact Held.is hW | refine Later.drew ?_ | refine Later.drewN ?_ _ | refine Later.setCell ?_ (by simp <;> omega) _ | refine Later.alloc ?_ _ | refine Later.trans ?_ (Hid.out (by assumption))))⟩
end Go.Proofs.Ytdhoiiejcmnmbaa
