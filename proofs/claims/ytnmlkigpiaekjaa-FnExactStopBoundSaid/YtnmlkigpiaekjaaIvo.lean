/- The quotients of an interval by another one, rounded outward: of the program. -/
import Derived.Test.YtnmlkigpiaekjaaBrM
import Derived.Test.YtnmlkigpiaekjaaEnK
import Derived.IntWalk
namespace Go.Proofs.Ytnmlkigpiaekjaa
open Go.RowKit
set_option maxHeartbeats 4000000
set_option linter.unusedVariables false
set_option linter.unusedSimpArgs false
theorem i_over (a b p q : Int) (w : World) (a1 : 0 ≤ a) (a2 : a ≤ 4000000000000000000) (b1 : 0 ≤ b) (b2 : b ≤ 4000000000000000000) (p1 : 1 ≤ p) (p2 : p ≤ 1000000000000) (q1 : 1 ≤ q) (q2 : q ≤ 1000000000000) :
    Calls Try.prog 108 #[.agg #[.int .i64 a, .int .i64 b], .agg #[.int .i64 p, .int .i64 q]] w fun e w' => e = .returned (.agg #[.int .i64 (flo a q), .int .i64 (cei b p)]) ∧ Later w w' := by
  rw [flo_nn a q a1 (by omega), cei_nn b p b1 (by omega)]
  have d1 := tdiv_bd a q 4000000000000000000 (by omega) (by omega)
  have d2 := tdiv_bd (b + p - 1) p 5000000000000000000 (by omega) (by omega)
  have w3 : IntKind.i64.wrap (b + p) = b + p := IntWalk.i64_in _ ⟨by omega, by omega⟩
  have w4 : IntKind.i64.wrap (b + p - 1) = b + p - 1 := IntWalk.i64_in _ ⟨by omega, by omega⟩
  have w5 : IntKind.i64.wrap (a.tdiv q) = a.tdiv q := IntWalk.i64_in _ ⟨by omega, by omega⟩
  have w6 : IntKind.i64.wrap ((b + p - 1).tdiv p) = (b + p - 1).tdiv p := IntWalk.i64_in _ ⟨by omega, by omega⟩
  have hp : p ≠ 0 := by omega
  have hq : q ≠ 0 := by omega
  have hp0 : (p == 0) = false := by simpa using hp
  have hq0 : (q == 0) = false := by simpa using hq
  go_enter Try.func108, Try.ntmps108
  go_upto_region 1 with (fail)
  refine into (fun W => Held [(w.heap.size + 1, 0, .int .i64 p), (w.heap.size + 1, 1, .int .i64 q), (w.heap.size, 0, .int .i64 a), (w.heap.size, 1, .int .i64 b)] w W ∧ Fr (w.heap.size + 1 + 1) [.int .i64 0, .int .i64 0] W) ⟨?_, ?_⟩ ?_
  · exact ((held_box (held_box (held_start w) (w.heap.size) [.int .i64 a, .int .i64 b] _ (by first | rfl | simp)) (w.heap.size + 1) [.int .i64 p, .int .i64 q] _ (by first | rfl | simp))).alloc _
  · have F := fr_alloc (X := ((w.alloc (.cells [(.int .i64 a : Value), .int .i64 b].toArray 28)).alloc (.cells [(.int .i64 p : Value), .int .i64 q].toArray 28))) (l := [.int .i64 0, .int .i64 0]) (T := 28) (Later.refl _)
    simp only [World.size_alloc] at F
    exact F
  rintro W ⟨hW, hF⟩
  obtain ⟨p0, p1, p2, p3, _⟩ := Held.s4 hW
  have z0 := Held.lt hW (w.heap.size) 0 (.int .i64 a) (by simp)
  have z1 := Held.lt hW (w.heap.size + 1) 0 (.int .i64 p) (by simp)
  obtain ⟨r0, r1, r2, r3⟩ := Fr.o2 hF
  have zr := Fr.lt hF
  clear p0 p1 p2 p3 r0 r1 r2 r3
  have F := hF
  obtain ⟨r0, r1, r2, r3⟩ := Fr.o2 hF
  go_region_held3 (fun w' => w'.cell? ⟨w.heap.size + 1, 0, none⟩ = some (.int .i64 p) ∧ w'.cell? ⟨w.heap.size + 1, 1, none⟩ = some (.int .i64 q) ∧ w'.cell? ⟨w.heap.size, 0, none⟩ = some (.int .i64 a) ∧ w'.cell? ⟨w.heap.size, 1, none⟩ = some (.int .i64 b) ∧ Held [(w.heap.size + 1, 0, .int .i64 p), (w.heap.size + 1, 1, .int .i64 q), (w.heap.size, 0, .int .i64 a), (w.heap.size, 1, .int .i64 b)] w w') ((refine Held.s4 ?_; (repeat (first | refine Held.drew ?_ | refine Held.drewN ?_ _ | refine Held.setCell ?_ _ _ (by simp <;> omega) (by simp <;> omega))); refine Held.later hW ?_; repeat (first | exact Later.refl _ | refine Later.drew ?_ | refine Later.drewN ?_ _ | refine Later.alloc ?_ _ | refine Later.trans ?_ (Hid.out (by assumption)))))
    (fail)
  all_goals
    go_wp2_with fail
    refine bodyPost_ret (v := .agg #[.int .i64 (a.tdiv q), .int .i64 ((b + p - 1).tdiv p)]) (by simp [results, Try.results108, go_sem, *]) rfl ⟨rfl, (by repeat (first | exact Held.is hW | refine Later.drew ?_ | refine Later.drewN ?_ _ | refine Later.setCell ?_ (by simp <;> omega) _ | refine Later.alloc ?_ _ | refine Later.trans ?_ (Hid.out (by assumption))))⟩
end Go.Proofs.Ytnmlkigpiaekjaa
