/- The drawn arguments of the laws of chapter 2. -/
import Derived.Test.YtpadigebbgcopaaIvD
namespace Go.Proofs.Ytpadigebbgcopaa
open Go.RowKit
set_option maxHeartbeats 1000000
set_option linter.unusedVariables false
set_option linter.unusedSimpArgs false
theorem fr_grown {w w1 : World} {g B : Nat} {l : List Value} (h : Fr g l w) (k : w.grownBy w1 (some B)) (hB : g ≠ B) : Fr g l w1 := by
  refine ⟨Nat.lt_of_lt_of_le h.1 k.size, fun j v hj => ?_⟩
  obtain ⟨c, f⟩ := h.2 j v hj
  exact ⟨k.cell c (by simpa using hB), by rw [World.frozen?_of_block (w := w) (k.block g h.1 (by simpa using hB))]; exact f⟩
theorem later_grown {w W w1 : World} {B : Nat} (h : Later w W) (k : W.grownBy w1 (some B)) (hB : w.heap.size ≤ B) : Later w w1 := Below.trans h (grown_below k hB h.size)
def TwoI (w : World) (e : Ending) (w' : World) : Prop :=
  ∃ x y z t : Int, e = .returned (.tuple #[.agg #[.int .i64 x, .int .i64 y], .agg #[.int .i64 z, .int .i64 t]]) ∧ InR x ∧ InR y ∧ InR z ∧ InR t ∧ Later w w'
theorem s_DrawAddIntervals (a : Option Addr) (len cap : Nat) (w : World) (hs : Bytes w a len) :
    Calls Try.prog 15 #[.slice a len cap] w (TwoI w) := by
  have HS := Lib.hid hs
  clear hs
  go_enter Try.func15, Try.ntmps15
  go_wp2_with fail
  have F0 := fr_alloc (((Later.refl (w.alloc (.cells [.int .i64 0, .int .i64 0].toArray 25))).alloc (.cells #[.int .i64 0, .int .i64 0] 25)))
  have G0 := fr_new (w.alloc (.cells #[.int .i64 0, .int .i64 0] 25)) [.int .i64 0, .int .i64 0] 25
  have L0 : Later w ((w.alloc (.cells #[.int .i64 0, .int .i64 0] 25)).alloc (.cells #[.int .i64 0, .int .i64 0] 25)) := ((Later.refl _).alloc _).alloc _
  refine (s_From a len cap _ (HS.out.later L0)).mono ?_
  rintro e w1 ⟨rfl, src, lt, bel⟩
  have F1 := fr_later F0 bel
  have G1 := fr_later G0 bel
  have L1 := Lib.hid (L0.trans bel)
  simp only [World.size_alloc] at src lt G1
  have S1 := Lib.hid src
  clear F0 G0 L0 bel src
  go_wp2_with fail
  refine (s_l02DrawTwo _ a len cap _ S1.out).mono ?_
  rintro e w2 ⟨x, y, z, t, rfl, hx, hy, hz, ht, src, gr⟩
  have HX := Lib.hid hx; have HY := Lib.hid hy; have HZ := Lib.hid hz; have HT := Lib.hid ht
  have F2 := fr_grown F1 gr (by omega)
  have G2 := fr_grown G1 gr (by omega)
  obtain ⟨f1, f2, f3, f4⟩ := Fr.o2 F2
  obtain ⟨g1, g2, g3, g4⟩ := Fr.o2 G2
  have L2 := Lib.hid (later_grown L1.out gr (by omega))
  clear src gr hx hy hz ht
  go_wp2_with fail
  refine bodyPost_ret (v := .tuple #[.agg #[.int .i64 x, .int .i64 y], .agg #[.int .i64 z, .int .i64 t]]) (by simp [results, Try.results15, go_sem, *]) rfl ⟨_, _, _, _, rfl, HX.out, HY.out, HZ.out, HT.out, ?_⟩
  exact (((L2.out.setCell (p := ⟨w.heap.size, 0, none⟩) (Nat.le_refl _) _).setCell (p := ⟨w.heap.size, 1, none⟩) (Nat.le_refl _) _).setCell (p := ⟨w.heap.size + 1, 0, none⟩) (Nat.le_succ _) _).setCell (p := ⟨w.heap.size + 1, 1, none⟩) (Nat.le_succ _) _
theorem s_DrawCommonPart (a : Option Addr) (len cap : Nat) (w : World) (hs : Bytes w a len) :
    Calls Try.prog 27 #[.slice a len cap] w (TwoI w) := by
  have HS := Lib.hid hs
  clear hs
  go_enter Try.func27, Try.ntmps27
  go_wp2_with fail
  have F0 := fr_alloc (((Later.refl (w.alloc (.cells [.int .i64 0, .int .i64 0].toArray 25))).alloc (.cells #[.int .i64 0, .int .i64 0] 25)))
  have G0 := fr_new (w.alloc (.cells #[.int .i64 0, .int .i64 0] 25)) [.int .i64 0, .int .i64 0] 25
  have L0 : Later w ((w.alloc (.cells #[.int .i64 0, .int .i64 0] 25)).alloc (.cells #[.int .i64 0, .int .i64 0] 25)) := ((Later.refl _).alloc _).alloc _
  refine (s_From a len cap _ (HS.out.later L0)).mono ?_
  rintro e w1 ⟨rfl, src, lt, bel⟩
  have F1 := fr_later F0 bel
  have G1 := fr_later G0 bel
  have L1 := Lib.hid (L0.trans bel)
  simp only [World.size_alloc] at src lt G1
  have S1 := Lib.hid src
  clear F0 G0 L0 bel src
  go_wp2_with fail
  refine (s_l02DrawTwo _ a len cap _ S1.out).mono ?_
  rintro e w2 ⟨x, y, z, t, rfl, hx, hy, hz, ht, src, gr⟩
  have HX := Lib.hid hx; have HY := Lib.hid hy; have HZ := Lib.hid hz; have HT := Lib.hid ht
  have F2 := fr_grown F1 gr (by omega)
  have G2 := fr_grown G1 gr (by omega)
  obtain ⟨f1, f2, f3, f4⟩ := Fr.o2 F2
  obtain ⟨g1, g2, g3, g4⟩ := Fr.o2 G2
  have L2 := Lib.hid (later_grown L1.out gr (by omega))
  clear src gr hx hy hz ht
  go_wp2_with fail
  refine bodyPost_ret (v := .tuple #[.agg #[.int .i64 x, .int .i64 y], .agg #[.int .i64 z, .int .i64 t]]) (by simp [results, Try.results27, go_sem, *]) rfl ⟨_, _, _, _, rfl, HX.out, HY.out, HZ.out, HT.out, ?_⟩
  exact (((L2.out.setCell (p := ⟨w.heap.size, 0, none⟩) (Nat.le_refl _) _).setCell (p := ⟨w.heap.size, 1, none⟩) (Nat.le_refl _) _).setCell (p := ⟨w.heap.size + 1, 0, none⟩) (Nat.le_succ _) _).setCell (p := ⟨w.heap.size + 1, 1, none⟩) (Nat.le_succ _) _
def OneI (w : World) (e : Ending) (w' : World) : Prop :=
  ∃ x y k : Int, e = .returned (.tuple #[.agg #[.int .i64 x, .int .i64 y], .int .i64 k]) ∧ InR x ∧ InR y ∧ InR k ∧ Later w w'
theorem s_DrawScaleInterval (a : Option Addr) (len cap : Nat) (w : World) (hs : Bytes w a len) :
    Calls Try.prog 24 #[.slice a len cap] w (OneI w) := by
  have HS := Lib.hid hs
  clear hs
  go_enter Try.func24, Try.ntmps24
  go_wp2_with fail
  have F0 := fr_new w [.int .i64 0, .int .i64 0] 25
  have L0 : Later w (w.alloc (.cells #[.int .i64 0, .int .i64 0] 25)) := (Later.refl _).alloc _
  refine (s_From a len cap _ (HS.out.later L0)).mono ?_
  rintro e w1 ⟨rfl, src, lt, bel⟩
  have F1 := fr_later F0 bel
  have L1 := Lib.hid (L0.trans bel)
  simp only [World.size_alloc] at src lt
  have T1 := Lib.hid (St.begin src)
  have hB := T1.out.lt
  clear F0 L0 bel src
  go_wp2_with fail
  refine (s_l02Draw _ a len cap _ T1.out.src).mono ?_
  rintro e w2 ⟨x, y, rfl, hx, hy, src, gr⟩
  have HX := Lib.hid hx; have HY := Lib.hid hy
  have T2 := Lib.hid (T1.out.call src gr)
  clear src gr hx hy
  go_wp2_with fail
  refine (s_Next _ a len cap 20 _ T2.out.src (by omega) (by omega)).mono ?_
  rintro e w3 ⟨p, rfl, p0, p1, p2, src, gr⟩
  have T3 := Lib.hid (T2.out.call src gr)
  have hp := p1 (by omega)
  clear src gr p1 p2
  go_wp2_with fail
  refine (s_Next _ a len cap 20 _ T3.out.src (by omega) (by omega)).mono ?_
  rintro e w4 ⟨q, rfl, q0, q1, q2, src, gr⟩
  have T4 := Lib.hid (T3.out.call src gr)
  have hq := q1 (by omega)
  clear src gr q1 q2
  go_wp2_with fail
  have hl := sl_new w4 [p - 10, q - 10, 0, 1000000, 1000001, -1000000, -1000001] 2 (by simp) (by intro x hx; simp at hx; unfold InR; omega)
  refine (s_Pick _ a len cap ⟨w4.heap.size, 0, none⟩ 7 7 _ _ (T4.out.alloc _).src hl (by have := T4.out.src.lt; simp only [World.size_alloc] at this ⊢; omega) (by omega)).mono ?_
  rintro e w5 ⟨k, rfl, hk, src, gr⟩
  have T5 := Lib.hid ((T4.out.alloc _).call src gr)
  have HK : Hid (InR k) := Lib.hid (by simp at hk; unfold InR; omega)
  have F5 := fr_grown F1 T5.out.grown (by omega)
  obtain ⟨f1, f2, f3, f4⟩ := Fr.o2 F5
  have L5 := Lib.hid (later_grown L1.out T5.out.grown (by omega))
  clear src gr hk hl
  go_wp2_with fail
  refine bodyPost_ret (v := .tuple #[.agg #[.int .i64 x, .int .i64 y], .int .i64 k]) (by simp [results, Try.results24, go_sem, *]) rfl ⟨_, _, _, rfl, HX.out, HY.out, HK.out, ?_⟩
  exact (L5.out.setCell (Nat.le_refl _) _).setCell (Nat.le_refl _) _
end Go.Proofs.Ytpadigebbgcopaa
