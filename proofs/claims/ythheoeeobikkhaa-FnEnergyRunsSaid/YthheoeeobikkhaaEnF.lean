/- The drawn arguments of the laws of chapter 6 on energies and on segments. -/
import Derived.Test.YthheoeeobikkhaaEnD
import Derived.Test.YthheoeeobikkhaaDraw0
namespace Go.Proofs.Ythheoeeobikkhaa
open Go.RowKit
set_option maxHeartbeats 4000000
set_option linter.unusedVariables false
set_option linter.unusedSimpArgs false
theorem s_DrawEnergyOfSpeed (a : Option Addr) (len cap : Nat) (w : World) (hs : Bytes w a len) :
    Calls Try.prog 16 #[.slice a len cap] w (One w) := by
  have HS := Lib.hid hs
  clear hs
  go_enter Try.func16, Try.ntmps16
  go_wp2_with fail
  refine (s_From a len cap w HS.out).mono ?_
  rintro e w1 ⟨rfl, src, lt, bel⟩
  have B1 := Lib.hid bel
  have T1 := Lib.hid (St.begin src)
  clear src bel
  go_wp2_with fail
  refine (s_Next w.heap.size a len cap _ _ T1.out.src (by omega) (by omega)).mono ?_
  rintro e w2 ⟨x, rfl, x0, x1, x2, src, gr⟩
  have T2 := Lib.hid (T1.out.call src gr)
  have hx := x1 (by omega)
  clear gr src x1 x2
  go_wp2_with fail
  refine (s_Next w.heap.size a len cap _ _ T2.out.src (by omega) (by omega)).mono ?_
  rintro e w3 ⟨y, rfl, y0, y1, y2, src, gr⟩
  have T3 := Lib.hid (T2.out.call src gr)
  have hy := y1 (by omega)
  clear gr src y1 y2
  go_wp2_with fail
  have hlv := sl_new w3 [x, y, -1, 0, 100000, 100001] 2 (by simp) (by intro x hx; simp at hx; unfold InR; omega)
  refine (s_Pick w.heap.size a len cap ⟨w3.heap.size, 0, none⟩ 6 6 _ _ (T3.out.src.alloc _) hlv (by have := T3.out.src.lt; show w3.heap.size ≠ w.heap.size; omega) (by omega)).mono ?_
  rintro e w4 ⟨p, rfl, hrv, src, gr⟩
  have T4 := Lib.hid ((T3.out.alloc _).call src gr)
  have hp : InR p := by simp at hrv; unfold InR; omega
  clear gr src hlv hrv
  go_wp2_with fail
  go_ret
  exact ⟨p, rfl, hp, B1.out.trans (grown_below T4.out.grown (Nat.le_refl _) B1.out.size)⟩
theorem fr_keptD {g : Nat} {l : List Value} {w w' : World} {r : Option Nat} (h : Fr g l w) (hg : w.grownBy w' r) (hr : r ≠ some g) : Fr g l w' := by
  refine ⟨Nat.lt_of_lt_of_le h.1 hg.size, fun i v hi => ?_⟩
  obtain ⟨c, f⟩ := h.2 i v hi
  exact ⟨hg.cell c (fun e => hr e.symm), by rw [World.frozen?_of_block (w := w) (hg.block g h.1 (fun e => hr e.symm))]; exact f⟩
/-- a drawn interval -/
def OneI (w : World) (e : Ending) (w' : World) : Prop := ∃ x y : Int, e = .returned (.agg #[.int .i64 x, .int .i64 y]) ∧ InR x ∧ InR y ∧ Later w w'
theorem smq_in {x : Int} (h : Smq x) : InR x := ⟨by have := h.1; omega, by have := h.2; omega⟩
theorem s_DrawSpeedOf (a : Option Addr) (len cap : Nat) (w : World) (hs : Bytes w a len) :
    Calls Try.prog 19 #[.slice a len cap] w (OneI w) := by
  have HS := Lib.hid hs
  clear hs
  go_enter Try.func19, Try.ntmps19
  go_wp2_with fail
  refine (s_From a len cap _ (HS.out.later ((Below.refl _ _).alloc (Nat.le_refl _) _))).mono ?_
  rintro e w1 ⟨rfl, src, lt, bel⟩
  rw [World.size_alloc] at src lt bel ⊢
  have S1 := Lib.hid src
  have hc0 : w1.cell? ⟨w.heap.size, 0, none⟩ = some (.int .i64 0) := by rw [bel.cell (p := ⟨w.heap.size, 0, none⟩) (Nat.lt_succ_self _)]; simp
  have hc1 : w1.cell? ⟨w.heap.size, 1, none⟩ = some (.int .i64 0) := by rw [bel.cell (p := ⟨w.heap.size, 1, none⟩) (Nat.lt_succ_self _)]; simp
  have hf0 : w1.frozen? ⟨w.heap.size, 0, none⟩ = false := by rw [Below.frozen (p := ⟨w.heap.size, 0, none⟩) bel (Nat.lt_succ_self _)]; simp
  have hf1 : w1.frozen? ⟨w.heap.size, 1, none⟩ = false := by rw [Below.frozen (p := ⟨w.heap.size, 1, none⟩) bel (Nat.lt_succ_self _)]; simp
  have B1 : Hid (Below w.heap.size w w1) := Lib.hid (((Below.refl _ _).alloc (Nat.le_refl _) _).trans (bel.mono (Nat.le_succ _)))
  clear src bel
  go_wp2_with fail
  refine (s_l06Draw (w.heap.size + 1) a len cap _ S1.out).mono ?_
  rintro e w2 ⟨x, y, rfl, px, py, src, gr⟩
  have B2 := Lib.hid (B1.out.grown gr B1.out.size (fun k h => by have := Option.some.inj h; omega))
  have hz1 := cell_lt hc0
  have F : Fr w.heap.size [.int .i64 0, .int .i64 0] w1 := ⟨hz1, fun j v hj => by
    rcases j with _ | _ | j
    · simp at hj; subst hj; exact ⟨hc0, hf0⟩
    · simp at hj; subst hj; exact ⟨hc1, hf1⟩
    · simp at hj⟩
  have F2 := fr_keptD F gr (fun e => by have := Option.some.inj e; omega)
  obtain ⟨f0, f1, f2, f3⟩ := Fr.o2 F2
  clear src gr hc0 hc1 hf0 hf1 F F2
  go_wp2_with fail
  refine bodyPost_ret (v := .agg #[.int .i64 x, .int .i64 y]) (by simp [results, Try.results19, go_sem, *]) rfl ⟨x, y, rfl, smq_in px, smq_in py, Later.setCell (Later.setCell B2.out (by simp) _) (by simp) _⟩
/-- a drawn segment with an energy -/
def DrawnPs (w : World) (B : Nat) (a : Option Addr) (len cap : Nat) (e : Ending) (w' : World) : Prop :=
  ∃ (z : Sg) (x y : Int), e = .returned (.tuple #[.agg #[.int .i64 z.k, .int .i64 z.l, .int .i64 z.r, .int .i64 z.a, .int .i64 z.b, .int .i64 z.c, .int .i64 z.d], .agg #[.int .i64 x, .int .i64 y]]) ∧ InR x ∧ InR y ∧ Src w' B a len cap ∧ w.grownBy w' (some B)
theorem pss_ne {g5 g4 g : Nat} {v0 v1 v2 v3 v4 v5 v6 v7 v8 v9 v10 v11 v12 v13 v14 v15 : Value} (h1 : g4 < g5) (h2 : g + 1 < g5) : ∀ x ∈ ([(g4, 0, v0), (g4, 1, v1), (g4, 2, v2), (g4, 3, v3), (g4, 4, v4), (g4, 5, v5), (g4, 6, v6), (g + 1, 0, v7), (g + 1, 1, v8), (g, 0, v9), (g, 1, v10), (g, 2, v11), (g, 3, v12), (g, 4, v13), (g, 5, v14), (g, 6, v15)] : List (Nat × Nat × Value)), x.1 ≠ g5 := by
  intro x hx
  simp at hx
  rcases hx with rfl | rfl | rfl | rfl | rfl | rfl | rfl | rfl | rfl | rfl | rfl | rfl | rfl | rfl | rfl | rfl <;> simp <;> omega
/-- the state of that draw: the energy's box, the segment's, the results' cells, the source -/
def Pss (g5 g4 : Nat) (z : Sg) (x y : Int) (B : Nat) (a : Option Addr) (len cap : Nat) (w W : World) : Prop :=
  St [(g5, 0, .int .i64 x), (g5, 1, .int .i64 y), (g4, 0, .int .i64 z.k), (g4, 1, .int .i64 z.l), (g4, 2, .int .i64 z.r), (g4, 3, .int .i64 z.a), (g4, 4, .int .i64 z.b), (g4, 5, .int .i64 z.c), (g4, 6, .int .i64 z.d), ((w.heap.size + 1), 0, .int .i64 0), ((w.heap.size + 1), 1, .int .i64 0), (w.heap.size, 0, .int .i64 0), (w.heap.size, 1, .int .i64 0), (w.heap.size, 2, .int .i64 0), (w.heap.size, 3, .int .i64 0), (w.heap.size, 4, .int .i64 0), (w.heap.size, 5, .int .i64 0), (w.heap.size, 6, .int .i64 0)] B a len cap w W
theorem fin_st {B : Nat} {a : Option Addr} {len cap : Nat} {w0 W : World} (h : St [] B a len cap w0 W) : Src W B a len cap ∧ w0.grownBy W (some B) := ⟨h.src, h.grown⟩
set_option maxRecDepth 100000 in
theorem s_l06DrawPass (B : Nat) (a : Option Addr) (len cap : Nat) (w : World) (hs : Src w B a len cap) :
    Calls Try.prog 60 #[.pointer (some ⟨B, 0, none⟩)] w (DrawnPs w B a len cap) := by
  have HS := Lib.hid hs
  clear hs
  go_enter Try.func60, Try.ntmps60
  go_wp2_with fail
  have t0 := ((St.begin HS.out).box7 (.int .i64 0) (.int .i64 0) (.int .i64 0) (.int .i64 0) (.int .i64 0) (.int .i64 0) (.int .i64 0) 34).box2 (.int .i64 0) (.int .i64 0) 28
  simp only [World.size_alloc] at t0
  have T0 := Lib.hid t0
  clear t0
  refine (s_DrawAny B a len cap _ T0.out.src).mono ?_
  rintro e w1 ⟨sk, sl, sr, sx, sy, sz, st, rfl, _, _, _, _, _, _, _, src, gr⟩
  have T1 := Lib.hid ((T0.out.call src gr).box7 (.int .i64 sk) (.int .i64 sl) (.int .i64 sr) (.int .i64 sx) (.int .i64 sy) (.int .i64 sz) (.int .i64 st) 34)
  have hz1 := gr.size
  rw [World.size_alloc, World.size_alloc] at hz1
  clear gr src
  go_wp2_with fail
  refine (s_l06Draw B a len cap _ T1.out.src).mono ?_
  rintro e w2 ⟨x, y, rfl, px, py, src, gr⟩
  have T2 := Lib.hid ((T1.out.call src gr).box2 (.int .i64 x) (.int .i64 y) 28)
  have hz2 := gr.size
  rw [World.size_alloc] at hz2
  obtain ⟨q0, _⟩ := (T1.out.call src gr).at w1.heap.size 0 (.int .i64 sk) (by simp)
  obtain ⟨q1, _⟩ := (T1.out.call src gr).at w1.heap.size 1 (.int .i64 sl) (by simp)
  obtain ⟨q2, _⟩ := (T1.out.call src gr).at w1.heap.size 2 (.int .i64 sr) (by simp)
  obtain ⟨q3, _⟩ := (T1.out.call src gr).at w1.heap.size 3 (.int .i64 sx) (by simp)
  obtain ⟨q4, _⟩ := (T1.out.call src gr).at w1.heap.size 4 (.int .i64 sy) (by simp)
  obtain ⟨q5, _⟩ := (T1.out.call src gr).at w1.heap.size 5 (.int .i64 sz) (by simp)
  obtain ⟨q6, _⟩ := (T1.out.call src gr).at w1.heap.size 6 (.int .i64 st) (by simp)
  have hz3 : w1.heap.size < w2.heap.size := by omega
  clear gr src
  go_wp2_with fail
  refine (s_IsSegment ⟨sk, sl, sr, sx, sy, sz, st⟩ _).mono ?_
  cases hsg : sgB ⟨sk, sl, sr, sx, sy, sz, st⟩
  · rintro e w3 ⟨rfl, hb⟩
    have T3 := Lib.hid (T2.out.later hb)
    clear hb q0 q1 q2 q3 q4 q5 q6
    go_wp2_with fail
    refine intoSt T3.out ?_
    intro W hW
    obtain ⟨k0, j0⟩ := hW.at w2.heap.size 0 (.int .i64 x) (by simp)
    obtain ⟨k1, j1⟩ := hW.at w2.heap.size 1 (.int .i64 y) (by simp)
    obtain ⟨k2, j2⟩ := hW.at w1.heap.size 0 (.int .i64 sk) (by simp)
    obtain ⟨k3, j3⟩ := hW.at w1.heap.size 1 (.int .i64 sl) (by simp)
    obtain ⟨k4, j4⟩ := hW.at w1.heap.size 2 (.int .i64 sr) (by simp)
    obtain ⟨k5, j5⟩ := hW.at w1.heap.size 3 (.int .i64 sx) (by simp)
    obtain ⟨k6, j6⟩ := hW.at w1.heap.size 4 (.int .i64 sy) (by simp)
    obtain ⟨k7, j7⟩ := hW.at w1.heap.size 5 (.int .i64 sz) (by simp)
    obtain ⟨k8, j8⟩ := hW.at w1.heap.size 6 (.int .i64 st) (by simp)
    obtain ⟨k9, j9⟩ := hW.at (w.heap.size + 1) 0 (.int .i64 0) (by simp)
    obtain ⟨k10, j10⟩ := hW.at (w.heap.size + 1) 1 (.int .i64 0) (by simp)
    obtain ⟨k11, j11⟩ := hW.at w.heap.size 0 (.int .i64 0) (by simp)
    obtain ⟨k12, j12⟩ := hW.at w.heap.size 1 (.int .i64 0) (by simp)
    obtain ⟨k13, j13⟩ := hW.at w.heap.size 2 (.int .i64 0) (by simp)
    obtain ⟨k14, j14⟩ := hW.at w.heap.size 3 (.int .i64 0) (by simp)
    obtain ⟨k15, j15⟩ := hW.at w.heap.size 4 (.int .i64 0) (by simp)
    obtain ⟨k16, j16⟩ := hW.at w.heap.size 5 (.int .i64 0) (by simp)
    obtain ⟨k17, j17⟩ := hW.at w.heap.size 6 (.int .i64 0) (by simp)
    have HW := Lib.hid hW.bare
    clear hW T0 T1 T2
    go_region
    all_goals
      go_wp2_with fail
      refine bodyPost_ret (v := .tuple #[.agg #[.int .i64 sk, .int .i64 sl, .int .i64 sr, .int .i64 sx, .int .i64 sy, .int .i64 sz, .int .i64 st], .agg #[.int .i64 x, .int .i64 y]]) (by simp [results, Try.results60, go_sem, *]) rfl ⟨⟨sk, sl, sr, sx, sy, sz, st⟩, x, y, rfl, (smq_in px), (smq_in py), ?_⟩
      refine fin_st (W := _) ?_
      repeat (first | (with_reducible exact HW.out) | (with_reducible refine St.drew ?_) | (with_reducible refine St.drewN ?_ _) | (refine St.set ?_ _ _ _ (by first | exact Nat.le_refl _ | exact Nat.le_succ _) (by simp)))
  · rintro e w3 ⟨rfl, hb⟩
    have T3 := Lib.hid (T2.out.later hb)
    clear hb q0 q1 q2 q3 q4 q5 q6
    go_wp2_with fail
    refine (s_Next B a len cap _ _ T3.out.src (by omega) (by omega)).mono ?_
    rintro e w4 ⟨c, rfl, x0, x1, x2, src, gr⟩
    have T4 := Lib.hid (T3.out.call src gr)
    clear gr src x1 x2
    by_cases hc : c = 0
    · subst hc
      obtain ⟨d1, d2, d3⟩ := ch_bd _ hsg
      have HSG := Lib.hid hsg
      go_upto_region 4 with fail
      go_cut [6] (fun s w' => ∃ nd : Int, s = .int .i64 nd ∧ 0 ≤ nd ∧ nd ≤ 9961200000 ∧ Pss w2.heap.size w1.heap.size ⟨sk, sl, sr, sx, sy, sz, st⟩ x y B a len cap w w')
      case first =>
        obtain ⟨q0, _⟩ := T4.out.at w1.heap.size 0 (.int .i64 sk) (by simp)
        obtain ⟨q1, _⟩ := T4.out.at w1.heap.size 1 (.int .i64 sl) (by simp)
        obtain ⟨q2, _⟩ := T4.out.at w1.heap.size 2 (.int .i64 sr) (by simp)
        obtain ⟨q3, _⟩ := T4.out.at w1.heap.size 3 (.int .i64 sx) (by simp)
        obtain ⟨q4, _⟩ := T4.out.at w1.heap.size 4 (.int .i64 sy) (by simp)
        obtain ⟨q5, _⟩ := T4.out.at w1.heap.size 5 (.int .i64 sz) (by simp)
        obtain ⟨q6, _⟩ := T4.out.at w1.heap.size 6 (.int .i64 st) (by simp)
        go_wp2_with fail
        refine (s_Change ⟨sk, sl, sr, sx, sy, sz, st⟩ _ HSG.out).mono ?_
        generalize chL ⟨sk, sl, sr, sx, sy, sz, st⟩ = cl at d1 d2 d3 ⊢
        generalize chH ⟨sk, sl, sr, sx, sy, sz, st⟩ = ch at d1 d2 d3 ⊢
        rintro e w5 ⟨rfl, hb⟩
        have T5 := Lib.hid (T4.out.later hb)
        have hfd : ∀ w : World, (Instr.field 28 (.agg #[.int .i64 cl, .int .i64 ch]) 0).run Try.prog w = .ok (.int .i64 cl) w := fun _ => by kernel_rfl
        clear hb q0 q1 q2 q3 q4 q5 q6
        go_wp2_with fail
        all_goals
          go_meet
          exact ⟨_, rfl, by first | omega | (split <;> omega), by first | omega | (split <;> omega), T5.out⟩
      case rest =>
        obtain ⟨nd, rfl, n0, n1, hP⟩ := hcut
        have T5 := Lib.hid hP
        clear hP
        go_upto_region 5 with fail
        go_cut [] (fun w' => ∃ x y : Int, InR x ∧ InR y ∧ Pss w2.heap.size w1.heap.size ⟨sk, sl, sr, sx, sy, sz, st⟩ x y B a len cap w w')
        case first =>
          go_wp2_with fail
          refine (s_Next B a len cap _ _ (St.src T5.out) (by omega) (by omega)).mono ?_
          rintro e w6 ⟨p, rfl, x0, x1, x2, src, gr⟩
          have T6 := Lib.hid (St.call T5.out src gr)
          have hp := x1 (by omega)
          clear gr src x1 x2
          go_wp2_with fail
          all_goals
            refine (s_Next B a len cap _ _ (St.src T6.out) (by omega) (by omega)).mono ?_
            rintro e w7 ⟨u, rfl, y0, y1, y2, src, gr⟩
            have T7 := Lib.hid (St.call T6.out src gr)
            have hu := y1 (by omega)
            clear gr src y1 y2
            obtain ⟨k0, j0⟩ := St.at T7.out w2.heap.size 0 (.int .i64 x) (by simp)
            obtain ⟨k1, j1⟩ := St.at T7.out w2.heap.size 1 (.int .i64 y) (by simp)
            go_wp2_with fail
            go_meet
            exact ⟨_, _, ⟨by omega, by omega⟩, ⟨by omega, by omega⟩, St.store2 T7.out (pss_ne (by omega) (by omega))⟩
        case rest =>
          obtain ⟨x', y', hx', hy', hP⟩ := hcut
          have T6 := Lib.hid (show St [(w2.heap.size, 0, .int .i64 x'), (w2.heap.size, 1, .int .i64 y'), (w1.heap.size, 0, .int .i64 sk), (w1.heap.size, 1, .int .i64 sl), (w1.heap.size, 2, .int .i64 sr), (w1.heap.size, 3, .int .i64 sx), (w1.heap.size, 4, .int .i64 sy), (w1.heap.size, 5, .int .i64 sz), (w1.heap.size, 6, .int .i64 st), ((w.heap.size + 1), 0, .int .i64 0), ((w.heap.size + 1), 1, .int .i64 0), (w.heap.size, 0, .int .i64 0), (w.heap.size, 1, .int .i64 0), (w.heap.size, 2, .int .i64 0), (w.heap.size, 3, .int .i64 0), (w.heap.size, 4, .int .i64 0), (w.heap.size, 5, .int .i64 0), (w.heap.size, 6, .int .i64 0)] B a len cap w wc from hP)
          clear hP T5
          go_wp2_with fail
          refine intoSt T6.out ?_
          intro W hW
          obtain ⟨k0, j0⟩ := hW.at w2.heap.size 0 (.int .i64 x') (by simp)
          obtain ⟨k1, j1⟩ := hW.at w2.heap.size 1 (.int .i64 y') (by simp)
          obtain ⟨k2, j2⟩ := hW.at w1.heap.size 0 (.int .i64 sk) (by simp)
          obtain ⟨k3, j3⟩ := hW.at w1.heap.size 1 (.int .i64 sl) (by simp)
          obtain ⟨k4, j4⟩ := hW.at w1.heap.size 2 (.int .i64 sr) (by simp)
          obtain ⟨k5, j5⟩ := hW.at w1.heap.size 3 (.int .i64 sx) (by simp)
          obtain ⟨k6, j6⟩ := hW.at w1.heap.size 4 (.int .i64 sy) (by simp)
          obtain ⟨k7, j7⟩ := hW.at w1.heap.size 5 (.int .i64 sz) (by simp)
          obtain ⟨k8, j8⟩ := hW.at w1.heap.size 6 (.int .i64 st) (by simp)
          obtain ⟨k9, j9⟩ := hW.at (w.heap.size + 1) 0 (.int .i64 0) (by simp)
          obtain ⟨k10, j10⟩ := hW.at (w.heap.size + 1) 1 (.int .i64 0) (by simp)
          obtain ⟨k11, j11⟩ := hW.at w.heap.size 0 (.int .i64 0) (by simp)
          obtain ⟨k12, j12⟩ := hW.at w.heap.size 1 (.int .i64 0) (by simp)
          obtain ⟨k13, j13⟩ := hW.at w.heap.size 2 (.int .i64 0) (by simp)
          obtain ⟨k14, j14⟩ := hW.at w.heap.size 3 (.int .i64 0) (by simp)
          obtain ⟨k15, j15⟩ := hW.at w.heap.size 4 (.int .i64 0) (by simp)
          obtain ⟨k16, j16⟩ := hW.at w.heap.size 5 (.int .i64 0) (by simp)
          obtain ⟨k17, j17⟩ := hW.at w.heap.size 6 (.int .i64 0) (by simp)
          have HW := Lib.hid hW.bare
          clear hW T0 T1 T2
          go_region
          all_goals
            go_wp2_with fail
            refine bodyPost_ret (v := .tuple #[.agg #[.int .i64 sk, .int .i64 sl, .int .i64 sr, .int .i64 sx, .int .i64 sy, .int .i64 sz, .int .i64 st], .agg #[.int .i64 x', .int .i64 y']]) (by simp [results, Try.results60, go_sem, *]) rfl ⟨⟨sk, sl, sr, sx, sy, sz, st⟩, x', y', rfl, hx', hy', ?_⟩
            refine fin_st (W := _) ?_
            repeat (first | (with_reducible exact HW.out) | (with_reducible refine St.drew ?_) | (with_reducible refine St.drewN ?_ _) | (refine St.set ?_ _ _ _ (by first | exact Nat.le_refl _ | exact Nat.le_succ _) (by simp)))
    · have hcc : (c == 0) = false := by simpa using hc
      go_wp2_with fail
      refine intoSt T4.out ?_
      intro W hW
      obtain ⟨k0, j0⟩ := hW.at w2.heap.size 0 (.int .i64 x) (by simp)
      obtain ⟨k1, j1⟩ := hW.at w2.heap.size 1 (.int .i64 y) (by simp)
      obtain ⟨k2, j2⟩ := hW.at w1.heap.size 0 (.int .i64 sk) (by simp)
      obtain ⟨k3, j3⟩ := hW.at w1.heap.size 1 (.int .i64 sl) (by simp)
      obtain ⟨k4, j4⟩ := hW.at w1.heap.size 2 (.int .i64 sr) (by simp)
      obtain ⟨k5, j5⟩ := hW.at w1.heap.size 3 (.int .i64 sx) (by simp)
      obtain ⟨k6, j6⟩ := hW.at w1.heap.size 4 (.int .i64 sy) (by simp)
      obtain ⟨k7, j7⟩ := hW.at w1.heap.size 5 (.int .i64 sz) (by simp)
      obtain ⟨k8, j8⟩ := hW.at w1.heap.size 6 (.int .i64 st) (by simp)
      obtain ⟨k9, j9⟩ := hW.at (w.heap.size + 1) 0 (.int .i64 0) (by simp)
      obtain ⟨k10, j10⟩ := hW.at (w.heap.size + 1) 1 (.int .i64 0) (by simp)
      obtain ⟨k11, j11⟩ := hW.at w.heap.size 0 (.int .i64 0) (by simp)
      obtain ⟨k12, j12⟩ := hW.at w.heap.size 1 (.int .i64 0) (by simp)
      obtain ⟨k13, j13⟩ := hW.at w.heap.size 2 (.int .i64 0) (by simp)
      obtain ⟨k14, j14⟩ := hW.at w.heap.size 3 (.int .i64 0) (by simp)
      obtain ⟨k15, j15⟩ := hW.at w.heap.size 4 (.int .i64 0) (by simp)
      obtain ⟨k16, j16⟩ := hW.at w.heap.size 5 (.int .i64 0) (by simp)
      obtain ⟨k17, j17⟩ := hW.at w.heap.size 6 (.int .i64 0) (by simp)
      have HW := Lib.hid hW.bare
      clear hW T0 T1 T2
      go_region
      all_goals
        go_wp2_with fail
        refine bodyPost_ret (v := .tuple #[.agg #[.int .i64 sk, .int .i64 sl, .int .i64 sr, .int .i64 sx, .int .i64 sy, .int .i64 sz, .int .i64 st], .agg #[.int .i64 x, .int .i64 y]]) (by simp [results, Try.results60, go_sem, *]) rfl ⟨⟨sk, sl, sr, sx, sy, sz, st⟩, x, y, rfl, (smq_in px), (smq_in py), ?_⟩
        refine fin_st (W := _) ?_
        repeat (first | (with_reducible exact HW.out) | (with_reducible refine St.drew ?_) | (with_reducible refine St.drewN ?_ _) | (refine St.set ?_ _ _ _ (by first | exact Nat.le_refl _ | exact Nat.le_succ _) (by simp)))
/-- a drawn segment and an energy, for a law -/
def OneP (w : World) (e : Ending) (w' : World) : Prop :=
  ∃ (z : Sg) (x y : Int), e = .returned (.tuple #[.agg #[.int .i64 z.k, .int .i64 z.l, .int .i64 z.r, .int .i64 z.a, .int .i64 z.b, .int .i64 z.c, .int .i64 z.d], .agg #[.int .i64 x, .int .i64 y]]) ∧ InR x ∧ InR y ∧ Later w w'
set_option maxRecDepth 100000 in
theorem s_DrawEnergyAfter (a : Option Addr) (len cap : Nat) (w : World) (hs : Bytes w a len) :
    Calls Try.prog 23 #[.slice a len cap] w (OneP w) := by
  have HS := Lib.hid hs
  clear hs
  go_enter Try.func23, Try.ntmps23
  go_wp2_with fail
  refine (s_From a len cap _ (HS.out.later (((Later.refl _).alloc _).alloc _))).mono ?_
  rintro e w1 ⟨rfl, src, lt, bel⟩
  have F1 := fr_later (fr_later (fr_alloc (X := w) (l := [.int .i64 0, .int .i64 0, .int .i64 0, .int .i64 0, .int .i64 0, .int .i64 0, .int .i64 0]) (T := 34) (Later.refl _)) ((Later.refl _).alloc (.cells #[.int .i64 0, .int .i64 0] 28))) bel
  have F2 := fr_later (fr_alloc (X := w.alloc (.cells #[.int .i64 0, .int .i64 0, .int .i64 0, .int .i64 0, .int .i64 0, .int .i64 0, .int .i64 0] 34)) (l := [.int .i64 0, .int .i64 0]) (T := 28) (Later.refl _)) bel
  have B1 : Hid (Later w w1) := Lib.hid (Later.trans (((Later.refl _).alloc _).alloc _) bel)
  rw [World.size_alloc] at F2
  rw [World.size_alloc, World.size_alloc] at src lt ⊢
  have S1 := Lib.hid src
  clear src bel
  go_wp2_with fail
  refine (s_l06DrawPass (w.heap.size + 1 + 1) a len cap _ S1.out).mono ?_
  rintro e w2 ⟨z, x, y, rfl, px, py, src, gr⟩
  have B2 : Hid (Later w w2) := Lib.hid (Below.grown B1.out gr B1.out.size (fun k h => by have := Option.some.inj h; omega))
  have G1 := fr_keptD F1 gr (fun e => by have := Option.some.inj e; omega)
  have G2 := fr_keptD F2 gr (fun e => by have := Option.some.inj e; omega)
  obtain ⟨c0, c1, c2, c3, c4, c5, c6, f0, f1, f2, f3, f4, f5, f6⟩ := Fr.o7 G1
  obtain ⟨d0, d1, g0, g1⟩ := Fr.o2 G2
  clear src gr F1 F2 G1 G2
  go_wp2_with fail
  refine bodyPost_ret (v := .tuple #[.agg #[.int .i64 z.k, .int .i64 z.l, .int .i64 z.r, .int .i64 z.a, .int .i64 z.b, .int .i64 z.c, .int .i64 z.d], .agg #[.int .i64 x, .int .i64 y]]) (by simp [results, Try.results23, go_sem, *]) rfl ⟨z, x, y, rfl, px, py, ?_⟩
  repeat (first | (with_reducible exact B2.out) | (refine Later.setCell ?_ (by simp) _))
end Go.Proofs.Ythheoeeobikkhaa
