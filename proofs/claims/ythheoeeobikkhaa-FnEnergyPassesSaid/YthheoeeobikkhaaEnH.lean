/- The walk of the law of chapter 6 on passes. -/
import Derived.Test.YthheoeeobikkhaaEnG
import Derived.Test.YthheoeeobikkhaaEnL
namespace Go.Proofs.Ythheoeeobikkhaa
open Go.RowKit
set_option maxHeartbeats 4000000
set_option linter.unusedVariables false
set_option linter.unusedSimpArgs false
theorem Held.b7 {l : List (Nat × Nat × Value)} {w0 W : World} (h : Held l w0 W) (v0 v1 v2 v3 v4 v5 v6 : Value) (T : TypeId) : Held ((W.heap.size, 0, v0) :: (W.heap.size, 1, v1) :: (W.heap.size, 2, v2) :: (W.heap.size, 3, v3) :: (W.heap.size, 4, v4) :: (W.heap.size, 5, v5) :: (W.heap.size, 6, v6) :: l) w0 (W.alloc (.cells #[v0, v1, v2, v3, v4, v5, v6] T)) :=
  held_box h W.heap.size [v0, v1, v2, v3, v4, v5, v6] T rfl
/-- a valid segment and an energy: what all answers are -/
theorem pass_facts (z : Sg) (x y : Int) (h : pvE z x y = 0) :
    coL z = chL z ∧ coH z = chH z ∧ inE (sgB z) = 0 ∧ (pvV z x y == 2) = (afE z x y != 5) ∧ (afE z x y = 0 → afL z x y = x + chL z ∧ afH z x y = y + chH z ∧ afE z x x = 0 ∧ afL z x x = x + chL z ∧ afH z x x = x + chH z ∧ x + chH z ≤ y + chH z ∧ 0 ≤ x ∧ x ≤ y ∧ y ≤ 10000000000 ∧ -9961200000 ≤ chL z ∧ chL z ≤ chH z ∧ chH z ≤ 1961200000) := by
  have hb : (sgB z && enB x y) = true := by
    unfold pvE inE at h; split at h
    · assumption
    · cases h
  have hs : sgB z = true := by simp at hb; exact hb.1
  have he : enB x y = true := by simp at hb; exact hb.2
  have he2 := (enB_iff x y).1 he
  have hc := ch_bd z hs
  have e1 : afE z x y = codE (x + chL z) (y + chH z) := by unfold afE; rw [hb, if_pos rfl]
  have e2 : pvV z x y = vrd (x + chL z) (y + chH z) := by unfold pvV; rw [hb, if_pos rfl]
  have hxx : enB x x = true := by rw [enB_iff]; omega
  have e3 : afE z x x = codE (x + chL z) (x + chH z) := by unfold afE; rw [hs, hxx]; rfl
  refine ⟨by unfold coL; rw [if_pos hs], by unfold coH; rw [if_pos hs], by rw [hs]; rfl, ?_, ?_⟩
  · rw [e1, e2]
    unfold vrd codE
    by_cases h1 : 0 ≤ x + chL z
    · rw [if_pos h1, if_neg (by omega)]
      split <;> simp
    · rw [if_pos (show x + chL z < 0 by omega), if_neg h1]
      split <;> simp
  · intro h0
    have h1 := h0
    rw [e1] at h1
    obtain ⟨h2, h3⟩ := codE_ok _ _ h1
    have h4 : afE z x x = 0 := by rw [e3]; unfold codE; rw [if_neg (by omega), if_pos (by omega)]
    refine ⟨by unfold afL okV; rw [if_pos h0], by unfold afH okV; rw [if_pos h0], h4, by unfold afL okV; rw [if_pos h4], by unfold afH okV; rw [if_pos h4], by omega⟩
set_option maxRecDepth 100000 in
theorem walk_FnEnergyPasses (a0 : Option Addr) (len0 cap0 : Nat) (z0 : List Int) (w : World) (w0 : IsRow .u8 w a0 len0 cap0 z0) :
    Calls Try.prog 4 #[.slice a0 len0 cap0] w fun e w' => e = .returned (.bool true) ∧ Below w.heap.size w w' := by
  have HS := Lib.hid (isRow_bytes w0)
  clear w0
  by_cases hbig : 4096 < len0
  · go_enter Try.func4, Try.ntmps4
    go_wp2_with fail
    refine (l_big _ _ _ _).mono ?_
    rintro e w' ⟨rfl, rfl⟩
    go_wp2
    go_ret
    exact ⟨rfl, Below.refl _ _⟩
  · go_enter Try.func4, Try.ntmps4
    go_wp2_with fail
    refine (l_big _ _ _ _).mono ?_
    rintro e w' ⟨rfl, rfl⟩
    go_wp2_with fail
    refine (s_DrawEnergyAfter _ _ _ _ HS.out).mono ?_
    rintro e w1 ⟨z, x, y, rfl, hx, hy, hb⟩
    have h2 := (((held_start w).later hb).b7 (.int .i64 z.k) (.int .i64 z.l) (.int .i64 z.r) (.int .i64 z.a) (.int .i64 z.b) (.int .i64 z.c) (.int .i64 z.d) 34).b2 (.int .i64 x) (.int .i64 y) 28
    simp only [World.size_alloc] at h2
    have H2 := Lib.hid h2
    obtain ⟨x1, x2⟩ := hx
    obtain ⟨y1, y2⟩ := hy
    clear hb h2
    obtain ⟨p, hp⟩ : ∃ p, p = afL z x y := ⟨_, rfl⟩
    obtain ⟨q, hq⟩ : ∃ q, q = afH z x y := ⟨_, rfl⟩
    obtain ⟨c, hc⟩ : ∃ c, c = afE z x y := ⟨_, rfl⟩
    obtain ⟨v, hv⟩ : ∃ v, v = pvV z x y := ⟨_, rfl⟩
    obtain ⟨o, ho⟩ : ∃ o, o = pvE z x y := ⟨_, rfl⟩
    have HP := Lib.hid hp; have HQ := Lib.hid hq; have HC := Lib.hid hc; have HV := Lib.hid hv; have HO := Lib.hid ho
    have e0 : (c != c) = false := by simp
    have e1 : (v != v) = false := by simp
    have e2 : (o != o) = false := by simp
    have e3 : (p != p) = false := by simp
    have e4 : (q != q) = false := by simp
    clear hp hq hc hv ho
    have a0 := Held.at H2.out (w1.heap.size + 1) 0 (.int .i64 x) (by simp)
    have a1 := Held.at H2.out (w1.heap.size + 1) 1 (.int .i64 y) (by simp)
    have a2 := Held.at H2.out w1.heap.size 0 (.int .i64 z.k) (by simp)
    have a3 := Held.at H2.out w1.heap.size 1 (.int .i64 z.l) (by simp)
    have a4 := Held.at H2.out w1.heap.size 2 (.int .i64 z.r) (by simp)
    have a5 := Held.at H2.out w1.heap.size 3 (.int .i64 z.a) (by simp)
    have a6 := Held.at H2.out w1.heap.size 4 (.int .i64 z.b) (by simp)
    have a7 := Held.at H2.out w1.heap.size 5 (.int .i64 z.c) (by simp)
    have a8 := Held.at H2.out w1.heap.size 6 (.int .i64 z.d) (by simp)
    go_wp2_with fail
    refine (i_EnergyAfter z x y _).mono ?_
    rw [← HP.out, ← HQ.out, ← HC.out]
    rintro e w3 ⟨rfl, hb⟩
    have H3 := Lib.hid ((H2.out.later hb).b2 (.int .i64 p) (.int .i64 q) 28)
    clear hb a0 a1 a2 a3 a4 a5 a6 a7 a8
    have a0 := Held.at H3.out w3.heap.size 0 (.int .i64 p) (by simp)
    have a1 := Held.at H3.out w3.heap.size 1 (.int .i64 q) (by simp)
    have a2 := Held.at H3.out (w1.heap.size + 1) 0 (.int .i64 x) (by simp)
    have a3 := Held.at H3.out (w1.heap.size + 1) 1 (.int .i64 y) (by simp)
    have a4 := Held.at H3.out w1.heap.size 0 (.int .i64 z.k) (by simp)
    have a5 := Held.at H3.out w1.heap.size 1 (.int .i64 z.l) (by simp)
    have a6 := Held.at H3.out w1.heap.size 2 (.int .i64 z.r) (by simp)
    have a7 := Held.at H3.out w1.heap.size 3 (.int .i64 z.a) (by simp)
    have a8 := Held.at H3.out w1.heap.size 4 (.int .i64 z.b) (by simp)
    have a9 := Held.at H3.out w1.heap.size 5 (.int .i64 z.c) (by simp)
    have a10 := Held.at H3.out w1.heap.size 6 (.int .i64 z.d) (by simp)
    go_wp2_with fail
    refine (s_EnergyAfter z x y _).mono ?_
    rw [← HP.out, ← HQ.out, ← HC.out]
    rintro e w4 ⟨rfl, hb⟩
    have H4 := Lib.hid ((H3.out.later hb).b2 (.int .i64 p) (.int .i64 q) 28)
    clear hb a0 a1 a2 a3 a4 a5 a6 a7 a8 a9 a10
    have a0 := Held.at H4.out w4.heap.size 0 (.int .i64 p) (by simp)
    have a1 := Held.at H4.out w4.heap.size 1 (.int .i64 q) (by simp)
    have a2 := Held.at H4.out w3.heap.size 0 (.int .i64 p) (by simp)
    have a3 := Held.at H4.out w3.heap.size 1 (.int .i64 q) (by simp)
    have a4 := Held.at H4.out (w1.heap.size + 1) 0 (.int .i64 x) (by simp)
    have a5 := Held.at H4.out (w1.heap.size + 1) 1 (.int .i64 y) (by simp)
    have a6 := Held.at H4.out w1.heap.size 0 (.int .i64 z.k) (by simp)
    have a7 := Held.at H4.out w1.heap.size 1 (.int .i64 z.l) (by simp)
    have a8 := Held.at H4.out w1.heap.size 2 (.int .i64 z.r) (by simp)
    have a9 := Held.at H4.out w1.heap.size 3 (.int .i64 z.a) (by simp)
    have a10 := Held.at H4.out w1.heap.size 4 (.int .i64 z.b) (by simp)
    have a11 := Held.at H4.out w1.heap.size 5 (.int .i64 z.c) (by simp)
    have a12 := Held.at H4.out w1.heap.size 6 (.int .i64 z.d) (by simp)
    go_wp2_with fail
    refine (i_PassVerdict z x y _).mono ?_
    rw [← HV.out, ← HO.out]
    rintro e w5 ⟨rfl, hb⟩
    have H5 := Lib.hid (H4.out.later hb)
    clear hb a0 a1 a2 a3 a4 a5 a6 a7 a8 a9 a10 a11 a12
    have a0 := Held.at H5.out w4.heap.size 0 (.int .i64 p) (by simp)
    have a1 := Held.at H5.out w4.heap.size 1 (.int .i64 q) (by simp)
    have a2 := Held.at H5.out w3.heap.size 0 (.int .i64 p) (by simp)
    have a3 := Held.at H5.out w3.heap.size 1 (.int .i64 q) (by simp)
    have a4 := Held.at H5.out (w1.heap.size + 1) 0 (.int .i64 x) (by simp)
    have a5 := Held.at H5.out (w1.heap.size + 1) 1 (.int .i64 y) (by simp)
    have a6 := Held.at H5.out w1.heap.size 0 (.int .i64 z.k) (by simp)
    have a7 := Held.at H5.out w1.heap.size 1 (.int .i64 z.l) (by simp)
    have a8 := Held.at H5.out w1.heap.size 2 (.int .i64 z.r) (by simp)
    have a9 := Held.at H5.out w1.heap.size 3 (.int .i64 z.a) (by simp)
    have a10 := Held.at H5.out w1.heap.size 4 (.int .i64 z.b) (by simp)
    have a11 := Held.at H5.out w1.heap.size 5 (.int .i64 z.c) (by simp)
    have a12 := Held.at H5.out w1.heap.size 6 (.int .i64 z.d) (by simp)
    go_wp2_with fail
    refine (s_PassVerdict z x y _).mono ?_
    rw [← HV.out, ← HO.out]
    rintro e w6 ⟨rfl, hb⟩
    have H6 := Lib.hid (H5.out.later hb)
    clear hb a0 a1 a2 a3 a4 a5 a6 a7 a8 a9 a10 a11 a12
    have a0 := Held.at H6.out w4.heap.size 0 (.int .i64 p) (by simp)
    have a1 := Held.at H6.out w4.heap.size 1 (.int .i64 q) (by simp)
    have a2 := Held.at H6.out w3.heap.size 0 (.int .i64 p) (by simp)
    have a3 := Held.at H6.out w3.heap.size 1 (.int .i64 q) (by simp)
    have a4 := Held.at H6.out (w1.heap.size + 1) 0 (.int .i64 x) (by simp)
    have a5 := Held.at H6.out (w1.heap.size + 1) 1 (.int .i64 y) (by simp)
    have a6 := Held.at H6.out w1.heap.size 0 (.int .i64 z.k) (by simp)
    have a7 := Held.at H6.out w1.heap.size 1 (.int .i64 z.l) (by simp)
    have a8 := Held.at H6.out w1.heap.size 2 (.int .i64 z.r) (by simp)
    have a9 := Held.at H6.out w1.heap.size 3 (.int .i64 z.a) (by simp)
    have a10 := Held.at H6.out w1.heap.size 4 (.int .i64 z.b) (by simp)
    have a11 := Held.at H6.out w1.heap.size 5 (.int .i64 z.c) (by simp)
    have a12 := Held.at H6.out w1.heap.size 6 (.int .i64 z.d) (by simp)
    by_cases hO : o = 0
    · obtain ⟨f1, f2, f3, f4, f5⟩ := pass_facts z x y (by rw [← HO.out]; exact hO)
      rw [← HC.out, ← HV.out] at f4
      rw [← HC.out, ← HP.out, ← HQ.out] at f5
      have hO2 : (o != 0) = false := by simp [hO]
      have F := Lib.hid (And.intro f1 (And.intro f2 f3))
      obtain ⟨bb, hb5⟩ : ∃ bb, bb = (c != 5) := ⟨_, rfl⟩
      rw [← hb5] at f4
      have hb6 := hb5.symm
      clear f1 f2 f3 hO hb5
      go_wp2_with fail
      refine (i_ChangeOf z _).mono ?_
      rw [F.out.1, F.out.2.1, F.out.2.2]
      rintro e w7 ⟨rfl, hb⟩
      have H7 := Lib.hid ((H6.out.later hb).b2 (.int .i64 (chL z)) (.int .i64 (chH z)) 28)
      clear hb a0 a1 a2 a3 a4 a5 a6 a7 a8 a9 a10 a11 a12
      have a0 := Held.at H7.out w7.heap.size 0 (.int .i64 (chL z)) (by simp)
      have a1 := Held.at H7.out w7.heap.size 1 (.int .i64 (chH z)) (by simp)
      have a2 := Held.at H7.out w4.heap.size 0 (.int .i64 p) (by simp)
      have a3 := Held.at H7.out w4.heap.size 1 (.int .i64 q) (by simp)
      have a4 := Held.at H7.out w3.heap.size 0 (.int .i64 p) (by simp)
      have a5 := Held.at H7.out w3.heap.size 1 (.int .i64 q) (by simp)
      have a6 := Held.at H7.out (w1.heap.size + 1) 0 (.int .i64 x) (by simp)
      have a7 := Held.at H7.out (w1.heap.size + 1) 1 (.int .i64 y) (by simp)
      have a8 := Held.at H7.out w1.heap.size 0 (.int .i64 z.k) (by simp)
      have a9 := Held.at H7.out w1.heap.size 1 (.int .i64 z.l) (by simp)
      have a10 := Held.at H7.out w1.heap.size 2 (.int .i64 z.r) (by simp)
      have a11 := Held.at H7.out w1.heap.size 3 (.int .i64 z.a) (by simp)
      have a12 := Held.at H7.out w1.heap.size 4 (.int .i64 z.b) (by simp)
      have a13 := Held.at H7.out w1.heap.size 5 (.int .i64 z.c) (by simp)
      have a14 := Held.at H7.out w1.heap.size 6 (.int .i64 z.d) (by simp)
      by_cases hC : c = 0
      · obtain ⟨g1, g2, g3, g4, g5, g6, g7, g8, g9, g10, g11, g12⟩ := f5 hC
        subst g1
        subst g2
        have hC2 : (c != 0) = false := by simp [hC]
        have G := Lib.hid (And.intro g3 (And.intro g4 g5))
        clear f5 hC g3 g4 g5
        go_wp2_with fail
        refine (i_EnergyAfter z x x _).mono ?_
        rw [G.out.1, G.out.2.1, G.out.2.2]
        rintro e w8 ⟨rfl, hb⟩
        have H8 := Lib.hid ((H7.out.later hb).b2 (.int .i64 (x + chL z)) (.int .i64 (x + chH z)) 28)
        clear hb a0 a1 a2 a3 a4 a5 a6 a7 a8 a9 a10 a11 a12 a13 a14
        have a0 := Held.at H8.out w8.heap.size 0 (.int .i64 (x + chL z)) (by simp)
        have a1 := Held.at H8.out w8.heap.size 1 (.int .i64 (x + chH z)) (by simp)
        have a2 := Held.at H8.out w7.heap.size 0 (.int .i64 (chL z)) (by simp)
        have a3 := Held.at H8.out w7.heap.size 1 (.int .i64 (chH z)) (by simp)
        have a4 := Held.at H8.out w4.heap.size 0 (.int .i64 (x + chL z)) (by simp)
        have a5 := Held.at H8.out w4.heap.size 1 (.int .i64 (y + chH z)) (by simp)
        have a6 := Held.at H8.out w3.heap.size 0 (.int .i64 (x + chL z)) (by simp)
        have a7 := Held.at H8.out w3.heap.size 1 (.int .i64 (y + chH z)) (by simp)
        have a8 := Held.at H8.out (w1.heap.size + 1) 0 (.int .i64 x) (by simp)
        have a9 := Held.at H8.out (w1.heap.size + 1) 1 (.int .i64 y) (by simp)
        have a10 := Held.at H8.out w1.heap.size 0 (.int .i64 z.k) (by simp)
        have a11 := Held.at H8.out w1.heap.size 1 (.int .i64 z.l) (by simp)
        have a12 := Held.at H8.out w1.heap.size 2 (.int .i64 z.r) (by simp)
        have a13 := Held.at H8.out w1.heap.size 3 (.int .i64 z.a) (by simp)
        have a14 := Held.at H8.out w1.heap.size 4 (.int .i64 z.b) (by simp)
        have a15 := Held.at H8.out w1.heap.size 5 (.int .i64 z.c) (by simp)
        have a16 := Held.at H8.out w1.heap.size 6 (.int .i64 z.d) (by simp)
        go_wp2_with fail
        go_ret
        exact ⟨rfl, H8.out.is⟩
      · have hC2 : (c != 0) = true := by simpa using hC
        clear f5 hC
        go_wp2_with fail
        go_ret
        exact ⟨rfl, H7.out.is⟩
    · have hO2 : (o != 0) = true := by simpa using hO
      clear hO
      go_wp2_with fail
      go_ret
      exact ⟨rfl, H6.out.is⟩
end Go.Proofs.Ythheoeeobikkhaa
