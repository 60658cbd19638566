/- The walks of the laws of chapter 2. -/
import Derived.Test.YtpadigebbgcopaaIvW
import Derived.Test.YtpadigebbgcopaaIvL
import Derived.Test.YtpadigebbgcopaaIvE
import Derived.Test.YtpadigebbgcopaaDice
import Derived.Test.YtpadigebbgcopaaRow
namespace Go.Proofs.Ytpadigebbgcopaa
open Go.RowKit
set_option maxHeartbeats 2000000
set_option linter.unusedVariables false
set_option linter.unusedSimpArgs false
theorem Held.box2 {l : List (Nat × Nat × Value)} {w0 W : World} (h : Held l w0 W) (v0 v1 : Value) (T : TypeId) : Held ((W.heap.size, 0, v0) :: (W.heap.size, 1, v1) :: l) w0 (W.alloc (.cells #[v0, v1] T)) :=
  held_more (held_more (h.alloc _) _ _ _ (by simp) (by simp)) _ _ _ (by simp) (by simp)
theorem Bytes.held {l : List (Nat × Nat × Value)} {w0 W : World} {a : Option Addr} {len : Nat} (hs : Bytes w0 a len) (h : Held l w0 W) : Bytes W a len := hs.later h.is
theorem Held.grown {l : List (Nat × Nat × Value)} {w0 W0 W W1 : World} {D : Nat} (h : Held l w0 W) (h0 : Held l w0 W0) (hD : W0.heap.size ≤ D) (gr : W.grownBy W1 (some D)) : Held l w0 W1 := by
  refine ⟨fun x hx => ?_, Below.trans h.2 (grown_below gr (Nat.le_trans h0.2.size hD) h.2.size)⟩
  have a := (h0.1 x hx).1
  obtain ⟨b, c⟩ := h.1 x hx
  have hne : x.1 ≠ D := by omega
  exact ⟨Nat.lt_of_lt_of_le b gr.size, gr.cell c (by simpa using hne)⟩
theorem intoHeld {l : List (Nat × Nat × Value)} {w0 W0 : World} {P : Program} {c : Code} {Q : Exit → Act → World → Prop} {a : Act} (h0 : Held l w0 W0) (k : ∀ W, Held l w0 W → Code.wp P c Q a W) : Code.wp P c Q a W0 := k W0 h0
theorem wv_0 {x y : Int} (h : wvE x y = 0) : isVB x = true ∧ isVB y = true ∧ wvL x y = x ∧ wvH x y = y := by
  by_cases hv : (isVB x && isVB y) = true
  · have h2 := hv
    simp at h2
    simp [wvL, wvH, h2]
  · simp [wvE, hv] at h
theorem scE_0 {x y k : Int} (h : scE (ivB x y) x y k = 0) : ivB x y = true ∧ -1000000 ≤ k ∧ k ≤ 1000000 ∧ scL (ivB x y) x y k = min (x * k) (y * k) ∧ scH (ivB x y) x y k = max (x * k) (y * k) := by
  unfold scE at h
  split at h
  · rename_i h1
    split at h
    · rename_i h2
      obtain ⟨_, _, h3, h4⟩ := wv_0 h
      have h5 := h2
      unfold scV at h5; simp at h5
      simp [scL, scH, h1, h2, h3, h4, h5]
    · simp at h
  · simp at h
theorem sc_neg {x y : Int} (h : ivB x y = true) : scE (ivB x y) x y (-1) = 0 ∧ scL (ivB x y) x y (-1) = -y ∧ scH (ivB x y) x y (-1) = -x := by
  obtain ⟨g1, g2, g3, g4, g5⟩ := bounds_of_ivB h
  have e1 : min (x * -1) (y * -1) = -y := by omega
  have e2 : max (x * -1) (y * -1) = -x := by omega
  obtain ⟨a, b, c⟩ := @wv_valid (-y) (-x) (by omega) (by omega) (by omega) (by omega)
  have hk : scV (-1) = true := by decide
  unfold scE scL scH
  rw [h, hk, e1, e2]
  exact ⟨a, b, c⟩
theorem mul_between (x y v k : Int) (h1 : x ≤ v) (h2 : v ≤ y) : min (x * k) (y * k) ≤ v * k ∧ v * k ≤ max (x * k) (y * k) := by
  by_cases hk : 0 ≤ k
  · have a := Int.mul_le_mul_of_nonneg_right h1 hk
    have b := Int.mul_le_mul_of_nonneg_right h2 hk
    omega
  · have a := Int.mul_le_mul_of_nonpos_right h1 (show k ≤ 0 by omega)
    have b := Int.mul_le_mul_of_nonpos_right h2 (show k ≤ 0 by omega)
    omega
theorem i_ScaleInterval_neg (x y : Int) (w : World) (h : ivB x y = true) :
    Calls Try.prog 25 #[.agg #[.int .i64 x, .int .i64 y], .int .i64 (-1)] w fun e w' => e = .returned (.tuple #[.agg #[.int .i64 (-y), .int .i64 (-x)], .int .i64 0]) ∧ Later w w' := by
  obtain ⟨a, b, c⟩ := sc_neg h
  have := i_ScaleInterval x y (-1) w
  rwa [a, b, c] at this
set_option maxRecDepth 100000 in
theorem walk_FnScaledIntervals (a0 : Option Addr) (len0 cap0 : Nat) (z0 : List Int) (w : World) (w0 : IsRow .u8 w a0 len0 cap0 z0) :
    Calls Try.prog 4 #[.slice a0 len0 cap0] w fun e w' => e = .returned (.bool true) ∧ Below w.heap.size w w' := by
  have HS := Lib.hid (isRow_bytes w0)
  clear w0
  by_cases hbig : 4096 < len0
  · go_enter Try.func4, Try.ntmps4
    go_wp2_with fail
    refine (l_big _ _ _ _).mono ?_
    rintro e w' ⟨rfl, rfl⟩
    go_wp2
    go_ret
    exact ⟨rfl, Below.refl _ _⟩
  · go_enter Try.func4, Try.ntmps4
    go_wp2_with fail
    refine (l_big _ _ _ _).mono ?_
    rintro e w' ⟨rfl, rfl⟩
    go_wp2_with fail
    refine (s_DrawScaleInterval _ _ _ _ HS.out).mono ?_
    rintro e w1 ⟨x, y, k, rfl, hx, hy, hk, bel⟩
    have H1 := Lib.hid (((held_none w).later bel).box2 (.int .i64 x) (.int .i64 y) 25)
    have HX := Lib.hid hx; have HY := Lib.hid hy; have HK := Lib.hid hk
    clear bel hx hy hk
    go_wp2_with fail
    refine (i_ScaleInterval _ _ _ _).mono ?_
    rintro e w2 ⟨rfl, hb⟩
    have H2 := Lib.hid ((H1.out.later hb).box2 (.int .i64 (scL (ivB x y) x y k)) (.int .i64 (scH (ivB x y) x y k)) 25)
    obtain ⟨a1, a2, a3, a4, _⟩ := Held.s4 H2.out
    clear hb
    go_wp2_with fail
    refine (s_ScaleInterval _ _ _ _).mono ?_
    rintro e w3 ⟨rfl, hb⟩
    have H3 := Lib.hid ((H2.out.later hb).box2 (.int .i64 (scL (ivB x y) x y k)) (.int .i64 (scH (ivB x y) x y k)) 25)
    obtain ⟨b1, b2, b3, b4, b5, b6, _⟩ := Held.s6 H3.out
    clear hb a1 a2 a3 a4
    by_cases he : scE (ivB x y) x y k = 0
    · have e0 : (scE (ivB x y) x y k != 0) = false := by simp [he]
      obtain ⟨hv, k1, k2, eL, eH⟩ := scE_0 he
      have HE := Lib.hid he
      obtain ⟨g1, g2, g3, g4, g5⟩ := bounds_of_ivB hv
      have EL := Lib.hid eL; have EH := Lib.hid eH; have HV := Lib.hid hv
      clear he hv eL eH
      go_wp2_with fail
      refine intoHeld H3.out ?_
      intro W hW
      have HW := Lib.hid hW
      have HWd := Lib.hid hW.drew
      obtain ⟨b1, b2, b3, b4, b5, b6, _⟩ := Held.s6 hW
      clear hW
      go_upto_region 10 with (fail)
      go_cut [9] (fun s9 wx => ∃ v : Int, s9 = .int .i64 v ∧ x ≤ v ∧ v ≤ y ∧ Held [(w3.heap.size, 0, .int .i64 (scL (ivB x y) x y k)), (w3.heap.size, 1, .int .i64 (scH (ivB x y) x y k)), (w2.heap.size, 0, .int .i64 (scL (ivB x y) x y k)), (w2.heap.size, 1, .int .i64 (scH (ivB x y) x y k)), (w1.heap.size, 0, .int .i64 x), (w1.heap.size, 1, .int .i64 y)] w wx)
      case first =>
        have q1 : IntKind.i64.wrap (y - x) = y - x := IntWalk.i64_in _ (by omega)
        have q2 : IntKind.i64.wrap (y - x + 1) = y - x + 1 := IntWalk.i64_in _ (by omega)
        go_region_held3 (fun w' => w'.cell? ⟨w1.heap.size, 0, none⟩ = some (.int .i64 x) ∧ w'.cell? ⟨w1.heap.size, 1, none⟩ = some (.int .i64 y))
          (first | exact ⟨Held.at H5.out _ _ _ (by simp), Held.at H5.out _ _ _ (by simp)⟩ | exact ⟨Held.at H4.out _ _ _ (by simp), Held.at H4.out _ _ _ (by simp)⟩ | exact ⟨Held.at HWd.out _ _ _ (by simp), Held.at HWd.out _ _ _ (by simp)⟩)
          (first
            | (go_at_call 21; refine (l_roll _ _ _ _ _ (Bytes.held HS.out HWd.out)).mono ?_; rintro e w4 ⟨rfl, dice, lt, bel⟩; have H4 := Lib.hid (HWd.out.later bel); have D4 := Lib.hid dice; clear dice lt bel)
            | (go_at_call 22; refine (l_below _ _ _ _ _ _ D4.out (by omega) (by omega)).mono ?_; rintro e w5 ⟨r, rfl, r0, r1, dice, gr⟩; have H5 := Lib.hid (H4.out.grown HWd.out (Nat.le_refl _) gr); have q3 : IntKind.i64.wrap (x + r) = x + r := IntWalk.i64_in _ (by omega); clear dice gr))
        all_goals
          go_wp2_with fail
          go_meet
          exact ⟨_, rfl, by omega, by omega, H5.out⟩
      case rest =>
        obtain ⟨v, rfl, v1, v2, h6⟩ := hcut
        have H6 := Lib.hid h6
        obtain ⟨d1, d2, d3, d4, d5, d6, _⟩ := Held.s6 h6
        clear h6
        obtain ⟨m1, m2⟩ := mulk_bd v k (by omega) (by omega) k1 k2
        have mb := mul_between x y v k v1 v2
        rw [← EL.out, ← EH.out] at mb
        obtain ⟨p1, p2⟩ := mb
        go_wp2_with fail
        refine (i_ScaleInterval_neg _ _ _ HV.out).mono ?_
        rintro e w7 ⟨rfl, hb⟩
        have H7 := Lib.hid ((H6.out.later hb).box2 (.int .i64 (-y)) (.int .i64 (-x)) 25)
        obtain ⟨d1, d2, d3, d4, d5, d6, d7, d8, _⟩ := Held.s8 H7.out
        clear hb
        go_wp2_with fail
        go_ret
        exact ⟨rfl, H7.out.is⟩
    · have e0 : (scE (ivB x y) x y k != 0) = true := by simp [he]
      clear he
      go_wp2_with fail
      go_ret
      exact ⟨rfl, H3.out.is⟩
end Go.Proofs.Ytpadigebbgcopaa
