/- Drawn segments that need not be valid. -/
import Derived.Test.YtnmlkigpiaekjaaSgD
namespace Go.Proofs.Ytnmlkigpiaekjaa
open Go.RowKit
set_option maxHeartbeats 4000000
set_option linter.unusedVariables false
set_option linter.unusedSimpArgs false
set_option maxRecDepth 100000 in
theorem s_DrawAny (B : Nat) (a : Option Addr) (len cap : Nat) (w : World) (hs : Src w B a len cap) :
    Calls Try.prog 95 #[.pointer (some ⟨B, 0, none⟩)] w (DrawnSg w B a len cap) := by
  have HS := Lib.hid hs
  clear hs
  go_enter Try.func95, Try.ntmps95
  go_wp2_with fail
  have T0 := Lib.hid ((St.begin HS.out).box7 (.int .i64 0) (.int .i64 0) (.int .i64 0) (.int .i64 0) (.int .i64 0) (.int .i64 0) (.int .i64 0) 77)
  refine (s_Next B a len cap _ _ T0.out.src (by omega) (by omega)).mono ?_
  rintro e w1 ⟨kk, rfl, x0, x1, x2, src, gr⟩
  have T1 := Lib.hid (T0.out.call src gr)
  have hx := x1 (by omega)
  clear gr src x1 x2
  go_wp2_with fail
  refine (s_DrawSegment B a len cap _ _ T1.out.src (by omega) (by omega)).mono ?_
  rintro e w2 ⟨k, l, r, x, y, z, t, rfl, hk, hl, hr, hxx, hy, hz, ht, src, gr⟩
  have T2 := Lib.hid (T1.out.call src gr)
  have T3 := Lib.hid (T2.out.box7 (.int .i64 k) (.int .i64 l) (.int .i64 r) (.int .i64 x) (.int .i64 y) (.int .i64 z) (.int .i64 t) 77)
  have Hk := Lib.hid hk; have Hl := Lib.hid hl; have Hr := Lib.hid hr; have Hx := Lib.hid hxx; have Hy := Lib.hid hy; have Hz := Lib.hid hz; have Ht := Lib.hid ht
  obtain ⟨l1, l2⟩ := hl
  clear gr src hk hr hxx hy hz ht hx x0
  go_wp2_with fail
  refine (s_Next B a len cap _ _ T3.out.src (by omega) (by omega)).mono ?_
  rintro e w3 ⟨c, rfl, x0, x1, x2, src, gr⟩
  have T4 := Lib.hid (T3.out.call src gr)
  clear gr src x1 x2
  have hsz := T2.out.le
  have hne : w.heap.size ≠ w2.heap.size := by have := (T2.out.szl w.heap.size 0 (.int .i64 0) (by simp)).2; omega
  have fin : ∀ W : World, St [] B a len cap w W → ∀ u0 u1 u2 u3 u4 u5 u6 : Value, Hid (Src (((((((W.setCell ⟨w.heap.size, 0, none⟩ u0).setCell ⟨w.heap.size, 1, none⟩ u1).setCell ⟨w.heap.size, 2, none⟩ u2).setCell ⟨w.heap.size, 3, none⟩ u3).setCell ⟨w.heap.size, 4, none⟩ u4).setCell ⟨w.heap.size, 5, none⟩ u5).setCell ⟨w.heap.size, 6, none⟩ u6) B a len cap ∧ w.grownBy (((((((W.setCell ⟨w.heap.size, 0, none⟩ u0).setCell ⟨w.heap.size, 1, none⟩ u1).setCell ⟨w.heap.size, 2, none⟩ u2).setCell ⟨w.heap.size, 3, none⟩ u3).setCell ⟨w.heap.size, 4, none⟩ u4).setCell ⟨w.heap.size, 5, none⟩ u5).setCell ⟨w.heap.size, 6, none⟩ u6) (some B)) := by
    intro W hW u0 u1 u2 u3 u4 u5 u6
    have h := (((((((hW.set w.heap.size 0 u0 (Nat.le_refl _) (by simp)).set w.heap.size 1 u1 (Nat.le_refl _) (by simp)).set w.heap.size 2 u2 (Nat.le_refl _) (by simp)).set w.heap.size 3 u3 (Nat.le_refl _) (by simp)).set w.heap.size 4 u4 (Nat.le_refl _) (by simp)).set w.heap.size 5 u5 (Nat.le_refl _) (by simp)).set w.heap.size 6 u6 (Nat.le_refl _) (by simp))
    exact Lib.hid ⟨h.src, h.grown⟩
  have FIN := Lib.hid fin
  clear fin
  by_cases c0 : c = 0
  · subst c0
    go_wp2_with fail
    have hlv := sl_new w3 [-1, 5, 0, 1] 2 (by simp) (by intro x hx; simp at hx; unfold InR; omega)
    refine (s_Pick B a len cap ⟨w3.heap.size, 0, none⟩ 4 4 _ _ (T4.out.src.alloc _) hlv (by have := T4.out.src.lt; show w3.heap.size ≠ B; omega) (by omega)).mono ?_
    rintro e w4 ⟨v, rfl, hrv, src, gr⟩
    have T5 := Lib.hid ((T4.out.alloc _).call src gr)
    clear gr src hlv
    obtain ⟨a0, a1, a2, a3, a4, a5, a6, a7, a8, a9, a10, a11, a12, a13, a14, a15, a16, a17, a18, a19, a20, a21, a22, a23, a24, a25, a26, a27⟩ := St.s14 T5.out
    go_wp2_with fail
    refine bodyPost_ret (v := .agg #[.int .i64 v, .int .i64 l, .int .i64 r, .int .i64 x, .int .i64 y, .int .i64 z, .int .i64 t]) (by simp [results, Try.results95, go_sem, *]) rfl ⟨v, l, r, x, y, z, t, rfl, ⟨by simp at hrv; omega, by simp at hrv; omega⟩, Hl.out, Hr.out, Hx.out, Hy.out, Hz.out, Ht.out, ?_⟩
    exact (FIN.out _ (T5.out.bare.set w2.heap.size 0 _ hsz (by simp)) _ _ _ _ _ _ _).out
  have e0 : (c == 0) = false := by simpa using c0
  by_cases c1 : c = 1
  · subst c1
    go_wp2_with fail
    have hlv := sl_new w3 [0, 1, 200000, 200001] 2 (by simp) (by intro x hx; simp at hx; unfold InR; omega)
    refine (s_Pick B a len cap ⟨w3.heap.size, 0, none⟩ 4 4 _ _ (T4.out.src.alloc _) hlv (by have := T4.out.src.lt; show w3.heap.size ≠ B; omega) (by omega)).mono ?_
    rintro e w4 ⟨v, rfl, hrv, src, gr⟩
    have T5 := Lib.hid ((T4.out.alloc _).call src gr)
    clear gr src hlv
    obtain ⟨a0, a1, a2, a3, a4, a5, a6, a7, a8, a9, a10, a11, a12, a13, a14, a15, a16, a17, a18, a19, a20, a21, a22, a23, a24, a25, a26, a27⟩ := St.s14 T5.out
    go_wp2_with fail
    refine bodyPost_ret (v := .agg #[.int .i64 k, .int .i64 v, .int .i64 r, .int .i64 x, .int .i64 y, .int .i64 z, .int .i64 t]) (by simp [results, Try.results95, go_sem, *]) rfl ⟨k, v, r, x, y, z, t, rfl, Hk.out, ⟨by simp at hrv; omega, by simp at hrv; omega⟩, Hr.out, Hx.out, Hy.out, Hz.out, Ht.out, ?_⟩
    exact (FIN.out _ (T5.out.bare.set w2.heap.size 1 _ hsz (by simp)) _ _ _ _ _ _ _).out
  have e1 : (c == 1) = false := by simpa using c1
  by_cases c2 : c = 2
  · subst c2
    have g1 := (T4.out.at w2.heap.size 1 (.int .i64 l) (by simp)).1
    go_wp2_with fail
    clear g1
    have hlv := sl_new w3 [l, -l, l + 1, -l - 1, 100001] 2 (by simp) (by intro x hx; simp at hx; unfold InR; omega)
    refine (s_Pick B a len cap ⟨w3.heap.size, 0, none⟩ 5 5 _ _ (T4.out.src.alloc _) hlv (by have := T4.out.src.lt; show w3.heap.size ≠ B; omega) (by omega)).mono ?_
    rintro e w4 ⟨v, rfl, hrv, src, gr⟩
    have T5 := Lib.hid ((T4.out.alloc _).call src gr)
    clear gr src hlv
    obtain ⟨a0, a1, a2, a3, a4, a5, a6, a7, a8, a9, a10, a11, a12, a13, a14, a15, a16, a17, a18, a19, a20, a21, a22, a23, a24, a25, a26, a27⟩ := St.s14 T5.out
    go_wp2_with fail
    refine bodyPost_ret (v := .agg #[.int .i64 k, .int .i64 l, .int .i64 v, .int .i64 x, .int .i64 y, .int .i64 z, .int .i64 t]) (by simp [results, Try.results95, go_sem, *]) rfl ⟨k, l, v, x, y, z, t, rfl, Hk.out, Hl.out, ⟨by simp at hrv; omega, by simp at hrv; omega⟩, Hx.out, Hy.out, Hz.out, Ht.out, ?_⟩
    exact (FIN.out _ (T5.out.bare.set w2.heap.size 2 _ hsz (by simp)) _ _ _ _ _ _ _).out
  have e2 : (c == 2) = false := by simpa using c2
  by_cases c3 : c = 3
  · subst c3
    go_wp2_with fail
    have hlv := sl_new w3 [-1, 0, 5] 2 (by simp) (by intro x hx; simp at hx; unfold InR; omega)
    refine (s_Pick B a len cap ⟨w3.heap.size, 0, none⟩ 3 3 _ _ (T4.out.src.alloc _) hlv (by have := T4.out.src.lt; show w3.heap.size ≠ B; omega) (by omega)).mono ?_
    rintro e w4 ⟨v, rfl, hrv, src, gr⟩
    have T5 := Lib.hid ((T4.out.alloc _).call src gr)
    clear gr src hlv
    go_wp2_with fail
    have hlv2 := sl_new w4 [4, 20000, 20001] 2 (by simp) (by intro x hx; simp at hx; unfold InR; omega)
    refine (s_Pick B a len cap ⟨w4.heap.size, 0, none⟩ 3 3 _ _ (T5.out.src.alloc _) hlv2 (by have := T5.out.src.lt; show w4.heap.size ≠ B; omega) (by omega)).mono ?_
    rintro e w5 ⟨v2, rfl, hrv2, src, gr⟩
    have T6 := Lib.hid ((T5.out.alloc _).call src gr)
    clear gr src hlv2
    obtain ⟨a0, a1, a2, a3, a4, a5, a6, a7, a8, a9, a10, a11, a12, a13, a14, a15, a16, a17, a18, a19, a20, a21, a22, a23, a24, a25, a26, a27⟩ := St.s14 T6.out
    go_wp2_with fail
    refine bodyPost_ret (v := .agg #[.int .i64 k, .int .i64 l, .int .i64 r, .int .i64 v, .int .i64 v2, .int .i64 z, .int .i64 t]) (by simp [results, Try.results95, go_sem, *]) rfl ⟨k, l, r, v, v2, z, t, rfl, Hk.out, Hl.out, Hr.out, ⟨by simp at hrv; omega, by simp at hrv; omega⟩, ⟨by simp at hrv2; omega, by simp at hrv2; omega⟩, Hz.out, Ht.out, ?_⟩
    exact (FIN.out _ ((T6.out.bare.set w2.heap.size 3 _ hsz (by simp)).set w2.heap.size 4 _ hsz (by simp)) _ _ _ _ _ _ _).out
  have e3 : (c == 3) = false := by simpa using c3
  by_cases c4 : c = 4
  · subst c4
    go_wp2_with fail
    refine (s_Next B a len cap _ _ T4.out.src (by omega) (by omega)).mono ?_
    rintro e w4 ⟨v, rfl, v0, v1, v2, src, gr⟩
    have T5 := Lib.hid (T4.out.call src gr)
    have hv : Sm v := ⟨by omega, by have := v1 (by omega); omega⟩
    have HV := Lib.hid hv
    clear gr src v1 v2 hv
    go_wp2_with fail
    have hlv2 := sl_new w4 [1, 20000, 20001] 2 (by simp) (by intro x hx; simp at hx; unfold InR; omega)
    refine (s_Pick B a len cap ⟨w4.heap.size, 0, none⟩ 3 3 _ _ (T5.out.src.alloc _) hlv2 (by have := T5.out.src.lt; show w4.heap.size ≠ B; omega) (by omega)).mono ?_
    rintro e w5 ⟨v2, rfl, hrv2, src, gr⟩
    have T6 := Lib.hid ((T5.out.alloc _).call src gr)
    clear gr src hlv2
    obtain ⟨a0, a1, a2, a3, a4, a5, a6, a7, a8, a9, a10, a11, a12, a13, a14, a15, a16, a17, a18, a19, a20, a21, a22, a23, a24, a25, a26, a27⟩ := St.s14 T6.out
    go_wp2_with fail
    refine bodyPost_ret (v := .agg #[.int .i64 k, .int .i64 l, .int .i64 r, .int .i64 x, .int .i64 y, .int .i64 v, .int .i64 v2]) (by simp [results, Try.results95, go_sem, *]) rfl ⟨k, l, r, x, y, v, v2, rfl, Hk.out, Hl.out, Hr.out, Hx.out, Hy.out, HV.out, ⟨by simp at hrv2; omega, by simp at hrv2; omega⟩, ?_⟩
    exact (FIN.out _ ((T6.out.bare.set w2.heap.size 5 _ hsz (by simp)).set w2.heap.size 6 _ hsz (by simp)) _ _ _ _ _ _ _).out
  have e4 : (c == 4) = false := by simpa using c4
  clear c0 c1 c2 c3 c4
  obtain ⟨a0, a1, a2, a3, a4, a5, a6, a7, a8, a9, a10, a11, a12, a13, a14, a15, a16, a17, a18, a19, a20, a21, a22, a23, a24, a25, a26, a27⟩ := St.s14 T4.out
  go_wp2_with fail
  refine bodyPost_ret (v := .agg #[.int .i64 k, .int .i64 l, .int .i64 r, .int .i64 x, .int .i64 y, .int .i64 z, .int .i64 t]) (by simp [results, Try.results95, go_sem, *]) rfl ⟨k, l, r, x, y, z, t, rfl, Hk.out, Hl.out, Hr.out, Hx.out, Hy.out, Hz.out, Ht.out, ?_⟩
  exact (FIN.out _ T4.out.bare _ _ _ _ _ _ _).out
end Go.Proofs.Ytnmlkigpiaekjaa
