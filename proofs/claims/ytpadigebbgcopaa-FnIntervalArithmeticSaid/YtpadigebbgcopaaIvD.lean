/- Drawn intervals: whatever is drawn, its bounds are int64 values, and nothing that was there is touched but the source. -/
import Derived.Test.YtpadigebbgcopaaIvS
import Derived.Test.YtpadigebbgcopaaSt
import Derived.RegionTactic
import Derived.ChangeAlike
namespace Go.Proofs.Ytpadigebbgcopaa
open Go.RowKit
set_option maxHeartbeats 2000000
set_option linter.unusedVariables false
set_option linter.unusedSimpArgs false
/-- what a draw of an interval leaves -/
def DrawnI (w : World) (B : Nat) (a : Option Addr) (len cap : Nat) (e : Ending) (w' : World) : Prop :=
  ∃ x y : Int, e = .returned (.agg #[.int .i64 x, .int .i64 y]) ∧ InR x ∧ InR y ∧ Src w' B a len cap ∧ w.grownBy w' (some B)
def DrawnI2 (w : World) (B : Nat) (a : Option Addr) (len cap : Nat) (e : Ending) (w' : World) : Prop :=
  ∃ x y z t : Int, e = .returned (.tuple #[.agg #[.int .i64 x, .int .i64 y], .agg #[.int .i64 z, .int .i64 t]]) ∧ InR x ∧ InR y ∧ InR z ∧ InR t ∧ Src w' B a len cap ∧ w.grownBy w' (some B)
theorem s_l02Draw (B : Nat) (a : Option Addr) (len cap : Nat) (w : World) (hs : Src w B a len cap) :
    Calls Try.prog 45 #[.pointer (some ⟨B, 0, none⟩)] w (DrawnI w B a len cap) := by
  have HS := Lib.hid hs
  clear hs
  go_enter Try.func45, Try.ntmps45
  go_wp2_with fail
  have T0 := Lib.hid ((St.begin HS.out).box2 (.int .i64 0) (.int .i64 0) 25)
  refine (s_DrawValue B a len cap _ T0.out.src).mono ?_
  rintro e w1 ⟨x, rfl, hx, src, gr⟩
  have T1 := Lib.hid (T0.out.call src gr); have HX := Lib.hid hx
  clear gr src hx
  go_wp2_with fail
  refine (s_DrawValue B a len cap _ T1.out.src).mono ?_
  rintro e w2 ⟨y, rfl, hy, src, gr⟩
  have T2 := Lib.hid (T1.out.call src gr); have HY := Lib.hid hy
  clear gr src hy
  go_wp2_with fail
  refine (s_Next B a len cap 24 _ T2.out.src (by omega) (by omega)).mono ?_
  rintro e w3 ⟨r, rfl, r0, r1, r2, src, gr⟩
  have T3 := Lib.hid (T2.out.call src gr)
  obtain ⟨f1, f2, f3, f4⟩ := St.s2 T3.out
  clear gr src r1 r2
  have fin : ∀ u v : Value, Hid (Src ((w3.setCell ⟨w.heap.size, 0, none⟩ u).setCell ⟨w.heap.size, 1, none⟩ v) B a len cap ∧ w.grownBy ((w3.setCell ⟨w.heap.size, 0, none⟩ u).setCell ⟨w.heap.size, 1, none⟩ v) (some B)) := by
    intro u v
    have h := ((T3.out.fewer.fewer).set w.heap.size 0 u (Nat.le_refl _) (by simp)).set w.heap.size 1 v (Nat.le_refl _) (by simp)
    exact Lib.hid ⟨h.src, h.grown⟩
  by_cases c0 : r = 0
  · subst c0
    go_wp2
    refine bodyPost_ret (v := .agg #[.int .i64 x, .int .i64 y]) (by simp [results, Try.results45, go_sem, *]) rfl ⟨_, _, rfl, HX.out, HY.out, (fin _ _).out⟩
  · have e0 : (r == 0) = false := by simpa using c0
    clear c0
    by_cases q1 : x < y
    · go_wp2
      refine bodyPost_ret (v := .agg #[.int .i64 x, .int .i64 y]) (by simp [results, Try.results45, go_sem, *]) rfl ⟨_, _, rfl, HX.out, HY.out, (fin _ _).out⟩
    · by_cases q2 : y < x
      · clear q1
        go_wp2
        refine bodyPost_ret (v := .agg #[.int .i64 y, .int .i64 x]) (by simp [results, Try.results45, go_sem, *]) rfl ⟨_, _, rfl, HY.out, HX.out, (fin _ _).out⟩
      · have q1 : y ≤ x := by omega
        have q2 : x ≤ y := by omega
        go_wp2
        refine bodyPost_ret (v := .agg #[.int .i64 x, .int .i64 x]) (by simp [results, Try.results45, go_sem, *]) rfl ⟨_, _, rfl, HX.out, HX.out, (fin _ _).out⟩
theorem s_l02DrawTwo (B : Nat) (a : Option Addr) (len cap : Nat) (w : World) (hs : Src w B a len cap) :
    Calls Try.prog 38 #[.pointer (some ⟨B, 0, none⟩)] w (DrawnI2 w B a len cap) := by
  have HS := Lib.hid hs
  clear hs
  go_enter Try.func38, Try.ntmps38
  go_wp2_with fail
  have T0 := Lib.hid (((St.begin HS.out).box2 (.int .i64 0) (.int .i64 0) 25).box2 (.int .i64 0) (.int .i64 0) 25)
  refine (s_l02Draw B a len cap _ T0.out.src).mono ?_
  rintro e w1 ⟨x, y, rfl, hx, hy, src, gr⟩
  have z1 := gr.size
  have T1 := Lib.hid ((T0.out.call src gr).box2 (.int .i64 x) (.int .i64 y) 25); have HX := Lib.hid hx; have HY := Lib.hid hy
  clear gr src hx hy
  go_wp2_with fail
  refine (s_l02Draw B a len cap _ T1.out.src).mono ?_
  rintro e w2 ⟨z, t, rfl, hz, ht, src, gr⟩
  have z2 := gr.size
  have T2 := Lib.hid ((T1.out.call src gr).box2 (.int .i64 z) (.int .i64 t) 25); have HZ := Lib.hid hz; have HT := Lib.hid ht
  clear gr src hz ht
  go_wp2_with fail
  refine (s_Next B a len cap 4 _ T2.out.src (by omega) (by omega)).mono ?_
  rintro e w3 ⟨r, rfl, r0, r1, r2, src, gr⟩
  have T3 := Lib.hid (T2.out.call src gr)
  clear gr src r1 r2
  have hh := St.s8 T3.out
  simp only [World.size_alloc] at hh
  simp only [World.size_alloc] at z1 z2
  have n1 : w.heap.size ≠ w1.heap.size := by omega
  have n2 : w.heap.size ≠ w2.heap.size := by omega
  have n3 : w.heap.size + 1 ≠ w1.heap.size := by omega
  have n4 : w.heap.size + 1 ≠ w2.heap.size := by omega
  have n5 : w1.heap.size ≠ w2.heap.size := by omega
  have m1 := n1.symm; have m2 := n2.symm; have m3 := n3.symm; have m4 := n4.symm; have m5 := n5.symm
  clear z1 z2
  obtain ⟨a1, a2, a3, a4, a5, a6, a7, a8, a9, a10, a11, a12, a13, a14, a15, a16⟩ := hh
  have fin : ∀ W : World, Hid (St [] B a len cap w W) → ∀ u v p q : Value, Src ((((W.setCell ⟨w.heap.size, 0, none⟩ u).setCell ⟨w.heap.size, 1, none⟩ v).setCell ⟨w.heap.size + 1, 0, none⟩ p).setCell ⟨w.heap.size + 1, 1, none⟩ q).drew B a len cap ∧ w.grownBy ((((W.setCell ⟨w.heap.size, 0, none⟩ u).setCell ⟨w.heap.size, 1, none⟩ v).setCell ⟨w.heap.size + 1, 0, none⟩ p).setCell ⟨w.heap.size + 1, 1, none⟩ q).drew (some B) := by
    intro W hW u v p q
    have h := (((((hW.out.set w.heap.size 0 u (by omega) (by simp)).set w.heap.size 1 v (by omega) (by simp)).set (w.heap.size + 1) 0 p (by omega) (by simp)).set (w.heap.size + 1) 1 q (by omega) (by simp))).drew
    exact ⟨h.src, h.grown⟩
  have FIN := Lib.hid fin
  clear fin
  have TT := Lib.hid T3.out.bare
  by_cases c0 : r = 0
  · subst c0
    have T3' : Hid (St [(w2.heap.size, 0, .int .i64 z), (w2.heap.size, 1, .int .i64 t), (w1.heap.size, 0, .int .i64 x), (w1.heap.size, 1, .int .i64 y), (w.heap.size + 1, 0, .int .i64 0), (w.heap.size + 1, 1, .int .i64 0), (w.heap.size, 0, .int .i64 0), (w.heap.size, 1, .int .i64 0)] B a len cap w w3) := by
      have h := T3.out
      simp only [World.size_alloc] at h
      exact Lib.hid h
    clear a1 a2 a3 a4 a5 a6 a7 a8 a9 a10 a11 a12 a13 a14 a15 a16
    obtain ⟨a1, a2, a3, a4, a5, a6, a7, a8, a9, a10, a11, a12, a13, a14, a15, a16⟩ := St.s8 T3'.out
    have lx : w1.heap.size < w3.heap.size := (T3'.out.szl w1.heap.size 0 (.int .i64 x) (by simp)).2
    by_cases hv : ivB x y = true
    · obtain ⟨g1, g2, g3, g4, g5⟩ := bounds_of_ivB hv
      by_cases hy : y < 1000000
      · go_wp2_with (go_at_call 35; refine (s_IsInterval _ _ _).mono ?_; rintro e w4 ⟨rfl, hb⟩; obtain ⟨H, hcc, hff, hzz⟩ := later_facts hb; clear hb)
        refine into (St [(w2.heap.size, 0, .int .i64 z), (w2.heap.size, 1, .int .i64 t), (w1.heap.size, 0, .int .i64 x), (w1.heap.size, 1, .int .i64 y), (w.heap.size + 1, 0, .int .i64 0), (w.heap.size + 1, 1, .int .i64 0), (w.heap.size, 0, .int .i64 0), (w.heap.size, 1, .int .i64 0)] B a len cap w) (T3'.out.later H.out) ?_
        intro W hW
        have HW := Lib.hid hW
        have HWd := Lib.hid hW.drew
        clear hcc hff hzz
        have hh := St.s8 hW
        obtain ⟨a1, a2, a3, a4, a5, a6, a7, a8, a9, a10, a11, a12, a13, a14, a15, a16⟩ := hh
        clear hW
        go_region_held3 (fun w' => w'.cell? ⟨w1.heap.size, 1, none⟩ = some (.int .i64 y)) (first | assumption | go_keep)
          (first
            | (go_at_call 47; refine (s_Next B a len cap _ _ (St.src (Hid.out (by assumption))) (by omega) (by omega)).mono ?_; rintro e w5 ⟨q, rfl, q0, q1, q2, src, gr⟩; have T := Lib.hid (St.call (Hid.out (by assumption)) src gr); have hq := q1 (by omega); obtain ⟨a1, a2, a3, a4, a5, a6, a7, a8, a9, a10, a11, a12, a13, a14, a15, a16⟩ := St.s8 T.out; clear src gr q1 q2))
        rename_i q' q0' T' hq' a1' a2' a3' a4' a5' a6' a7' a8' a9' a10' a11' a12' a13' a14' a15' a16' hh'
        clear a1' a2' a3' a4' a5' a6' a7' a8' a9' a10' a11' a12' a13' a14' a15' a16' hh' a1 a2 a3 a4 a5 a6 a7 a8 a9 a10 a11 a12 a13 a14 a15 a16
        go_wp2_with fail
        refine intoSt (St.store2 T.out (by simp [n2, n4, n5])) ?_
        intro W' hW'
        have HW' := Lib.hid hW'
        have hh := St.s8 hW'
        obtain ⟨a1, a2, a3, a4, a5, a6, a7, a8, a9, a10, a11, a12, a13, a14, a15, a16⟩ := hh
        clear hW'
        go_region
        go_wp2_with fail
        refine bodyPost_ret (v := .tuple #[.agg #[.int .i64 x, .int .i64 y], .agg #[.int .i64 (y + q'), .int .i64 (y + 1 + q)]]) (by simp [results, Try.results38, go_sem, *]) rfl ⟨_, _, _, _, rfl, HX.out, HY.out, ⟨by omega, by omega⟩, ⟨by omega, by omega⟩, ?_⟩
        exact FIN.out _ (Lib.hid HW'.out.bare) _ _ _ _
      · have hy : 1000000 ≤ y := by omega
        go_wp2_with (go_at_call 35; refine (s_IsInterval _ _ _).mono ?_; rintro e w4 ⟨rfl, hb⟩; obtain ⟨H, hcc, hff, hzz⟩ := later_facts hb; clear hb)
        refine into (St [(w2.heap.size, 0, .int .i64 z), (w2.heap.size, 1, .int .i64 t), (w1.heap.size, 0, .int .i64 x), (w1.heap.size, 1, .int .i64 y), (w.heap.size + 1, 0, .int .i64 0), (w.heap.size + 1, 1, .int .i64 0), (w.heap.size, 0, .int .i64 0), (w.heap.size, 1, .int .i64 0)] B a len cap w) (T3'.out.later H.out) ?_
        intro W hW
        have HW := Lib.hid hW
        have hh := St.s8 hW
        obtain ⟨a1, a2, a3, a4, a5, a6, a7, a8, a9, a10, a11, a12, a13, a14, a15, a16⟩ := hh
        clear hW
        go_region
        go_wp2_with fail
        refine bodyPost_ret (v := .tuple #[.agg #[.int .i64 x, .int .i64 y], .agg #[.int .i64 z, .int .i64 t]]) (by simp [results, Try.results38, go_sem, *]) rfl ⟨_, _, _, _, rfl, HX.out, HY.out, HZ.out, HT.out, ?_⟩
        exact FIN.out _ (Lib.hid HW.out.bare) _ _ _ _
    · have hv : ivB x y = false := by simpa using hv
      go_wp2_with (go_at_call 35; refine (s_IsInterval _ _ _).mono ?_; rintro e w4 ⟨rfl, hb⟩; obtain ⟨H, hcc, hff, hzz⟩ := later_facts hb; clear hb)
      refine into (St [(w2.heap.size, 0, .int .i64 z), (w2.heap.size, 1, .int .i64 t), (w1.heap.size, 0, .int .i64 x), (w1.heap.size, 1, .int .i64 y), (w.heap.size + 1, 0, .int .i64 0), (w.heap.size + 1, 1, .int .i64 0), (w.heap.size, 0, .int .i64 0), (w.heap.size, 1, .int .i64 0)] B a len cap w) (T3'.out.later H.out) ?_
      intro W hW
      have HW := Lib.hid hW
      have hh := St.s8 hW
      obtain ⟨a1, a2, a3, a4, a5, a6, a7, a8, a9, a10, a11, a12, a13, a14, a15, a16⟩ := hh
      clear hW
      go_region
      go_wp2_with fail
      refine bodyPost_ret (v := .tuple #[.agg #[.int .i64 x, .int .i64 y], .agg #[.int .i64 z, .int .i64 t]]) (by simp [results, Try.results38, go_sem, *]) rfl ⟨_, _, _, _, rfl, HX.out, HY.out, HZ.out, HT.out, ?_⟩
      exact FIN.out _ (Lib.hid HW.out.bare) _ _ _ _
  · have e0 : (r == 0) = false := by simpa using c0
    clear c0
    go_wp2_with fail
    go_region
    go_wp2_with fail
    refine bodyPost_ret (v := .tuple #[.agg #[.int .i64 x, .int .i64 y], .agg #[.int .i64 z, .int .i64 t]]) (by simp [results, Try.results38, go_sem, *]) rfl ⟨_, _, _, _, rfl, HX.out, HY.out, HZ.out, HT.out, ?_⟩
    exact FIN.out _ TT _ _ _ _
end Go.Proofs.Ytpadigebbgcopaa
