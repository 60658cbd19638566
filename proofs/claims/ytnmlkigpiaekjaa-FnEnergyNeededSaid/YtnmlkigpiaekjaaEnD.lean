/- Drawn energies, speeds, segments with energies. -/
import Derived.Test.YtnmlkigpiaekjaaEnS
import Derived.Test.YtnmlkigpiaekjaaIvD
import Derived.Test.YtnmlkigpiaekjaaSgA
import Derived.Test.YtnmlkigpiaekjaaFrom
namespace Go.Proofs.Ytnmlkigpiaekjaa
open Go.RowKit
set_option maxHeartbeats 4000000
set_option linter.unusedVariables false
set_option linter.unusedSimpArgs false
/-- what a drawn energy is: numbers that no sum of a run can make overflow -/
def Smq (x : Int) : Prop := -1 ≤ x ∧ x ≤ 20000000000
def DrawnEn (w : World) (B : Nat) (a : Option Addr) (len cap : Nat) (e : Ending) (w' : World) : Prop :=
  ∃ x y : Int, e = .returned (.agg #[.int .i64 x, .int .i64 y]) ∧ Smq x ∧ Smq y ∧ Src w' B a len cap ∧ w.grownBy w' (some B)
set_option maxRecDepth 100000 in
theorem s_l06Draw (B : Nat) (a : Option Addr) (len cap : Nat) (w : World) (hs : Src w B a len cap) :
    Calls Try.prog 37 #[.pointer (some ⟨B, 0, none⟩)] w (DrawnEn w B a len cap) := by
  have HS := Lib.hid hs
  clear hs
  go_enter Try.func37, Try.ntmps37
  go_wp2_with fail
  have T0 := Lib.hid ((St.begin HS.out).box2 (.int .i64 0) (.int .i64 0) 28)
  refine (s_Next B a len cap _ _ T0.out.src (by omega) (by omega)).mono ?_
  rintro e w1 ⟨v, rfl, v0, v1, v2, src, gr⟩
  have T1 := Lib.hid (T0.out.call src gr)
  have hv := v1 (by omega)
  have hvv : 0 ≤ v * v ∧ v * v ≤ 900000000 := ⟨Int.mul_nonneg v0 v0, by have := Int.mul_le_mul (show v ≤ 30000 by omega) (show v ≤ 30000 by omega) v0 (by omega : (0 : Int) ≤ 30000); omega⟩
  obtain ⟨lo, hlo⟩ : ∃ lo, lo = v * v := ⟨_, rfl⟩
  clear gr src v1 v2
  go_wp2_with fail
  refine (s_Next B a len cap _ _ T1.out.src (by omega) (by omega)).mono ?_
  rintro e w2 ⟨u, rfl, u0, u1, u2, src, gr⟩
  have T2 := Lib.hid (T1.out.call src gr)
  have hu := u1 (by omega)
  clear gr src u1 u2
  rw [← hlo] at hvv
  go_wp2_with fail
  rw [← hlo]
  have T3 := Lib.hid (T2.out.box2 (.int .i64 lo) (.int .i64 (lo + u)) 28)
  have hsz := T2.out.le
  have hne : w.heap.size ≠ w2.heap.size := by have := (T2.out.szl w.heap.size 0 (.int .i64 0) (by simp)).2; omega
  have hne' : w2.heap.size ≠ w.heap.size := fun e => hne e.symm
  have PX : Smq lo := ⟨by omega, by omega⟩
  have PY : Smq (lo + u) := ⟨by omega, by omega⟩
  obtain ⟨hi, hhi⟩ : ∃ hi, hi = lo + u := ⟨_, rfl⟩
  rw [← hhi] at T3 PY
  have hl1 : lo ≤ 900000000 := hvv.2
  have hl0 := hvv.1
  have hh0 : 0 ≤ hi := by omega
  have hh1 : hi ≤ 904000000 := by omega
  rw [← hhi]
  clear hlo hhi hvv hv hu u0 v0
  refine (s_Next B a len cap _ _ T3.out.src (by omega) (by omega)).mono ?_
  rintro e w3 ⟨c, rfl, x0, x1, x2, src, gr⟩
  have T4 := Lib.hid (T3.out.call src gr)
  clear gr src x1 x2 T3
  have fin : ∀ W : World, St [] B a len cap w W → ∀ u0 u1 : Value, Hid (Src ((W.setCell ⟨w.heap.size, 0, none⟩ u0).setCell ⟨w.heap.size, 1, none⟩ u1) B a len cap ∧ w.grownBy ((W.setCell ⟨w.heap.size, 0, none⟩ u0).setCell ⟨w.heap.size, 1, none⟩ u1) (some B)) := by
    intro W hW u0 u1
    have h := (hW.set w.heap.size 0 u0 (Nat.le_refl _) (by simp)).set w.heap.size 1 u1 (Nat.le_refl _) (by simp)
    exact Lib.hid ⟨h.src, h.grown⟩
  have FIN := Lib.hid fin
  clear fin
  by_cases c0 : c = 0
  · subst c0
    obtain ⟨a0, _, a2, _⟩ := St.s4 T4.out
    go_wp2_with fail
    clear a0 a2
    have hlv := sl_new w3 [-1, 0, hi, hi + 1] 2 (by simp) (by intro x hx; simp at hx; unfold InR; omega)
    refine (s_Pick B a len cap ⟨w3.heap.size, 0, none⟩ 4 4 _ _ (T4.out.src.alloc _) hlv (by have := T4.out.src.lt; show w3.heap.size ≠ B; omega) (by omega)).mono ?_
    rintro e w4 ⟨p, rfl, hrv, src, gr⟩
    have T5 := Lib.hid ((T4.out.alloc _).call src gr)
    have hp : Smq p := by simp at hrv; unfold Smq; omega
    clear gr src hlv hrv
    obtain ⟨a0, a1, a2, a3, a4, a5, a6, a7⟩ := St.s4 T5.out
    go_wp2_with fail
    refine bodyPost_ret (v := .agg #[.int .i64 p, .int .i64 hi]) (by simp [results, Try.results37, go_sem, *]) rfl ⟨_, _, rfl, hp, PY, ?_⟩
    exact (FIN.out _ (T5.out.bare.set w2.heap.size 0 _ hsz (by simp)) _ _).out
  have e0 : (c == 0) = false := by simpa using c0
  by_cases c1 : c = 1
  · subst c1
    go_wp2_with fail
    have hlv := sl_new w3 [10000000000, 10000000001] 2 (by simp) (by intro x hx; simp at hx; unfold InR; omega)
    refine (s_Pick B a len cap ⟨w3.heap.size, 0, none⟩ 2 2 _ _ (T4.out.src.alloc _) hlv (by have := T4.out.src.lt; show w3.heap.size ≠ B; omega) (by omega)).mono ?_
    rintro e w4 ⟨p, rfl, hrv, src, gr⟩
    have T5 := Lib.hid ((T4.out.alloc _).call src gr)
    have hp : Smq p := by simp at hrv; unfold Smq; omega
    clear gr src hlv hrv
    obtain ⟨a0, a1, a2, a3, a4, a5, a6, a7⟩ := St.s4 T5.out
    go_wp2_with fail
    refine bodyPost_ret (v := .agg #[.int .i64 lo, .int .i64 p]) (by simp [results, Try.results37, go_sem, *]) rfl ⟨_, _, rfl, PX, hp, ?_⟩
    exact (FIN.out _ (T5.out.bare.set w2.heap.size 1 _ hsz (by simp)) _ _).out
  have e1 : (c == 1) = false := by simpa using c1
  by_cases c2 : c = 2
  · subst c2
    obtain ⟨a0, a1, a2, a3, a4, a5, a6, a7⟩ := St.s4 T4.out
    go_wp2_with fail
    refine bodyPost_ret (v := .agg #[.int .i64 0, .int .i64 0]) (by simp [results, Try.results37, go_sem, *]) rfl ⟨_, _, rfl, ⟨by omega, by omega⟩, ⟨by omega, by omega⟩, ?_⟩
    exact (FIN.out _ ((T4.out.bare.set w2.heap.size 0 _ hsz (by simp)).set w2.heap.size 1 _ hsz (by simp)) _ _).out
  have e2 : (c == 2) = false := by simpa using c2
  obtain ⟨a0, a1, a2, a3, a4, a5, a6, a7⟩ := St.s4 T4.out
  go_wp2_with fail
  refine bodyPost_ret (v := .agg #[.int .i64 lo, .int .i64 hi]) (by simp [results, Try.results37, go_sem, *]) rfl ⟨_, _, rfl, PX, PY, ?_⟩
  exact (FIN.out _ T4.out.bare _ _).out
end Go.Proofs.Ytnmlkigpiaekjaa
