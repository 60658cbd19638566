/- Contracts of chapter 2: the common part, scaling, tests, comparisons, of the program. -/
import Derived.Test.YtnmlkigpiaekjaaIv2
namespace Go.Proofs.Ytnmlkigpiaekjaa
open Go.RowKit
set_option maxHeartbeats 2000000
set_option linter.unusedVariables false
set_option linter.unusedSimpArgs false
/-- the common part: (x, y) its greatest lower and least upper bound -/
def cpE (v : Bool) (x y : Int) : Int := if v then (if y < x then 4 else 0) else 1
def cpL (v : Bool) (x y : Int) : Int := if v then (if y < x then 0 else x) else 0
def cpH (v : Bool) (x y : Int) : Int := if v then (if y < x then 0 else y) else 0
theorem op_valid {x y : Int} (h1 : -1000000000000 ≤ x) (h2 : x ≤ 1000000000000) (h3 : -1000000000000 ≤ y) (h4 : y ≤ 1000000000000) : opE true x y = 0 ∧ opL true x y = x ∧ opH true x y = y := by
  have e1 := (isVB_iff x).2 ⟨h1, h2⟩
  have e2 := (isVB_iff y).2 ⟨h3, h4⟩
  simp [opE, opL, opH, wvE, wvL, wvH, e1, e2]
/-- an interval, scaled -/
def sclB (k : Int) : Bool := decide (-1000000 ≤ k) && decide (k ≤ 1000000)
def scE (v : Bool) (a b k : Int) : Int := if v then (if sclB k then wvE (min (a * k) (b * k)) (max (a * k) (b * k)) else 2) else 1
def scL (v : Bool) (a b k : Int) : Int := if v then (if sclB k then wvL (min (a * k) (b * k)) (max (a * k) (b * k)) else 0) else 0
def scH (v : Bool) (a b k : Int) : Int := if v then (if sclB k then wvH (min (a * k) (b * k)) (max (a * k) (b * k)) else 0) else 0
theorem mulk_bd (x k : Int) (h1 : -1000000000000 ≤ x) (h2 : x ≤ 1000000000000) (h3 : -1000000 ≤ k) (h4 : k ≤ 1000000) : -1000000000000000000 ≤ x * k ∧ x * k ≤ 1000000000000000000 := by
  by_cases hk : 0 ≤ k
  · have a : x * k ≤ 1000000000000 * k := Int.mul_le_mul_of_nonneg_right h2 hk
    have b : -1000000000000 * k ≤ x * k := Int.mul_le_mul_of_nonneg_right h1 hk
    omega
  · have a : x * (-k) ≤ 1000000000000 * (-k) := Int.mul_le_mul_of_nonneg_right h2 (by omega)
    have b : -1000000000000 * (-k) ≤ x * (-k) := Int.mul_le_mul_of_nonneg_right h1 (by omega)
    have e : x * (-k) = -(x * k) := Int.mul_neg x k
    omega
/-- the order of two intervals -/
def ordV (v : Bool) (a b c d : Int) : Int := if v then (if b < c then -1 else if d < a then 1 else 0) else 0
def ordE (v : Bool) : Int := if v then 0 else 1
theorem i_times (a b k : Int) (w : World) (h1 : -1000000000000 ≤ a) (h2 : a ≤ 1000000000000) (h3 : -1000000000000 ≤ b) (h4 : b ≤ 1000000000000) (h7 : a ≤ b) (h5 : -1000000 ≤ k) (h6 : k ≤ 1000000) :
    Calls Try.prog 99 #[.agg #[.int .i64 a, .int .i64 b], .int .i64 k] w fun e w' => e = .returned (.agg #[.int .i64 (min (a * k) (b * k)), .int .i64 (max (a * k) (b * k))]) ∧ Later w w' := by
  obtain ⟨m1, m2⟩ := mulk_bd a k h1 h2 h5 h6
  obtain ⟨m3, m4⟩ := mulk_bd b k h3 h4 h5 h6
  by_cases hk : k < 0
  · have m5 : b * k ≤ a * k := Int.mul_le_mul_of_nonpos_right h7 (by omega)
    go_enter Try.func99, Try.ntmps99
    go_wp2
    refine bodyPost_ret (v := .agg #[.int .i64 (min (a * k) (b * k)), .int .i64 (max (a * k) (b * k))]) (by simp [results, Try.results99, go_sem]; omega) rfl ⟨rfl, ?_⟩
    exact (by repeat (first | exact Later.refl _ | refine Later.setCell ?_ (by simp; omega) _ | refine Later.setCell ?_ (by simp) _ | refine Later.alloc ?_ _ | refine Later.trans ?_ (Hid.out (by assumption))))
  · have m5 : a * k ≤ b * k := Int.mul_le_mul_of_nonneg_right h7 (by omega)
    have hk : 0 ≤ k := by omega
    go_enter Try.func99, Try.ntmps99
    go_wp2
    refine bodyPost_ret (v := .agg #[.int .i64 (min (a * k) (b * k)), .int .i64 (max (a * k) (b * k))]) (by simp [results, Try.results99, go_sem]; omega) rfl ⟨rfl, ?_⟩
    exact (by repeat (first | exact Later.refl _ | refine Later.setCell ?_ (by simp; omega) _ | refine Later.setCell ?_ (by simp) _ | refine Later.alloc ?_ _ | refine Later.trans ?_ (Hid.out (by assumption))))
end Go.Proofs.Ytnmlkigpiaekjaa
