/- Contracts of chapter 2: the common part, scaling, tests, comparisons, of the program. -/
import Derived.Test.YtpadigebbgcopaaIv2
namespace Go.Proofs.Ytpadigebbgcopaa
open Go.RowKit
set_option maxHeartbeats 2000000
set_option linter.unusedVariables false
set_option linter.unusedSimpArgs false
/-- the common part: (x, y) its greatest lower and least upper bound -/
def cpE (v : Bool) (x y : Int) : Int := if v then (if y < x then 4 else 0) else 1
def cpL (v : Bool) (x y : Int) : Int := if v then (if y < x then 0 else x) else 0
def cpH (v : Bool) (x y : Int) : Int := if v then (if y < x then 0 else y) else 0
theorem op_valid {x y : Int} (h1 : -1000000000000 ≤ x) (h2 : x ≤ 1000000000000) (h3 : -1000000000000 ≤ y) (h4 : y ≤ 1000000000000) : opE true x y = 0 ∧ opL true x y = x ∧ opH true x y = y := by
  have e1 := (isVB_iff x).2 ⟨h1, h2⟩
  have e2 := (isVB_iff y).2 ⟨h3, h4⟩
  simp [opE, opL, opH, wvE, wvL, wvH, e1, e2]
/-- an interval, scaled -/
def scV (k : Int) : Bool := decide (-1000000 ≤ k) && decide (k ≤ 1000000)
def scE (v : Bool) (a b k : Int) : Int := if v then (if scV k then wvE (min (a * k) (b * k)) (max (a * k) (b * k)) else 2) else 1
def scL (v : Bool) (a b k : Int) : Int := if v then (if scV k then wvL (min (a * k) (b * k)) (max (a * k) (b * k)) else 0) else 0
def scH (v : Bool) (a b k : Int) : Int := if v then (if scV k then wvH (min (a * k) (b * k)) (max (a * k) (b * k)) else 0) else 0
theorem mulk_bd (x k : Int) (h1 : -1000000000000 ≤ x) (h2 : x ≤ 1000000000000) (h3 : -1000000 ≤ k) (h4 : k ≤ 1000000) : -1000000000000000000 ≤ x * k ∧ x * k ≤ 1000000000000000000 := by
  by_cases hk : 0 ≤ k
  · have a : x * k ≤ 1000000000000 * k := Int.mul_le_mul_of_nonneg_right h2 hk
    have b : -1000000000000 * k ≤ x * k := Int.mul_le_mul_of_nonneg_right h1 hk
    omega
  · have a : x * (-k) ≤ 1000000000000 * (-k) := Int.mul_le_mul_of_nonneg_right h2 (by omega)
    have b : -1000000000000 * (-k) ≤ x * (-k) := Int.mul_le_mul_of_nonneg_right h1 (by omega)
    have e : x * (-k) = -(x * k) := Int.mul_neg x k
    omega
/-- the order of two intervals -/
def ordV (v : Bool) (a b c d : Int) : Int := if v then (if b < c then -1 else if d < a then 1 else 0) else 0
def ordE (v : Bool) : Int := if v then 0 else 1
def winB (v : Bool) (a b c d : Int) : Bool := v && decide (c ≤ a) && decide (b ≤ d)
theorem i_CommonPart (a b c d : Int) (w : World) :
    Calls Try.prog 28 #[.agg #[.int .i64 a, .int .i64 b], .agg #[.int .i64 c, .int .i64 d]] w fun e w' => e = .returned (.tuple #[.agg #[.int .i64 (cpL (ivB a b && ivB c d) (max a c) (min b d)), .int .i64 (cpH (ivB a b && ivB c d) (max a c) (min b d))], .int .i64 (cpE (ivB a b && ivB c d) (max a c) (min b d))]) ∧ Later w w' := by
  have hmf : ∀ (fn : Fn) (first cap : Array Value) (w : World), (Instr.makeFunc fn first cap).run Try.prog w = .ok (.func fn first cap) w := fun _ _ _ _ => rfl
  by_cases h1 : ivB a b = true
  · by_cases h2 : ivB c d = true
    · obtain ⟨g1, g2, g3, g4, g5⟩ := bounds_of_ivB h1
      obtain ⟨g6, g7, g8, g9, g10⟩ := bounds_of_ivB h2
      obtain ⟨e1, e2, e3⟩ := @op_valid (max a c) (min b d) (by omega) (by omega) (by omega) (by omega)
      clear g1 g2 g3 g4 g5 g6 g7 g8 g9 g10
      by_cases hlt : min b d < max a c
      · go_enter Try.func28, Try.ntmps28
        go_wp2_with (go_at_call 40; refine (i_combined_common _ _ _ _ _).mono ?_; rintro e w1 ⟨rfl, hb⟩; obtain ⟨H, hcc, hff, hzz⟩ := later_facts hb; clear hb; (try simp at hzz); have hz0 : w.heap.size < w1.heap.size := (by omega); (try (have hz1 : w.heap.size + 1 < w1.heap.size := (by omega))); (try (have hz2 : w.heap.size + 1 + 1 < w1.heap.size := (by omega))))
        all_goals
          refine bodyPost_ret (v := .tuple #[.agg #[.int .i64 (cpL (ivB a b && ivB c d) (max a c) (min b d)), .int .i64 (cpH (ivB a b && ivB c d) (max a c) (min b d))], .int .i64 (cpE (ivB a b && ivB c d) (max a c) (min b d))]) (by simp [results, Try.results28, go_sem, cpE, cpL, cpH, *] <;> omega) rfl ⟨rfl, ?_⟩
          exact (by repeat (first | exact Later.refl _ | refine Later.setCell ?_ (by simp; omega) _ | refine Later.setCell ?_ (by simp) _ | refine Later.alloc ?_ _ | refine Later.trans ?_ (Hid.out (by assumption))))

      · have hlt : max a c ≤ min b d := by omega
        go_enter Try.func28, Try.ntmps28
        go_wp2_with (go_at_call 40; refine (i_combined_common _ _ _ _ _).mono ?_; rintro e w1 ⟨rfl, hb⟩; obtain ⟨H, hcc, hff, hzz⟩ := later_facts hb; clear hb; (try simp at hzz); have hz0 : w.heap.size < w1.heap.size := (by omega); (try (have hz1 : w.heap.size + 1 < w1.heap.size := (by omega))); (try (have hz2 : w.heap.size + 1 + 1 < w1.heap.size := (by omega))))
        all_goals
          refine bodyPost_ret (v := .tuple #[.agg #[.int .i64 (cpL (ivB a b && ivB c d) (max a c) (min b d)), .int .i64 (cpH (ivB a b && ivB c d) (max a c) (min b d))], .int .i64 (cpE (ivB a b && ivB c d) (max a c) (min b d))]) (by simp [results, Try.results28, go_sem, cpE, cpL, cpH, *] <;> omega) rfl ⟨rfl, ?_⟩
          exact (by repeat (first | exact Later.refl _ | refine Later.setCell ?_ (by simp; omega) _ | refine Later.setCell ?_ (by simp) _ | refine Later.alloc ?_ _ | refine Later.trans ?_ (Hid.out (by assumption))))

    · have h2 : ivB c d = false := by simpa using h2
      have e1 : ∀ x y, opE false x y = 1 := fun _ _ => rfl
      go_enter Try.func28, Try.ntmps28
      go_wp2_with (go_at_call 40; refine (i_combined_common _ _ _ _ _).mono ?_; rintro e w1 ⟨rfl, hb⟩; obtain ⟨H, hcc, hff, hzz⟩ := later_facts hb; clear hb; (try simp at hzz); have hz0 : w.heap.size < w1.heap.size := (by omega); (try (have hz1 : w.heap.size + 1 < w1.heap.size := (by omega))); (try (have hz2 : w.heap.size + 1 + 1 < w1.heap.size := (by omega))))
      all_goals
        refine bodyPost_ret (v := .tuple #[.agg #[.int .i64 (cpL (ivB a b && ivB c d) (max a c) (min b d)), .int .i64 (cpH (ivB a b && ivB c d) (max a c) (min b d))], .int .i64 (cpE (ivB a b && ivB c d) (max a c) (min b d))]) (by simp [results, Try.results28, go_sem, cpE, cpL, cpH, *] <;> omega) rfl ⟨rfl, ?_⟩
        exact (by repeat (first | exact Later.refl _ | refine Later.setCell ?_ (by simp; omega) _ | refine Later.setCell ?_ (by simp) _ | refine Later.alloc ?_ _ | refine Later.trans ?_ (Hid.out (by assumption))))

  · have h1 : ivB a b = false := by simpa using h1
    have e1 : ∀ x y, opE false x y = 1 := fun _ _ => rfl
    go_enter Try.func28, Try.ntmps28
    go_wp2_with (go_at_call 40; refine (i_combined_common _ _ _ _ _).mono ?_; rintro e w1 ⟨rfl, hb⟩; obtain ⟨H, hcc, hff, hzz⟩ := later_facts hb; clear hb; (try simp at hzz); have hz0 : w.heap.size < w1.heap.size := (by omega); (try (have hz1 : w.heap.size + 1 < w1.heap.size := (by omega))); (try (have hz2 : w.heap.size + 1 + 1 < w1.heap.size := (by omega))))
    all_goals
      refine bodyPost_ret (v := .tuple #[.agg #[.int .i64 (cpL (ivB a b && ivB c d) (max a c) (min b d)), .int .i64 (cpH (ivB a b && ivB c d) (max a c) (min b d))], .int .i64 (cpE (ivB a b && ivB c d) (max a c) (min b d))]) (by simp [results, Try.results28, go_sem, cpE, cpL, cpH, *] <;> omega) rfl ⟨rfl, ?_⟩
      exact (by repeat (first | exact Later.refl _ | refine Later.setCell ?_ (by simp; omega) _ | refine Later.setCell ?_ (by simp) _ | refine Later.alloc ?_ _ | refine Later.trans ?_ (Hid.out (by assumption))))

theorem i_times (a b k : Int) (w : World) (h1 : -1000000000000 ≤ a) (h2 : a ≤ 1000000000000) (h3 : -1000000000000 ≤ b) (h4 : b ≤ 1000000000000) (h7 : a ≤ b) (h5 : -1000000 ≤ k) (h6 : k ≤ 1000000) :
    Calls Try.prog 49 #[.agg #[.int .i64 a, .int .i64 b], .int .i64 k] w fun e w' => e = .returned (.agg #[.int .i64 (min (a * k) (b * k)), .int .i64 (max (a * k) (b * k))]) ∧ Later w w' := by
  obtain ⟨m1, m2⟩ := mulk_bd a k h1 h2 h5 h6
  obtain ⟨m3, m4⟩ := mulk_bd b k h3 h4 h5 h6
  by_cases hk : k < 0
  · have m5 : b * k ≤ a * k := Int.mul_le_mul_of_nonpos_right h7 (by omega)
    go_enter Try.func49, Try.ntmps49
    go_wp2
    refine bodyPost_ret (v := .agg #[.int .i64 (min (a * k) (b * k)), .int .i64 (max (a * k) (b * k))]) (by simp [results, Try.results49, go_sem]; omega) rfl ⟨rfl, ?_⟩
    exact (by repeat (first | exact Later.refl _ | refine Later.setCell ?_ (by simp; omega) _ | refine Later.setCell ?_ (by simp) _ | refine Later.alloc ?_ _ | refine Later.trans ?_ (Hid.out (by assumption))))
  · have m5 : a * k ≤ b * k := Int.mul_le_mul_of_nonneg_right h7 (by omega)
    have hk : 0 ≤ k := by omega
    go_enter Try.func49, Try.ntmps49
    go_wp2
    refine bodyPost_ret (v := .agg #[.int .i64 (min (a * k) (b * k)), .int .i64 (max (a * k) (b * k))]) (by simp [results, Try.results49, go_sem]; omega) rfl ⟨rfl, ?_⟩
    exact (by repeat (first | exact Later.refl _ | refine Later.setCell ?_ (by simp; omega) _ | refine Later.setCell ?_ (by simp) _ | refine Later.alloc ?_ _ | refine Later.trans ?_ (Hid.out (by assumption))))
theorem i_ScaleInterval (a b k : Int) (w : World) :
    Calls Try.prog 25 #[.agg #[.int .i64 a, .int .i64 b], .int .i64 k] w fun e w' => e = .returned (.tuple #[.agg #[.int .i64 (scL (ivB a b) a b k), .int .i64 (scH (ivB a b) a b k)], .int .i64 (scE (ivB a b) a b k)]) ∧ Later w w' := by
  by_cases h1 : ivB a b = true
  · obtain ⟨g1, g2, g3, g4, g5⟩ := bounds_of_ivB h1
    by_cases hk : -1000000 ≤ k ∧ k ≤ 1000000
    · have e1 : scV k = true := by simp [scV, hk]
      obtain ⟨k1, k2⟩ := hk
      go_enter Try.func25, Try.ntmps25
      go_wp2_with (first | (go_at_call 44; refine (i_isValid _ _ _).mono ?_; rintro e w1 ⟨rfl, hb⟩; obtain ⟨H, hcc, hff, hzz⟩ := later_facts hb; clear hb; (try simp at hzz); have hz0 : w.heap.size < w1.heap.size := (by omega); (try (have hz1 : w.heap.size + 1 < w1.heap.size := (by omega))); (try (have hz2 : w.heap.size + 1 + 1 < w1.heap.size := (by omega)))) | (go_at_call 49; refine (i_times _ _ _ _ (by omega) (by omega) (by omega) (by omega) (by omega) (by omega) (by omega)).mono ?_; rintro e w1 ⟨rfl, hb⟩; obtain ⟨H, hcc, hff, hzz⟩ := later_facts hb; clear hb; (try simp at hzz); have hz0 : w.heap.size < w1.heap.size := (by omega); (try (have hz1 : w.heap.size + 1 < w1.heap.size := (by omega))); (try (have hz2 : w.heap.size + 1 + 1 < w1.heap.size := (by omega)))) | (go_at_call 48; refine (i_withValues _ _ _).mono ?_; rintro e w1 ⟨rfl, hb⟩; obtain ⟨H, hcc, hff, hzz⟩ := later_facts hb; clear hb; (try simp at hzz); have hz0 : w.heap.size < w1.heap.size := (by omega); (try (have hz1 : w.heap.size + 1 < w1.heap.size := (by omega))); (try (have hz2 : w.heap.size + 1 + 1 < w1.heap.size := (by omega)))))
      refine bodyPost_ret (v := .tuple #[.agg #[.int .i64 (scL (ivB a b) a b k), .int .i64 (scH (ivB a b) a b k)], .int .i64 (scE (ivB a b) a b k)]) (by simp [results, Try.results25, go_sem, scE, scL, scH, *] <;> omega) rfl ⟨rfl, ?_⟩
      exact (by repeat (first | exact Later.refl _ | refine Later.setCell ?_ (by simp; omega) _ | refine Later.setCell ?_ (by simp) _ | refine Later.alloc ?_ _ | refine Later.trans ?_ (Hid.out (by assumption))))

    · have e1 : scV k = false := by unfold scV; rw [Bool.eq_false_iff, Ne]; simp; omega
      by_cases k1 : k < -1000000
      · go_enter Try.func25, Try.ntmps25
        go_wp2_with (first | (go_at_call 44; refine (i_isValid _ _ _).mono ?_; rintro e w1 ⟨rfl, hb⟩; obtain ⟨H, hcc, hff, hzz⟩ := later_facts hb; clear hb; (try simp at hzz); have hz0 : w.heap.size < w1.heap.size := (by omega); (try (have hz1 : w.heap.size + 1 < w1.heap.size := (by omega))); (try (have hz2 : w.heap.size + 1 + 1 < w1.heap.size := (by omega)))) | (go_at_call 49; refine (i_times _ _ _ _ (by omega) (by omega) (by omega) (by omega) (by omega) (by omega) (by omega)).mono ?_; rintro e w1 ⟨rfl, hb⟩; obtain ⟨H, hcc, hff, hzz⟩ := later_facts hb; clear hb; (try simp at hzz); have hz0 : w.heap.size < w1.heap.size := (by omega); (try (have hz1 : w.heap.size + 1 < w1.heap.size := (by omega))); (try (have hz2 : w.heap.size + 1 + 1 < w1.heap.size := (by omega)))) | (go_at_call 48; refine (i_withValues _ _ _).mono ?_; rintro e w1 ⟨rfl, hb⟩; obtain ⟨H, hcc, hff, hzz⟩ := later_facts hb; clear hb; (try simp at hzz); have hz0 : w.heap.size < w1.heap.size := (by omega); (try (have hz1 : w.heap.size + 1 < w1.heap.size := (by omega))); (try (have hz2 : w.heap.size + 1 + 1 < w1.heap.size := (by omega)))))
        refine bodyPost_ret (v := .tuple #[.agg #[.int .i64 (scL (ivB a b) a b k), .int .i64 (scH (ivB a b) a b k)], .int .i64 (scE (ivB a b) a b k)]) (by simp [results, Try.results25, go_sem, scE, scL, scH, *] <;> omega) rfl ⟨rfl, ?_⟩
        exact (by repeat (first | exact Later.refl _ | refine Later.setCell ?_ (by simp; omega) _ | refine Later.setCell ?_ (by simp) _ | refine Later.alloc ?_ _ | refine Later.trans ?_ (Hid.out (by assumption))))

      · have k2 : 1000000 < k := by omega
        have k1 : -1000000 ≤ k := by omega
        go_enter Try.func25, Try.ntmps25
        go_wp2_with (first | (go_at_call 44; refine (i_isValid _ _ _).mono ?_; rintro e w1 ⟨rfl, hb⟩; obtain ⟨H, hcc, hff, hzz⟩ := later_facts hb; clear hb; (try simp at hzz); have hz0 : w.heap.size < w1.heap.size := (by omega); (try (have hz1 : w.heap.size + 1 < w1.heap.size := (by omega))); (try (have hz2 : w.heap.size + 1 + 1 < w1.heap.size := (by omega)))) | (go_at_call 49; refine (i_times _ _ _ _ (by omega) (by omega) (by omega) (by omega) (by omega) (by omega) (by omega)).mono ?_; rintro e w1 ⟨rfl, hb⟩; obtain ⟨H, hcc, hff, hzz⟩ := later_facts hb; clear hb; (try simp at hzz); have hz0 : w.heap.size < w1.heap.size := (by omega); (try (have hz1 : w.heap.size + 1 < w1.heap.size := (by omega))); (try (have hz2 : w.heap.size + 1 + 1 < w1.heap.size := (by omega)))) | (go_at_call 48; refine (i_withValues _ _ _).mono ?_; rintro e w1 ⟨rfl, hb⟩; obtain ⟨H, hcc, hff, hzz⟩ := later_facts hb; clear hb; (try simp at hzz); have hz0 : w.heap.size < w1.heap.size := (by omega); (try (have hz1 : w.heap.size + 1 < w1.heap.size := (by omega))); (try (have hz2 : w.heap.size + 1 + 1 < w1.heap.size := (by omega)))))
        refine bodyPost_ret (v := .tuple #[.agg #[.int .i64 (scL (ivB a b) a b k), .int .i64 (scH (ivB a b) a b k)], .int .i64 (scE (ivB a b) a b k)]) (by simp [results, Try.results25, go_sem, scE, scL, scH, *] <;> omega) rfl ⟨rfl, ?_⟩
        exact (by repeat (first | exact Later.refl _ | refine Later.setCell ?_ (by simp; omega) _ | refine Later.setCell ?_ (by simp) _ | refine Later.alloc ?_ _ | refine Later.trans ?_ (Hid.out (by assumption))))

  · have h1 : ivB a b = false := by simpa using h1
    go_enter Try.func25, Try.ntmps25
    go_wp2_with (first | (go_at_call 44; refine (i_isValid _ _ _).mono ?_; rintro e w1 ⟨rfl, hb⟩; obtain ⟨H, hcc, hff, hzz⟩ := later_facts hb; clear hb; (try simp at hzz); have hz0 : w.heap.size < w1.heap.size := (by omega); (try (have hz1 : w.heap.size + 1 < w1.heap.size := (by omega))); (try (have hz2 : w.heap.size + 1 + 1 < w1.heap.size := (by omega)))) | (go_at_call 49; refine (i_times _ _ _ _ (by omega) (by omega) (by omega) (by omega) (by omega) (by omega) (by omega)).mono ?_; rintro e w1 ⟨rfl, hb⟩; obtain ⟨H, hcc, hff, hzz⟩ := later_facts hb; clear hb; (try simp at hzz); have hz0 : w.heap.size < w1.heap.size := (by omega); (try (have hz1 : w.heap.size + 1 < w1.heap.size := (by omega))); (try (have hz2 : w.heap.size + 1 + 1 < w1.heap.size := (by omega)))) | (go_at_call 48; refine (i_withValues _ _ _).mono ?_; rintro e w1 ⟨rfl, hb⟩; obtain ⟨H, hcc, hff, hzz⟩ := later_facts hb; clear hb; (try simp at hzz); have hz0 : w.heap.size < w1.heap.size := (by omega); (try (have hz1 : w.heap.size + 1 < w1.heap.size := (by omega))); (try (have hz2 : w.heap.size + 1 + 1 < w1.heap.size := (by omega)))))
    refine bodyPost_ret (v := .tuple #[.agg #[.int .i64 (scL (ivB a b) a b k), .int .i64 (scH (ivB a b) a b k)], .int .i64 (scE (ivB a b) a b k)]) (by simp [results, Try.results25, go_sem, scE, scL, scH, *] <;> omega) rfl ⟨rfl, ?_⟩
    exact (by repeat (first | exact Later.refl _ | refine Later.setCell ?_ (by simp; omega) _ | refine Later.setCell ?_ (by simp) _ | refine Later.alloc ?_ _ | refine Later.trans ?_ (Hid.out (by assumption))))

theorem i_IsInterval (a b : Int) (w : World) :
    Calls Try.prog 20 #[.agg #[.int .i64 a, .int .i64 b]] w fun e w' => e = .returned (.bool (ivB a b)) ∧ Later w w' := by
  go_enter Try.func20, Try.ntmps20
  go_wp2_with (go_at_call 44; refine (i_isValid _ _ _).mono ?_; rintro e w1 ⟨rfl, hb⟩; obtain ⟨H, hcc, hff, hzz⟩ := later_facts hb; clear hb; (try simp at hzz); have hz0 : w.heap.size < w1.heap.size := (by omega); (try (have hz1 : w.heap.size + 1 < w1.heap.size := (by omega))); (try (have hz2 : w.heap.size + 1 + 1 < w1.heap.size := (by omega))))
  go_ret
  exact ⟨rfl, (by repeat (first | exact Later.refl _ | refine Later.setCell ?_ (by simp; omega) _ | refine Later.setCell ?_ (by simp) _ | refine Later.alloc ?_ _ | refine Later.trans ?_ (Hid.out (by assumption))))⟩
theorem i_IsWithin (a b c d : Int) (w : World) :
    Calls Try.prog 23 #[.agg #[.int .i64 a, .int .i64 b], .agg #[.int .i64 c, .int .i64 d]] w fun e w' => e = .returned (.bool (winB (ivB a b && ivB c d) a b c d)) ∧ Later w w' := by
  cases h1 : ivB a b <;> cases h2 : ivB c d
  all_goals
    go_enter Try.func23, Try.ntmps23
    go_wp2_with (go_at_call 44; refine (i_isValid _ _ _).mono ?_; rintro e w1 ⟨rfl, hb⟩; obtain ⟨H, hcc, hff, hzz⟩ := later_facts hb; clear hb; (try simp at hzz); have hz0 : w.heap.size < w1.heap.size := (by omega); (try (have hz1 : w.heap.size + 1 < w1.heap.size := (by omega))); (try (have hz2 : w.heap.size + 1 + 1 < w1.heap.size := (by omega))))
    all_goals
      go_ret
      exact ⟨ret_b (by simp [winB, *] <;> omega), (by repeat (first | exact Later.refl _ | refine Later.setCell ?_ (by simp; omega) _ | refine Later.setCell ?_ (by simp) _ | refine Later.alloc ?_ _ | refine Later.trans ?_ (Hid.out (by assumption))))⟩
theorem i_CompareIntervals (a b c d : Int) (w : World) :
    Calls Try.prog 32 #[.agg #[.int .i64 a, .int .i64 b], .agg #[.int .i64 c, .int .i64 d]] w fun e w' => e = .returned (.tuple #[.int .i64 (ordV (ivB a b && ivB c d) a b c d), .int .i64 (ordE (ivB a b && ivB c d))]) ∧ Later w w' := by
  cases h1 : ivB a b <;> cases h2 : ivB c d
  all_goals
    go_enter Try.func32, Try.ntmps32
    go_wp2_with (go_at_call 44; refine (i_isValid _ _ _).mono ?_; rintro e w1 ⟨rfl, hb⟩; obtain ⟨H, hcc, hff, hzz⟩ := later_facts hb; clear hb; (try simp at hzz); have hz0 : w.heap.size < w1.heap.size := (by omega); (try (have hz1 : w.heap.size + 1 < w1.heap.size := (by omega))); (try (have hz2 : w.heap.size + 1 + 1 < w1.heap.size := (by omega))))
    all_goals
      go_ret2
      exact ⟨ret_2i (by simp [ordV] <;> omega) (by simp [ordE]), (by repeat (first | exact Later.refl _ | refine Later.setCell ?_ (by simp; omega) _ | refine Later.setCell ?_ (by simp) _ | refine Later.alloc ?_ _ | refine Later.trans ?_ (Hid.out (by assumption))))⟩
end Go.Proofs.Ytpadigebbgcopaa
