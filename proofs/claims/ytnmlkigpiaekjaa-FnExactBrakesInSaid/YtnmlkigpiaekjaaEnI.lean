/- Contracts of chapter 6: the program's functions on one segment. -/
import Derived.Test.YtnmlkigpiaekjaaEnM
import Derived.Test.YtnmlkigpiaekjaaSg1
import Derived.Test.YtnmlkigpiaekjaaIv3
namespace Go.Proofs.Ytnmlkigpiaekjaa
open Go.RowKit
set_option maxHeartbeats 2000000
set_option linter.unusedVariables false
set_option linter.unusedSimpArgs false
theorem win_en (a b : Int) : winB (ivB a b && ivB 0 10000000000) a b 0 10000000000 = enB a b := by
  have e : ivB 0 10000000000 = true := by rw [ivB_iff]; omega
  rw [e, Bool.and_true, Bool.eq_iff_iff]
  unfold winB enB
  simp [ivB_iff]
  omega
theorem i_IsEnergy (a b : Int) (w : World) : Calls Try.prog 42 #[.agg #[.int .i64 a, .int .i64 b]] w fun e w' => e = .returned (.bool (enB a b)) ∧ Later w w' := by
  rw [← win_en]
  go_enter Try.func42, Try.ntmps42
  go_wp2_with (go_at_call 74; refine (i_IsWithin _ _ _ _ _).mono ?_; rintro e w1 ⟨rfl, hb⟩; obtain ⟨H, hcc, hff, hzz⟩ := later_facts hb; clear hb; (try simp at hzz); (try simp only [World.heap_drewN, World.cell?_drewN, World.frozen?_drewN] at hcc hff); have hz0 : w.heap.size < w1.heap.size := (by omega); (try (have hz1 : w.heap.size + 1 < w1.heap.size := (by omega))); (try (have hz2 : w.heap.size + 1 + 1 < w1.heap.size := (by omega))); (try (have hz3 : w.heap.size + 1 + 1 + 1 < w1.heap.size := (by omega))); (try (have hz4 : w.heap.size + 1 + 1 + 1 + 1 < w1.heap.size := (by omega))))
  go_ret
  exact ⟨rfl, (by repeat (first | (with_reducible exact Later.refl _) | (with_reducible exact Hid.out (by assumption)) | (with_reducible refine Later.alloc ?_ _) | (with_reducible refine Later.setCell ?_ (by simp; omega) _) | (with_reducible refine Later.setCell ?_ (by simp) _) | (with_reducible refine Later.drewN ?_ _) | (with_reducible refine Later.drew ?_) | (with_reducible refine Later.trans ?_ (Hid.out (by assumption)))))⟩
theorem i_times_nn (a b k : Int) (w : World) (h1 : 0 ≤ a) (h7 : a ≤ b) (h4 : b ≤ 1000000000000) (h5 : 0 ≤ k) (h6 : k ≤ 1000000) :
    Calls Try.prog 99 #[.agg #[.int .i64 a, .int .i64 b], .int .i64 k] w fun e w' => e = .returned (.agg #[.int .i64 (a * k), .int .i64 (b * k)]) ∧ Later w w' := by
  have h := i_times a b k w (by omega) (by omega) (by omega) h4 h7 (by omega) h6
  have m5 : a * k ≤ b * k := Int.mul_le_mul_of_nonneg_right h7 (by omega)
  rw [show min (a * k) (b * k) = a * k by omega, show max (a * k) (b * k) = b * k by omega] at h
  exact h
theorem i_coastingChange (x : Sg) (w : World) (h : sgB x = true) :
    Calls Try.prog 78 #[.agg #[.int .i64 x.k, .int .i64 x.l, .int .i64 x.r, .int .i64 x.a, .int .i64 x.b, .int .i64 x.c, .int .i64 x.d]] w fun e w' => e = .returned (.agg #[.int .i64 (chL x), .int .i64 (chH x)]) ∧ Later w w' := by
  obtain ⟨b1, b2, b3⟩ := k_bd x h
  rw [sgB_iff] at h
  obtain ⟨⟨k1, k2⟩, ⟨l1, l2⟩, ⟨r1, r2, r3, r4⟩, ⟨a1, a2, a3⟩, _⟩ := h
  clear r3 r4
  unfold chL chH
  unfold kL kH at *
  go_enter Try.func78, Try.ntmps78
  go_wp2_with (first | (go_at_call 99; refine (i_times_nn _ _ _ _ (by omega) (by omega) (by omega) (by omega) (by omega)).mono ?_; rintro e w1 ⟨rfl, hb⟩; obtain ⟨H, hcc, hff, hzz⟩ := later_facts hb; clear hb; (try simp at hzz); (try simp only [World.heap_drewN, World.cell?_drewN, World.frozen?_drewN] at hcc hff); have hz0 : w.heap.size < w1.heap.size := (by omega); (try (have hz1 : w.heap.size + 1 < w1.heap.size := (by omega))); (try (have hz2 : w.heap.size + 1 + 1 < w1.heap.size := (by omega))); (try (have hz3 : w.heap.size + 1 + 1 + 1 < w1.heap.size := (by omega))); (try (have hz4 : w.heap.size + 1 + 1 + 1 + 1 < w1.heap.size := (by omega)))) | (go_at_call 98; refine (i_minus _ _ _ _ _ (by omega) (by omega) (by omega) (by omega) (by omega) (by omega) (by omega) (by omega)).mono ?_; rintro e w1 ⟨rfl, hb⟩; obtain ⟨H, hcc, hff, hzz⟩ := later_facts hb; clear hb; (try simp at hzz); (try simp only [World.heap_drewN, World.cell?_drewN, World.frozen?_drewN] at hcc hff); have hz0 : w.heap.size < w1.heap.size := (by omega); (try (have hz1 : w.heap.size + 1 < w1.heap.size := (by omega))); (try (have hz2 : w.heap.size + 1 + 1 < w1.heap.size := (by omega))); (try (have hz3 : w.heap.size + 1 + 1 + 1 < w1.heap.size := (by omega))); (try (have hz4 : w.heap.size + 1 + 1 + 1 + 1 < w1.heap.size := (by omega)))))
  refine bodyPost_ret (v := .agg #[.int .i64 (-19612 * x.r - x.b * (2 * x.l)), .int .i64 (-19612 * x.r - x.a * (2 * x.l))]) (by simp [results, Try.results78, go_sem, *]) rfl ⟨rfl, (by repeat (first | (with_reducible exact Later.refl _) | (with_reducible exact Hid.out (by assumption)) | (with_reducible refine Later.alloc ?_ _) | (with_reducible refine Later.setCell ?_ (by simp; omega) _) | (with_reducible refine Later.setCell ?_ (by simp) _) | (with_reducible refine Later.drewN ?_ _) | (with_reducible refine Later.drew ?_) | (with_reducible refine Later.trans ?_ (Hid.out (by assumption)))))⟩
theorem i_energyBehind (a b : Int) (w : World) (h : a ≤ b) :
    Calls Try.prog 45 #[.agg #[.int .i64 a, .int .i64 b]] w fun e w' => e = .returned (.tuple #[.agg #[.int .i64 (okV (codE a b) a), .int .i64 (okV (codE a b) b)], .int .i64 (codE a b)]) ∧ Later w w' := by
  by_cases h0 : a < 0
  · have e : codE a b = 5 := by unfold codE; rw [if_pos h0]
    rw [e]
    go_enter Try.func45, Try.ntmps45
    go_wp2
    refine bodyPost_ret (v := .tuple #[.agg #[.int .i64 (okV 5 a), .int .i64 (okV 5 b)], .int .i64 5]) (by simp [results, Try.results45, go_sem, okV, *]) rfl ⟨rfl, (by repeat (first | (with_reducible exact Later.refl _) | (with_reducible exact Hid.out (by assumption)) | (with_reducible refine Later.alloc ?_ _) | (with_reducible refine Later.setCell ?_ (by simp; omega) _) | (with_reducible refine Later.setCell ?_ (by simp) _) | (with_reducible refine Later.drewN ?_ _) | (with_reducible refine Later.drew ?_) | (with_reducible refine Later.trans ?_ (Hid.out (by assumption)))))⟩
  · cases h1 : enB a b
    · have e : codE a b = 3 := by rw [enB_no] at h1; unfold codE; rw [if_neg h0, if_neg (by omega)]
      rw [e]
      go_enter Try.func45, Try.ntmps45
      go_wp2_with (go_at_call 42; refine (i_IsEnergy _ _ _).mono ?_; rintro e w1 ⟨rfl, hb⟩; obtain ⟨H, hcc, hff, hzz⟩ := later_facts hb; clear hb; (try simp at hzz); (try simp only [World.heap_drewN, World.cell?_drewN, World.frozen?_drewN] at hcc hff); have hz0 : w.heap.size < w1.heap.size := (by omega); (try (have hz1 : w.heap.size + 1 < w1.heap.size := (by omega))); (try (have hz2 : w.heap.size + 1 + 1 < w1.heap.size := (by omega))); (try (have hz3 : w.heap.size + 1 + 1 + 1 < w1.heap.size := (by omega))); (try (have hz4 : w.heap.size + 1 + 1 + 1 + 1 < w1.heap.size := (by omega))))
      refine bodyPost_ret (v := .tuple #[.agg #[.int .i64 (okV 3 a), .int .i64 (okV 3 b)], .int .i64 3]) (by simp [results, Try.results45, go_sem, okV, *]) rfl ⟨rfl, (by repeat (first | (with_reducible exact Later.refl _) | (with_reducible exact Hid.out (by assumption)) | (with_reducible refine Later.alloc ?_ _) | (with_reducible refine Later.setCell ?_ (by simp; omega) _) | (with_reducible refine Later.setCell ?_ (by simp) _) | (with_reducible refine Later.drewN ?_ _) | (with_reducible refine Later.drew ?_) | (with_reducible refine Later.trans ?_ (Hid.out (by assumption)))))⟩
    · have e : codE a b = 0 := by rw [enB_iff] at h1; unfold codE; rw [if_neg h0, if_pos (by omega)]
      rw [e]
      go_enter Try.func45, Try.ntmps45
      go_wp2_with (go_at_call 42; refine (i_IsEnergy _ _ _).mono ?_; rintro e w1 ⟨rfl, hb⟩; obtain ⟨H, hcc, hff, hzz⟩ := later_facts hb; clear hb; (try simp at hzz); (try simp only [World.heap_drewN, World.cell?_drewN, World.frozen?_drewN] at hcc hff); have hz0 : w.heap.size < w1.heap.size := (by omega); (try (have hz1 : w.heap.size + 1 < w1.heap.size := (by omega))); (try (have hz2 : w.heap.size + 1 + 1 < w1.heap.size := (by omega))); (try (have hz3 : w.heap.size + 1 + 1 + 1 < w1.heap.size := (by omega))); (try (have hz4 : w.heap.size + 1 + 1 + 1 + 1 < w1.heap.size := (by omega))))
      refine bodyPost_ret (v := .tuple #[.agg #[.int .i64 (okV 0 a), .int .i64 (okV 0 b)], .int .i64 0]) (by simp [results, Try.results45, go_sem, okV, *]) rfl ⟨rfl, (by repeat (first | (with_reducible exact Later.refl _) | (with_reducible exact Hid.out (by assumption)) | (with_reducible refine Later.alloc ?_ _) | (with_reducible refine Later.setCell ?_ (by simp; omega) _) | (with_reducible refine Later.setCell ?_ (by simp) _) | (with_reducible refine Later.drewN ?_ _) | (with_reducible refine Later.drew ?_) | (with_reducible refine Later.trans ?_ (Hid.out (by assumption)))))⟩
end Go.Proofs.Ytnmlkigpiaekjaa
