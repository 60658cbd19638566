/- Contracts of chapter 6: the model's functions on one segment. -/
import Derived.Test.YtdhoiiejcmnmbaaEnK
import Derived.Test.YtdhoiiejcmnmbaaSg2
import Derived.Test.YtdhoiiejcmnmbaaRoot
namespace Go.Proofs.Ytdhoiiejcmnmbaa
open Go.RowKit
set_option maxHeartbeats 4000000
set_option linter.unusedVariables false
set_option linter.unusedSimpArgs false
theorem win_en2 (a b : Int) : (ivB a b && decide (0 ≤ a) && decide (b ≤ 10000000000)) = enB a b := by
  rw [Bool.eq_iff_iff]
  unfold enB
  simp [ivB_iff]
  omega
theorem s_IsEnergy (a b : Int) (w : World) : Calls Try.prog 68 #[.agg #[.int .i64 a, .int .i64 b]] w fun e w' => e = .returned (.bool (enB a b)) ∧ Later w w' := by
  have K : ∀ w, Calls Try.prog 107 #[.agg #[.int .i64 a, .int .i64 b], .int .i64 0, .int .i64 10000000000] w fun e w' => e = .returned (.bool (enB a b)) ∧ Later w w' := by
    intro w
    have E := Lib.hid (win_en2 a b)
    cases h : ivB a b
    all_goals
      go_enter Try.func107, Try.ntmps107
      go_wp2_with (go_at_call 126; refine (s_IsInterval _ _ _).mono ?_; rintro e w1 ⟨rfl, hb⟩; obtain ⟨H, hcc, hff, hzz⟩ := later_facts hb; clear hb; (try simp at hzz); (try simp only [World.heap_drewN, World.cell?_drewN, World.frozen?_drewN] at hcc hff); have hz0 : w.heap.size < w1.heap.size := (by omega); (try (have hz1 : w.heap.size + 1 < w1.heap.size := (by omega))); (try (have hz2 : w.heap.size + 1 + 1 < w1.heap.size := (by omega))); (try (have hz3 : w.heap.size + 1 + 1 + 1 < w1.heap.size := (by omega))); (try (have hz4 : w.heap.size + 1 + 1 + 1 + 1 < w1.heap.size := (by omega))))
      all_goals
        go_ret
        exact ⟨ret_b (by rw [← E.out, h]; first | (simp_all; done) | (simp_all; omega)), (by repeat (first | (with_reducible exact Later.refl _) | (with_reducible exact Hid.out (by assumption)) | (with_reducible refine Later.alloc ?_ _) | (with_reducible refine Later.setCell ?_ (by simp; omega) _) | (with_reducible refine Later.setCell ?_ (by simp) _) | (with_reducible refine Later.drewN ?_ _) | (with_reducible refine Later.drew ?_) | (with_reducible refine Later.trans ?_ (Hid.out (by assumption)))))⟩
  go_enter Try.func68, Try.ntmps68
  go_wp2_with (go_at_call 107; refine (K _).mono ?_; rintro e w1 ⟨rfl, hb⟩; obtain ⟨H, hcc, hff, hzz⟩ := later_facts hb; clear hb; (try simp at hzz); (try simp only [World.heap_drewN, World.cell?_drewN, World.frozen?_drewN] at hcc hff))
  go_ret
  exact ⟨rfl, (by repeat (first | (with_reducible exact Later.refl _) | (with_reducible exact Hid.out (by assumption)) | (with_reducible refine Later.alloc ?_ _) | (with_reducible refine Later.setCell ?_ (by simp; omega) _) | (with_reducible refine Later.setCell ?_ (by simp) _) | (with_reducible refine Later.drewN ?_ _) | (with_reducible refine Later.drew ?_) | (with_reducible refine Later.trans ?_ (Hid.out (by assumption)))))⟩
/-- the test decided ahead -/
theorem s_InB (n a b : Int) (c : Bool) (h : (decide (a ≤ n) && decide (n ≤ b)) = c) (w : World) : Calls Try.prog 69 #[.int .i64 n, .int .i64 a, .int .i64 b] w fun e w' => e = .returned (.bool c) ∧ w = w' := by
  subst h; exact s_In n a b w
theorem k2 (b l : Int) : 2 * b * l = b * (2 * l) := by rw [Int.mul_comm 2 b, Int.mul_assoc]
theorem s_Change (x : Sg) (w : World) (h : sgB x = true) :
    Calls Try.prog 62 #[.agg #[.int .i64 x.k, .int .i64 x.l, .int .i64 x.r, .int .i64 x.a, .int .i64 x.b, .int .i64 x.c, .int .i64 x.d]] w fun e w' => e = .returned (.agg #[.int .i64 (chL x), .int .i64 (chH x)]) ∧ Later w w' := by
  obtain ⟨b1, b2, b3⟩ := k_bd x h
  rw [sgB_iff] at h
  obtain ⟨⟨k1, k2⟩, ⟨l1, l2⟩, ⟨r1, r2, r3, r4⟩, ⟨a1, a2, a3⟩, _⟩ := h
  clear r3 r4
  unfold chL chH
  unfold kL kH at *
  rw [← Go.Proofs.Ytdhoiiejcmnmbaa.k2 x.a x.l] at *
  rw [← Go.Proofs.Ytdhoiiejcmnmbaa.k2 x.b x.l] at *
  go_enter Try.func62, Try.ntmps62
  go_wp2
  refine bodyPost_ret (v := .agg #[.int .i64 (-19612 * x.r - 2 * x.b * x.l), .int .i64 (-19612 * x.r - 2 * x.a * x.l)]) (by simp [results, Try.results62, go_sem, *]) rfl ⟨rfl, (by repeat (first | (with_reducible exact Later.refl _) | (with_reducible exact Hid.out (by assumption)) | (with_reducible refine Later.alloc ?_ _) | (with_reducible refine Later.setCell ?_ (by simp; omega) _) | (with_reducible refine Later.setCell ?_ (by simp) _) | (with_reducible refine Later.drewN ?_ _) | (with_reducible refine Later.drew ?_) | (with_reducible refine Later.trans ?_ (Hid.out (by assumption)))))⟩
theorem s_l06Sum (a b c d : Int) (w : World) (ha : -1000000000000 ≤ a) (ha' : a ≤ 1000000000000) (hb : -1000000000000 ≤ b) (hb' : b ≤ 1000000000000) (hc : -1000000000000 ≤ c) (hc' : c ≤ 1000000000000) (hd : -1000000000000 ≤ d) (hd' : d ≤ 1000000000000) :
    Calls Try.prog 100 #[.agg #[.int .i64 a, .int .i64 b], .agg #[.int .i64 c, .int .i64 d]] w fun e w' => e = .returned (.agg #[.int .i64 (a + c), .int .i64 (b + d)]) ∧ Later w w' := by
  go_enter Try.func100, Try.ntmps100
  go_wp2
  refine bodyPost_ret (v := .agg #[.int .i64 (a + c), .int .i64 (b + d)]) (by simp [results, Try.results100, go_sem, *]) rfl ⟨rfl, (by repeat (first | (with_reducible exact Later.refl _) | (with_reducible exact Hid.out (by assumption)) | (with_reducible refine Later.alloc ?_ _) | (with_reducible refine Later.setCell ?_ (by simp; omega) _) | (with_reducible refine Later.setCell ?_ (by simp) _) | (with_reducible refine Later.drewN ?_ _) | (with_reducible refine Later.drew ?_) | (with_reducible refine Later.trans ?_ (Hid.out (by assumption)))))⟩
end Go.Proofs.Ytdhoiiejcmnmbaa
