/- Contracts of chapter 6: the model's functions on one segment. -/
import Derived.Test.YthheoeeobikkhaaEnK
import Derived.Test.YthheoeeobikkhaaSg2
import Derived.Test.YthheoeeobikkhaaRoot
namespace Go.Proofs.Ythheoeeobikkhaa
open Go.RowKit
set_option maxHeartbeats 4000000
set_option linter.unusedVariables false
set_option linter.unusedSimpArgs false
theorem win_en2 (a b : Int) : (ivB a b && decide (0 ≤ a) && decide (b ≤ 10000000000)) = enB a b := by
  rw [Bool.eq_iff_iff]
  unfold enB
  simp [ivB_iff]
  omega
theorem s_IsEnergy (a b : Int) (w : World) : Calls Try.prog 38 #[.agg #[.int .i64 a, .int .i64 b]] w fun e w' => e = .returned (.bool (enB a b)) ∧ Later w w' := by
  have K : ∀ w, Calls Try.prog 78 #[.agg #[.int .i64 a, .int .i64 b], .int .i64 0, .int .i64 10000000000] w fun e w' => e = .returned (.bool (enB a b)) ∧ Later w w' := by
    intro w
    have E := Lib.hid (win_en2 a b)
    cases h : ivB a b
    all_goals
      go_enter Try.func78, Try.ntmps78
      go_wp2_with (go_at_call 94; refine (s_IsInterval _ _ _).mono ?_; rintro e w1 ⟨rfl, hb⟩; obtain ⟨H, hcc, hff, hzz⟩ := later_facts hb; clear hb; (try simp at hzz); (try simp only [World.heap_drewN, World.cell?_drewN, World.frozen?_drewN] at hcc hff); have hz0 : w.heap.size < w1.heap.size := (by omega); (try (have hz1 : w.heap.size + 1 < w1.heap.size := (by omega))); (try (have hz2 : w.heap.size + 1 + 1 < w1.heap.size := (by omega))); (try (have hz3 : w.heap.size + 1 + 1 + 1 < w1.heap.size := (by omega))); (try (have hz4 : w.heap.size + 1 + 1 + 1 + 1 < w1.heap.size := (by omega))))
      all_goals
        go_ret
        exact ⟨ret_b (by rw [← E.out, h]; first | (simp_all; done) | (simp_all; omega)), (by repeat (first | (with_reducible exact Later.refl _) | (with_reducible exact Hid.out (by assumption)) | (with_reducible refine Later.alloc ?_ _) | (with_reducible refine Later.setCell ?_ (by simp; omega) _) | (with_reducible refine Later.setCell ?_ (by simp) _) | (with_reducible refine Later.drewN ?_ _) | (with_reducible refine Later.drew ?_) | (with_reducible refine Later.trans ?_ (Hid.out (by assumption)))))⟩
  go_enter Try.func38, Try.ntmps38
  go_wp2_with (go_at_call 78; refine (K _).mono ?_; rintro e w1 ⟨rfl, hb⟩; obtain ⟨H, hcc, hff, hzz⟩ := later_facts hb; clear hb; (try simp at hzz); (try simp only [World.heap_drewN, World.cell?_drewN, World.frozen?_drewN] at hcc hff))
  go_ret
  exact ⟨rfl, (by repeat (first | (with_reducible exact Later.refl _) | (with_reducible exact Hid.out (by assumption)) | (with_reducible refine Later.alloc ?_ _) | (with_reducible refine Later.setCell ?_ (by simp; omega) _) | (with_reducible refine Later.setCell ?_ (by simp) _) | (with_reducible refine Later.drewN ?_ _) | (with_reducible refine Later.drew ?_) | (with_reducible refine Later.trans ?_ (Hid.out (by assumption)))))⟩
/-- the test decided ahead -/
theorem s_InB (n a b : Int) (c : Bool) (h : (decide (a ≤ n) && decide (n ≤ b)) = c) (w : World) : Calls Try.prog 53 #[.int .i64 n, .int .i64 a, .int .i64 b] w fun e w' => e = .returned (.bool c) ∧ w = w' := by
  subst h; exact s_In n a b w
theorem s_EnergyOfSpeed (v : Int) (w : World) : Calls Try.prog 18 #[.int .i64 v] w fun e w' => e = .returned (.tuple #[.int .i64 (spV v), .int .i64 (spE v)]) ∧ Later w w' := by
  by_cases h : 0 ≤ v ∧ v ≤ 100000
  · have h2 : 0 ≤ v * v ∧ v * v ≤ 10000000000 := ⟨Int.mul_nonneg h.1 h.1, by
      have := Int.mul_le_mul h.2 h.2 h.1 (by omega : (0 : Int) ≤ 100000); omega⟩
    have e1 : spV v = v * v := by unfold spV; rw [if_pos h]
    have e2 : spE v = 0 := by unfold spE; rw [if_pos h]
    rw [e1, e2]
    obtain ⟨h3, h4⟩ := h; obtain ⟨h5, h6⟩ := h2
    go_enter Try.func18, Try.ntmps18
    go_wp2_with (go_at_call 53; refine (s_InB _ _ _ true (by simp; omega) _).mono ?_; rintro e w' ⟨rfl, rfl⟩)
    go_ret2
    exact ⟨rfl, (by repeat (first | (with_reducible exact Later.refl _) | (with_reducible exact Hid.out (by assumption)) | (with_reducible refine Later.alloc ?_ _) | (with_reducible refine Later.setCell ?_ (by simp; omega) _) | (with_reducible refine Later.setCell ?_ (by simp) _) | (with_reducible refine Later.drewN ?_ _) | (with_reducible refine Later.drew ?_) | (with_reducible refine Later.trans ?_ (Hid.out (by assumption)))))⟩
  · have e1 : spV v = 0 := by unfold spV; rw [if_neg h]
    have e2 : spE v = 2 := by unfold spE; rw [if_neg h]
    rw [e1, e2]
    have h3 : v < 0 ∨ 100000 < v := by omega
    clear h e1 e2
    rcases h3 with h3 | h3
    all_goals
      go_enter Try.func18, Try.ntmps18
      go_wp2_with (go_at_call 53; refine (s_InB _ _ _ false (by simp; omega) _).mono ?_; rintro e w' ⟨rfl, rfl⟩)
      go_ret2
      exact ⟨rfl, (by repeat (first | (with_reducible exact Later.refl _) | (with_reducible exact Hid.out (by assumption)) | (with_reducible refine Later.alloc ?_ _) | (with_reducible refine Later.setCell ?_ (by simp; omega) _) | (with_reducible refine Later.setCell ?_ (by simp) _) | (with_reducible refine Later.drewN ?_ _) | (with_reducible refine Later.drew ?_) | (with_reducible refine Later.trans ?_ (Hid.out (by assumption)))))⟩
theorem k2 (b l : Int) : 2 * b * l = b * (2 * l) := by rw [Int.mul_comm 2 b, Int.mul_assoc]
theorem s_Change (x : Sg) (w : World) (h : sgB x = true) :
    Calls Try.prog 68 #[.agg #[.int .i64 x.k, .int .i64 x.l, .int .i64 x.r, .int .i64 x.a, .int .i64 x.b, .int .i64 x.c, .int .i64 x.d]] w fun e w' => e = .returned (.agg #[.int .i64 (chL x), .int .i64 (chH x)]) ∧ Later w w' := by
  obtain ⟨b1, b2, b3⟩ := k_bd x h
  rw [sgB_iff] at h
  obtain ⟨⟨k1, k2⟩, ⟨l1, l2⟩, ⟨r1, r2, r3, r4⟩, ⟨a1, a2, a3⟩, _⟩ := h
  clear r3 r4
  unfold chL chH
  unfold kL kH at *
  rw [← Go.Proofs.Ythheoeeobikkhaa.k2 x.a x.l] at *
  rw [← Go.Proofs.Ythheoeeobikkhaa.k2 x.b x.l] at *
  go_enter Try.func68, Try.ntmps68
  go_wp2
  refine bodyPost_ret (v := .agg #[.int .i64 (-19612 * x.r - 2 * x.b * x.l), .int .i64 (-19612 * x.r - 2 * x.a * x.l)]) (by simp [results, Try.results68, go_sem, *]) rfl ⟨rfl, (by repeat (first | (with_reducible exact Later.refl _) | (with_reducible exact Hid.out (by assumption)) | (with_reducible refine Later.alloc ?_ _) | (with_reducible refine Later.setCell ?_ (by simp; omega) _) | (with_reducible refine Later.setCell ?_ (by simp) _) | (with_reducible refine Later.drewN ?_ _) | (with_reducible refine Later.drew ?_) | (with_reducible refine Later.trans ?_ (Hid.out (by assumption)))))⟩
theorem s_l06Sum (a b c d : Int) (w : World) (ha : -1000000000000 ≤ a) (ha' : a ≤ 1000000000000) (hb : -1000000000000 ≤ b) (hb' : b ≤ 1000000000000) (hc : -1000000000000 ≤ c) (hc' : c ≤ 1000000000000) (hd : -1000000000000 ≤ d) (hd' : d ≤ 1000000000000) :
    Calls Try.prog 67 #[.agg #[.int .i64 a, .int .i64 b], .agg #[.int .i64 c, .int .i64 d]] w fun e w' => e = .returned (.agg #[.int .i64 (a + c), .int .i64 (b + d)]) ∧ Later w w' := by
  go_enter Try.func67, Try.ntmps67
  go_wp2
  refine bodyPost_ret (v := .agg #[.int .i64 (a + c), .int .i64 (b + d)]) (by simp [results, Try.results67, go_sem, *]) rfl ⟨rfl, (by repeat (first | (with_reducible exact Later.refl _) | (with_reducible exact Hid.out (by assumption)) | (with_reducible refine Later.alloc ?_ _) | (with_reducible refine Later.setCell ?_ (by simp; omega) _) | (with_reducible refine Later.setCell ?_ (by simp) _) | (with_reducible refine Later.drewN ?_ _) | (with_reducible refine Later.drew ?_) | (with_reducible refine Later.trans ?_ (Hid.out (by assumption)))))⟩
theorem s_Verdict (a b : Int) (w : World) : Calls Try.prog 69 #[.agg #[.int .i64 a, .int .i64 b]] w fun e w' => e = .returned (.int .i64 (vrd a b)) ∧ Later w w' := by
  by_cases h3 : 0 ≤ a
  · have e1 : Hid (vrd a b = 2) := Lib.hid (by unfold vrd; rw [if_pos h3])
    go_enter Try.func69, Try.ntmps69
    go_wp2
    go_ret
    exact ⟨ret_i64 e1.out.symm, (by repeat (first | (with_reducible exact Later.refl _) | (with_reducible exact Hid.out (by assumption)) | (with_reducible refine Later.alloc ?_ _) | (with_reducible refine Later.setCell ?_ (by simp; omega) _) | (with_reducible refine Later.setCell ?_ (by simp) _) | (with_reducible refine Later.drewN ?_ _) | (with_reducible refine Later.drew ?_) | (with_reducible refine Later.trans ?_ (Hid.out (by assumption)))))⟩
  · by_cases h4 : b < 0
    · have e1 : Hid (vrd a b = 0) := Lib.hid (by unfold vrd; rw [if_neg h3, if_pos h4])
      go_enter Try.func69, Try.ntmps69
      go_wp2
      go_ret
      exact ⟨ret_i64 e1.out.symm, (by repeat (first | (with_reducible exact Later.refl _) | (with_reducible exact Hid.out (by assumption)) | (with_reducible refine Later.alloc ?_ _) | (with_reducible refine Later.setCell ?_ (by simp; omega) _) | (with_reducible refine Later.setCell ?_ (by simp) _) | (with_reducible refine Later.drewN ?_ _) | (with_reducible refine Later.drew ?_) | (with_reducible refine Later.trans ?_ (Hid.out (by assumption)))))⟩
    · have e1 : Hid (vrd a b = 1) := Lib.hid (by unfold vrd; rw [if_neg h3, if_neg h4])
      go_enter Try.func69, Try.ntmps69
      go_wp2
      go_ret
      exact ⟨ret_i64 e1.out.symm, (by repeat (first | (with_reducible exact Later.refl _) | (with_reducible exact Hid.out (by assumption)) | (with_reducible refine Later.alloc ?_ _) | (with_reducible refine Later.setCell ?_ (by simp; omega) _) | (with_reducible refine Later.setCell ?_ (by simp) _) | (with_reducible refine Later.drewN ?_ _) | (with_reducible refine Later.drew ?_) | (with_reducible refine Later.trans ?_ (Hid.out (by assumption)))))⟩
theorem s_Check (a b : Int) (w : World) :
    Calls Try.prog 66 #[.agg #[.int .i64 a, .int .i64 b]] w fun e w' => e = .returned (.tuple #[.agg #[.int .i64 (okV (codE a b) a), .int .i64 (okV (codE a b) b)], .int .i64 (codE a b)]) ∧ Later w w' := by
  by_cases h0 : a < 0
  · have e : codE a b = 5 := by unfold codE; rw [if_pos h0]
    rw [e]
    go_enter Try.func66, Try.ntmps66
    go_wp2
    refine bodyPost_ret (v := .tuple #[.agg #[.int .i64 (okV 5 a), .int .i64 (okV 5 b)], .int .i64 5]) (by simp [results, Try.results66, go_sem, okV, *]) rfl ⟨rfl, (by repeat (first | (with_reducible exact Later.refl _) | (with_reducible exact Hid.out (by assumption)) | (with_reducible refine Later.alloc ?_ _) | (with_reducible refine Later.setCell ?_ (by simp; omega) _) | (with_reducible refine Later.setCell ?_ (by simp) _) | (with_reducible refine Later.drewN ?_ _) | (with_reducible refine Later.drew ?_) | (with_reducible refine Later.trans ?_ (Hid.out (by assumption)))))⟩
  · by_cases h1 : b ≤ 10000000000
    · have e : codE a b = 0 := by unfold codE; rw [if_neg h0, if_pos h1]
      rw [e]
      go_enter Try.func66, Try.ntmps66
      go_wp2
      refine bodyPost_ret (v := .tuple #[.agg #[.int .i64 (okV 0 a), .int .i64 (okV 0 b)], .int .i64 0]) (by simp [results, Try.results66, go_sem, okV, *]) rfl ⟨rfl, (by repeat (first | (with_reducible exact Later.refl _) | (with_reducible exact Hid.out (by assumption)) | (with_reducible refine Later.alloc ?_ _) | (with_reducible refine Later.setCell ?_ (by simp; omega) _) | (with_reducible refine Later.setCell ?_ (by simp) _) | (with_reducible refine Later.drewN ?_ _) | (with_reducible refine Later.drew ?_) | (with_reducible refine Later.trans ?_ (Hid.out (by assumption)))))⟩
    · have e : codE a b = 3 := by unfold codE; rw [if_neg h0, if_neg h1]
      rw [e]
      go_enter Try.func66, Try.ntmps66
      go_wp2
      refine bodyPost_ret (v := .tuple #[.agg #[.int .i64 (okV 3 a), .int .i64 (okV 3 b)], .int .i64 3]) (by simp [results, Try.results66, go_sem, okV, *]) rfl ⟨rfl, (by repeat (first | (with_reducible exact Later.refl _) | (with_reducible exact Hid.out (by assumption)) | (with_reducible refine Later.alloc ?_ _) | (with_reducible refine Later.setCell ?_ (by simp; omega) _) | (with_reducible refine Later.setCell ?_ (by simp) _) | (with_reducible refine Later.drewN ?_ _) | (with_reducible refine Later.drew ?_) | (with_reducible refine Later.trans ?_ (Hid.out (by assumption)))))⟩
theorem s_ChangeOf' (x : Sg) (w : World) :
    Calls Try.prog 41 #[.agg #[.int .i64 x.k, .int .i64 x.l, .int .i64 x.r, .int .i64 x.a, .int .i64 x.b, .int .i64 x.c, .int .i64 x.d]] w fun e w' => e = .returned (.tuple #[.agg #[.int .i64 (if sgB x = true then chL x else 0), .int .i64 (if sgB x = true then chH x else 0)], .int .i64 (inE (sgB x))]) ∧ Later w w' := by
  cases h : sgB x
  · go_enter Try.func41, Try.ntmps41
    go_wp2_with (go_at_call 65; refine (s_IsSegment x _).mono ?_; rintro e w1 ⟨rfl, hb⟩; obtain ⟨H, hcc, hff, hzz⟩ := later_facts hb; clear hb; (try simp at hzz); (try simp only [World.heap_drewN, World.cell?_drewN, World.frozen?_drewN] at hcc hff); have hz0 : w.heap.size < w1.heap.size := (by omega); (try (have hz1 : w.heap.size + 1 < w1.heap.size := (by omega))); (try (have hz2 : w.heap.size + 1 + 1 < w1.heap.size := (by omega))); (try (have hz3 : w.heap.size + 1 + 1 + 1 < w1.heap.size := (by omega))); (try (have hz4 : w.heap.size + 1 + 1 + 1 + 1 < w1.heap.size := (by omega))))
    refine bodyPost_ret (v := .tuple #[.agg #[.int .i64 0, .int .i64 0], .int .i64 1]) (by simp [results, Try.results41, go_sem, *]) rfl ⟨rfl, (by repeat (first | (with_reducible exact Later.refl _) | (with_reducible exact Hid.out (by assumption)) | (with_reducible refine Later.alloc ?_ _) | (with_reducible refine Later.setCell ?_ (by simp; omega) _) | (with_reducible refine Later.setCell ?_ (by simp) _) | (with_reducible refine Later.drewN ?_ _) | (with_reducible refine Later.drew ?_) | (with_reducible refine Later.trans ?_ (Hid.out (by assumption)))))⟩
  · go_enter Try.func41, Try.ntmps41
    go_wp2_with (first | (go_at_call 65; refine (s_IsSegment x _).mono ?_; rintro e w1 ⟨rfl, hb⟩; obtain ⟨H, hcc, hff, hzz⟩ := later_facts hb; clear hb; (try simp at hzz); (try simp only [World.heap_drewN, World.cell?_drewN, World.frozen?_drewN] at hcc hff); have hz0 : w.heap.size < w1.heap.size := (by omega); (try (have hz1 : w.heap.size + 1 < w1.heap.size := (by omega))); (try (have hz2 : w.heap.size + 1 + 1 < w1.heap.size := (by omega))); (try (have hz3 : w.heap.size + 1 + 1 + 1 < w1.heap.size := (by omega))); (try (have hz4 : w.heap.size + 1 + 1 + 1 + 1 < w1.heap.size := (by omega)))) | (go_at_call 68; refine (s_Change x _ h).mono ?_; rintro e w1 ⟨rfl, hb⟩; obtain ⟨H, hcc, hff, hzz⟩ := later_facts hb; clear hb; (try simp at hzz); (try simp only [World.heap_drewN, World.cell?_drewN, World.frozen?_drewN] at hcc hff); have hz0 : w.heap.size < w1.heap.size := (by omega); (try (have hz1 : w.heap.size + 1 < w1.heap.size := (by omega))); (try (have hz2 : w.heap.size + 1 + 1 < w1.heap.size := (by omega))); (try (have hz3 : w.heap.size + 1 + 1 + 1 < w1.heap.size := (by omega))); (try (have hz4 : w.heap.size + 1 + 1 + 1 + 1 < w1.heap.size := (by omega)))))
    refine bodyPost_ret (v := .tuple #[.agg #[.int .i64 (chL x), .int .i64 (chH x)], .int .i64 0]) (by simp [results, Try.results41, go_sem, *]) rfl ⟨rfl, (by repeat (first | (with_reducible exact Later.refl _) | (with_reducible exact Hid.out (by assumption)) | (with_reducible refine Later.alloc ?_ _) | (with_reducible refine Later.setCell ?_ (by simp; omega) _) | (with_reducible refine Later.setCell ?_ (by simp) _) | (with_reducible refine Later.drewN ?_ _) | (with_reducible refine Later.drew ?_) | (with_reducible refine Later.trans ?_ (Hid.out (by assumption)))))⟩
theorem s_ChangeOf (x : Sg) (w : World) :
    Calls Try.prog 41 #[.agg #[.int .i64 x.k, .int .i64 x.l, .int .i64 x.r, .int .i64 x.a, .int .i64 x.b, .int .i64 x.c, .int .i64 x.d]] w fun e w' => e = .returned (.tuple #[.agg #[.int .i64 (coL x), .int .i64 (coH x)], .int .i64 (inE (sgB x))]) ∧ Later w w' := s_ChangeOf' x w
end Go.Proofs.Ythheoeeobikkhaa
