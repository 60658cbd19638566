/- Contracts of chapter 7: the model's functions on one brake. -/
import Derived.Test.YtdhoiiejcmnmbaaBrJ
import Derived.Test.YtdhoiiejcmnmbaaEnT
import Derived.Test.YtdhoiiejcmnmbaaDivD
import Derived.Test.YtdhoiiejcmnmbaaNum
namespace Go.Proofs.Ytdhoiiejcmnmbaa
open Go.RowKit
set_option maxHeartbeats 4000000
set_option linter.unusedVariables false
set_option linter.unusedSimpArgs false
theorem s_FloorB (a b : Int) (w : World) (h1 : -4000000000000000000 ≤ a) (h2 : a ≤ 4000000000000000000) (h3 : -1000000000000 ≤ b) (h4 : b ≤ 1000000000000) (h0 : b ≠ 0) :
    Calls Try.prog 75 #[.int .i64 a, .int .i64 b] w fun e w' => e = .returned (.int .i64 (flo a b)) ∧ w = w' := by
  have hb := tdiv_bd a b _ h1 h2
  go_enter Try.func75, Try.ntmps75
  go_wp2
  all_goals
    go_ret
    exact ⟨ret_i64 (by unfold flo; simp_all), rfl⟩
theorem flo_bdB (a b : Int) (m : Int) (h1 : -m ≤ a) (h2 : a ≤ m) : -m - 1 ≤ flo a b ∧ flo a b ≤ m := flo_bd a b m h1 h2
theorem s_CeilB (a b : Int) (w : World) (h1 : -4000000000000000000 ≤ a) (h2 : a ≤ 4000000000000000000) (h3 : -1000000000000 ≤ b) (h4 : b ≤ 1000000000000) (h0 : b ≠ 0) :
    Calls Try.prog 70 #[.int .i64 a, .int .i64 b] w fun e w' => e = .returned (.int .i64 (cei a b)) ∧ w = w' := by
  have hb := flo_bd (-a) b 4000000000000000000 (by omega) (by omega)
  rw [cei_eq a b h0]
  go_enter Try.func70, Try.ntmps70
  go_wp2_with (go_at_call 75; refine (s_FloorB _ _ _ (by omega) (by omega) (by omega) (by omega) h0).mono ?_; rintro e w' ⟨rfl, rfl⟩)
  go_ret
  exact ⟨rfl, rfl⟩
theorem s_Brake (x : Sg) (c : Bool) (h : brk x.k = c) (w : World) : Calls Try.prog 87 #[.agg #[.int .i64 x.k, .int .i64 x.l, .int .i64 x.r, .int .i64 x.a, .int .i64 x.b, .int .i64 x.c, .int .i64 x.d]] w fun e w' => e = .returned (.bool c) ∧ Later w w' := by
  subst h
  have key : ∀ p q : Bool, decide (x.k = 3) = p → decide (x.k = 4) = q → Hid (brk x.k = (p || q)) := by
    rintro p q rfl rfl; exact Lib.hid rfl
  cases h3 : decide (x.k = 3) <;> cases h4 : decide (x.k = 4)
  all_goals
    have K := key _ _ h3 h4
    clear key
    have e3 := (show (x.k == 3) = decide (x.k = 3) from rfl).trans h3
    have e4 := (show (x.k == 4) = decide (x.k = 4) from rfl).trans h4
    clear h3 h4
    go_enter Try.func87, Try.ntmps87
    go_wp2
    go_ret
    exact ⟨ret_b (by first | rfl | (rw [K.out]; rfl)), (by repeat (first | (with_reducible exact Later.refl _) | (with_reducible exact Hid.out (by assumption)) | (with_reducible refine Later.alloc ?_ _) | (with_reducible refine Later.setCell ?_ (by simp; omega) _) | (with_reducible refine Later.setCell ?_ (by simp) _) | (with_reducible refine Later.drewN ?_ _) | (with_reducible refine Later.drew ?_) | (with_reducible refine Later.trans ?_ (Hid.out (by assumption)))))⟩
theorem wk_eq (f a l r : Int) : 2 * ((f + a) * l + 9806 * r) = f * (2 * l) - (-19612 * r - a * (2 * l)) := by
  rw [Int.add_mul, ← Go.Proofs.Ytdhoiiejcmnmbaa.k2 f l, ← Go.Proofs.Ytdhoiiejcmnmbaa.k2 a l, Int.mul_assoc, Int.mul_assoc]
  omega
theorem s_Work (x : Sg) (w : World) (h : sgB x = true) :
    Calls Try.prog 86 #[.agg #[.int .i64 x.k, .int .i64 x.l, .int .i64 x.r, .int .i64 x.a, .int .i64 x.b, .int .i64 x.c, .int .i64 x.d]] w fun e w' => e = .returned (.agg #[.int .i64 (wkL x), .int .i64 (wkH x)]) ∧ Later w w' := by
  obtain ⟨g1, g2, g3, g4, g5, g6⟩ := fc_bd x h
  obtain ⟨b1, b2, b3⟩ := k_bd x h
  obtain ⟨t1, t2, t3⟩ := wk_bd x h
  rw [sgB_iff] at h
  obtain ⟨⟨k1, k2⟩, ⟨l1, l2⟩, ⟨r1, r2, r3, r4⟩, ⟨a1, a2, a3⟩, _⟩ := h
  have q1 : wkL x = 2 * ((x.c + x.a) * x.l + 9806 * x.r) := (wk_eq x.c x.a x.l x.r).symm
  have q2 : wkH x = 2 * ((x.d + x.b) * x.l + 9806 * x.r) := (wk_eq x.d x.b x.l x.r).symm
  rw [q1] at t1 t2
  rw [q2] at t2 t3
  rw [q1, q2]
  clear r3 r4 q1 q2 b1 b2 b3 g4 g5 g6
  generalize hA : (x.c + x.a) * x.l = A at *
  generalize hB : (x.d + x.b) * x.l = B at *
  have wA : IntKind.i64.wrap ((x.c + x.a) * x.l) = A := by rw [hA]; exact IntWalk.i64_in _ ⟨by omega, by omega⟩
  have wB : IntKind.i64.wrap ((x.d + x.b) * x.l) = B := by rw [hB]; exact IntWalk.i64_in _ ⟨by omega, by omega⟩
  clear hA hB
  have c1 : IntKind.i64.wrap (x.c + x.a) = x.c + x.a := IntWalk.i64_in _ ⟨by omega, by omega⟩
  have c2 : IntKind.i64.wrap (x.d + x.b) = x.d + x.b := IntWalk.i64_in _ ⟨by omega, by omega⟩
  have c3 : IntKind.i64.wrap (A + 9806 * x.r) = A + 9806 * x.r := IntWalk.i64_in _ ⟨by omega, by omega⟩
  have c4 : IntKind.i64.wrap (B + 9806 * x.r) = B + 9806 * x.r := IntWalk.i64_in _ ⟨by omega, by omega⟩
  have c5 : IntKind.i64.wrap (2 * (A + 9806 * x.r)) = 2 * (A + 9806 * x.r) := IntWalk.i64_in _ ⟨by omega, by omega⟩
  have c6 : IntKind.i64.wrap (2 * (B + 9806 * x.r)) = 2 * (B + 9806 * x.r) := IntWalk.i64_in _ ⟨by omega, by omega⟩
  go_enter Try.func86, Try.ntmps86
  go_wp2
  refine bodyPost_ret (v := .agg #[.int .i64 (2 * (A + 9806 * x.r)), .int .i64 (2 * (B + 9806 * x.r))]) (by simp [results, Try.results86, go_sem, *]) rfl ⟨rfl, (by repeat (first | (with_reducible exact Later.refl _) | (with_reducible exact Hid.out (by assumption)) | (with_reducible refine Later.alloc ?_ _) | (with_reducible refine Later.setCell ?_ (by simp; omega) _) | (with_reducible refine Later.setCell ?_ (by simp) _) | (with_reducible refine Later.drewN ?_ _) | (with_reducible refine Later.drew ?_) | (with_reducible refine Later.trans ?_ (Hid.out (by assumption)))))⟩
theorem s_Code (x : Sg) (w : World) : Calls Try.prog 91 #[.agg #[.int .i64 x.k, .int .i64 x.l, .int .i64 x.r, .int .i64 x.a, .int .i64 x.b, .int .i64 x.c, .int .i64 x.d]] w fun e w' => e = .returned (.int .i64 (brE x)) ∧ Later w w' := by
  cases h : sgB x
  · have e1 : Hid (brE x = 1) := Lib.hid (by unfold brE; rw [h]; rfl)
    go_enter Try.func91, Try.ntmps91
    go_wp2_with (go_at_call 67; refine (s_IsSegment x _).mono ?_; rintro e w1 ⟨rfl, hb⟩; obtain ⟨H, hcc, hff, hzz⟩ := later_facts hb; clear hb; (try simp at hzz); (try simp only [World.heap_drewN, World.cell?_drewN, World.frozen?_drewN] at hcc hff); have hz0 : w.heap.size < w1.heap.size := (by omega); (try (have hz1 : w.heap.size + 1 < w1.heap.size := (by omega))); (try (have hz2 : w.heap.size + 1 + 1 < w1.heap.size := (by omega))); (try (have hz3 : w.heap.size + 1 + 1 + 1 < w1.heap.size := (by omega))); (try (have hz4 : w.heap.size + 1 + 1 + 1 + 1 < w1.heap.size := (by omega))))
    go_ret
    exact ⟨ret_i64 e1.out.symm, (by repeat (first | (with_reducible exact Later.refl _) | (with_reducible exact Hid.out (by assumption)) | (with_reducible refine Later.alloc ?_ _) | (with_reducible refine Later.setCell ?_ (by simp; omega) _) | (with_reducible refine Later.setCell ?_ (by simp) _) | (with_reducible refine Later.drewN ?_ _) | (with_reducible refine Later.drew ?_) | (with_reducible refine Later.trans ?_ (Hid.out (by assumption)))))⟩
  · cases h2 : brk x.k
    · have e1 : Hid (brE x = 5) := Lib.hid (by unfold brE; rw [h, h2]; rfl)
      go_enter Try.func91, Try.ntmps91
      go_wp2_with (first | (go_at_call 67; refine (s_IsSegment x _).mono ?_; rintro e w1 ⟨rfl, hb⟩; obtain ⟨H, hcc, hff, hzz⟩ := later_facts hb; clear hb; (try simp at hzz); (try simp only [World.heap_drewN, World.cell?_drewN, World.frozen?_drewN] at hcc hff); have hz0 : w.heap.size < w1.heap.size := (by omega); (try (have hz1 : w.heap.size + 1 < w1.heap.size := (by omega))); (try (have hz2 : w.heap.size + 1 + 1 < w1.heap.size := (by omega))); (try (have hz3 : w.heap.size + 1 + 1 + 1 < w1.heap.size := (by omega))); (try (have hz4 : w.heap.size + 1 + 1 + 1 + 1 < w1.heap.size := (by omega)))) | (go_at_call 87; refine (s_Brake x _ h2 _).mono ?_; rintro e w1 ⟨rfl, hb⟩; obtain ⟨H, hcc, hff, hzz⟩ := later_facts hb; clear hb; (try simp at hzz); (try simp only [World.heap_drewN, World.cell?_drewN, World.frozen?_drewN] at hcc hff); have hz0 : w.heap.size < w1.heap.size := (by omega); (try (have hz1 : w.heap.size + 1 < w1.heap.size := (by omega))); (try (have hz2 : w.heap.size + 1 + 1 < w1.heap.size := (by omega))); (try (have hz3 : w.heap.size + 1 + 1 + 1 < w1.heap.size := (by omega))); (try (have hz4 : w.heap.size + 1 + 1 + 1 + 1 < w1.heap.size := (by omega)))))
      go_ret
      exact ⟨ret_i64 e1.out.symm, (by repeat (first | (with_reducible exact Later.refl _) | (with_reducible exact Hid.out (by assumption)) | (with_reducible refine Later.alloc ?_ _) | (with_reducible refine Later.setCell ?_ (by simp; omega) _) | (with_reducible refine Later.setCell ?_ (by simp) _) | (with_reducible refine Later.drewN ?_ _) | (with_reducible refine Later.drew ?_) | (with_reducible refine Later.trans ?_ (Hid.out (by assumption)))))⟩
    · have e1 : Hid (brE x = 0) := Lib.hid (by unfold brE; rw [h, h2]; rfl)
      go_enter Try.func91, Try.ntmps91
      go_wp2_with (first | (go_at_call 67; refine (s_IsSegment x _).mono ?_; rintro e w1 ⟨rfl, hb⟩; obtain ⟨H, hcc, hff, hzz⟩ := later_facts hb; clear hb; (try simp at hzz); (try simp only [World.heap_drewN, World.cell?_drewN, World.frozen?_drewN] at hcc hff); have hz0 : w.heap.size < w1.heap.size := (by omega); (try (have hz1 : w.heap.size + 1 < w1.heap.size := (by omega))); (try (have hz2 : w.heap.size + 1 + 1 < w1.heap.size := (by omega))); (try (have hz3 : w.heap.size + 1 + 1 + 1 < w1.heap.size := (by omega))); (try (have hz4 : w.heap.size + 1 + 1 + 1 + 1 < w1.heap.size := (by omega)))) | (go_at_call 87; refine (s_Brake x _ h2 _).mono ?_; rintro e w1 ⟨rfl, hb⟩; obtain ⟨H, hcc, hff, hzz⟩ := later_facts hb; clear hb; (try simp at hzz); (try simp only [World.heap_drewN, World.cell?_drewN, World.frozen?_drewN] at hcc hff); have hz0 : w.heap.size < w1.heap.size := (by omega); (try (have hz1 : w.heap.size + 1 < w1.heap.size := (by omega))); (try (have hz2 : w.heap.size + 1 + 1 < w1.heap.size := (by omega))); (try (have hz3 : w.heap.size + 1 + 1 + 1 < w1.heap.size := (by omega))); (try (have hz4 : w.heap.size + 1 + 1 + 1 + 1 < w1.heap.size := (by omega)))))
      go_ret
      exact ⟨ret_i64 e1.out.symm, (by repeat (first | (with_reducible exact Later.refl _) | (with_reducible exact Hid.out (by assumption)) | (with_reducible refine Later.alloc ?_ _) | (with_reducible refine Later.setCell ?_ (by simp; omega) _) | (with_reducible refine Later.setCell ?_ (by simp) _) | (with_reducible refine Later.drewN ?_ _) | (with_reducible refine Later.drew ?_) | (with_reducible refine Later.trans ?_ (Hid.out (by assumption)))))⟩
theorem s_BrakeWork (x : Sg) (w : World) :
    Calls Try.prog 46 #[.agg #[.int .i64 x.k, .int .i64 x.l, .int .i64 x.r, .int .i64 x.a, .int .i64 x.b, .int .i64 x.c, .int .i64 x.d]] w fun e w' => e = .returned (.tuple #[.agg #[.int .i64 (bwL x), .int .i64 (bwH x)], .int .i64 (brE x)]) ∧ Later w w' := by
  have HC := fun w => s_Code x w
  by_cases h : brE x = 0
  · have b2 : bwL x = wkL x := by unfold bwL; rw [h]; rfl
    have b3 : bwH x = wkH x := by unfold bwH; rw [h]; rfl
    have HS := fun w => s_Work x w (brE_ok h).1
    rw [h] at HC
    rw [h, b2, b3]
    generalize wkL x = p at *
    generalize wkH x = q at *
    clear h b2 b3
    go_enter Try.func46, Try.ntmps46
    go_wp2_with (first | (go_at_call 91; refine (HC _).mono ?_; rintro e w1 ⟨rfl, hb⟩; obtain ⟨H, hcc, hff, hzz⟩ := later_facts hb; clear hb; (try simp at hzz); (try simp only [World.heap_drewN, World.cell?_drewN, World.frozen?_drewN] at hcc hff); have hz0 : w.heap.size < w1.heap.size := (by omega); (try (have hz1 : w.heap.size + 1 < w1.heap.size := (by omega))); (try (have hz2 : w.heap.size + 1 + 1 < w1.heap.size := (by omega))); (try (have hz3 : w.heap.size + 1 + 1 + 1 < w1.heap.size := (by omega))); (try (have hz4 : w.heap.size + 1 + 1 + 1 + 1 < w1.heap.size := (by omega)))) | (go_at_call 86; refine (HS _).mono ?_; rintro e w1 ⟨rfl, hb⟩; obtain ⟨H, hcc, hff, hzz⟩ := later_facts hb; clear hb; (try simp at hzz); (try simp only [World.heap_drewN, World.cell?_drewN, World.frozen?_drewN] at hcc hff); have hz0 : w.heap.size < w1.heap.size := (by omega); (try (have hz1 : w.heap.size + 1 < w1.heap.size := (by omega))); (try (have hz2 : w.heap.size + 1 + 1 < w1.heap.size := (by omega))); (try (have hz3 : w.heap.size + 1 + 1 + 1 < w1.heap.size := (by omega))); (try (have hz4 : w.heap.size + 1 + 1 + 1 + 1 < w1.heap.size := (by omega)))))
    refine bodyPost_ret (v := .tuple #[.agg #[.int .i64 p, .int .i64 q], .int .i64 0]) (by simp [results, Try.results46, go_sem, *]) rfl ⟨rfl, (by repeat (first | (with_reducible exact Later.refl _) | (with_reducible exact Hid.out (by assumption)) | (with_reducible refine Later.alloc ?_ _) | (with_reducible refine Later.setCell ?_ (by simp; omega) _) | (with_reducible refine Later.setCell ?_ (by simp) _) | (with_reducible refine Later.drewN ?_ _) | (with_reducible refine Later.drew ?_) | (with_reducible refine Later.trans ?_ (Hid.out (by assumption)))))⟩
  · have b2 : bwL x = 0 := by unfold bwL okV; rw [if_neg h]
    have b3 : bwH x = 0 := by unfold bwH okV; rw [if_neg h]
    rw [b2, b3]
    generalize brE x = q at *
    have hne : (q != 0) = true := by simpa using h
    clear h b2 b3
    go_enter Try.func46, Try.ntmps46
    go_wp2_with (go_at_call 91; refine (HC _).mono ?_; rintro e w1 ⟨rfl, hb⟩; obtain ⟨H, hcc, hff, hzz⟩ := later_facts hb; clear hb; (try simp at hzz); (try simp only [World.heap_drewN, World.cell?_drewN, World.frozen?_drewN] at hcc hff); have hz0 : w.heap.size < w1.heap.size := (by omega); (try (have hz1 : w.heap.size + 1 < w1.heap.size := (by omega))); (try (have hz2 : w.heap.size + 1 + 1 < w1.heap.size := (by omega))); (try (have hz3 : w.heap.size + 1 + 1 + 1 < w1.heap.size := (by omega))); (try (have hz4 : w.heap.size + 1 + 1 + 1 + 1 < w1.heap.size := (by omega))))
    refine bodyPost_ret (v := .tuple #[.agg #[.int .i64 0, .int .i64 0], .int .i64 q]) (by simp [results, Try.results46, go_sem, *]) rfl ⟨rfl, (by repeat (first | (with_reducible exact Later.refl _) | (with_reducible exact Hid.out (by assumption)) | (with_reducible refine Later.alloc ?_ _) | (with_reducible refine Later.setCell ?_ (by simp; omega) _) | (with_reducible refine Later.setCell ?_ (by simp) _) | (with_reducible refine Later.drewN ?_ _) | (with_reducible refine Later.drew ?_) | (with_reducible refine Later.trans ?_ (Hid.out (by assumption)))))⟩
theorem s_GreatestStop (x : Sg) (w : World) :
    Calls Try.prog 52 #[.agg #[.int .i64 x.k, .int .i64 x.l, .int .i64 x.r, .int .i64 x.a, .int .i64 x.b, .int .i64 x.c, .int .i64 x.d]] w fun e w' => e = .returned (.tuple #[.int .i64 (gsV x), .int .i64 (slE x)]) ∧ Later w w' := by
  have HC := fun w => s_Code x w
  by_cases h : brE x = 0
  · have HS := fun w => s_Work x w (brE_ok h).1
    have e0 : Hid (slE x = if 1 ≤ wkL x then 0 else 5) := Lib.hid (by unfold slE; rw [if_pos h])
    have e1 : Hid (gsV x = if 1 ≤ wkL x then min (wkL x) 10000000000 else 0) := Lib.hid (by unfold gsV okV; rw [e0.out]; split <;> simp)
    rw [h] at HC
    generalize wkL x = p at *
    generalize wkH x = q at *
    have hfd : ∀ w : World, (Instr.field 25 (.agg #[.int .i64 p, .int .i64 q]) 0).run Try.prog w = .ok (.int .i64 p) w := fun _ => by kernel_rfl
    clear h
    by_cases h1 : 1 ≤ p
    · go_enter Try.func52, Try.ntmps52
      go_wp2_with (first | (go_at_call 91; refine (HC _).mono ?_; rintro e w1 ⟨rfl, hb⟩; obtain ⟨H, hcc, hff, hzz⟩ := later_facts hb; clear hb; (try simp at hzz); (try simp only [World.heap_drewN, World.cell?_drewN, World.frozen?_drewN] at hcc hff); have hz0 : w.heap.size < w1.heap.size := (by omega); (try (have hz1 : w.heap.size + 1 < w1.heap.size := (by omega))); (try (have hz2 : w.heap.size + 1 + 1 < w1.heap.size := (by omega))); (try (have hz3 : w.heap.size + 1 + 1 + 1 < w1.heap.size := (by omega))); (try (have hz4 : w.heap.size + 1 + 1 + 1 + 1 < w1.heap.size := (by omega)))) | (go_at_call 86; refine (HS _).mono ?_; rintro e w1 ⟨rfl, hb⟩; obtain ⟨H, hcc, hff, hzz⟩ := later_facts hb; clear hb; (try simp at hzz); (try simp only [World.heap_drewN, World.cell?_drewN, World.frozen?_drewN] at hcc hff); have hz0 : w.heap.size < w1.heap.size := (by omega); (try (have hz1 : w.heap.size + 1 < w1.heap.size := (by omega))); (try (have hz2 : w.heap.size + 1 + 1 < w1.heap.size := (by omega))); (try (have hz3 : w.heap.size + 1 + 1 + 1 < w1.heap.size := (by omega))); (try (have hz4 : w.heap.size + 1 + 1 + 1 + 1 < w1.heap.size := (by omega)))))
      all_goals
        go_ret2
        exact ⟨ret_2i (by rw [e1.out, if_pos h1]; omega) (by rw [e0.out, if_pos h1]), (by repeat (first | (with_reducible exact Later.refl _) | (with_reducible exact Hid.out (by assumption)) | (with_reducible refine Later.alloc ?_ _) | (with_reducible refine Later.setCell ?_ (by simp; omega) _) | (with_reducible refine Later.setCell ?_ (by simp) _) | (with_reducible refine Later.drewN ?_ _) | (with_reducible refine Later.drew ?_) | (with_reducible refine Later.trans ?_ (Hid.out (by assumption)))))⟩
    · have h2 : p < 1 := by omega
      go_enter Try.func52, Try.ntmps52
      go_wp2_with (first | (go_at_call 91; refine (HC _).mono ?_; rintro e w1 ⟨rfl, hb⟩; obtain ⟨H, hcc, hff, hzz⟩ := later_facts hb; clear hb; (try simp at hzz); (try simp only [World.heap_drewN, World.cell?_drewN, World.frozen?_drewN] at hcc hff); have hz0 : w.heap.size < w1.heap.size := (by omega); (try (have hz1 : w.heap.size + 1 < w1.heap.size := (by omega))); (try (have hz2 : w.heap.size + 1 + 1 < w1.heap.size := (by omega))); (try (have hz3 : w.heap.size + 1 + 1 + 1 < w1.heap.size := (by omega))); (try (have hz4 : w.heap.size + 1 + 1 + 1 + 1 < w1.heap.size := (by omega)))) | (go_at_call 86; refine (HS _).mono ?_; rintro e w1 ⟨rfl, hb⟩; obtain ⟨H, hcc, hff, hzz⟩ := later_facts hb; clear hb; (try simp at hzz); (try simp only [World.heap_drewN, World.cell?_drewN, World.frozen?_drewN] at hcc hff); have hz0 : w.heap.size < w1.heap.size := (by omega); (try (have hz1 : w.heap.size + 1 < w1.heap.size := (by omega))); (try (have hz2 : w.heap.size + 1 + 1 < w1.heap.size := (by omega))); (try (have hz3 : w.heap.size + 1 + 1 + 1 < w1.heap.size := (by omega))); (try (have hz4 : w.heap.size + 1 + 1 + 1 + 1 < w1.heap.size := (by omega)))))
      go_ret2
      exact ⟨ret_2i (by rw [e1.out, if_neg (by omega)]) (by rw [e0.out, if_neg (by omega)]), (by repeat (first | (with_reducible exact Later.refl _) | (with_reducible exact Hid.out (by assumption)) | (with_reducible refine Later.alloc ?_ _) | (with_reducible refine Later.setCell ?_ (by simp; omega) _) | (with_reducible refine Later.setCell ?_ (by simp) _) | (with_reducible refine Later.drewN ?_ _) | (with_reducible refine Later.drew ?_) | (with_reducible refine Later.trans ?_ (Hid.out (by assumption)))))⟩
  · have e0 : slE x = brE x := by unfold slE; rw [if_neg h]
    have e1 : gsV x = 0 := by unfold gsV okV; rw [e0, if_neg h]
    rw [e0, e1]
    generalize brE x = q at *
    have hne : (q != 0) = true := by simpa using h
    have hne2 : (q == 0) = false := by simpa using h
    clear h e0 e1
    go_enter Try.func52, Try.ntmps52
    go_wp2_with (first | (go_at_call 91; refine (HC _).mono ?_; rintro e w1 ⟨rfl, hb⟩; obtain ⟨H, hcc, hff, hzz⟩ := later_facts hb; clear hb; (try simp at hzz); (try simp only [World.heap_drewN, World.cell?_drewN, World.frozen?_drewN] at hcc hff); have hz0 : w.heap.size < w1.heap.size := (by omega); (try (have hz1 : w.heap.size + 1 < w1.heap.size := (by omega))); (try (have hz2 : w.heap.size + 1 + 1 < w1.heap.size := (by omega))); (try (have hz3 : w.heap.size + 1 + 1 + 1 < w1.heap.size := (by omega))); (try (have hz4 : w.heap.size + 1 + 1 + 1 + 1 < w1.heap.size := (by omega)))))
    go_ret2
    exact ⟨rfl, (by repeat (first | (with_reducible exact Later.refl _) | (with_reducible exact Hid.out (by assumption)) | (with_reducible refine Later.alloc ?_ _) | (with_reducible refine Later.setCell ?_ (by simp; omega) _) | (with_reducible refine Later.setCell ?_ (by simp) _) | (with_reducible refine Later.drewN ?_ _) | (with_reducible refine Later.drew ?_) | (with_reducible refine Later.trans ?_ (Hid.out (by assumption)))))⟩
theorem s_StoppingDistance (x : Sg) (a b : Int) (w : World) :
    Calls Try.prog 42 #[.agg #[.int .i64 x.k, .int .i64 x.l, .int .i64 x.r, .int .i64 x.a, .int .i64 x.b, .int .i64 x.c, .int .i64 x.d], .agg #[.int .i64 a, .int .i64 b]] w fun e w' => e = .returned (.tuple #[.agg #[.int .i64 (dsL x a b), .int .i64 (dsH x a b)], .int .i64 (dsE x a b)]) ∧ Later w w' := by
  cases h0 : sgB x
  · have e1 : dsE x a b = 1 := by unfold dsE slE brE; rw [h0]; cases enB a b <;> rfl
    have e2 : dsL x a b = 0 := by unfold dsL; rw [e1]; rfl
    have e3 : dsH x a b = 0 := by unfold dsH; rw [e1]; rfl
    rw [e1, e2, e3]
    clear e1 e2 e3
    go_enter Try.func42, Try.ntmps42
    go_wp2_with (first | (go_at_call 67; refine (s_IsSegment x _).mono ?_; rintro e w1 ⟨rfl, hb⟩; obtain ⟨H, hcc, hff, hzz⟩ := later_facts hb; clear hb; (try simp at hzz); (try simp only [World.heap_drewN, World.cell?_drewN, World.frozen?_drewN] at hcc hff); have hz0 : w.heap.size < w1.heap.size := (by omega); (try (have hz1 : w.heap.size + 1 < w1.heap.size := (by omega))); (try (have hz2 : w.heap.size + 1 + 1 < w1.heap.size := (by omega))); (try (have hz3 : w.heap.size + 1 + 1 + 1 < w1.heap.size := (by omega))); (try (have hz4 : w.heap.size + 1 + 1 + 1 + 1 < w1.heap.size := (by omega)))) | (go_at_call 68; refine (s_IsEnergy _ _ _).mono ?_; rintro e w1 ⟨rfl, hb⟩; obtain ⟨H, hcc, hff, hzz⟩ := later_facts hb; clear hb; (try simp at hzz); (try simp only [World.heap_drewN, World.cell?_drewN, World.frozen?_drewN] at hcc hff); have hz0 : w.heap.size < w1.heap.size := (by omega); (try (have hz1 : w.heap.size + 1 < w1.heap.size := (by omega))); (try (have hz2 : w.heap.size + 1 + 1 < w1.heap.size := (by omega))); (try (have hz3 : w.heap.size + 1 + 1 + 1 < w1.heap.size := (by omega))); (try (have hz4 : w.heap.size + 1 + 1 + 1 + 1 < w1.heap.size := (by omega)))))
    refine bodyPost_ret (v := .tuple #[.agg #[.int .i64 0, .int .i64 0], .int .i64 1]) (by simp [results, Try.results42, go_sem, *]) rfl ⟨rfl, (by repeat (first | (with_reducible exact Later.refl _) | (with_reducible exact Hid.out (by assumption)) | (with_reducible refine Later.alloc ?_ _) | (with_reducible refine Later.setCell ?_ (by simp; omega) _) | (with_reducible refine Later.setCell ?_ (by simp) _) | (with_reducible refine Later.drewN ?_ _) | (with_reducible refine Later.drew ?_) | (with_reducible refine Later.trans ?_ (Hid.out (by assumption)))))⟩
  · cases h1 : enB a b
    · have e1 : dsE x a b = 1 := by unfold dsE; rw [h1]; rfl
      have e2 : dsL x a b = 0 := by unfold dsL; rw [e1]; rfl
      have e3 : dsH x a b = 0 := by unfold dsH; rw [e1]; rfl
      rw [e1, e2, e3]
      clear e1 e2 e3
      go_enter Try.func42, Try.ntmps42
      go_upto_region 1 with (fail)
      refine into (fun W => Held [(w.heap.size + 1, 0, .int .i64 a), (w.heap.size + 1, 1, .int .i64 b), (w.heap.size, 0, .int .i64 x.k), (w.heap.size, 1, .int .i64 x.l), (w.heap.size, 2, .int .i64 x.r), (w.heap.size, 3, .int .i64 x.a), (w.heap.size, 4, .int .i64 x.b), (w.heap.size, 5, .int .i64 x.c), (w.heap.size, 6, .int .i64 x.d)] w W ∧ Fr (w.heap.size + 1 + 1) [.int .i64 0, .int .i64 0] W) ⟨?_, ?_⟩ ?_
      · exact (held_box (held_box (held_start w) w.heap.size [.int .i64 x.k, .int .i64 x.l, .int .i64 x.r, .int .i64 x.a, .int .i64 x.b, .int .i64 x.c, .int .i64 x.d] _ rfl) (w.heap.size + 1) [.int .i64 a, .int .i64 b] _ (by simp)).alloc _
      · have F := fr_alloc (X := (w.alloc (.cells [.int .i64 x.k, .int .i64 x.l, .int .i64 x.r, .int .i64 x.a, .int .i64 x.b, .int .i64 x.c, .int .i64 x.d].toArray 27)).alloc (.cells [Value.int .i64 a, .int .i64 b].toArray 25)) (l := [.int .i64 0, .int .i64 0]) (T := 25) (Later.refl _)
        simp only [World.size_alloc] at F
        exact F
      rintro W ⟨hW, hF⟩
      obtain ⟨p7, p8, p0, p1, p2, p3, p4, p5, p6, _⟩ := Held.s9 hW
      obtain ⟨r0, r1, r2, r3⟩ := Fr.o2 hF
      have z2 := hF.lt
      have z0 := hW.lt w.heap.size 0 (.int .i64 x.k) (by simp)
      have z1 := hW.lt (w.heap.size + 1) 0 (.int .i64 a) (by simp)
      have HW := Lib.hid (Held.is hW)
      go_wp2_with (first | (go_at_call 67; refine (s_IsSegment x _).mono ?_; rintro e w1 ⟨rfl, hb⟩; obtain ⟨H, hcc, hff, hzz⟩ := later_facts hb; clear hb; (try simp at hzz); (try simp only [World.heap_drewN, World.cell?_drewN, World.frozen?_drewN] at hcc hff); have hz0 : w.heap.size < w1.heap.size := (by omega); (try (have hz1 : w.heap.size + 1 < w1.heap.size := (by omega))); (try (have hz2 : w.heap.size + 1 + 1 < w1.heap.size := (by omega))); (try (have hz3 : w.heap.size + 1 + 1 + 1 < w1.heap.size := (by omega))); (try (have hz4 : w.heap.size + 1 + 1 + 1 + 1 < w1.heap.size := (by omega)))) | (go_at_call 68; refine (s_IsEnergy _ _ _).mono ?_; rintro e w1 ⟨rfl, hb⟩; obtain ⟨H, hcc, hff, hzz⟩ := later_facts hb; clear hb; (try simp at hzz); (try simp only [World.heap_drewN, World.cell?_drewN, World.frozen?_drewN] at hcc hff); have hz0 : w.heap.size < w1.heap.size := (by omega); (try (have hz1 : w.heap.size + 1 < w1.heap.size := (by omega))); (try (have hz2 : w.heap.size + 1 + 1 < w1.heap.size := (by omega))); (try (have hz3 : w.heap.size + 1 + 1 + 1 < w1.heap.size := (by omega))); (try (have hz4 : w.heap.size + 1 + 1 + 1 + 1 < w1.heap.size := (by omega)))))
      refine bodyPost_ret (v := .tuple #[.agg #[.int .i64 0, .int .i64 0], .int .i64 1]) (by simp [results, Try.results42, go_sem, *]) rfl ⟨rfl, (by repeat (first | (with_reducible exact Later.refl _) | (with_reducible exact Hid.out (by assumption)) | (with_reducible refine Later.alloc ?_ _) | (with_reducible refine Later.setCell ?_ (by simp; omega) _) | (with_reducible refine Later.setCell ?_ (by simp) _) | (with_reducible refine Later.drewN ?_ _) | (with_reducible refine Later.drew ?_) | (with_reducible refine Later.trans ?_ (Hid.out (by assumption)))))⟩
    · have HS := fun w => s_Work x w h0
      have e1 : dsE x a b = slE x := by unfold dsE; rw [h1]; rfl
      by_cases h : slE x = 0
      · obtain ⟨s1, s2, s3⟩ := slE_ok h
        obtain ⟨u1, u2, u3⟩ := (enB_iff a b).1 h1
        have hw := wk_bd x s1
        have hl := ((sgB_iff x).1 s1).2.1
        have m1 := nn_mul a x.l (by omega) (by omega) hl.1 hl.2
        have m2 := nn_mul b x.l (by omega) (by omega) hl.1 hl.2
        have e2 : dsL x a b = flo (a * x.l) (wkH x) := by unfold dsL; rw [e1, h]; rfl
        have e3 : dsH x a b = cei (b * x.l) (wkL x) := by unfold dsH; rw [e1, h]; rfl
        rw [e1, h, e2, e3]
        clear e1 e2 e3 h s1
        generalize wkL x = p at *
        generalize wkH x = q at *
        obtain ⟨hw1, hw2, hw3⟩ := hw
        obtain ⟨l1, l2⟩ := hl
        obtain ⟨A, hA⟩ : ∃ A, A = a * x.l := ⟨_, rfl⟩
        obtain ⟨B, hB⟩ : ∃ B, B = b * x.l := ⟨_, rfl⟩
        rw [← hA] at m1; rw [← hB] at m2
        have v1 : IntKind.i64.wrap (a * x.l) = A := by rw [← hA]; exact IntWalk.i64_in _ ⟨by omega, by omega⟩
        have v2 : IntKind.i64.wrap (b * x.l) = B := by rw [← hB]; exact IntWalk.i64_in _ ⟨by omega, by omega⟩
        rw [← hA, ← hB]
        have hp : p ≠ 0 := by omega
        have hq : q ≠ 0 := by omega
        have hnl : ¬ p < 1 := by omega
        clear hA hB u1 u2 u3
        go_enter Try.func42, Try.ntmps42
        go_upto_region 1 with (fail)
        refine into (fun W => Held [(w.heap.size + 1, 0, .int .i64 a), (w.heap.size + 1, 1, .int .i64 b), (w.heap.size, 0, .int .i64 x.k), (w.heap.size, 1, .int .i64 x.l), (w.heap.size, 2, .int .i64 x.r), (w.heap.size, 3, .int .i64 x.a), (w.heap.size, 4, .int .i64 x.b), (w.heap.size, 5, .int .i64 x.c), (w.heap.size, 6, .int .i64 x.d)] w W ∧ Fr (w.heap.size + 1 + 1) [.int .i64 0, .int .i64 0] W) ⟨?_, ?_⟩ ?_
        · exact (held_box (held_box (held_start w) w.heap.size [.int .i64 x.k, .int .i64 x.l, .int .i64 x.r, .int .i64 x.a, .int .i64 x.b, .int .i64 x.c, .int .i64 x.d] _ rfl) (w.heap.size + 1) [.int .i64 a, .int .i64 b] _ (by simp)).alloc _
        · have F := fr_alloc (X := (w.alloc (.cells [.int .i64 x.k, .int .i64 x.l, .int .i64 x.r, .int .i64 x.a, .int .i64 x.b, .int .i64 x.c, .int .i64 x.d].toArray 27)).alloc (.cells [Value.int .i64 a, .int .i64 b].toArray 25)) (l := [.int .i64 0, .int .i64 0]) (T := 25) (Later.refl _)
          simp only [World.size_alloc] at F
          exact F
        rintro W ⟨hW, hF⟩
        obtain ⟨p7, p8, p0, p1, p2, p3, p4, p5, p6, _⟩ := Held.s9 hW
        obtain ⟨r0, r1, r2, r3⟩ := Fr.o2 hF
        have z2 := hF.lt
        have z0 := hW.lt w.heap.size 0 (.int .i64 x.k) (by simp)
        have z1 := hW.lt (w.heap.size + 1) 0 (.int .i64 a) (by simp)
        have HW := Lib.hid (Held.is hW)
        go_wp2_with (first | (go_at_call 67; refine (s_IsSegment x _).mono ?_; rintro e w1 ⟨rfl, hb⟩; obtain ⟨H, hcc, hff, hzz⟩ := later_facts hb; clear hb; (try simp at hzz); (try simp only [World.heap_drewN, World.cell?_drewN, World.frozen?_drewN] at hcc hff); have hz0 : w.heap.size < w1.heap.size := (by omega); (try (have hz1 : w.heap.size + 1 < w1.heap.size := (by omega))); (try (have hz2 : w.heap.size + 1 + 1 < w1.heap.size := (by omega))); (try (have hz3 : w.heap.size + 1 + 1 + 1 < w1.heap.size := (by omega))); (try (have hz4 : w.heap.size + 1 + 1 + 1 + 1 < w1.heap.size := (by omega)))) | (go_at_call 68; refine (s_IsEnergy _ _ _).mono ?_; rintro e w1 ⟨rfl, hb⟩; obtain ⟨H, hcc, hff, hzz⟩ := later_facts hb; clear hb; (try simp at hzz); (try simp only [World.heap_drewN, World.cell?_drewN, World.frozen?_drewN] at hcc hff); have hz0 : w.heap.size < w1.heap.size := (by omega); (try (have hz1 : w.heap.size + 1 < w1.heap.size := (by omega))); (try (have hz2 : w.heap.size + 1 + 1 < w1.heap.size := (by omega))); (try (have hz3 : w.heap.size + 1 + 1 + 1 < w1.heap.size := (by omega))); (try (have hz4 : w.heap.size + 1 + 1 + 1 + 1 < w1.heap.size := (by omega)))) | (go_at_call 87; refine (s_Brake x _ s2 _).mono ?_; rintro e w8 ⟨rfl, hb⟩; have H8 := Lib.hid hb; obtain ⟨H, hcc, hff, hzz⟩ := later_facts hb; (try simp only [World.size_alloc] at hzz); clear hb; (try (have hy0 : w.heap.size < w8.heap.size := (by omega))); (try (have hy1 : w.heap.size + 1 < w8.heap.size := (by omega))); (try (have hy2 : w.heap.size + 1 + 1 < w8.heap.size := (by omega))); (try (have hy3 : w7.heap.size < w8.heap.size := (by omega)))) | (go_at_call 86; refine (HS _).mono ?_; rintro e w7 ⟨rfl, hb⟩; have H7 : Hid (Later W w7) := Lib.hid (Later.trans (by repeat (first | (with_reducible exact Later.refl _) | (with_reducible exact Hid.out (by assumption)) | (with_reducible refine Later.alloc ?_ _) | (with_reducible refine Later.setCell ?_ (by simp; omega) _) | (with_reducible refine Later.setCell ?_ (by simp) _) | (with_reducible refine Later.drewN ?_ _) | (with_reducible refine Later.drew ?_) | (with_reducible refine Later.trans ?_ (Hid.out (by assumption))))) hb); obtain ⟨H, hcc, hff, hzz⟩ := later_facts hb; clear hb; have hy0 : w.heap.size < w7.heap.size := (by omega); have hy1 : w.heap.size + 1 < w7.heap.size := (by omega); have hy2 : w.heap.size + 1 + 1 < w7.heap.size := (by omega)))
        have hgz : w.heap.size + 1 + 1 < w7.heap.size := by have := H7.out.size; omega
        have W8 : Held [(w7.heap.size, 0, Value.int .i64 p), (w7.heap.size, 1, Value.int .i64 q), (w.heap.size + 1, 0, Value.int .i64 a), (w.heap.size + 1, 1, Value.int .i64 b), (w.heap.size, 1, Value.int .i64 x.l)] w w8 := by
          have h : Held ((w7.heap.size, 0, .int .i64 p) :: (w7.heap.size, 1, .int .i64 q) :: [(w.heap.size + 1, 0, .int .i64 a), (w.heap.size + 1, 1, .int .i64 b), (w.heap.size, 0, .int .i64 x.k), (w.heap.size, 1, .int .i64 x.l), (w.heap.size, 2, .int .i64 x.r), (w.heap.size, 3, .int .i64 x.a), (w.heap.size, 4, .int .i64 x.b), (w.heap.size, 5, .int .i64 x.c), (w.heap.size, 6, .int .i64 x.d)]) w w8 := (held_box (Held.later hW H7.out) w7.heap.size [.int .i64 p, .int .i64 q] _ rfl).later H8.out
          exact ⟨fun y hy => h.1 y (by simp at hy ⊢; rcases hy with rfl | rfl | rfl | rfl | rfl <;> simp), h.2⟩
        have F := fr_later hF (H7.out.trans (Later.trans ((Later.refl _).alloc _) H8.out))
        refine into (fun W => Held [(w7.heap.size, 0, .int .i64 p), (w7.heap.size, 1, .int .i64 q), (w.heap.size + 1, 0, .int .i64 a), (w.heap.size + 1, 1, .int .i64 b), (w.heap.size, 1, .int .i64 x.l)] w W ∧ Fr (w.heap.size + 1 + 1) [.int .i64 0, .int .i64 0] W) ⟨by repeat (first | exact W8 | refine Held.drew ?_ | refine Held.drewN ?_ _), fr_later F (by repeat (first | exact Later.refl _ | refine Later.drew ?_ | refine Later.drewN ?_ _))⟩ ?_
        clear p0 p1 p2 p3 p4 p5 p6 p7 p8 r0 r1 r2 r3 hcc hff hzz H hW F hF
        rintro W' ⟨hW, F⟩
        obtain ⟨r0, r1, r2, r3⟩ := Fr.o2 F
        have z3 := hW.lt w7.heap.size 0 (.int .i64 p) (by simp)
        have ne1 : ¬ w7.heap.size = w.heap.size + 1 + 1 := by omega
        have ne2 : ¬ w.heap.size + 1 + 1 = w7.heap.size := by omega
        have hls : ∀ y ∈ [(w7.heap.size, 0, Value.int .i64 p), (w7.heap.size, 1, Value.int .i64 q), (w.heap.size + 1, 0, Value.int .i64 a), (w.heap.size + 1, 1, Value.int .i64 b), (w.heap.size, 1, Value.int .i64 x.l)], y.1 ≠ w.heap.size + 1 + 1 := by
          intro y hx; simp at hx; rcases hx with rfl | rfl | rfl | rfl | rfl <;> simp <;> omega
        go_region_held3 (fun w' => w'.cell? ⟨w7.heap.size, 0, none⟩ = some (.int .i64 p) ∧ w'.cell? ⟨w7.heap.size, 1, none⟩ = some (.int .i64 q) ∧ w'.cell? ⟨w.heap.size + 1, 0, none⟩ = some (.int .i64 a) ∧ w'.cell? ⟨w.heap.size + 1, 1, none⟩ = some (.int .i64 b) ∧ w'.cell? ⟨w.heap.size, 1, none⟩ = some (.int .i64 x.l) ∧ Held [(w7.heap.size, 0, .int .i64 p), (w7.heap.size, 1, .int .i64 q), (w.heap.size + 1, 0, .int .i64 a), (w.heap.size + 1, 1, .int .i64 b), (w.heap.size, 1, .int .i64 x.l)] w w') ((refine Held.s5 ?_; (repeat (first | refine Held.drew ?_ | refine Held.drewN ?_ _ | refine Held.setNe ?_ _ _ hls (by simp <;> omega))); refine Held.later hW ?_; repeat (first | exact Later.refl _ | refine Later.drew ?_ | refine Later.drewN ?_ _ | refine Later.alloc ?_ _ | refine Later.trans ?_ (Hid.out (by assumption)))))
          (first | (go_at_call 75; refine (s_FloorB _ _ _ (by omega) (by omega) (by omega) (by omega) hq).mono ?_; rintro e w' ⟨rfl, rfl⟩) | (go_at_call 70; refine (s_CeilB _ _ _ (by omega) (by omega) (by omega) (by omega) hp).mono ?_; rintro e w' ⟨rfl, rfl⟩))
        all_goals
          go_wp2_with fail
          refine bodyPost_ret (v := .tuple #[.agg #[.int .i64 (flo A q), .int .i64 (cei B p)], .int .i64 0]) (by simp [results, Try.results42, go_sem, *]) rfl ⟨rfl, (by repeat (first | exact Held.is hW | refine Later.drew ?_ | refine Later.drewN ?_ _ | refine Later.setCell ?_ (by simp <;> omega) _))⟩
      · have e2 : dsL x a b = 0 := by unfold dsL okV; rw [e1, if_neg h]
        have e3 : dsH x a b = 0 := by unfold dsH okV; rw [e1, if_neg h]
        rw [e1, e2, e3]
        have hs5 : slE x = 5 := by
          unfold slE brE at h ⊢
          rw [if_pos h0] at h ⊢
          cases hb : brk x.k
          · simp [hb]
          · simp [hb] at h ⊢; exact h
        rw [hs5]
        have hlow : brk x.k = true → wkL x < 1 := by
          intro hb
          unfold slE brE at hs5
          rw [if_pos h0, hb] at hs5
          simp at hs5; omega
        clear e1 e2 e3 h hs5
        generalize wkL x = p at *
        generalize wkH x = q at *
        cases s2 : brk x.k
        · clear hlow
          go_enter Try.func42, Try.ntmps42
          go_upto_region 1 with (fail)
          refine into (fun W => Held [(w.heap.size + 1, 0, .int .i64 a), (w.heap.size + 1, 1, .int .i64 b), (w.heap.size, 0, .int .i64 x.k), (w.heap.size, 1, .int .i64 x.l), (w.heap.size, 2, .int .i64 x.r), (w.heap.size, 3, .int .i64 x.a), (w.heap.size, 4, .int .i64 x.b), (w.heap.size, 5, .int .i64 x.c), (w.heap.size, 6, .int .i64 x.d)] w W ∧ Fr (w.heap.size + 1 + 1) [.int .i64 0, .int .i64 0] W) ⟨?_, ?_⟩ ?_
          · exact (held_box (held_box (held_start w) w.heap.size [.int .i64 x.k, .int .i64 x.l, .int .i64 x.r, .int .i64 x.a, .int .i64 x.b, .int .i64 x.c, .int .i64 x.d] _ rfl) (w.heap.size + 1) [.int .i64 a, .int .i64 b] _ (by simp)).alloc _
          · have F := fr_alloc (X := (w.alloc (.cells [.int .i64 x.k, .int .i64 x.l, .int .i64 x.r, .int .i64 x.a, .int .i64 x.b, .int .i64 x.c, .int .i64 x.d].toArray 27)).alloc (.cells [Value.int .i64 a, .int .i64 b].toArray 25)) (l := [.int .i64 0, .int .i64 0]) (T := 25) (Later.refl _)
            simp only [World.size_alloc] at F
            exact F
          rintro W ⟨hW, hF⟩
          obtain ⟨p7, p8, p0, p1, p2, p3, p4, p5, p6, _⟩ := Held.s9 hW
          obtain ⟨r0, r1, r2, r3⟩ := Fr.o2 hF
          have z2 := hF.lt
          have z0 := hW.lt w.heap.size 0 (.int .i64 x.k) (by simp)
          have z1 := hW.lt (w.heap.size + 1) 0 (.int .i64 a) (by simp)
          have HW := Lib.hid (Held.is hW)
          go_wp2_with (first | (go_at_call 67; refine (s_IsSegment x _).mono ?_; rintro e w1 ⟨rfl, hb⟩; obtain ⟨H, hcc, hff, hzz⟩ := later_facts hb; clear hb; (try simp at hzz); (try simp only [World.heap_drewN, World.cell?_drewN, World.frozen?_drewN] at hcc hff); have hz0 : w.heap.size < w1.heap.size := (by omega); (try (have hz1 : w.heap.size + 1 < w1.heap.size := (by omega))); (try (have hz2 : w.heap.size + 1 + 1 < w1.heap.size := (by omega))); (try (have hz3 : w.heap.size + 1 + 1 + 1 < w1.heap.size := (by omega))); (try (have hz4 : w.heap.size + 1 + 1 + 1 + 1 < w1.heap.size := (by omega)))) | (go_at_call 68; refine (s_IsEnergy _ _ _).mono ?_; rintro e w1 ⟨rfl, hb⟩; obtain ⟨H, hcc, hff, hzz⟩ := later_facts hb; clear hb; (try simp at hzz); (try simp only [World.heap_drewN, World.cell?_drewN, World.frozen?_drewN] at hcc hff); have hz0 : w.heap.size < w1.heap.size := (by omega); (try (have hz1 : w.heap.size + 1 < w1.heap.size := (by omega))); (try (have hz2 : w.heap.size + 1 + 1 < w1.heap.size := (by omega))); (try (have hz3 : w.heap.size + 1 + 1 + 1 < w1.heap.size := (by omega))); (try (have hz4 : w.heap.size + 1 + 1 + 1 + 1 < w1.heap.size := (by omega)))) | (go_at_call 87; refine (s_Brake x _ s2 _).mono ?_; rintro e w8 ⟨rfl, hb⟩; have H8 := Lib.hid hb; obtain ⟨H, hcc, hff, hzz⟩ := later_facts hb; (try simp only [World.size_alloc] at hzz); clear hb; (try (have hy0 : w.heap.size < w8.heap.size := (by omega))); (try (have hy1 : w.heap.size + 1 < w8.heap.size := (by omega))); (try (have hy2 : w.heap.size + 1 + 1 < w8.heap.size := (by omega))); (try (have hy3 : w7.heap.size < w8.heap.size := (by omega)))) | (go_at_call 86; refine (HS _).mono ?_; rintro e w1 ⟨rfl, hb⟩; obtain ⟨H, hcc, hff, hzz⟩ := later_facts hb; clear hb; (try simp at hzz); (try simp only [World.heap_drewN, World.cell?_drewN, World.frozen?_drewN] at hcc hff); have hz0 : w.heap.size < w1.heap.size := (by omega); (try (have hz1 : w.heap.size + 1 < w1.heap.size := (by omega))); (try (have hz2 : w.heap.size + 1 + 1 < w1.heap.size := (by omega))); (try (have hz3 : w.heap.size + 1 + 1 + 1 < w1.heap.size := (by omega))); (try (have hz4 : w.heap.size + 1 + 1 + 1 + 1 < w1.heap.size := (by omega)))))
          refine bodyPost_ret (v := .tuple #[.agg #[.int .i64 0, .int .i64 0], .int .i64 5]) (by simp [results, Try.results42, go_sem, *]) rfl ⟨rfl, (by repeat (first | (with_reducible exact Later.refl _) | (with_reducible exact Hid.out (by assumption)) | (with_reducible refine Later.alloc ?_ _) | (with_reducible refine Later.setCell ?_ (by simp; omega) _) | (with_reducible refine Later.setCell ?_ (by simp) _) | (with_reducible refine Later.drewN ?_ _) | (with_reducible refine Later.drew ?_) | (with_reducible refine Later.trans ?_ (Hid.out (by assumption)))))⟩
        · have hlow := hlow s2
          go_enter Try.func42, Try.ntmps42
          go_upto_region 1 with (fail)
          refine into (fun W => Held [(w.heap.size + 1, 0, .int .i64 a), (w.heap.size + 1, 1, .int .i64 b), (w.heap.size, 0, .int .i64 x.k), (w.heap.size, 1, .int .i64 x.l), (w.heap.size, 2, .int .i64 x.r), (w.heap.size, 3, .int .i64 x.a), (w.heap.size, 4, .int .i64 x.b), (w.heap.size, 5, .int .i64 x.c), (w.heap.size, 6, .int .i64 x.d)] w W ∧ Fr (w.heap.size + 1 + 1) [.int .i64 0, .int .i64 0] W) ⟨?_, ?_⟩ ?_
          · exact (held_box (held_box (held_start w) w.heap.size [.int .i64 x.k, .int .i64 x.l, .int .i64 x.r, .int .i64 x.a, .int .i64 x.b, .int .i64 x.c, .int .i64 x.d] _ rfl) (w.heap.size + 1) [.int .i64 a, .int .i64 b] _ (by simp)).alloc _
          · have F := fr_alloc (X := (w.alloc (.cells [.int .i64 x.k, .int .i64 x.l, .int .i64 x.r, .int .i64 x.a, .int .i64 x.b, .int .i64 x.c, .int .i64 x.d].toArray 27)).alloc (.cells [Value.int .i64 a, .int .i64 b].toArray 25)) (l := [.int .i64 0, .int .i64 0]) (T := 25) (Later.refl _)
            simp only [World.size_alloc] at F
            exact F
          rintro W ⟨hW, hF⟩
          obtain ⟨p7, p8, p0, p1, p2, p3, p4, p5, p6, _⟩ := Held.s9 hW
          obtain ⟨r0, r1, r2, r3⟩ := Fr.o2 hF
          have z2 := hF.lt
          have z0 := hW.lt w.heap.size 0 (.int .i64 x.k) (by simp)
          have z1 := hW.lt (w.heap.size + 1) 0 (.int .i64 a) (by simp)
          have HW := Lib.hid (Held.is hW)
          go_wp2_with (first | (go_at_call 67; refine (s_IsSegment x _).mono ?_; rintro e w1 ⟨rfl, hb⟩; obtain ⟨H, hcc, hff, hzz⟩ := later_facts hb; clear hb; (try simp at hzz); (try simp only [World.heap_drewN, World.cell?_drewN, World.frozen?_drewN] at hcc hff); have hz0 : w.heap.size < w1.heap.size := (by omega); (try (have hz1 : w.heap.size + 1 < w1.heap.size := (by omega))); (try (have hz2 : w.heap.size + 1 + 1 < w1.heap.size := (by omega))); (try (have hz3 : w.heap.size + 1 + 1 + 1 < w1.heap.size := (by omega))); (try (have hz4 : w.heap.size + 1 + 1 + 1 + 1 < w1.heap.size := (by omega)))) | (go_at_call 68; refine (s_IsEnergy _ _ _).mono ?_; rintro e w1 ⟨rfl, hb⟩; obtain ⟨H, hcc, hff, hzz⟩ := later_facts hb; clear hb; (try simp at hzz); (try simp only [World.heap_drewN, World.cell?_drewN, World.frozen?_drewN] at hcc hff); have hz0 : w.heap.size < w1.heap.size := (by omega); (try (have hz1 : w.heap.size + 1 < w1.heap.size := (by omega))); (try (have hz2 : w.heap.size + 1 + 1 < w1.heap.size := (by omega))); (try (have hz3 : w.heap.size + 1 + 1 + 1 < w1.heap.size := (by omega))); (try (have hz4 : w.heap.size + 1 + 1 + 1 + 1 < w1.heap.size := (by omega)))) | (go_at_call 87; refine (s_Brake x _ s2 _).mono ?_; rintro e w8 ⟨rfl, hb⟩; have H8 := Lib.hid hb; obtain ⟨H, hcc, hff, hzz⟩ := later_facts hb; (try simp only [World.size_alloc] at hzz); clear hb; (try (have hy0 : w.heap.size < w8.heap.size := (by omega))); (try (have hy1 : w.heap.size + 1 < w8.heap.size := (by omega))); (try (have hy2 : w.heap.size + 1 + 1 < w8.heap.size := (by omega))); (try (have hy3 : w7.heap.size < w8.heap.size := (by omega)))) | (go_at_call 86; refine (HS _).mono ?_; rintro e w1 ⟨rfl, hb⟩; obtain ⟨H, hcc, hff, hzz⟩ := later_facts hb; clear hb; (try simp at hzz); (try simp only [World.heap_drewN, World.cell?_drewN, World.frozen?_drewN] at hcc hff); have hz0 : w.heap.size < w1.heap.size := (by omega); (try (have hz1 : w.heap.size + 1 < w1.heap.size := (by omega))); (try (have hz2 : w.heap.size + 1 + 1 < w1.heap.size := (by omega))); (try (have hz3 : w.heap.size + 1 + 1 + 1 < w1.heap.size := (by omega))); (try (have hz4 : w.heap.size + 1 + 1 + 1 + 1 < w1.heap.size := (by omega)))))
          refine bodyPost_ret (v := .tuple #[.agg #[.int .i64 0, .int .i64 0], .int .i64 5]) (by simp [results, Try.results42, go_sem, *]) rfl ⟨rfl, (by repeat (first | (with_reducible exact Later.refl _) | (with_reducible exact Hid.out (by assumption)) | (with_reducible refine Later.alloc ?_ _) | (with_reducible refine Later.setCell ?_ (by simp; omega) _) | (with_reducible refine Later.setCell ?_ (by simp) _) | (with_reducible refine Later.drewN ?_ _) | (with_reducible refine Later.drew ?_) | (with_reducible refine Later.trans ?_ (Hid.out (by assumption)))))⟩
end Go.Proofs.Ytdhoiiejcmnmbaa
