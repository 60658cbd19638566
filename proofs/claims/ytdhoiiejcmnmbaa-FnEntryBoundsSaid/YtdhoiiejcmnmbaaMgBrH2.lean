/- Contracts of chapter 6: the model's functions on one segment. | Contracts of chapter 6: the model's speeds, verdicts, energies behind a segment. | Contracts of chapter 7: the model's functions on one brake. | Contracts of chapter 7: the model's verdict on a stop. | Contracts of chapter 6: runs, and the energy that is needed: the model's functions. | Contracts of chapter 6: the energy that is needed: the model's functions. | Contracts of chapter 7: the energies with which a train may enter a block, of the model. | Contracts of chapter 7: entry bounds, may a train enter, of the model. | The walk of the law on the bounds of entries into blocks. -/
import Derived.Test.YtdhoiiejcmnmbaaMgBrH1
import Derived.Test.YtdhoiiejcmnmbaaSg2
import Derived.Deep.RegionWith
import Derived.Test.YtdhoiiejcmnmbaaDivD
import Derived.Test.YtdhoiiejcmnmbaaSgU
import Derived.Test.YtdhoiiejcmnmbaaBkT
import Derived.Test.YtdhoiiejcmnmbaaRow
namespace Go.Proofs.Ytdhoiiejcmnmbaa
open Go.RowKit
set_option maxHeartbeats 4000000
set_option linter.unusedVariables false
set_option linter.unusedSimpArgs false
theorem win_en2 (a b : Int) : (ivB a b && decide (0 ≤ a) && decide (b ≤ 10000000000)) = enB a b := by
  rw [Bool.eq_iff_iff]
  unfold enB
  simp [ivB_iff]
  omega
theorem s_IsEnergy (a b : Int) (w : World) : Calls Try.prog 68 #[.agg #[.int .i64 a, .int .i64 b]] w fun e w' => e = .returned (.bool (enB a b)) ∧ Later w w' := by
  have K : ∀ w, Calls Try.prog 107 #[.agg #[.int .i64 a, .int .i64 b], .int .i64 0, .int .i64 10000000000] w fun e w' => e = .returned (.bool (enB a b)) ∧ Later w w' := by
    intro w
    have E := Lib.hid (win_en2 a b)
    cases h : ivB a b
    all_goals
      go_enter Try.func107, Try.ntmps107
      go_wp2_with (go_at_call 126; refine (s_IsInterval _ _ _).mono ?_; rintro e w1 ⟨rfl, hb⟩; obtain ⟨H, hcc, hff, hzz⟩ := later_facts hb; clear hb; (try simp at hzz); (try simp only [World.heap_drewN, World.cell?_drewN, World.frozen?_drewN] at hcc hff); have hz0 : w.heap.size < w1.heap.size := (by omega); (try (have hz1 : w.heap.size + 1 < w1.heap.size := (by omega))); (try (have hz2 : w.heap.size + 1 + 1 < w1.heap.size := (by omega))); (try (have hz3 : w.heap.size + 1 + 1 + 1 < w1.heap.size := (by omega))); (try (have hz4 : w.heap.size + 1 + 1 + 1 + 1 < w1.heap.size := (by omega))))
      all_goals
        go_ret
        exact ⟨ret_b (by rw [← E.out, h]; first | (simp_all; done) | (simp_all; omega)), (by repeat (first | (with_reducible exact Later.refl _) | (with_reducible exact Hid.out (by assumption)) | (with_reducible refine Later.alloc ?_ _) | (with_reducible refine Later.setCell ?_ (by simp; omega) _) | (with_reducible refine Later.setCell ?_ (by simp) _) | (with_reducible refine Later.drewN ?_ _) | (with_reducible refine Later.drew ?_) | (with_reducible refine Later.trans ?_ (Hid.out (by assumption)))))⟩
  go_enter Try.func68, Try.ntmps68
  go_wp2_with (go_at_call 107; refine (K _).mono ?_; rintro e w1 ⟨rfl, hb⟩; obtain ⟨H, hcc, hff, hzz⟩ := later_facts hb; clear hb; (try simp at hzz); (try simp only [World.heap_drewN, World.cell?_drewN, World.frozen?_drewN] at hcc hff))
  go_ret
  exact ⟨rfl, (by repeat (first | (with_reducible exact Later.refl _) | (with_reducible exact Hid.out (by assumption)) | (with_reducible refine Later.alloc ?_ _) | (with_reducible refine Later.setCell ?_ (by simp; omega) _) | (with_reducible refine Later.setCell ?_ (by simp) _) | (with_reducible refine Later.drewN ?_ _) | (with_reducible refine Later.drew ?_) | (with_reducible refine Later.trans ?_ (Hid.out (by assumption)))))⟩
/-- the test decided ahead -/
theorem s_InB (n a b : Int) (c : Bool) (h : (decide (a ≤ n) && decide (n ≤ b)) = c) (w : World) : Calls Try.prog 69 #[.int .i64 n, .int .i64 a, .int .i64 b] w fun e w' => e = .returned (.bool c) ∧ w = w' := by
  subst h; exact s_In n a b w
theorem k2 (b l : Int) : 2 * b * l = b * (2 * l) := by rw [Int.mul_comm 2 b, Int.mul_assoc]
theorem s_Change (x : Sg) (w : World) (h : sgB x = true) :
    Calls Try.prog 62 #[.agg #[.int .i64 x.k, .int .i64 x.l, .int .i64 x.r, .int .i64 x.a, .int .i64 x.b, .int .i64 x.c, .int .i64 x.d]] w fun e w' => e = .returned (.agg #[.int .i64 (chL x), .int .i64 (chH x)]) ∧ Later w w' := by
  obtain ⟨b1, b2, b3⟩ := k_bd x h
  rw [sgB_iff] at h
  obtain ⟨⟨k1, k2⟩, ⟨l1, l2⟩, ⟨r1, r2, r3, r4⟩, ⟨a1, a2, a3⟩, _⟩ := h
  clear r3 r4
  unfold chL chH
  unfold kL kH at *
  rw [← Go.Proofs.Ytdhoiiejcmnmbaa.k2 x.a x.l] at *
  rw [← Go.Proofs.Ytdhoiiejcmnmbaa.k2 x.b x.l] at *
  go_enter Try.func62, Try.ntmps62
  go_wp2
  refine bodyPost_ret (v := .agg #[.int .i64 (-19612 * x.r - 2 * x.b * x.l), .int .i64 (-19612 * x.r - 2 * x.a * x.l)]) (by simp [results, Try.results62, go_sem, *]) rfl ⟨rfl, (by repeat (first | (with_reducible exact Later.refl _) | (with_reducible exact Hid.out (by assumption)) | (with_reducible refine Later.alloc ?_ _) | (with_reducible refine Later.setCell ?_ (by simp; omega) _) | (with_reducible refine Later.setCell ?_ (by simp) _) | (with_reducible refine Later.drewN ?_ _) | (with_reducible refine Later.drew ?_) | (with_reducible refine Later.trans ?_ (Hid.out (by assumption)))))⟩
theorem s_l06Sum (a b c d : Int) (w : World) (ha : -1000000000000 ≤ a) (ha' : a ≤ 1000000000000) (hb : -1000000000000 ≤ b) (hb' : b ≤ 1000000000000) (hc : -1000000000000 ≤ c) (hc' : c ≤ 1000000000000) (hd : -1000000000000 ≤ d) (hd' : d ≤ 1000000000000) :
    Calls Try.prog 100 #[.agg #[.int .i64 a, .int .i64 b], .agg #[.int .i64 c, .int .i64 d]] w fun e w' => e = .returned (.agg #[.int .i64 (a + c), .int .i64 (b + d)]) ∧ Later w w' := by
  go_enter Try.func100, Try.ntmps100
  go_wp2
  refine bodyPost_ret (v := .agg #[.int .i64 (a + c), .int .i64 (b + d)]) (by simp [results, Try.results100, go_sem, *]) rfl ⟨rfl, (by repeat (first | (with_reducible exact Later.refl _) | (with_reducible exact Hid.out (by assumption)) | (with_reducible refine Later.alloc ?_ _) | (with_reducible refine Later.setCell ?_ (by simp; omega) _) | (with_reducible refine Later.setCell ?_ (by simp) _) | (with_reducible refine Later.drewN ?_ _) | (with_reducible refine Later.drew ?_) | (with_reducible refine Later.trans ?_ (Hid.out (by assumption)))))⟩
end Go.Proofs.Ytdhoiiejcmnmbaa
namespace Go.Proofs.Ytdhoiiejcmnmbaa
open Go.RowKit
set_option maxHeartbeats 4000000
set_option linter.unusedVariables false
set_option linter.unusedSimpArgs false
end Go.Proofs.Ytdhoiiejcmnmbaa
namespace Go.Proofs.Ytdhoiiejcmnmbaa
open Go.RowKit
set_option maxHeartbeats 4000000
set_option linter.unusedVariables false
set_option linter.unusedSimpArgs false
theorem s_FloorB (a b : Int) (w : World) (h1 : -4000000000000000000 ≤ a) (h2 : a ≤ 4000000000000000000) (h3 : -1000000000000 ≤ b) (h4 : b ≤ 1000000000000) (h0 : b ≠ 0) :
    Calls Try.prog 75 #[.int .i64 a, .int .i64 b] w fun e w' => e = .returned (.int .i64 (flo a b)) ∧ w = w' := by
  have hb := tdiv_bd a b _ h1 h2
  go_enter Try.func75, Try.ntmps75
  go_wp2
  all_goals
    go_ret
    exact ⟨ret_i64 (by unfold flo; simp_all), rfl⟩
theorem flo_bdB (a b : Int) (m : Int) (h1 : -m ≤ a) (h2 : a ≤ m) : -m - 1 ≤ flo a b ∧ flo a b ≤ m := flo_bd a b m h1 h2
theorem s_CeilB (a b : Int) (w : World) (h1 : -4000000000000000000 ≤ a) (h2 : a ≤ 4000000000000000000) (h3 : -1000000000000 ≤ b) (h4 : b ≤ 1000000000000) (h0 : b ≠ 0) :
    Calls Try.prog 70 #[.int .i64 a, .int .i64 b] w fun e w' => e = .returned (.int .i64 (cei a b)) ∧ w = w' := by
  have hb := flo_bd (-a) b 4000000000000000000 (by omega) (by omega)
  rw [cei_eq a b h0]
  go_enter Try.func70, Try.ntmps70
  go_wp2_with (go_at_call 75; refine (s_FloorB _ _ _ (by omega) (by omega) (by omega) (by omega) h0).mono ?_; rintro e w' ⟨rfl, rfl⟩)
  go_ret
  exact ⟨rfl, rfl⟩
theorem s_Brake (x : Sg) (c : Bool) (h : brk x.k = c) (w : World) : Calls Try.prog 87 #[.agg #[.int .i64 x.k, .int .i64 x.l, .int .i64 x.r, .int .i64 x.a, .int .i64 x.b, .int .i64 x.c, .int .i64 x.d]] w fun e w' => e = .returned (.bool c) ∧ Later w w' := by
  subst h
  have key : ∀ p q : Bool, decide (x.k = 3) = p → decide (x.k = 4) = q → Hid (brk x.k = (p || q)) := by
    rintro p q rfl rfl; exact Lib.hid rfl
  cases h3 : decide (x.k = 3) <;> cases h4 : decide (x.k = 4)
  all_goals
    have K := key _ _ h3 h4
    clear key
    have e3 := (show (x.k == 3) = decide (x.k = 3) from rfl).trans h3
    have e4 := (show (x.k == 4) = decide (x.k = 4) from rfl).trans h4
    clear h3 h4
    go_enter Try.func87, Try.ntmps87
    go_wp2
    go_ret
    exact ⟨ret_b (by first | rfl | (rw [K.out]; rfl)), (by repeat (first | (with_reducible exact Later.refl _) | (with_reducible exact Hid.out (by assumption)) | (with_reducible refine Later.alloc ?_ _) | (with_reducible refine Later.setCell ?_ (by simp; omega) _) | (with_reducible refine Later.setCell ?_ (by simp) _) | (with_reducible refine Later.drewN ?_ _) | (with_reducible refine Later.drew ?_) | (with_reducible refine Later.trans ?_ (Hid.out (by assumption)))))⟩
theorem wk_eq (f a l r : Int) : 2 * ((f + a) * l + 9806 * r) = f * (2 * l) - (-19612 * r - a * (2 * l)) := by
  rw [Int.add_mul, ← Go.Proofs.Ytdhoiiejcmnmbaa.k2 f l, ← Go.Proofs.Ytdhoiiejcmnmbaa.k2 a l, Int.mul_assoc, Int.mul_assoc]
  omega
theorem s_Work (x : Sg) (w : World) (h : sgB x = true) :
    Calls Try.prog 86 #[.agg #[.int .i64 x.k, .int .i64 x.l, .int .i64 x.r, .int .i64 x.a, .int .i64 x.b, .int .i64 x.c, .int .i64 x.d]] w fun e w' => e = .returned (.agg #[.int .i64 (wkL x), .int .i64 (wkH x)]) ∧ Later w w' := by
  obtain ⟨g1, g2, g3, g4, g5, g6⟩ := fc_bd x h
  obtain ⟨b1, b2, b3⟩ := k_bd x h
  obtain ⟨t1, t2, t3⟩ := wk_bd x h
  rw [sgB_iff] at h
  obtain ⟨⟨k1, k2⟩, ⟨l1, l2⟩, ⟨r1, r2, r3, r4⟩, ⟨a1, a2, a3⟩, _⟩ := h
  have q1 : wkL x = 2 * ((x.c + x.a) * x.l + 9806 * x.r) := (wk_eq x.c x.a x.l x.r).symm
  have q2 : wkH x = 2 * ((x.d + x.b) * x.l + 9806 * x.r) := (wk_eq x.d x.b x.l x.r).symm
  rw [q1] at t1 t2
  rw [q2] at t2 t3
  rw [q1, q2]
  clear r3 r4 q1 q2 b1 b2 b3 g4 g5 g6
  generalize hA : (x.c + x.a) * x.l = A at *
  generalize hB : (x.d + x.b) * x.l = B at *
  have wA : IntKind.i64.wrap ((x.c + x.a) * x.l) = A := by rw [hA]; exact IntWalk.i64_in _ ⟨by omega, by omega⟩
  have wB : IntKind.i64.wrap ((x.d + x.b) * x.l) = B := by rw [hB]; exact IntWalk.i64_in _ ⟨by omega, by omega⟩
  clear hA hB
  have c1 : IntKind.i64.wrap (x.c + x.a) = x.c + x.a := IntWalk.i64_in _ ⟨by omega, by omega⟩
  have c2 : IntKind.i64.wrap (x.d + x.b) = x.d + x.b := IntWalk.i64_in _ ⟨by omega, by omega⟩
  have c3 : IntKind.i64.wrap (A + 9806 * x.r) = A + 9806 * x.r := IntWalk.i64_in _ ⟨by omega, by omega⟩
  have c4 : IntKind.i64.wrap (B + 9806 * x.r) = B + 9806 * x.r := IntWalk.i64_in _ ⟨by omega, by omega⟩
  have c5 : IntKind.i64.wrap (2 * (A + 9806 * x.r)) = 2 * (A + 9806 * x.r) := IntWalk.i64_in _ ⟨by omega, by omega⟩
  have c6 : IntKind.i64.wrap (2 * (B + 9806 * x.r)) = 2 * (B + 9806 * x.r) := IntWalk.i64_in _ ⟨by omega, by omega⟩
  go_enter Try.func86, Try.ntmps86
  go_wp2
  refine bodyPost_ret (v := .agg #[.int .i64 (2 * (A + 9806 * x.r)), .int .i64 (2 * (B + 9806 * x.r))]) (by simp [results, Try.results86, go_sem, *]) rfl ⟨rfl, (by repeat (first | (with_reducible exact Later.refl _) | (with_reducible exact Hid.out (by assumption)) | (with_reducible refine Later.alloc ?_ _) | (with_reducible refine Later.setCell ?_ (by simp; omega) _) | (with_reducible refine Later.setCell ?_ (by simp) _) | (with_reducible refine Later.drewN ?_ _) | (with_reducible refine Later.drew ?_) | (with_reducible refine Later.trans ?_ (Hid.out (by assumption)))))⟩
theorem s_Code (x : Sg) (w : World) : Calls Try.prog 91 #[.agg #[.int .i64 x.k, .int .i64 x.l, .int .i64 x.r, .int .i64 x.a, .int .i64 x.b, .int .i64 x.c, .int .i64 x.d]] w fun e w' => e = .returned (.int .i64 (brE x)) ∧ Later w w' := by
  cases h : sgB x
  · have e1 : Hid (brE x = 1) := Lib.hid (by unfold brE; rw [h]; rfl)
    go_enter Try.func91, Try.ntmps91
    go_wp2_with (go_at_call 67; refine (s_IsSegment x _).mono ?_; rintro e w1 ⟨rfl, hb⟩; obtain ⟨H, hcc, hff, hzz⟩ := later_facts hb; clear hb; (try simp at hzz); (try simp only [World.heap_drewN, World.cell?_drewN, World.frozen?_drewN] at hcc hff); have hz0 : w.heap.size < w1.heap.size := (by omega); (try (have hz1 : w.heap.size + 1 < w1.heap.size := (by omega))); (try (have hz2 : w.heap.size + 1 + 1 < w1.heap.size := (by omega))); (try (have hz3 : w.heap.size + 1 + 1 + 1 < w1.heap.size := (by omega))); (try (have hz4 : w.heap.size + 1 + 1 + 1 + 1 < w1.heap.size := (by omega))))
    go_ret
    exact ⟨ret_i64 e1.out.symm, (by repeat (first | (with_reducible exact Later.refl _) | (with_reducible exact Hid.out (by assumption)) | (with_reducible refine Later.alloc ?_ _) | (with_reducible refine Later.setCell ?_ (by simp; omega) _) | (with_reducible refine Later.setCell ?_ (by simp) _) | (with_reducible refine Later.drewN ?_ _) | (with_reducible refine Later.drew ?_) | (with_reducible refine Later.trans ?_ (Hid.out (by assumption)))))⟩
  · cases h2 : brk x.k
    · have e1 : Hid (brE x = 5) := Lib.hid (by unfold brE; rw [h, h2]; rfl)
      go_enter Try.func91, Try.ntmps91
      go_wp2_with (first | (go_at_call 67; refine (s_IsSegment x _).mono ?_; rintro e w1 ⟨rfl, hb⟩; obtain ⟨H, hcc, hff, hzz⟩ := later_facts hb; clear hb; (try simp at hzz); (try simp only [World.heap_drewN, World.cell?_drewN, World.frozen?_drewN] at hcc hff); have hz0 : w.heap.size < w1.heap.size := (by omega); (try (have hz1 : w.heap.size + 1 < w1.heap.size := (by omega))); (try (have hz2 : w.heap.size + 1 + 1 < w1.heap.size := (by omega))); (try (have hz3 : w.heap.size + 1 + 1 + 1 < w1.heap.size := (by omega))); (try (have hz4 : w.heap.size + 1 + 1 + 1 + 1 < w1.heap.size := (by omega)))) | (go_at_call 87; refine (s_Brake x _ h2 _).mono ?_; rintro e w1 ⟨rfl, hb⟩; obtain ⟨H, hcc, hff, hzz⟩ := later_facts hb; clear hb; (try simp at hzz); (try simp only [World.heap_drewN, World.cell?_drewN, World.frozen?_drewN] at hcc hff); have hz0 : w.heap.size < w1.heap.size := (by omega); (try (have hz1 : w.heap.size + 1 < w1.heap.size := (by omega))); (try (have hz2 : w.heap.size + 1 + 1 < w1.heap.size := (by omega))); (try (have hz3 : w.heap.size + 1 + 1 + 1 < w1.heap.size := (by omega))); (try (have hz4 : w.heap.size + 1 + 1 + 1 + 1 < w1.heap.size := (by omega)))))
      go_ret
      exact ⟨ret_i64 e1.out.symm, (by repeat (first | (with_reducible exact Later.refl _) | (with_reducible exact Hid.out (by assumption)) | (with_reducible refine Later.alloc ?_ _) | (with_reducible refine Later.setCell ?_ (by simp; omega) _) | (with_reducible refine Later.setCell ?_ (by simp) _) | (with_reducible refine Later.drewN ?_ _) | (with_reducible refine Later.drew ?_) | (with_reducible refine Later.trans ?_ (Hid.out (by assumption)))))⟩
    · have e1 : Hid (brE x = 0) := Lib.hid (by unfold brE; rw [h, h2]; rfl)
      go_enter Try.func91, Try.ntmps91
      go_wp2_with (first | (go_at_call 67; refine (s_IsSegment x _).mono ?_; rintro e w1 ⟨rfl, hb⟩; obtain ⟨H, hcc, hff, hzz⟩ := later_facts hb; clear hb; (try simp at hzz); (try simp only [World.heap_drewN, World.cell?_drewN, World.frozen?_drewN] at hcc hff); have hz0 : w.heap.size < w1.heap.size := (by omega); (try (have hz1 : w.heap.size + 1 < w1.heap.size := (by omega))); (try (have hz2 : w.heap.size + 1 + 1 < w1.heap.size := (by omega))); (try (have hz3 : w.heap.size + 1 + 1 + 1 < w1.heap.size := (by omega))); (try (have hz4 : w.heap.size + 1 + 1 + 1 + 1 < w1.heap.size := (by omega)))) | (go_at_call 87; refine (s_Brake x _ h2 _).mono ?_; rintro e w1 ⟨rfl, hb⟩; obtain ⟨H, hcc, hff, hzz⟩ := later_facts hb; clear hb; (try simp at hzz); (try simp only [World.heap_drewN, World.cell?_drewN, World.frozen?_drewN] at hcc hff); have hz0 : w.heap.size < w1.heap.size := (by omega); (try (have hz1 : w.heap.size + 1 < w1.heap.size := (by omega))); (try (have hz2 : w.heap.size + 1 + 1 < w1.heap.size := (by omega))); (try (have hz3 : w.heap.size + 1 + 1 + 1 < w1.heap.size := (by omega))); (try (have hz4 : w.heap.size + 1 + 1 + 1 + 1 < w1.heap.size := (by omega)))))
      go_ret
      exact ⟨ret_i64 e1.out.symm, (by repeat (first | (with_reducible exact Later.refl _) | (with_reducible exact Hid.out (by assumption)) | (with_reducible refine Later.alloc ?_ _) | (with_reducible refine Later.setCell ?_ (by simp; omega) _) | (with_reducible refine Later.setCell ?_ (by simp) _) | (with_reducible refine Later.drewN ?_ _) | (with_reducible refine Later.drew ?_) | (with_reducible refine Later.trans ?_ (Hid.out (by assumption)))))⟩
theorem s_BrakeWork (x : Sg) (w : World) :
    Calls Try.prog 46 #[.agg #[.int .i64 x.k, .int .i64 x.l, .int .i64 x.r, .int .i64 x.a, .int .i64 x.b, .int .i64 x.c, .int .i64 x.d]] w fun e w' => e = .returned (.tuple #[.agg #[.int .i64 (bwL x), .int .i64 (bwH x)], .int .i64 (brE x)]) ∧ Later w w' := by
  have HC := fun w => s_Code x w
  by_cases h : brE x = 0
  · have b2 : bwL x = wkL x := by unfold bwL; rw [h]; rfl
    have b3 : bwH x = wkH x := by unfold bwH; rw [h]; rfl
    have HS := fun w => s_Work x w (brE_ok h).1
    rw [h] at HC
    rw [h, b2, b3]
    generalize wkL x = p at *
    generalize wkH x = q at *
    clear h b2 b3
    go_enter Try.func46, Try.ntmps46
    go_wp2_with (first | (go_at_call 91; refine (HC _).mono ?_; rintro e w1 ⟨rfl, hb⟩; obtain ⟨H, hcc, hff, hzz⟩ := later_facts hb; clear hb; (try simp at hzz); (try simp only [World.heap_drewN, World.cell?_drewN, World.frozen?_drewN] at hcc hff); have hz0 : w.heap.size < w1.heap.size := (by omega); (try (have hz1 : w.heap.size + 1 < w1.heap.size := (by omega))); (try (have hz2 : w.heap.size + 1 + 1 < w1.heap.size := (by omega))); (try (have hz3 : w.heap.size + 1 + 1 + 1 < w1.heap.size := (by omega))); (try (have hz4 : w.heap.size + 1 + 1 + 1 + 1 < w1.heap.size := (by omega)))) | (go_at_call 86; refine (HS _).mono ?_; rintro e w1 ⟨rfl, hb⟩; obtain ⟨H, hcc, hff, hzz⟩ := later_facts hb; clear hb; (try simp at hzz); (try simp only [World.heap_drewN, World.cell?_drewN, World.frozen?_drewN] at hcc hff); have hz0 : w.heap.size < w1.heap.size := (by omega); (try (have hz1 : w.heap.size + 1 < w1.heap.size := (by omega))); (try (have hz2 : w.heap.size + 1 + 1 < w1.heap.size := (by omega))); (try (have hz3 : w.heap.size + 1 + 1 + 1 < w1.heap.size := (by omega))); (try (have hz4 : w.heap.size + 1 + 1 + 1 + 1 < w1.heap.size := (by omega)))))
    refine bodyPost_ret (v := .tuple #[.agg #[.int .i64 p, .int .i64 q], .int .i64 0]) (by simp [results, Try.results46, go_sem, *]) rfl ⟨rfl, (by repeat (first | (with_reducible exact Later.refl _) | (with_reducible exact Hid.out (by assumption)) | (with_reducible refine Later.alloc ?_ _) | (with_reducible refine Later.setCell ?_ (by simp; omega) _) | (with_reducible refine Later.setCell ?_ (by simp) _) | (with_reducible refine Later.drewN ?_ _) | (with_reducible refine Later.drew ?_) | (with_reducible refine Later.trans ?_ (Hid.out (by assumption)))))⟩
  · have b2 : bwL x = 0 := by unfold bwL okV; rw [if_neg h]
    have b3 : bwH x = 0 := by unfold bwH okV; rw [if_neg h]
    rw [b2, b3]
    generalize brE x = q at *
    have hne : (q != 0) = true := by simpa using h
    clear h b2 b3
    go_enter Try.func46, Try.ntmps46
    go_wp2_with (go_at_call 91; refine (HC _).mono ?_; rintro e w1 ⟨rfl, hb⟩; obtain ⟨H, hcc, hff, hzz⟩ := later_facts hb; clear hb; (try simp at hzz); (try simp only [World.heap_drewN, World.cell?_drewN, World.frozen?_drewN] at hcc hff); have hz0 : w.heap.size < w1.heap.size := (by omega); (try (have hz1 : w.heap.size + 1 < w1.heap.size := (by omega))); (try (have hz2 : w.heap.size + 1 + 1 < w1.heap.size := (by omega))); (try (have hz3 : w.heap.size + 1 + 1 + 1 < w1.heap.size := (by omega))); (try (have hz4 : w.heap.size + 1 + 1 + 1 + 1 < w1.heap.size := (by omega))))
    refine bodyPost_ret (v := .tuple #[.agg #[.int .i64 0, .int .i64 0], .int .i64 q]) (by simp [results, Try.results46, go_sem, *]) rfl ⟨rfl, (by repeat (first | (with_reducible exact Later.refl _) | (with_reducible exact Hid.out (by assumption)) | (with_reducible refine Later.alloc ?_ _) | (with_reducible refine Later.setCell ?_ (by simp; omega) _) | (with_reducible refine Later.setCell ?_ (by simp) _) | (with_reducible refine Later.drewN ?_ _) | (with_reducible refine Later.drew ?_) | (with_reducible refine Later.trans ?_ (Hid.out (by assumption)))))⟩
theorem s_GreatestStop (x : Sg) (w : World) :
    Calls Try.prog 52 #[.agg #[.int .i64 x.k, .int .i64 x.l, .int .i64 x.r, .int .i64 x.a, .int .i64 x.b, .int .i64 x.c, .int .i64 x.d]] w fun e w' => e = .returned (.tuple #[.int .i64 (gsV x), .int .i64 (slE x)]) ∧ Later w w' := by
  have HC := fun w => s_Code x w
  by_cases h : brE x = 0
  · have HS := fun w => s_Work x w (brE_ok h).1
    have e0 : Hid (slE x = if 1 ≤ wkL x then 0 else 5) := Lib.hid (by unfold slE; rw [if_pos h])
    have e1 : Hid (gsV x = if 1 ≤ wkL x then min (wkL x) 10000000000 else 0) := Lib.hid (by unfold gsV okV; rw [e0.out]; split <;> simp)
    rw [h] at HC
    generalize wkL x = p at *
    generalize wkH x = q at *
    have hfd : ∀ w : World, (Instr.field 25 (.agg #[.int .i64 p, .int .i64 q]) 0).run Try.prog w = .ok (.int .i64 p) w := fun _ => by kernel_rfl
    clear h
    by_cases h1 : 1 ≤ p
    · go_enter Try.func52, Try.ntmps52
      go_wp2_with (first | (go_at_call 91; refine (HC _).mono ?_; rintro e w1 ⟨rfl, hb⟩; obtain ⟨H, hcc, hff, hzz⟩ := later_facts hb; clear hb; (try simp at hzz); (try simp only [World.heap_drewN, World.cell?_drewN, World.frozen?_drewN] at hcc hff); have hz0 : w.heap.size < w1.heap.size := (by omega); (try (have hz1 : w.heap.size + 1 < w1.heap.size := (by omega))); (try (have hz2 : w.heap.size + 1 + 1 < w1.heap.size := (by omega))); (try (have hz3 : w.heap.size + 1 + 1 + 1 < w1.heap.size := (by omega))); (try (have hz4 : w.heap.size + 1 + 1 + 1 + 1 < w1.heap.size := (by omega)))) | (go_at_call 86; refine (HS _).mono ?_; rintro e w1 ⟨rfl, hb⟩; obtain ⟨H, hcc, hff, hzz⟩ := later_facts hb; clear hb; (try simp at hzz); (try simp only [World.heap_drewN, World.cell?_drewN, World.frozen?_drewN] at hcc hff); have hz0 : w.heap.size < w1.heap.size := (by omega); (try (have hz1 : w.heap.size + 1 < w1.heap.size := (by omega))); (try (have hz2 : w.heap.size + 1 + 1 < w1.heap.size := (by omega))); (try (have hz3 : w.heap.size + 1 + 1 + 1 < w1.heap.size := (by omega))); (try (have hz4 : w.heap.size + 1 + 1 + 1 + 1 < w1.heap.size := (by omega)))))
      all_goals
        go_ret2
        exact ⟨ret_2i (by rw [e1.out, if_pos h1]; omega) (by rw [e0.out, if_pos h1]), (by repeat (first | (with_reducible exact Later.refl _) | (with_reducible exact Hid.out (by assumption)) | (with_reducible refine Later.alloc ?_ _) | (with_reducible refine Later.setCell ?_ (by simp; omega) _) | (with_reducible refine Later.setCell ?_ (by simp) _) | (with_reducible refine Later.drewN ?_ _) | (with_reducible refine Later.drew ?_) | (with_reducible refine Later.trans ?_ (Hid.out (by assumption)))))⟩
    · have h2 : p < 1 := by omega
      go_enter Try.func52, Try.ntmps52
      go_wp2_with (first | (go_at_call 91; refine (HC _).mono ?_; rintro e w1 ⟨rfl, hb⟩; obtain ⟨H, hcc, hff, hzz⟩ := later_facts hb; clear hb; (try simp at hzz); (try simp only [World.heap_drewN, World.cell?_drewN, World.frozen?_drewN] at hcc hff); have hz0 : w.heap.size < w1.heap.size := (by omega); (try (have hz1 : w.heap.size + 1 < w1.heap.size := (by omega))); (try (have hz2 : w.heap.size + 1 + 1 < w1.heap.size := (by omega))); (try (have hz3 : w.heap.size + 1 + 1 + 1 < w1.heap.size := (by omega))); (try (have hz4 : w.heap.size + 1 + 1 + 1 + 1 < w1.heap.size := (by omega)))) | (go_at_call 86; refine (HS _).mono ?_; rintro e w1 ⟨rfl, hb⟩; obtain ⟨H, hcc, hff, hzz⟩ := later_facts hb; clear hb; (try simp at hzz); (try simp only [World.heap_drewN, World.cell?_drewN, World.frozen?_drewN] at hcc hff); have hz0 : w.heap.size < w1.heap.size := (by omega); (try (have hz1 : w.heap.size + 1 < w1.heap.size := (by omega))); (try (have hz2 : w.heap.size + 1 + 1 < w1.heap.size := (by omega))); (try (have hz3 : w.heap.size + 1 + 1 + 1 < w1.heap.size := (by omega))); (try (have hz4 : w.heap.size + 1 + 1 + 1 + 1 < w1.heap.size := (by omega)))))
      go_ret2
      exact ⟨ret_2i (by rw [e1.out, if_neg (by omega)]) (by rw [e0.out, if_neg (by omega)]), (by repeat (first | (with_reducible exact Later.refl _) | (with_reducible exact Hid.out (by assumption)) | (with_reducible refine Later.alloc ?_ _) | (with_reducible refine Later.setCell ?_ (by simp; omega) _) | (with_reducible refine Later.setCell ?_ (by simp) _) | (with_reducible refine Later.drewN ?_ _) | (with_reducible refine Later.drew ?_) | (with_reducible refine Later.trans ?_ (Hid.out (by assumption)))))⟩
  · have e0 : slE x = brE x := by unfold slE; rw [if_neg h]
    have e1 : gsV x = 0 := by unfold gsV okV; rw [e0, if_neg h]
    rw [e0, e1]
    generalize brE x = q at *
    have hne : (q != 0) = true := by simpa using h
    have hne2 : (q == 0) = false := by simpa using h
    clear h e0 e1
    go_enter Try.func52, Try.ntmps52
    go_wp2_with (first | (go_at_call 91; refine (HC _).mono ?_; rintro e w1 ⟨rfl, hb⟩; obtain ⟨H, hcc, hff, hzz⟩ := later_facts hb; clear hb; (try simp at hzz); (try simp only [World.heap_drewN, World.cell?_drewN, World.frozen?_drewN] at hcc hff); have hz0 : w.heap.size < w1.heap.size := (by omega); (try (have hz1 : w.heap.size + 1 < w1.heap.size := (by omega))); (try (have hz2 : w.heap.size + 1 + 1 < w1.heap.size := (by omega))); (try (have hz3 : w.heap.size + 1 + 1 + 1 < w1.heap.size := (by omega))); (try (have hz4 : w.heap.size + 1 + 1 + 1 + 1 < w1.heap.size := (by omega)))))
    go_ret2
    exact ⟨rfl, (by repeat (first | (with_reducible exact Later.refl _) | (with_reducible exact Hid.out (by assumption)) | (with_reducible refine Later.alloc ?_ _) | (with_reducible refine Later.setCell ?_ (by simp; omega) _) | (with_reducible refine Later.setCell ?_ (by simp) _) | (with_reducible refine Later.drewN ?_ _) | (with_reducible refine Later.drew ?_) | (with_reducible refine Later.trans ?_ (Hid.out (by assumption)))))⟩
theorem s_StoppingDistance (x : Sg) (a b : Int) (w : World) :
    Calls Try.prog 42 #[.agg #[.int .i64 x.k, .int .i64 x.l, .int .i64 x.r, .int .i64 x.a, .int .i64 x.b, .int .i64 x.c, .int .i64 x.d], .agg #[.int .i64 a, .int .i64 b]] w fun e w' => e = .returned (.tuple #[.agg #[.int .i64 (dsL x a b), .int .i64 (dsH x a b)], .int .i64 (dsE x a b)]) ∧ Later w w' := by
  cases h0 : sgB x
  · have e1 : dsE x a b = 1 := by unfold dsE slE brE; rw [h0]; cases enB a b <;> rfl
    have e2 : dsL x a b = 0 := by unfold dsL; rw [e1]; rfl
    have e3 : dsH x a b = 0 := by unfold dsH; rw [e1]; rfl
    rw [e1, e2, e3]
    clear e1 e2 e3
    go_enter Try.func42, Try.ntmps42
    go_wp2_with (first | (go_at_call 67; refine (s_IsSegment x _).mono ?_; rintro e w1 ⟨rfl, hb⟩; obtain ⟨H, hcc, hff, hzz⟩ := later_facts hb; clear hb; (try simp at hzz); (try simp only [World.heap_drewN, World.cell?_drewN, World.frozen?_drewN] at hcc hff); have hz0 : w.heap.size < w1.heap.size := (by omega); (try (have hz1 : w.heap.size + 1 < w1.heap.size := (by omega))); (try (have hz2 : w.heap.size + 1 + 1 < w1.heap.size := (by omega))); (try (have hz3 : w.heap.size + 1 + 1 + 1 < w1.heap.size := (by omega))); (try (have hz4 : w.heap.size + 1 + 1 + 1 + 1 < w1.heap.size := (by omega)))) | (go_at_call 68; refine (s_IsEnergy _ _ _).mono ?_; rintro e w1 ⟨rfl, hb⟩; obtain ⟨H, hcc, hff, hzz⟩ := later_facts hb; clear hb; (try simp at hzz); (try simp only [World.heap_drewN, World.cell?_drewN, World.frozen?_drewN] at hcc hff); have hz0 : w.heap.size < w1.heap.size := (by omega); (try (have hz1 : w.heap.size + 1 < w1.heap.size := (by omega))); (try (have hz2 : w.heap.size + 1 + 1 < w1.heap.size := (by omega))); (try (have hz3 : w.heap.size + 1 + 1 + 1 < w1.heap.size := (by omega))); (try (have hz4 : w.heap.size + 1 + 1 + 1 + 1 < w1.heap.size := (by omega)))))
    refine bodyPost_ret (v := .tuple #[.agg #[.int .i64 0, .int .i64 0], .int .i64 1]) (by simp [results, Try.results42, go_sem, *]) rfl ⟨rfl, (by repeat (first | (with_reducible exact Later.refl _) | (with_reducible exact Hid.out (by assumption)) | (with_reducible refine Later.alloc ?_ _) | (with_reducible refine Later.setCell ?_ (by simp; omega) _) | (with_reducible refine Later.setCell ?_ (by simp) _) | (with_reducible refine Later.drewN ?_ _) | (with_reducible refine Later.drew ?_) | (with_reducible refine Later.trans ?_ (Hid.out (by assumption)))))⟩
  · cases h1 : enB a b
    · have e1 : dsE x a b = 1 := by unfold dsE; rw [h1]; rfl
      have e2 : dsL x a b = 0 := by unfold dsL; rw [e1]; rfl
      have e3 : dsH x a b = 0 := by unfold dsH; rw [e1]; rfl
      rw [e1, e2, e3]
      clear e1 e2 e3
      go_enter Try.func42, Try.ntmps42
      go_upto_region 1 with (fail)
      refine into (fun W => Held [(w.heap.size + 1, 0, .int .i64 a), (w.heap.size + 1, 1, .int .i64 b), (w.heap.size, 0, .int .i64 x.k), (w.heap.size, 1, .int .i64 x.l), (w.heap.size, 2, .int .i64 x.r), (w.heap.size, 3, .int .i64 x.a), (w.heap.size, 4, .int .i64 x.b), (w.heap.size, 5, .int .i64 x.c), (w.heap.size, 6, .int .i64 x.d)] w W ∧ Fr (w.heap.size + 1 + 1) [.int .i64 0, .int .i64 0] W) ⟨?_, ?_⟩ ?_
      · exact (held_box (held_box (held_start w) w.heap.size [.int .i64 x.k, .int .i64 x.l, .int .i64 x.r, .int .i64 x.a, .int .i64 x.b, .int .i64 x.c, .int .i64 x.d] _ rfl) (w.heap.size + 1) [.int .i64 a, .int .i64 b] _ (by simp)).alloc _
      · have F := fr_alloc (X := (w.alloc (.cells [.int .i64 x.k, .int .i64 x.l, .int .i64 x.r, .int .i64 x.a, .int .i64 x.b, .int .i64 x.c, .int .i64 x.d].toArray 27)).alloc (.cells [Value.int .i64 a, .int .i64 b].toArray 25)) (l := [.int .i64 0, .int .i64 0]) (T := 25) (Later.refl _)
        simp only [World.size_alloc] at F
        exact F
      rintro W ⟨hW, hF⟩
      obtain ⟨p7, p8, p0, p1, p2, p3, p4, p5, p6, _⟩ := Held.s9 hW
      obtain ⟨r0, r1, r2, r3⟩ := Fr.o2 hF
      have z2 := hF.lt
      have z0 := hW.lt w.heap.size 0 (.int .i64 x.k) (by simp)
      have z1 := hW.lt (w.heap.size + 1) 0 (.int .i64 a) (by simp)
      have HW := Lib.hid (Held.is hW)
      go_wp2_with (first | (go_at_call 67; refine (s_IsSegment x _).mono ?_; rintro e w1 ⟨rfl, hb⟩; obtain ⟨H, hcc, hff, hzz⟩ := later_facts hb; clear hb; (try simp at hzz); (try simp only [World.heap_drewN, World.cell?_drewN, World.frozen?_drewN] at hcc hff); have hz0 : w.heap.size < w1.heap.size := (by omega); (try (have hz1 : w.heap.size + 1 < w1.heap.size := (by omega))); (try (have hz2 : w.heap.size + 1 + 1 < w1.heap.size := (by omega))); (try (have hz3 : w.heap.size + 1 + 1 + 1 < w1.heap.size := (by omega))); (try (have hz4 : w.heap.size + 1 + 1 + 1 + 1 < w1.heap.size := (by omega)))) | (go_at_call 68; refine (s_IsEnergy _ _ _).mono ?_; rintro e w1 ⟨rfl, hb⟩; obtain ⟨H, hcc, hff, hzz⟩ := later_facts hb; clear hb; (try simp at hzz); (try simp only [World.heap_drewN, World.cell?_drewN, World.frozen?_drewN] at hcc hff); have hz0 : w.heap.size < w1.heap.size := (by omega); (try (have hz1 : w.heap.size + 1 < w1.heap.size := (by omega))); (try (have hz2 : w.heap.size + 1 + 1 < w1.heap.size := (by omega))); (try (have hz3 : w.heap.size + 1 + 1 + 1 < w1.heap.size := (by omega))); (try (have hz4 : w.heap.size + 1 + 1 + 1 + 1 < w1.heap.size := (by omega)))))
      refine bodyPost_ret (v := .tuple #[.agg #[.int .i64 0, .int .i64 0], .int .i64 1]) (by simp [results, Try.results42, go_sem, *]) rfl ⟨rfl, (by repeat (first | (with_reducible exact Later.refl _) | (with_reducible exact Hid.out (by assumption)) | (with_reducible refine Later.alloc ?_ _) | (with_reducible refine Later.setCell ?_ (by simp; omega) _) | (with_reducible refine Later.setCell ?_ (by simp) _) | (with_reducible refine Later.drewN ?_ _) | (with_reducible refine Later.drew ?_) | (with_reducible refine Later.trans ?_ (Hid.out (by assumption)))))⟩
    · have HS := fun w => s_Work x w h0
      have e1 : dsE x a b = slE x := by unfold dsE; rw [h1]; rfl
      by_cases h : slE x = 0
      · obtain ⟨s1, s2, s3⟩ := slE_ok h
        obtain ⟨u1, u2, u3⟩ := (enB_iff a b).1 h1
        have hw := wk_bd x s1
        have hl := ((sgB_iff x).1 s1).2.1
        have m1 := nn_mul a x.l (by omega) (by omega) hl.1 hl.2
        have m2 := nn_mul b x.l (by omega) (by omega) hl.1 hl.2
        have e2 : dsL x a b = flo (a * x.l) (wkH x) := by unfold dsL; rw [e1, h]; rfl
        have e3 : dsH x a b = cei (b * x.l) (wkL x) := by unfold dsH; rw [e1, h]; rfl
        rw [e1, h, e2, e3]
        clear e1 e2 e3 h s1
        generalize wkL x = p at *
        generalize wkH x = q at *
        obtain ⟨hw1, hw2, hw3⟩ := hw
        obtain ⟨l1, l2⟩ := hl
        obtain ⟨A, hA⟩ : ∃ A, A = a * x.l := ⟨_, rfl⟩
        obtain ⟨B, hB⟩ : ∃ B, B = b * x.l := ⟨_, rfl⟩
        rw [← hA] at m1; rw [← hB] at m2
        have v1 : IntKind.i64.wrap (a * x.l) = A := by rw [← hA]; exact IntWalk.i64_in _ ⟨by omega, by omega⟩
        have v2 : IntKind.i64.wrap (b * x.l) = B := by rw [← hB]; exact IntWalk.i64_in _ ⟨by omega, by omega⟩
        rw [← hA, ← hB]
        have hp : p ≠ 0 := by omega
        have hq : q ≠ 0 := by omega
        have hnl : ¬ p < 1 := by omega
        clear hA hB u1 u2 u3
        go_enter Try.func42, Try.ntmps42
        go_upto_region 1 with (fail)
        refine into (fun W => Held [(w.heap.size + 1, 0, .int .i64 a), (w.heap.size + 1, 1, .int .i64 b), (w.heap.size, 0, .int .i64 x.k), (w.heap.size, 1, .int .i64 x.l), (w.heap.size, 2, .int .i64 x.r), (w.heap.size, 3, .int .i64 x.a), (w.heap.size, 4, .int .i64 x.b), (w.heap.size, 5, .int .i64 x.c), (w.heap.size, 6, .int .i64 x.d)] w W ∧ Fr (w.heap.size + 1 + 1) [.int .i64 0, .int .i64 0] W) ⟨?_, ?_⟩ ?_
        · exact (held_box (held_box (held_start w) w.heap.size [.int .i64 x.k, .int .i64 x.l, .int .i64 x.r, .int .i64 x.a, .int .i64 x.b, .int .i64 x.c, .int .i64 x.d] _ rfl) (w.heap.size + 1) [.int .i64 a, .int .i64 b] _ (by simp)).alloc _
        · have F := fr_alloc (X := (w.alloc (.cells [.int .i64 x.k, .int .i64 x.l, .int .i64 x.r, .int .i64 x.a, .int .i64 x.b, .int .i64 x.c, .int .i64 x.d].toArray 27)).alloc (.cells [Value.int .i64 a, .int .i64 b].toArray 25)) (l := [.int .i64 0, .int .i64 0]) (T := 25) (Later.refl _)
          simp only [World.size_alloc] at F
          exact F
        rintro W ⟨hW, hF⟩
        obtain ⟨p7, p8, p0, p1, p2, p3, p4, p5, p6, _⟩ := Held.s9 hW
        obtain ⟨r0, r1, r2, r3⟩ := Fr.o2 hF
        have z2 := hF.lt
        have z0 := hW.lt w.heap.size 0 (.int .i64 x.k) (by simp)
        have z1 := hW.lt (w.heap.size + 1) 0 (.int .i64 a) (by simp)
        have HW := Lib.hid (Held.is hW)
        go_wp2_with (first | (go_at_call 67; refine (s_IsSegment x _).mono ?_; rintro e w1 ⟨rfl, hb⟩; obtain ⟨H, hcc, hff, hzz⟩ := later_facts hb; clear hb; (try simp at hzz); (try simp only [World.heap_drewN, World.cell?_drewN, World.frozen?_drewN] at hcc hff); have hz0 : w.heap.size < w1.heap.size := (by omega); (try (have hz1 : w.heap.size + 1 < w1.heap.size := (by omega))); (try (have hz2 : w.heap.size + 1 + 1 < w1.heap.size := (by omega))); (try (have hz3 : w.heap.size + 1 + 1 + 1 < w1.heap.size := (by omega))); (try (have hz4 : w.heap.size + 1 + 1 + 1 + 1 < w1.heap.size := (by omega)))) | (go_at_call 68; refine (s_IsEnergy _ _ _).mono ?_; rintro e w1 ⟨rfl, hb⟩; obtain ⟨H, hcc, hff, hzz⟩ := later_facts hb; clear hb; (try simp at hzz); (try simp only [World.heap_drewN, World.cell?_drewN, World.frozen?_drewN] at hcc hff); have hz0 : w.heap.size < w1.heap.size := (by omega); (try (have hz1 : w.heap.size + 1 < w1.heap.size := (by omega))); (try (have hz2 : w.heap.size + 1 + 1 < w1.heap.size := (by omega))); (try (have hz3 : w.heap.size + 1 + 1 + 1 < w1.heap.size := (by omega))); (try (have hz4 : w.heap.size + 1 + 1 + 1 + 1 < w1.heap.size := (by omega)))) | (go_at_call 87; refine (s_Brake x _ s2 _).mono ?_; rintro e w8 ⟨rfl, hb⟩; have H8 := Lib.hid hb; obtain ⟨H, hcc, hff, hzz⟩ := later_facts hb; (try simp only [World.size_alloc] at hzz); clear hb; (try (have hy0 : w.heap.size < w8.heap.size := (by omega))); (try (have hy1 : w.heap.size + 1 < w8.heap.size := (by omega))); (try (have hy2 : w.heap.size + 1 + 1 < w8.heap.size := (by omega))); (try (have hy3 : w7.heap.size < w8.heap.size := (by omega)))) | (go_at_call 86; refine (HS _).mono ?_; rintro e w7 ⟨rfl, hb⟩; have H7 : Hid (Later W w7) := Lib.hid (Later.trans (by repeat (first | (with_reducible exact Later.refl _) | (with_reducible exact Hid.out (by assumption)) | (with_reducible refine Later.alloc ?_ _) | (with_reducible refine Later.setCell ?_ (by simp; omega) _) | (with_reducible refine Later.setCell ?_ (by simp) _) | (with_reducible refine Later.drewN ?_ _) | (with_reducible refine Later.drew ?_) | (with_reducible refine Later.trans ?_ (Hid.out (by assumption))))) hb); obtain ⟨H, hcc, hff, hzz⟩ := later_facts hb; clear hb; have hy0 : w.heap.size < w7.heap.size := (by omega); have hy1 : w.heap.size + 1 < w7.heap.size := (by omega); have hy2 : w.heap.size + 1 + 1 < w7.heap.size := (by omega)))
        have hgz : w.heap.size + 1 + 1 < w7.heap.size := by have := H7.out.size; omega
        have W8 : Held [(w7.heap.size, 0, Value.int .i64 p), (w7.heap.size, 1, Value.int .i64 q), (w.heap.size + 1, 0, Value.int .i64 a), (w.heap.size + 1, 1, Value.int .i64 b), (w.heap.size, 1, Value.int .i64 x.l)] w w8 := by
          have h : Held ((w7.heap.size, 0, .int .i64 p) :: (w7.heap.size, 1, .int .i64 q) :: [(w.heap.size + 1, 0, .int .i64 a), (w.heap.size + 1, 1, .int .i64 b), (w.heap.size, 0, .int .i64 x.k), (w.heap.size, 1, .int .i64 x.l), (w.heap.size, 2, .int .i64 x.r), (w.heap.size, 3, .int .i64 x.a), (w.heap.size, 4, .int .i64 x.b), (w.heap.size, 5, .int .i64 x.c), (w.heap.size, 6, .int .i64 x.d)]) w w8 := (held_box (Held.later hW H7.out) w7.heap.size [.int .i64 p, .int .i64 q] _ rfl).later H8.out
          exact ⟨fun y hy => h.1 y (by simp at hy ⊢; rcases hy with rfl | rfl | rfl | rfl | rfl <;> simp), h.2⟩
        have F := fr_later hF (H7.out.trans (Later.trans ((Later.refl _).alloc _) H8.out))
        refine into (fun W => Held [(w7.heap.size, 0, .int .i64 p), (w7.heap.size, 1, .int .i64 q), (w.heap.size + 1, 0, .int .i64 a), (w.heap.size + 1, 1, .int .i64 b), (w.heap.size, 1, .int .i64 x.l)] w W ∧ Fr (w.heap.size + 1 + 1) [.int .i64 0, .int .i64 0] W) ⟨by repeat (first | exact W8 | refine Held.drew ?_ | refine Held.drewN ?_ _), fr_later F (by repeat (first | exact Later.refl _ | refine Later.drew ?_ | refine Later.drewN ?_ _))⟩ ?_
        clear p0 p1 p2 p3 p4 p5 p6 p7 p8 r0 r1 r2 r3 hcc hff hzz H hW F hF
        rintro W' ⟨hW, F⟩
        obtain ⟨r0, r1, r2, r3⟩ := Fr.o2 F
        have z3 := hW.lt w7.heap.size 0 (.int .i64 p) (by simp)
        have ne1 : ¬ w7.heap.size = w.heap.size + 1 + 1 := by omega
        have ne2 : ¬ w.heap.size + 1 + 1 = w7.heap.size := by omega
        have hls : ∀ y ∈ [(w7.heap.size, 0, Value.int .i64 p), (w7.heap.size, 1, Value.int .i64 q), (w.heap.size + 1, 0, Value.int .i64 a), (w.heap.size + 1, 1, Value.int .i64 b), (w.heap.size, 1, Value.int .i64 x.l)], y.1 ≠ w.heap.size + 1 + 1 := by
          intro y hx; simp at hx; rcases hx with rfl | rfl | rfl | rfl | rfl <;> simp <;> omega
        go_region_held3 (fun w' => w'.cell? ⟨w7.heap.size, 0, none⟩ = some (.int .i64 p) ∧ w'.cell? ⟨w7.heap.size, 1, none⟩ = some (.int .i64 q) ∧ w'.cell? ⟨w.heap.size + 1, 0, none⟩ = some (.int .i64 a) ∧ w'.cell? ⟨w.heap.size + 1, 1, none⟩ = some (.int .i64 b) ∧ w'.cell? ⟨w.heap.size, 1, none⟩ = some (.int .i64 x.l) ∧ Held [(w7.heap.size, 0, .int .i64 p), (w7.heap.size, 1, .int .i64 q), (w.heap.size + 1, 0, .int .i64 a), (w.heap.size + 1, 1, .int .i64 b), (w.heap.size, 1, .int .i64 x.l)] w w') ((refine Held.s5 ?_; (repeat (first | refine Held.drew ?_ | refine Held.drewN ?_ _ | refine Held.setNe ?_ _ _ hls (by simp <;> omega))); refine Held.later hW ?_; repeat (first | exact Later.refl _ | refine Later.drew ?_ | refine Later.drewN ?_ _ | refine Later.alloc ?_ _ | refine Later.trans ?_ (Hid.out (by assumption)))))
          (first | (go_at_call 75; refine (s_FloorB _ _ _ (by omega) (by omega) (by omega) (by omega) hq).mono ?_; rintro e w' ⟨rfl, rfl⟩) | (go_at_call 70; refine (s_CeilB _ _ _ (by omega) (by omega) (by omega) (by omega) hp).mono ?_; rintro e w' ⟨rfl, rfl⟩))
        all_goals
          go_wp2_with fail
          refine bodyPost_ret (v := .tuple #[.agg #[.int .i64 (flo A q), .int .i64 (cei B p)], .int .i64 0]) (by simp [results, Try.results42, go_sem, *]) rfl ⟨rfl, (by repeat (first | exact Held.is hW | refine Later.drew ?_ | refine Later.drewN ?_ _ | refine Later.setCell ?_ (by simp <;> omega) _))⟩
      · have e2 : dsL x a b = 0 := by unfold dsL okV; rw [e1, if_neg h]
        have e3 : dsH x a b = 0 := by unfold dsH okV; rw [e1, if_neg h]
        rw [e1, e2, e3]
        have hs5 : slE x = 5 := by
          unfold slE brE at h ⊢
          rw [if_pos h0] at h ⊢
          cases hb : brk x.k
          · simp [hb]
          · simp [hb] at h ⊢; exact h
        rw [hs5]
        have hlow : brk x.k = true → wkL x < 1 := by
          intro hb
          unfold slE brE at hs5
          rw [if_pos h0, hb] at hs5
          simp at hs5; omega
        clear e1 e2 e3 h hs5
        generalize wkL x = p at *
        generalize wkH x = q at *
        cases s2 : brk x.k
        · clear hlow
          go_enter Try.func42, Try.ntmps42
          go_upto_region 1 with (fail)
          refine into (fun W => Held [(w.heap.size + 1, 0, .int .i64 a), (w.heap.size + 1, 1, .int .i64 b), (w.heap.size, 0, .int .i64 x.k), (w.heap.size, 1, .int .i64 x.l), (w.heap.size, 2, .int .i64 x.r), (w.heap.size, 3, .int .i64 x.a), (w.heap.size, 4, .int .i64 x.b), (w.heap.size, 5, .int .i64 x.c), (w.heap.size, 6, .int .i64 x.d)] w W ∧ Fr (w.heap.size + 1 + 1) [.int .i64 0, .int .i64 0] W) ⟨?_, ?_⟩ ?_
          · exact (held_box (held_box (held_start w) w.heap.size [.int .i64 x.k, .int .i64 x.l, .int .i64 x.r, .int .i64 x.a, .int .i64 x.b, .int .i64 x.c, .int .i64 x.d] _ rfl) (w.heap.size + 1) [.int .i64 a, .int .i64 b] _ (by simp)).alloc _
          · have F := fr_alloc (X := (w.alloc (.cells [.int .i64 x.k, .int .i64 x.l, .int .i64 x.r, .int .i64 x.a, .int .i64 x.b, .int .i64 x.c, .int .i64 x.d].toArray 27)).alloc (.cells [Value.int .i64 a, .int .i64 b].toArray 25)) (l := [.int .i64 0, .int .i64 0]) (T := 25) (Later.refl _)
            simp only [World.size_alloc] at F
            exact F
          rintro W ⟨hW, hF⟩
          obtain ⟨p7, p8, p0, p1, p2, p3, p4, p5, p6, _⟩ := Held.s9 hW
          obtain ⟨r0, r1, r2, r3⟩ := Fr.o2 hF
          have z2 := hF.lt
          have z0 := hW.lt w.heap.size 0 (.int .i64 x.k) (by simp)
          have z1 := hW.lt (w.heap.size + 1) 0 (.int .i64 a) (by simp)
          have HW := Lib.hid (Held.is hW)
          go_wp2_with (first | (go_at_call 67; refine (s_IsSegment x _).mono ?_; rintro e w1 ⟨rfl, hb⟩; obtain ⟨H, hcc, hff, hzz⟩ := later_facts hb; clear hb; (try simp at hzz); (try simp only [World.heap_drewN, World.cell?_drewN, World.frozen?_drewN] at hcc hff); have hz0 : w.heap.size < w1.heap.size := (by omega); (try (have hz1 : w.heap.size + 1 < w1.heap.size := (by omega))); (try (have hz2 : w.heap.size + 1 + 1 < w1.heap.size := (by omega))); (try (have hz3 : w.heap.size + 1 + 1 + 1 < w1.heap.size := (by omega))); (try (have hz4 : w.heap.size + 1 + 1 + 1 + 1 < w1.heap.size := (by omega)))) | (go_at_call 68; refine (s_IsEnergy _ _ _).mono ?_; rintro e w1 ⟨rfl, hb⟩; obtain ⟨H, hcc, hff, hzz⟩ := later_facts hb; clear hb; (try simp at hzz); (try simp only [World.heap_drewN, World.cell?_drewN, World.frozen?_drewN] at hcc hff); have hz0 : w.heap.size < w1.heap.size := (by omega); (try (have hz1 : w.heap.size + 1 < w1.heap.size := (by omega))); (try (have hz2 : w.heap.size + 1 + 1 < w1.heap.size := (by omega))); (try (have hz3 : w.heap.size + 1 + 1 + 1 < w1.heap.size := (by omega))); (try (have hz4 : w.heap.size + 1 + 1 + 1 + 1 < w1.heap.size := (by omega)))) | (go_at_call 87; refine (s_Brake x _ s2 _).mono ?_; rintro e w8 ⟨rfl, hb⟩; have H8 := Lib.hid hb; obtain ⟨H, hcc, hff, hzz⟩ := later_facts hb; (try simp only [World.size_alloc] at hzz); clear hb; (try (have hy0 : w.heap.size < w8.heap.size := (by omega))); (try (have hy1 : w.heap.size + 1 < w8.heap.size := (by omega))); (try (have hy2 : w.heap.size + 1 + 1 < w8.heap.size := (by omega))); (try (have hy3 : w7.heap.size < w8.heap.size := (by omega)))) | (go_at_call 86; refine (HS _).mono ?_; rintro e w1 ⟨rfl, hb⟩; obtain ⟨H, hcc, hff, hzz⟩ := later_facts hb; clear hb; (try simp at hzz); (try simp only [World.heap_drewN, World.cell?_drewN, World.frozen?_drewN] at hcc hff); have hz0 : w.heap.size < w1.heap.size := (by omega); (try (have hz1 : w.heap.size + 1 < w1.heap.size := (by omega))); (try (have hz2 : w.heap.size + 1 + 1 < w1.heap.size := (by omega))); (try (have hz3 : w.heap.size + 1 + 1 + 1 < w1.heap.size := (by omega))); (try (have hz4 : w.heap.size + 1 + 1 + 1 + 1 < w1.heap.size := (by omega)))))
          refine bodyPost_ret (v := .tuple #[.agg #[.int .i64 0, .int .i64 0], .int .i64 5]) (by simp [results, Try.results42, go_sem, *]) rfl ⟨rfl, (by repeat (first | (with_reducible exact Later.refl _) | (with_reducible exact Hid.out (by assumption)) | (with_reducible refine Later.alloc ?_ _) | (with_reducible refine Later.setCell ?_ (by simp; omega) _) | (with_reducible refine Later.setCell ?_ (by simp) _) | (with_reducible refine Later.drewN ?_ _) | (with_reducible refine Later.drew ?_) | (with_reducible refine Later.trans ?_ (Hid.out (by assumption)))))⟩
        · have hlow := hlow s2
          go_enter Try.func42, Try.ntmps42
          go_upto_region 1 with (fail)
          refine into (fun W => Held [(w.heap.size + 1, 0, .int .i64 a), (w.heap.size + 1, 1, .int .i64 b), (w.heap.size, 0, .int .i64 x.k), (w.heap.size, 1, .int .i64 x.l), (w.heap.size, 2, .int .i64 x.r), (w.heap.size, 3, .int .i64 x.a), (w.heap.size, 4, .int .i64 x.b), (w.heap.size, 5, .int .i64 x.c), (w.heap.size, 6, .int .i64 x.d)] w W ∧ Fr (w.heap.size + 1 + 1) [.int .i64 0, .int .i64 0] W) ⟨?_, ?_⟩ ?_
          · exact (held_box (held_box (held_start w) w.heap.size [.int .i64 x.k, .int .i64 x.l, .int .i64 x.r, .int .i64 x.a, .int .i64 x.b, .int .i64 x.c, .int .i64 x.d] _ rfl) (w.heap.size + 1) [.int .i64 a, .int .i64 b] _ (by simp)).alloc _
          · have F := fr_alloc (X := (w.alloc (.cells [.int .i64 x.k, .int .i64 x.l, .int .i64 x.r, .int .i64 x.a, .int .i64 x.b, .int .i64 x.c, .int .i64 x.d].toArray 27)).alloc (.cells [Value.int .i64 a, .int .i64 b].toArray 25)) (l := [.int .i64 0, .int .i64 0]) (T := 25) (Later.refl _)
            simp only [World.size_alloc] at F
            exact F
          rintro W ⟨hW, hF⟩
          obtain ⟨p7, p8, p0, p1, p2, p3, p4, p5, p6, _⟩ := Held.s9 hW
          obtain ⟨r0, r1, r2, r3⟩ := Fr.o2 hF
          have z2 := hF.lt
          have z0 := hW.lt w.heap.size 0 (.int .i64 x.k) (by simp)
          have z1 := hW.lt (w.heap.size + 1) 0 (.int .i64 a) (by simp)
          have HW := Lib.hid (Held.is hW)
          go_wp2_with (first | (go_at_call 67; refine (s_IsSegment x _).mono ?_; rintro e w1 ⟨rfl, hb⟩; obtain ⟨H, hcc, hff, hzz⟩ := later_facts hb; clear hb; (try simp at hzz); (try simp only [World.heap_drewN, World.cell?_drewN, World.frozen?_drewN] at hcc hff); have hz0 : w.heap.size < w1.heap.size := (by omega); (try (have hz1 : w.heap.size + 1 < w1.heap.size := (by omega))); (try (have hz2 : w.heap.size + 1 + 1 < w1.heap.size := (by omega))); (try (have hz3 : w.heap.size + 1 + 1 + 1 < w1.heap.size := (by omega))); (try (have hz4 : w.heap.size + 1 + 1 + 1 + 1 < w1.heap.size := (by omega)))) | (go_at_call 68; refine (s_IsEnergy _ _ _).mono ?_; rintro e w1 ⟨rfl, hb⟩; obtain ⟨H, hcc, hff, hzz⟩ := later_facts hb; clear hb; (try simp at hzz); (try simp only [World.heap_drewN, World.cell?_drewN, World.frozen?_drewN] at hcc hff); have hz0 : w.heap.size < w1.heap.size := (by omega); (try (have hz1 : w.heap.size + 1 < w1.heap.size := (by omega))); (try (have hz2 : w.heap.size + 1 + 1 < w1.heap.size := (by omega))); (try (have hz3 : w.heap.size + 1 + 1 + 1 < w1.heap.size := (by omega))); (try (have hz4 : w.heap.size + 1 + 1 + 1 + 1 < w1.heap.size := (by omega)))) | (go_at_call 87; refine (s_Brake x _ s2 _).mono ?_; rintro e w8 ⟨rfl, hb⟩; have H8 := Lib.hid hb; obtain ⟨H, hcc, hff, hzz⟩ := later_facts hb; (try simp only [World.size_alloc] at hzz); clear hb; (try (have hy0 : w.heap.size < w8.heap.size := (by omega))); (try (have hy1 : w.heap.size + 1 < w8.heap.size := (by omega))); (try (have hy2 : w.heap.size + 1 + 1 < w8.heap.size := (by omega))); (try (have hy3 : w7.heap.size < w8.heap.size := (by omega)))) | (go_at_call 86; refine (HS _).mono ?_; rintro e w1 ⟨rfl, hb⟩; obtain ⟨H, hcc, hff, hzz⟩ := later_facts hb; clear hb; (try simp at hzz); (try simp only [World.heap_drewN, World.cell?_drewN, World.frozen?_drewN] at hcc hff); have hz0 : w.heap.size < w1.heap.size := (by omega); (try (have hz1 : w.heap.size + 1 < w1.heap.size := (by omega))); (try (have hz2 : w.heap.size + 1 + 1 < w1.heap.size := (by omega))); (try (have hz3 : w.heap.size + 1 + 1 + 1 < w1.heap.size := (by omega))); (try (have hz4 : w.heap.size + 1 + 1 + 1 + 1 < w1.heap.size := (by omega)))))
          refine bodyPost_ret (v := .tuple #[.agg #[.int .i64 0, .int .i64 0], .int .i64 5]) (by simp [results, Try.results42, go_sem, *]) rfl ⟨rfl, (by repeat (first | (with_reducible exact Later.refl _) | (with_reducible exact Hid.out (by assumption)) | (with_reducible refine Later.alloc ?_ _) | (with_reducible refine Later.setCell ?_ (by simp; omega) _) | (with_reducible refine Later.setCell ?_ (by simp) _) | (with_reducible refine Later.drewN ?_ _) | (with_reducible refine Later.drew ?_) | (with_reducible refine Later.trans ?_ (Hid.out (by assumption)))))⟩
end Go.Proofs.Ytdhoiiejcmnmbaa
namespace Go.Proofs.Ytdhoiiejcmnmbaa
open Go.RowKit
set_option maxHeartbeats 4000000
set_option linter.unusedVariables false
set_option linter.unusedSimpArgs false
theorem s_StopVerdict (x : Sg) (a b : Int) (w : World) :
    Calls Try.prog 44 #[.agg #[.int .i64 x.k, .int .i64 x.l, .int .i64 x.r, .int .i64 x.a, .int .i64 x.b, .int .i64 x.c, .int .i64 x.d], .agg #[.int .i64 a, .int .i64 b]] w fun e w' => e = .returned (.tuple #[.int .i64 (svV x a b), .int .i64 (svE x a b)]) ∧ Later w w' := by
  cases h0 : sgB x
  · have e1 : Hid (svE x a b = 1) := Lib.hid (by unfold svE brE; rw [h0]; cases enB a b <;> rfl)
    have e2 : Hid (svV x a b = 0) := Lib.hid (by unfold svV; rw [e1.out]; rfl)
    go_enter Try.func44, Try.ntmps44
    go_wp2_with (first | (go_at_call 67; refine (s_IsSegment x _).mono ?_; rintro e w1 ⟨rfl, hb⟩; obtain ⟨H, hcc, hff, hzz⟩ := later_facts hb; clear hb; (try simp at hzz); (try simp only [World.heap_drewN, World.cell?_drewN, World.frozen?_drewN] at hcc hff); have hz0 : w.heap.size < w1.heap.size := (by omega); (try (have hz1 : w.heap.size + 1 < w1.heap.size := (by omega))); (try (have hz2 : w.heap.size + 1 + 1 < w1.heap.size := (by omega))); (try (have hz3 : w.heap.size + 1 + 1 + 1 < w1.heap.size := (by omega))); (try (have hz4 : w.heap.size + 1 + 1 + 1 + 1 < w1.heap.size := (by omega)))) | (go_at_call 68; refine (s_IsEnergy _ _ _).mono ?_; rintro e w1 ⟨rfl, hb⟩; obtain ⟨H, hcc, hff, hzz⟩ := later_facts hb; clear hb; (try simp at hzz); (try simp only [World.heap_drewN, World.cell?_drewN, World.frozen?_drewN] at hcc hff); have hz0 : w.heap.size < w1.heap.size := (by omega); (try (have hz1 : w.heap.size + 1 < w1.heap.size := (by omega))); (try (have hz2 : w.heap.size + 1 + 1 < w1.heap.size := (by omega))); (try (have hz3 : w.heap.size + 1 + 1 + 1 < w1.heap.size := (by omega))); (try (have hz4 : w.heap.size + 1 + 1 + 1 + 1 < w1.heap.size := (by omega)))))
    go_ret2
    exact ⟨ret_2i e2.out.symm e1.out.symm, (by repeat (first | (with_reducible exact Later.refl _) | (with_reducible exact Hid.out (by assumption)) | (with_reducible refine Later.alloc ?_ _) | (with_reducible refine Later.setCell ?_ (by simp; omega) _) | (with_reducible refine Later.setCell ?_ (by simp) _) | (with_reducible refine Later.drewN ?_ _) | (with_reducible refine Later.drew ?_) | (with_reducible refine Later.trans ?_ (Hid.out (by assumption)))))⟩
  · cases h1 : enB a b
    · have e1 : Hid (svE x a b = 1) := Lib.hid (by unfold svE; rw [h1]; rfl)
      have e2 : Hid (svV x a b = 0) := Lib.hid (by unfold svV; rw [e1.out]; rfl)
      go_enter Try.func44, Try.ntmps44
      go_upto_region 1 with (fail)
      refine into (fun W => Held [(w.heap.size + 1, 0, .int .i64 a), (w.heap.size + 1, 1, .int .i64 b), (w.heap.size, 0, .int .i64 x.k), (w.heap.size, 1, .int .i64 x.l), (w.heap.size, 2, .int .i64 x.r), (w.heap.size, 3, .int .i64 x.a), (w.heap.size, 4, .int .i64 x.b), (w.heap.size, 5, .int .i64 x.c), (w.heap.size, 6, .int .i64 x.d)] w W) (by first | exact (held_box (held_box (held_start w) w.heap.size [.int .i64 x.k, .int .i64 x.l, .int .i64 x.r, .int .i64 x.a, .int .i64 x.b, .int .i64 x.c, .int .i64 x.d] _ rfl) (w.heap.size + 1) [.int .i64 a, .int .i64 b] _ (by simp))) ?_
      rintro W hW
      obtain ⟨p7, p8, p0, p1, p2, p3, p4, p5, p6, _⟩ := Held.s9 hW
      have z0 := hW.lt w.heap.size 0 (.int .i64 x.k) (by simp)
      have z1 := hW.lt (w.heap.size + 1) 0 (.int .i64 a) (by simp)
      have HW := Lib.hid (Held.is hW)
      clear hW
      go_wp2_with (first | (go_at_call 67; refine (s_IsSegment x _).mono ?_; rintro e w1 ⟨rfl, hb⟩; obtain ⟨H, hcc, hff, hzz⟩ := later_facts hb; clear hb; (try simp at hzz); (try simp only [World.heap_drewN, World.cell?_drewN, World.frozen?_drewN] at hcc hff); have hz0 : w.heap.size < w1.heap.size := (by omega); (try (have hz1 : w.heap.size + 1 < w1.heap.size := (by omega))); (try (have hz2 : w.heap.size + 1 + 1 < w1.heap.size := (by omega))); (try (have hz3 : w.heap.size + 1 + 1 + 1 < w1.heap.size := (by omega))); (try (have hz4 : w.heap.size + 1 + 1 + 1 + 1 < w1.heap.size := (by omega)))) | (go_at_call 68; refine (s_IsEnergy _ _ _).mono ?_; rintro e w1 ⟨rfl, hb⟩; obtain ⟨H, hcc, hff, hzz⟩ := later_facts hb; clear hb; (try simp at hzz); (try simp only [World.heap_drewN, World.cell?_drewN, World.frozen?_drewN] at hcc hff); have hz0 : w.heap.size < w1.heap.size := (by omega); (try (have hz1 : w.heap.size + 1 < w1.heap.size := (by omega))); (try (have hz2 : w.heap.size + 1 + 1 < w1.heap.size := (by omega))); (try (have hz3 : w.heap.size + 1 + 1 + 1 < w1.heap.size := (by omega))); (try (have hz4 : w.heap.size + 1 + 1 + 1 + 1 < w1.heap.size := (by omega)))))
      go_ret2
      exact ⟨ret_2i e2.out.symm e1.out.symm, (by repeat (first | (with_reducible exact Later.refl _) | (with_reducible exact Hid.out (by assumption)) | (with_reducible refine Later.alloc ?_ _) | (with_reducible refine Later.setCell ?_ (by simp; omega) _) | (with_reducible refine Later.setCell ?_ (by simp) _) | (with_reducible refine Later.drewN ?_ _) | (with_reducible refine Later.drew ?_) | (with_reducible refine Later.trans ?_ (Hid.out (by assumption)))))⟩
    · have HS := fun w => s_Work x w h0
      have e1 : Hid (svE x a b = brE x) := Lib.hid (by unfold svE; rw [h1]; rfl)
      cases s2 : brk x.k
      · have e0 : Hid (brE x = 5) := Lib.hid (by unfold brE; rw [h0, s2]; rfl)
        have e2 : Hid (svV x a b = 0) := Lib.hid (by unfold svV; rw [e1.out, e0.out]; rfl)
        generalize wkL x = p at *
        generalize wkH x = q at *
        go_enter Try.func44, Try.ntmps44
        go_upto_region 1 with (fail)
        refine into (fun W => Held [(w.heap.size + 1, 0, .int .i64 a), (w.heap.size + 1, 1, .int .i64 b), (w.heap.size, 0, .int .i64 x.k), (w.heap.size, 1, .int .i64 x.l), (w.heap.size, 2, .int .i64 x.r), (w.heap.size, 3, .int .i64 x.a), (w.heap.size, 4, .int .i64 x.b), (w.heap.size, 5, .int .i64 x.c), (w.heap.size, 6, .int .i64 x.d)] w W) (by first | exact (held_box (held_box (held_start w) w.heap.size [.int .i64 x.k, .int .i64 x.l, .int .i64 x.r, .int .i64 x.a, .int .i64 x.b, .int .i64 x.c, .int .i64 x.d] _ rfl) (w.heap.size + 1) [.int .i64 a, .int .i64 b] _ (by simp))) ?_
        rintro W hW
        obtain ⟨p7, p8, p0, p1, p2, p3, p4, p5, p6, _⟩ := Held.s9 hW
        have z0 := hW.lt w.heap.size 0 (.int .i64 x.k) (by simp)
        have z1 := hW.lt (w.heap.size + 1) 0 (.int .i64 a) (by simp)
        have HW := Lib.hid (Held.is hW)
        clear hW
        go_wp2_with (first | (go_at_call 67; refine (s_IsSegment x _).mono ?_; rintro e w1 ⟨rfl, hb⟩; obtain ⟨H, hcc, hff, hzz⟩ := later_facts hb; clear hb; (try simp at hzz); (try simp only [World.heap_drewN, World.cell?_drewN, World.frozen?_drewN] at hcc hff); have hz0 : w.heap.size < w1.heap.size := (by omega); (try (have hz1 : w.heap.size + 1 < w1.heap.size := (by omega))); (try (have hz2 : w.heap.size + 1 + 1 < w1.heap.size := (by omega))); (try (have hz3 : w.heap.size + 1 + 1 + 1 < w1.heap.size := (by omega))); (try (have hz4 : w.heap.size + 1 + 1 + 1 + 1 < w1.heap.size := (by omega)))) | (go_at_call 68; refine (s_IsEnergy _ _ _).mono ?_; rintro e w1 ⟨rfl, hb⟩; obtain ⟨H, hcc, hff, hzz⟩ := later_facts hb; clear hb; (try simp at hzz); (try simp only [World.heap_drewN, World.cell?_drewN, World.frozen?_drewN] at hcc hff); have hz0 : w.heap.size < w1.heap.size := (by omega); (try (have hz1 : w.heap.size + 1 < w1.heap.size := (by omega))); (try (have hz2 : w.heap.size + 1 + 1 < w1.heap.size := (by omega))); (try (have hz3 : w.heap.size + 1 + 1 + 1 < w1.heap.size := (by omega))); (try (have hz4 : w.heap.size + 1 + 1 + 1 + 1 < w1.heap.size := (by omega)))) | (go_at_call 86; refine (HS _).mono ?_; rintro e w7 ⟨rfl, hb⟩; obtain ⟨H, hcc, hff, hzz⟩ := later_facts hb; clear hb; (try (have hy0 : w.heap.size < w7.heap.size := (by omega))); (try (have hy1 : w.heap.size + 1 < w7.heap.size := (by omega)))) | (go_at_call 87; refine (s_Brake x _ s2 _).mono ?_; rintro e w8 ⟨rfl, hb⟩; obtain ⟨H, hcc, hff, hzz⟩ := later_facts hb; clear hb; (try simp only [World.size_alloc] at hzz); (try (have hy0 : w.heap.size < w8.heap.size := (by omega))); (try (have hy1 : w.heap.size + 1 < w8.heap.size := (by omega))); (try (have hy3 : w7.heap.size < w8.heap.size := (by omega)))))
        go_ret2
        exact ⟨ret_2i e2.out.symm (by rw [e1.out, e0.out]), (by repeat (first | (with_reducible exact Later.refl _) | (with_reducible exact Hid.out (by assumption)) | (with_reducible refine Later.alloc ?_ _) | (with_reducible refine Later.setCell ?_ (by simp; omega) _) | (with_reducible refine Later.setCell ?_ (by simp) _) | (with_reducible refine Later.drewN ?_ _) | (with_reducible refine Later.drew ?_) | (with_reducible refine Later.trans ?_ (Hid.out (by assumption)))))⟩
      · have e0 : Hid (brE x = 0) := Lib.hid (by unfold brE; rw [h0, s2]; rfl)
        have e2 : Hid (svV x a b = if 1 ≤ wkL x ∧ b ≤ wkL x then 2 else if wkH x < a then 0 else 1) := Lib.hid (by unfold svV; rw [e1.out, e0.out]; rfl)
        generalize wkL x = p at *
        generalize wkH x = q at *
        by_cases c1 : 1 ≤ p
        · by_cases c2 : b ≤ p
          · go_enter Try.func44, Try.ntmps44
            go_upto_region 1 with (fail)
            refine into (fun W => Held [(w.heap.size + 1, 0, .int .i64 a), (w.heap.size + 1, 1, .int .i64 b), (w.heap.size, 0, .int .i64 x.k), (w.heap.size, 1, .int .i64 x.l), (w.heap.size, 2, .int .i64 x.r), (w.heap.size, 3, .int .i64 x.a), (w.heap.size, 4, .int .i64 x.b), (w.heap.size, 5, .int .i64 x.c), (w.heap.size, 6, .int .i64 x.d)] w W) (by first | exact (held_box (held_box (held_start w) w.heap.size [.int .i64 x.k, .int .i64 x.l, .int .i64 x.r, .int .i64 x.a, .int .i64 x.b, .int .i64 x.c, .int .i64 x.d] _ rfl) (w.heap.size + 1) [.int .i64 a, .int .i64 b] _ (by simp))) ?_
            rintro W hW
            obtain ⟨p7, p8, p0, p1, p2, p3, p4, p5, p6, _⟩ := Held.s9 hW
            have z0 := hW.lt w.heap.size 0 (.int .i64 x.k) (by simp)
            have z1 := hW.lt (w.heap.size + 1) 0 (.int .i64 a) (by simp)
            have HW := Lib.hid (Held.is hW)
            clear hW
            go_wp2_with (first | (go_at_call 67; refine (s_IsSegment x _).mono ?_; rintro e w1 ⟨rfl, hb⟩; obtain ⟨H, hcc, hff, hzz⟩ := later_facts hb; clear hb; (try simp at hzz); (try simp only [World.heap_drewN, World.cell?_drewN, World.frozen?_drewN] at hcc hff); have hz0 : w.heap.size < w1.heap.size := (by omega); (try (have hz1 : w.heap.size + 1 < w1.heap.size := (by omega))); (try (have hz2 : w.heap.size + 1 + 1 < w1.heap.size := (by omega))); (try (have hz3 : w.heap.size + 1 + 1 + 1 < w1.heap.size := (by omega))); (try (have hz4 : w.heap.size + 1 + 1 + 1 + 1 < w1.heap.size := (by omega)))) | (go_at_call 68; refine (s_IsEnergy _ _ _).mono ?_; rintro e w1 ⟨rfl, hb⟩; obtain ⟨H, hcc, hff, hzz⟩ := later_facts hb; clear hb; (try simp at hzz); (try simp only [World.heap_drewN, World.cell?_drewN, World.frozen?_drewN] at hcc hff); have hz0 : w.heap.size < w1.heap.size := (by omega); (try (have hz1 : w.heap.size + 1 < w1.heap.size := (by omega))); (try (have hz2 : w.heap.size + 1 + 1 < w1.heap.size := (by omega))); (try (have hz3 : w.heap.size + 1 + 1 + 1 < w1.heap.size := (by omega))); (try (have hz4 : w.heap.size + 1 + 1 + 1 + 1 < w1.heap.size := (by omega)))) | (go_at_call 86; refine (HS _).mono ?_; rintro e w7 ⟨rfl, hb⟩; obtain ⟨H, hcc, hff, hzz⟩ := later_facts hb; clear hb; (try (have hy0 : w.heap.size < w7.heap.size := (by omega))); (try (have hy1 : w.heap.size + 1 < w7.heap.size := (by omega)))) | (go_at_call 87; refine (s_Brake x _ s2 _).mono ?_; rintro e w8 ⟨rfl, hb⟩; obtain ⟨H, hcc, hff, hzz⟩ := later_facts hb; clear hb; (try simp only [World.size_alloc] at hzz); (try (have hy0 : w.heap.size < w8.heap.size := (by omega))); (try (have hy1 : w.heap.size + 1 < w8.heap.size := (by omega))); (try (have hy3 : w7.heap.size < w8.heap.size := (by omega)))))
            go_ret2
            exact ⟨ret_2i (by rw [e2.out, if_pos ⟨by omega, by omega⟩]) (by rw [e1.out, e0.out]), (by repeat (first | (with_reducible exact Later.refl _) | (with_reducible exact Hid.out (by assumption)) | (with_reducible refine Later.alloc ?_ _) | (with_reducible refine Later.setCell ?_ (by simp; omega) _) | (with_reducible refine Later.setCell ?_ (by simp) _) | (with_reducible refine Later.drewN ?_ _) | (with_reducible refine Later.drew ?_) | (with_reducible refine Later.trans ?_ (Hid.out (by assumption)))))⟩
          · by_cases c3 : q < a
            · go_enter Try.func44, Try.ntmps44
              go_upto_region 1 with (fail)
              refine into (fun W => Held [(w.heap.size + 1, 0, .int .i64 a), (w.heap.size + 1, 1, .int .i64 b), (w.heap.size, 0, .int .i64 x.k), (w.heap.size, 1, .int .i64 x.l), (w.heap.size, 2, .int .i64 x.r), (w.heap.size, 3, .int .i64 x.a), (w.heap.size, 4, .int .i64 x.b), (w.heap.size, 5, .int .i64 x.c), (w.heap.size, 6, .int .i64 x.d)] w W) (by first | exact (held_box (held_box (held_start w) w.heap.size [.int .i64 x.k, .int .i64 x.l, .int .i64 x.r, .int .i64 x.a, .int .i64 x.b, .int .i64 x.c, .int .i64 x.d] _ rfl) (w.heap.size + 1) [.int .i64 a, .int .i64 b] _ (by simp))) ?_
              rintro W hW
              obtain ⟨p7, p8, p0, p1, p2, p3, p4, p5, p6, _⟩ := Held.s9 hW
              have z0 := hW.lt w.heap.size 0 (.int .i64 x.k) (by simp)
              have z1 := hW.lt (w.heap.size + 1) 0 (.int .i64 a) (by simp)
              have HW := Lib.hid (Held.is hW)
              clear hW
              go_wp2_with (first | (go_at_call 67; refine (s_IsSegment x _).mono ?_; rintro e w1 ⟨rfl, hb⟩; obtain ⟨H, hcc, hff, hzz⟩ := later_facts hb; clear hb; (try simp at hzz); (try simp only [World.heap_drewN, World.cell?_drewN, World.frozen?_drewN] at hcc hff); have hz0 : w.heap.size < w1.heap.size := (by omega); (try (have hz1 : w.heap.size + 1 < w1.heap.size := (by omega))); (try (have hz2 : w.heap.size + 1 + 1 < w1.heap.size := (by omega))); (try (have hz3 : w.heap.size + 1 + 1 + 1 < w1.heap.size := (by omega))); (try (have hz4 : w.heap.size + 1 + 1 + 1 + 1 < w1.heap.size := (by omega)))) | (go_at_call 68; refine (s_IsEnergy _ _ _).mono ?_; rintro e w1 ⟨rfl, hb⟩; obtain ⟨H, hcc, hff, hzz⟩ := later_facts hb; clear hb; (try simp at hzz); (try simp only [World.heap_drewN, World.cell?_drewN, World.frozen?_drewN] at hcc hff); have hz0 : w.heap.size < w1.heap.size := (by omega); (try (have hz1 : w.heap.size + 1 < w1.heap.size := (by omega))); (try (have hz2 : w.heap.size + 1 + 1 < w1.heap.size := (by omega))); (try (have hz3 : w.heap.size + 1 + 1 + 1 < w1.heap.size := (by omega))); (try (have hz4 : w.heap.size + 1 + 1 + 1 + 1 < w1.heap.size := (by omega)))) | (go_at_call 86; refine (HS _).mono ?_; rintro e w7 ⟨rfl, hb⟩; obtain ⟨H, hcc, hff, hzz⟩ := later_facts hb; clear hb; (try (have hy0 : w.heap.size < w7.heap.size := (by omega))); (try (have hy1 : w.heap.size + 1 < w7.heap.size := (by omega)))) | (go_at_call 87; refine (s_Brake x _ s2 _).mono ?_; rintro e w8 ⟨rfl, hb⟩; obtain ⟨H, hcc, hff, hzz⟩ := later_facts hb; clear hb; (try simp only [World.size_alloc] at hzz); (try (have hy0 : w.heap.size < w8.heap.size := (by omega))); (try (have hy1 : w.heap.size + 1 < w8.heap.size := (by omega))); (try (have hy3 : w7.heap.size < w8.heap.size := (by omega)))))
              go_ret2
              exact ⟨ret_2i (by rw [e2.out, if_neg (by omega), if_pos (by omega)]) (by rw [e1.out, e0.out]), (by repeat (first | (with_reducible exact Later.refl _) | (with_reducible exact Hid.out (by assumption)) | (with_reducible refine Later.alloc ?_ _) | (with_reducible refine Later.setCell ?_ (by simp; omega) _) | (with_reducible refine Later.setCell ?_ (by simp) _) | (with_reducible refine Later.drewN ?_ _) | (with_reducible refine Later.drew ?_) | (with_reducible refine Later.trans ?_ (Hid.out (by assumption)))))⟩
            · go_enter Try.func44, Try.ntmps44
              go_upto_region 1 with (fail)
              refine into (fun W => Held [(w.heap.size + 1, 0, .int .i64 a), (w.heap.size + 1, 1, .int .i64 b), (w.heap.size, 0, .int .i64 x.k), (w.heap.size, 1, .int .i64 x.l), (w.heap.size, 2, .int .i64 x.r), (w.heap.size, 3, .int .i64 x.a), (w.heap.size, 4, .int .i64 x.b), (w.heap.size, 5, .int .i64 x.c), (w.heap.size, 6, .int .i64 x.d)] w W) (by first | exact (held_box (held_box (held_start w) w.heap.size [.int .i64 x.k, .int .i64 x.l, .int .i64 x.r, .int .i64 x.a, .int .i64 x.b, .int .i64 x.c, .int .i64 x.d] _ rfl) (w.heap.size + 1) [.int .i64 a, .int .i64 b] _ (by simp))) ?_
              rintro W hW
              obtain ⟨p7, p8, p0, p1, p2, p3, p4, p5, p6, _⟩ := Held.s9 hW
              have z0 := hW.lt w.heap.size 0 (.int .i64 x.k) (by simp)
              have z1 := hW.lt (w.heap.size + 1) 0 (.int .i64 a) (by simp)
              have HW := Lib.hid (Held.is hW)
              clear hW
              go_wp2_with (first | (go_at_call 67; refine (s_IsSegment x _).mono ?_; rintro e w1 ⟨rfl, hb⟩; obtain ⟨H, hcc, hff, hzz⟩ := later_facts hb; clear hb; (try simp at hzz); (try simp only [World.heap_drewN, World.cell?_drewN, World.frozen?_drewN] at hcc hff); have hz0 : w.heap.size < w1.heap.size := (by omega); (try (have hz1 : w.heap.size + 1 < w1.heap.size := (by omega))); (try (have hz2 : w.heap.size + 1 + 1 < w1.heap.size := (by omega))); (try (have hz3 : w.heap.size + 1 + 1 + 1 < w1.heap.size := (by omega))); (try (have hz4 : w.heap.size + 1 + 1 + 1 + 1 < w1.heap.size := (by omega)))) | (go_at_call 68; refine (s_IsEnergy _ _ _).mono ?_; rintro e w1 ⟨rfl, hb⟩; obtain ⟨H, hcc, hff, hzz⟩ := later_facts hb; clear hb; (try simp at hzz); (try simp only [World.heap_drewN, World.cell?_drewN, World.frozen?_drewN] at hcc hff); have hz0 : w.heap.size < w1.heap.size := (by omega); (try (have hz1 : w.heap.size + 1 < w1.heap.size := (by omega))); (try (have hz2 : w.heap.size + 1 + 1 < w1.heap.size := (by omega))); (try (have hz3 : w.heap.size + 1 + 1 + 1 < w1.heap.size := (by omega))); (try (have hz4 : w.heap.size + 1 + 1 + 1 + 1 < w1.heap.size := (by omega)))) | (go_at_call 86; refine (HS _).mono ?_; rintro e w7 ⟨rfl, hb⟩; obtain ⟨H, hcc, hff, hzz⟩ := later_facts hb; clear hb; (try (have hy0 : w.heap.size < w7.heap.size := (by omega))); (try (have hy1 : w.heap.size + 1 < w7.heap.size := (by omega)))) | (go_at_call 87; refine (s_Brake x _ s2 _).mono ?_; rintro e w8 ⟨rfl, hb⟩; obtain ⟨H, hcc, hff, hzz⟩ := later_facts hb; clear hb; (try simp only [World.size_alloc] at hzz); (try (have hy0 : w.heap.size < w8.heap.size := (by omega))); (try (have hy1 : w.heap.size + 1 < w8.heap.size := (by omega))); (try (have hy3 : w7.heap.size < w8.heap.size := (by omega)))))
              go_ret2
              exact ⟨ret_2i (by rw [e2.out, if_neg (by omega), if_neg (by omega)]) (by rw [e1.out, e0.out]), (by repeat (first | (with_reducible exact Later.refl _) | (with_reducible exact Hid.out (by assumption)) | (with_reducible refine Later.alloc ?_ _) | (with_reducible refine Later.setCell ?_ (by simp; omega) _) | (with_reducible refine Later.setCell ?_ (by simp) _) | (with_reducible refine Later.drewN ?_ _) | (with_reducible refine Later.drew ?_) | (with_reducible refine Later.trans ?_ (Hid.out (by assumption)))))⟩
        · by_cases c3 : q < a
          · go_enter Try.func44, Try.ntmps44
            go_upto_region 1 with (fail)
            refine into (fun W => Held [(w.heap.size + 1, 0, .int .i64 a), (w.heap.size + 1, 1, .int .i64 b), (w.heap.size, 0, .int .i64 x.k), (w.heap.size, 1, .int .i64 x.l), (w.heap.size, 2, .int .i64 x.r), (w.heap.size, 3, .int .i64 x.a), (w.heap.size, 4, .int .i64 x.b), (w.heap.size, 5, .int .i64 x.c), (w.heap.size, 6, .int .i64 x.d)] w W) (by first | exact (held_box (held_box (held_start w) w.heap.size [.int .i64 x.k, .int .i64 x.l, .int .i64 x.r, .int .i64 x.a, .int .i64 x.b, .int .i64 x.c, .int .i64 x.d] _ rfl) (w.heap.size + 1) [.int .i64 a, .int .i64 b] _ (by simp))) ?_
            rintro W hW
            obtain ⟨p7, p8, p0, p1, p2, p3, p4, p5, p6, _⟩ := Held.s9 hW
            have z0 := hW.lt w.heap.size 0 (.int .i64 x.k) (by simp)
            have z1 := hW.lt (w.heap.size + 1) 0 (.int .i64 a) (by simp)
            have HW := Lib.hid (Held.is hW)
            clear hW
            go_wp2_with (first | (go_at_call 67; refine (s_IsSegment x _).mono ?_; rintro e w1 ⟨rfl, hb⟩; obtain ⟨H, hcc, hff, hzz⟩ := later_facts hb; clear hb; (try simp at hzz); (try simp only [World.heap_drewN, World.cell?_drewN, World.frozen?_drewN] at hcc hff); have hz0 : w.heap.size < w1.heap.size := (by omega); (try (have hz1 : w.heap.size + 1 < w1.heap.size := (by omega))); (try (have hz2 : w.heap.size + 1 + 1 < w1.heap.size := (by omega))); (try (have hz3 : w.heap.size + 1 + 1 + 1 < w1.heap.size := (by omega))); (try (have hz4 : w.heap.size + 1 + 1 + 1 + 1 < w1.heap.size := (by omega)))) | (go_at_call 68; refine (s_IsEnergy _ _ _).mono ?_; rintro e w1 ⟨rfl, hb⟩; obtain ⟨H, hcc, hff, hzz⟩ := later_facts hb; clear hb; (try simp at hzz); (try simp only [World.heap_drewN, World.cell?_drewN, World.frozen?_drewN] at hcc hff); have hz0 : w.heap.size < w1.heap.size := (by omega); (try (have hz1 : w.heap.size + 1 < w1.heap.size := (by omega))); (try (have hz2 : w.heap.size + 1 + 1 < w1.heap.size := (by omega))); (try (have hz3 : w.heap.size + 1 + 1 + 1 < w1.heap.size := (by omega))); (try (have hz4 : w.heap.size + 1 + 1 + 1 + 1 < w1.heap.size := (by omega)))) | (go_at_call 86; refine (HS _).mono ?_; rintro e w7 ⟨rfl, hb⟩; obtain ⟨H, hcc, hff, hzz⟩ := later_facts hb; clear hb; (try (have hy0 : w.heap.size < w7.heap.size := (by omega))); (try (have hy1 : w.heap.size + 1 < w7.heap.size := (by omega)))) | (go_at_call 87; refine (s_Brake x _ s2 _).mono ?_; rintro e w8 ⟨rfl, hb⟩; obtain ⟨H, hcc, hff, hzz⟩ := later_facts hb; clear hb; (try simp only [World.size_alloc] at hzz); (try (have hy0 : w.heap.size < w8.heap.size := (by omega))); (try (have hy1 : w.heap.size + 1 < w8.heap.size := (by omega))); (try (have hy3 : w7.heap.size < w8.heap.size := (by omega)))))
            go_ret2
            exact ⟨ret_2i (by rw [e2.out, if_neg (by omega), if_pos (by omega)]) (by rw [e1.out, e0.out]), (by repeat (first | (with_reducible exact Later.refl _) | (with_reducible exact Hid.out (by assumption)) | (with_reducible refine Later.alloc ?_ _) | (with_reducible refine Later.setCell ?_ (by simp; omega) _) | (with_reducible refine Later.setCell ?_ (by simp) _) | (with_reducible refine Later.drewN ?_ _) | (with_reducible refine Later.drew ?_) | (with_reducible refine Later.trans ?_ (Hid.out (by assumption)))))⟩
          · go_enter Try.func44, Try.ntmps44
            go_upto_region 1 with (fail)
            refine into (fun W => Held [(w.heap.size + 1, 0, .int .i64 a), (w.heap.size + 1, 1, .int .i64 b), (w.heap.size, 0, .int .i64 x.k), (w.heap.size, 1, .int .i64 x.l), (w.heap.size, 2, .int .i64 x.r), (w.heap.size, 3, .int .i64 x.a), (w.heap.size, 4, .int .i64 x.b), (w.heap.size, 5, .int .i64 x.c), (w.heap.size, 6, .int .i64 x.d)] w W) (by first | exact (held_box (held_box (held_start w) w.heap.size [.int .i64 x.k, .int .i64 x.l, .int .i64 x.r, .int .i64 x.a, .int .i64 x.b, .int .i64 x.c, .int .i64 x.d] _ rfl) (w.heap.size + 1) [.int .i64 a, .int .i64 b] _ (by simp))) ?_
            rintro W hW
            obtain ⟨p7, p8, p0, p1, p2, p3, p4, p5, p6, _⟩ := Held.s9 hW
            have z0 := hW.lt w.heap.size 0 (.int .i64 x.k) (by simp)
            have z1 := hW.lt (w.heap.size + 1) 0 (.int .i64 a) (by simp)
            have HW := Lib.hid (Held.is hW)
            clear hW
            go_wp2_with (first | (go_at_call 67; refine (s_IsSegment x _).mono ?_; rintro e w1 ⟨rfl, hb⟩; obtain ⟨H, hcc, hff, hzz⟩ := later_facts hb; clear hb; (try simp at hzz); (try simp only [World.heap_drewN, World.cell?_drewN, World.frozen?_drewN] at hcc hff); have hz0 : w.heap.size < w1.heap.size := (by omega); (try (have hz1 : w.heap.size + 1 < w1.heap.size := (by omega))); (try (have hz2 : w.heap.size + 1 + 1 < w1.heap.size := (by omega))); (try (have hz3 : w.heap.size + 1 + 1 + 1 < w1.heap.size := (by omega))); (try (have hz4 : w.heap.size + 1 + 1 + 1 + 1 < w1.heap.size := (by omega)))) | (go_at_call 68; refine (s_IsEnergy _ _ _).mono ?_; rintro e w1 ⟨rfl, hb⟩; obtain ⟨H, hcc, hff, hzz⟩ := later_facts hb; clear hb; (try simp at hzz); (try simp only [World.heap_drewN, World.cell?_drewN, World.frozen?_drewN] at hcc hff); have hz0 : w.heap.size < w1.heap.size := (by omega); (try (have hz1 : w.heap.size + 1 < w1.heap.size := (by omega))); (try (have hz2 : w.heap.size + 1 + 1 < w1.heap.size := (by omega))); (try (have hz3 : w.heap.size + 1 + 1 + 1 < w1.heap.size := (by omega))); (try (have hz4 : w.heap.size + 1 + 1 + 1 + 1 < w1.heap.size := (by omega)))) | (go_at_call 86; refine (HS _).mono ?_; rintro e w7 ⟨rfl, hb⟩; obtain ⟨H, hcc, hff, hzz⟩ := later_facts hb; clear hb; (try (have hy0 : w.heap.size < w7.heap.size := (by omega))); (try (have hy1 : w.heap.size + 1 < w7.heap.size := (by omega)))) | (go_at_call 87; refine (s_Brake x _ s2 _).mono ?_; rintro e w8 ⟨rfl, hb⟩; obtain ⟨H, hcc, hff, hzz⟩ := later_facts hb; clear hb; (try simp only [World.size_alloc] at hzz); (try (have hy0 : w.heap.size < w8.heap.size := (by omega))); (try (have hy1 : w.heap.size + 1 < w8.heap.size := (by omega))); (try (have hy3 : w7.heap.size < w8.heap.size := (by omega)))))
            go_ret2
            exact ⟨ret_2i (by rw [e2.out, if_neg (by omega), if_neg (by omega)]) (by rw [e1.out, e0.out]), (by repeat (first | (with_reducible exact Later.refl _) | (with_reducible exact Hid.out (by assumption)) | (with_reducible refine Later.alloc ?_ _) | (with_reducible refine Later.setCell ?_ (by simp; omega) _) | (with_reducible refine Later.setCell ?_ (by simp) _) | (with_reducible refine Later.drewN ?_ _) | (with_reducible refine Later.drew ?_) | (with_reducible refine Later.trans ?_ (Hid.out (by assumption)))))⟩
end Go.Proofs.Ytdhoiiejcmnmbaa
namespace Go.Proofs.Ytdhoiiejcmnmbaa
open Go.RowKit
set_option maxHeartbeats 4000000
set_option linter.unusedVariables false
set_option linter.unusedSimpArgs false
theorem s_l06Segment (a : Option Addr) (n cap k : Nat) (L : List Sg) (w : World) (hs : Sgs w a n L) (hn : 0 < n) :
    Calls Try.prog 133 #[.agg #[.slice a n cap], .int .i64 (k : Int)] w fun e w' => e = .returned (.agg #[.int .i64 (sx L (k % n)).k, .int .i64 (sx L (k % n)).l, .int .i64 (sx L (k % n)).r, .int .i64 (sx L (k % n)).a, .int .i64 (sx L (k % n)).b, .int .i64 (sx L (k % n)).c, .int .i64 (sx L (k % n)).d]) ∧ Later w w' := by
  obtain ⟨r, hr⟩ : ∃ r, r = k % n := ⟨_, rfl⟩
  have hrn : r < n := by rw [hr]; exact Nat.mod_lt _ hn
  have hmod : (k : Int).tmod (n : Int) = (r : Int) := by rw [Int.tmod_eq_emod_of_nonneg (by omega), hr, Int.natCast_emod]
  rw [← hr]
  have hn0 : ¬ n = 0 := by omega
  have hnm := hs.2.1
  obtain ⟨b, off, rfl, hb, hcc⟩ := hs.at r hrn
  obtain ⟨c0, c1, c2, c3, c4, c5, c6⟩ := hcc
  generalize sx L r = x at c0 c1 c2 c3 c4 c5 c6
  clear hs hr
  go_enter Try.func133, Try.ntmps133
  go_wp2_with fail
  go_region
  all_goals
    go_wp2_with fail
    refine bodyPost_ret (v := .agg #[.int .i64 x.k, .int .i64 x.l, .int .i64 x.r, .int .i64 x.a, .int .i64 x.b, .int .i64 x.c, .int .i64 x.d]) (by simp [results, Try.results133, go_sem, *]) rfl ⟨rfl, (by repeat (first | (with_reducible exact Later.refl _) | (with_reducible exact Hid.out (by assumption)) | (with_reducible refine Later.alloc ?_ _) | (with_reducible refine Later.setCell ?_ (by simp; omega) _) | (with_reducible refine Later.setCell ?_ (by simp) _) | (with_reducible refine Later.drewN ?_ _) | (with_reducible refine Later.drew ?_) | (with_reducible refine Later.trans ?_ (Hid.out (by assumption)))))⟩
end Go.Proofs.Ytdhoiiejcmnmbaa
namespace Go.Proofs.Ytdhoiiejcmnmbaa
open Go.RowKit
set_option maxHeartbeats 4000000
set_option linter.unusedVariables false
set_option linter.unusedSimpArgs false
set_option maxRecDepth 100000 in
theorem s_Needed (a : Option Addr) (n cap : Nat) (L : List Sg) (f c : Nat) (w : World) (hs : Sgs w a n L) (hn : 0 < n) (hf : f ≤ 1000) (hc : c ≤ 24) (hok : okB L L.length = true) :
    Calls Try.prog 121 #[.agg #[.slice a n cap], .int .i64 (f : Int), .int .i64 (c : Int)] w fun e w' => e = .returned (.int .i64 (ndN (runS L f c) c)) ∧ Later w w' := by
  obtain ⟨R, hR⟩ : ∃ R, R = runS L f c := ⟨_, rfl⟩
  have hRl : R.length = c := by rw [hR, runS_len]
  have hokR : okB R R.length = true := by rw [hR]; exact runS_okB L f c hok (by rw [hs.1]; exact hn)
  have HAT : Hid (∀ j, j < c → sx L ((f + j) % n) = sx R j) := Lib.hid (fun j hj => by rw [hR, runS_at L f c j hj, hs.1])
  rw [← hR]
  have HS := Lib.hid hs; have HRL := Lib.hid hRl; have HOK := Lib.hid hokR
  clear hs hR hRl hokR hok
  go_enter Try.func121, Try.ntmps121
  go_wp2_with fail
  go_loopw [7, 8, 9] (fun t s i wr => ∃ j : Nat, j ≤ c ∧ i = .int .i64 ((f + j : Nat) : Int) ∧ t = .int .i64 (ndN R j) ∧ s = .int .i64 (clL R j) ∧ wr.cell? ⟨w.heap.size, 0, none⟩ = some (.slice a n cap) ∧ Later w wr) (fun _ _ i _ => (f + c) - (intOf i).toNat)
  case atStart => exact ⟨0, by omega, rfl, rfl, by rw [clL_0], by simp, (by repeat (first | (with_reducible exact Later.refl _) | (with_reducible exact Hid.out (by assumption)) | (with_reducible refine Later.alloc ?_ _) | (with_reducible refine Later.setCell ?_ (by simp; omega) _) | (with_reducible refine Later.setCell ?_ (by simp) _) | (with_reducible refine Later.drewN ?_ _) | (with_reducible refine Later.drew ?_) | (with_reducible refine Later.trans ?_ (Hid.out (by assumption)))))⟩
  case round =>
    obtain ⟨j, hj, rfl, rfl, rfl, hc1, hlw⟩ := hrel
    have HW := Lib.hid hlw
    have hz1 := sg_cell_lt hc1
    clear hlw
    by_cases hlt : j < c
    · have hseg : sgB (sx R j) = true := okB_at R R.length j (Nat.le_refl _) (by rw [HRL.out]; exact hlt) HOK.out
      obtain ⟨d1, d2, d3⟩ := cl_bd R HOK.out j (by rw [HRL.out]; exact hj)
      obtain ⟨d4, d5, d6⟩ := cl_bd R HOK.out (j + 1) (by rw [HRL.out]; exact hlt)
      obtain ⟨d7, d8⟩ := ndN_bd R HOK.out j (by rw [HRL.out]; exact hj)
      have q1 : clL R j + chL (sx R j) = clL R (j + 1) := by rw [clL_succ R j (by rw [HRL.out]; exact hlt)]
      obtain ⟨x, hx⟩ : ∃ x, x = clL R (j + 1) := ⟨_, rfl⟩
      rw [← hx] at q1 d4
      have hx0 : -300000000000 ≤ x := by omega
      have hx2 : x ≤ 300000000000 := by omega
      have HN : Hid (ndN R (j + 1) = max (ndN R j) (-x)) := Lib.hid (by rw [hx]; exact ndN_succ R j)
      have HX := Lib.hid hx
      have HWR : Hid (IntKind.i64.wrap (clL R j + chL (sx R j)) = x) := Lib.hid (by rw [q1]; exact IntWalk.i64_in _ ⟨by omega, by omega⟩)
      have hfd : ∀ w : World, (Instr.field 25 (.agg #[.int .i64 (chL (sx R j)), .int .i64 (chH (sx R j))]) 0).run Try.prog w = .ok (.int .i64 (chL (sx R j))) w := fun _ => by kernel_rfl
      clear d1 d2 d3 d4 d5 d6 d8 hx
      go_wp2_with fail
      refine (s_l06Segment a n cap (f + j) L _ (HS.out.later (by repeat (first | (with_reducible exact Later.refl _) | (with_reducible exact Hid.out (by assumption)) | (with_reducible refine Later.alloc ?_ _) | (with_reducible refine Later.setCell ?_ (by simp; omega) _) | (with_reducible refine Later.setCell ?_ (by simp) _) | (with_reducible refine Later.drewN ?_ _) | (with_reducible refine Later.drew ?_) | (with_reducible refine Later.trans ?_ (Hid.out (by assumption)))))) hn).mono ?_
      rw [HAT.out j hlt]
      rintro e w2 ⟨rfl, hb2⟩
      have W2 : Hid (Later w w2) := Lib.hid (Later.trans (by repeat (first | (with_reducible exact Later.refl _) | (with_reducible exact Hid.out (by assumption)) | (with_reducible refine Later.alloc ?_ _) | (with_reducible refine Later.setCell ?_ (by simp; omega) _) | (with_reducible refine Later.setCell ?_ (by simp) _) | (with_reducible refine Later.drewN ?_ _) | (with_reducible refine Later.drew ?_) | (with_reducible refine Later.trans ?_ (Hid.out (by assumption))))) hb2)
      have hc2 : w2.cell? ⟨w.heap.size, 0, none⟩ = some (.slice a n cap) := (hb2.cell (p := ⟨w.heap.size, 0, none⟩) hz1).trans hc1
      clear hb2
      go_wp2_with fail
      refine (s_Change (sx R j) _ hseg).mono ?_
      rintro e w3 ⟨rfl, hb3⟩
      have W3 : Hid (Later w w3) := Lib.hid (Later.trans (by repeat (first | (with_reducible exact Later.refl _) | (with_reducible exact Hid.out (by assumption)) | (with_reducible refine Later.alloc ?_ _) | (with_reducible refine Later.setCell ?_ (by simp; omega) _) | (with_reducible refine Later.setCell ?_ (by simp) _) | (with_reducible refine Later.drewN ?_ _) | (with_reducible refine Later.drew ?_) | (with_reducible refine Later.trans ?_ (Hid.out (by assumption))))) hb3)
      have hz2 := sg_cell_lt hc2
      have hc3 : w3.cell? ⟨w.heap.size, 0, none⟩ = some (.slice a n cap) := (hb3.cell (p := ⟨w.heap.size, 0, none⟩) hz2).trans hc2
      clear hb3 hc2 hc1
      have hwr := HWR.out
      go_wp2_with fail
      go_roundw
      case rel =>
        refine ⟨j + 1, by omega, by go_num, ?_, by rw [HX.out], hc3, W3.out⟩
        rw [HN.out]
        congr 1
        split <;> omega
      case measure => simp [intOf]; omega
    · obtain rfl : j = c := by omega
      go_wp2_with fail
      go_ret
      exact ⟨rfl, HW.out⟩
end Go.Proofs.Ytdhoiiejcmnmbaa
namespace Go.Proofs.Ytdhoiiejcmnmbaa
open Go.RowKit
set_option maxHeartbeats 4000000
set_option linter.unusedVariables false
set_option linter.unusedSimpArgs false
/-- what the model tells of a block -/
def enLo (L : List Sg) (F : List Int) (b : Nat) : Int := if slowB L F b = true then loK L F b else 0
def enHi (L : List Sg) (F : List Int) (b : Nat) : Int := if slowB L F b = true then hiK L F b else -1
set_option maxRecDepth 100000 in
theorem s_Entry (a : Option Addr) (n cap : Nat) (L : List Sg) (A : Option Addr) (m capF : Nat) (F : List Int) (b : Nat) (w : World) (hs : Sgs w a n L) (hf : Sl w A m F) (hv : layB L = true) (hk : bkC L F = true) (hb : b < m) :
    Calls Try.prog 96 #[.agg #[.slice a n cap], .slice A m capF, .int .i64 b] w fun e w' => e = .returned (.tuple #[.int .i64 (enLo L F b), .int .i64 (enHi L F b)]) ∧ Later w w' := by
  obtain ⟨f, h, c, y, R, hB⟩ := bl_of hv hk (by rw [hf.1]; exact hb) hs.1
  have HS := Lib.hid hs; have HF := Lib.hid hf; have HB := Lib.hid hB
  have hfh := hB.le; have hhn := hB.lt; have h24 := hB.n24
  have hch : c = h - f := hB.ce
  have HEND := fun w (h1 : Sgs w a n L) (h2 : Sl w A m F) => s_l04End a n cap L A m capF F b w h1 h2 hk hb
  rw [hB.end', show ((h + 1 : Nat) : Int) = (h : Int) + 1 by omega] at HEND
  have HND := fun w (h1 : Sgs w a n L) => s_Needed a n cap L f c w h1 (by omega) (by omega) (by omega) hB.ok
  have eR : runS L f c = R := by rw [hB.Re, hB.fe, hB.cn]; rfl
  rw [eR] at HND
  have hlo : loK L F b = ndN R c := by unfold loK; rw [← hB.Re, ← hB.cn]
  have hcc0 : ((c : Nat) : Int) = (h : Int) - f := by omega
  rw [hcc0] at HND
  have HHI : Hid (enHi L F b = if slowB L F b = true then hiK L F b else -1) := Lib.hid rfl
  have HLO : Hid (enLo L F b = if slowB L F b = true then ndN R c else 0) := Lib.hid (by unfold enLo; rw [hlo])
  obtain ⟨bF, oF, rfl, ck⟩ := hf.at b hb
  have g1 := (blk_bd hk b (by rw [hf.1]; exact hb)).1
  rw [g1, ← hB.fe] at ck
  have hbF := cell_lt ck
  obtain ⟨b0, o0, rfl, hb0, _⟩ := hs.at 0 (by omega)
  clear hs hf hB hlo eR g1 hv hk
  generalize ndN R c = lo at *
  go_enter Try.func96, Try.ntmps96
  go_upto_region 1 with (fail)
  refine into (Held [(w.heap.size, 0, .slice (some ⟨b0, o0, none⟩) n cap), (bF, oF + b, .int .i64 f)] w) (by exact held_box (held_more (held_start w) bF (oF + b) _ ck hbF) w.heap.size [.slice (some ⟨b0, o0, none⟩) n cap] _ rfl) ?_
  intro W hW
  obtain ⟨p0, p1, _⟩ := Held.s2 hW
  have z0 := hW.lt w.heap.size 0 (.slice (some ⟨b0, o0, none⟩) n cap) (by simp)
  have z1 := hW.lt bF (oF + b) (.int .i64 f) (by simp)
  have HW := Lib.hid hW.is
  clear hW ck
  have hw1 : IntKind.i64.wrap ((h : Int) + 1 - 1) = (h : Int) := by rw [show (h : Int) + 1 - 1 = h by omega]; exact IntWalk.i64_in _ ⟨by omega, by omega⟩
  have hw2 : IntKind.i64.wrap (h : Int) = (h : Int) := IntWalk.i64_in _ ⟨by omega, by omega⟩
  have hw0 : ((h : Int) + 1 - 1) = (h : Int) := by omega
  go_cut [8, 9] (fun u v W => u = .int .i64 f ∧ v = .int .i64 h ∧ Held [(w.heap.size, 0, .slice (some ⟨b0, o0, none⟩) n cap)] w W)
  case first =>
    go_region_with (go_at_call 99; refine (HEND _ (HS.out.later (by repeat (first | (with_reducible exact Later.refl _) | (with_reducible exact Hid.out (by assumption)) | (with_reducible refine Later.alloc ?_ _) | (with_reducible refine Later.setCell ?_ (by simp; omega) _) | (with_reducible refine Later.setCell ?_ (by simp) _) | (with_reducible refine Later.drewN ?_ _) | (with_reducible refine Later.drew ?_) | (with_reducible refine Later.trans ?_ (Hid.out (by assumption)))))) (HF.out.later (by repeat (first | (with_reducible exact Later.refl _) | (with_reducible exact Hid.out (by assumption)) | (with_reducible refine Later.alloc ?_ _) | (with_reducible refine Later.setCell ?_ (by simp; omega) _) | (with_reducible refine Later.setCell ?_ (by simp) _) | (with_reducible refine Later.drewN ?_ _) | (with_reducible refine Later.drew ?_) | (with_reducible refine Later.trans ?_ (Hid.out (by assumption))))))).mono ?_; rintro e w1 ⟨rfl, hb⟩; obtain ⟨H, hcc, hff, hzz⟩ := later_facts hb; clear hb; (try simp only [World.heap_drewN, World.cell?_drewN, World.frozen?_drewN, World.size_drew, World.cell?_drew] at hcc hff hzz))
    all_goals
      go_wp2_with fail
      go_meet
      exact ⟨rfl, by first | rfl | rw [hw2], ⟨fun x hx => by simp at hx; subst hx; exact ⟨by show w.heap.size < w1.heap.size; omega, by show w1.cell? ⟨w.heap.size, 0, none⟩ = _; rw [hcc _ _ z0]; exact p0⟩, HW.out.trans (later_undrew H.out)⟩⟩
  case rest =>
    obtain ⟨rfl, rfl, hW⟩ := hcut
    clear p0 p1 z0 z1 HW
    obtain ⟨p0, _⟩ := Held.s1 hW
    have z0 := hW.lt w.heap.size 0 (.slice (some ⟨b0, o0, none⟩) n cap) (by simp)
    have HW := Lib.hid hW.is
    clear hW
    go_wp2_with (first | (go_at_call 121; refine (HND _ (HS.out.later (by repeat (first | (with_reducible exact Later.refl _) | (with_reducible exact Hid.out (by assumption)) | (with_reducible refine Later.alloc ?_ _) | (with_reducible refine Later.setCell ?_ (by simp; omega) _) | (with_reducible refine Later.setCell ?_ (by simp) _) | (with_reducible refine Later.drewN ?_ _) | (with_reducible refine Later.drew ?_) | (with_reducible refine Later.trans ?_ (Hid.out (by assumption))))))).mono ?_; rintro e w2 ⟨rfl, hb⟩; have H2 : Hid (Later w w2) := Lib.hid (Later.trans (by repeat (first | (with_reducible exact Later.refl _) | (with_reducible exact Hid.out (by assumption)) | (with_reducible refine Later.alloc ?_ _) | (with_reducible refine Later.setCell ?_ (by simp; omega) _) | (with_reducible refine Later.setCell ?_ (by simp) _) | (with_reducible refine Later.drewN ?_ _) | (with_reducible refine Later.drew ?_) | (with_reducible refine Later.trans ?_ (Hid.out (by assumption))))) hb); have c2 := (hb.cell (p := ⟨w.heap.size, 0, none⟩) z0).trans p0; clear hb))
    clear hw0 hw1 hw2 p0 z0 HW
    go_loopw [11, 12, 13] (fun hi sm i wr => ∃ j : Nat, j ≤ c ∧ i = .int .i64 ((f + j : Nat) : Int) ∧ hi = .int .i64 (hgK R j) ∧ sm = .int .i64 (clH R j) ∧ wr.cell? ⟨w.heap.size, 0, none⟩ = some (.slice (some ⟨b0, o0, none⟩) n cap) ∧ Later w wr) (fun _ _ i _ => h - (intOf i).toNat)
    case atStart => exact ⟨0, by omega, rfl, rfl, by rw [clH_0], c2, H2.out⟩
    case round =>
      obtain ⟨j, hj, rfl, rfl, rfl, hc1, hlw⟩ := hrel
      have HW := Lib.hid hlw
      have hz1 := sg_cell_lt hc1
      clear c2 H2
      by_cases hlt : j < c
      · have hseg : sgB (sx R j) = true := okB_at R R.length j (Nat.le_refl _) (by rw [HB.out.Rl]; exact hlt) HB.out.Rok
        obtain ⟨d1, d2, d3⟩ := cl_bd R HB.out.Rok j (by rw [HB.out.Rl]; exact hj)
        obtain ⟨d4, d5, d6⟩ := cl_bd R HB.out.Rok (j + 1) (by rw [HB.out.Rl]; exact hlt)
        have d9 := hgK_ge R HB.out.Rok j (by rw [HB.out.Rl]; exact hj)
        have d10 := hgK_le R j
        obtain ⟨Y, hY⟩ : ∃ Y, Y = clH R (j + 1) := ⟨_, rfl⟩
        have q2 : clH R j + chH (sx R j) = Y := by rw [hY, clH_succ R j (by rw [HB.out.Rl]; exact hlt)]
        have HY := Lib.hid hY
        rw [← hY] at d5 d6
        have HG : Hid (hgK R (j + 1) = min (hgK R j) (10000000000 - Y)) := Lib.hid (by rw [hY]; exact hgK_succ R j)
        have HWR : IntKind.i64.wrap (clH R j + chH (sx R j)) = Y := by rw [q2]; exact IntWalk.i64_in _ ⟨by omega, by omega⟩
        have HWR2 : IntKind.i64.wrap (10000000000 - Y) = 10000000000 - Y := IntWalk.i64_in _ ⟨by omega, by omega⟩
        have hfd : ∀ w : World, (Instr.field 25 (.agg #[.int .i64 (chL (sx R j)), .int .i64 (chH (sx R j))]) 1).run Try.prog w = .ok (.int .i64 (chH (sx R j))) w := fun _ => by kernel_rfl
        have HCH := fun w => s_Change (sx R j) w hseg
        obtain ⟨b', o', hbb, hb', hc7⟩ := (HS.out.later hlw).at (f + j) (by omega)
        simp only [Option.some.injEq, Addr.mk.injEq, and_true] at hbb
        obtain ⟨rfl, rfl⟩ := hbb
        obtain ⟨c0, c1, c2, c3, c4, c5, c6⟩ := hc7
        rw [← HB.out.Rat j hlt] at c0 c1 c2 c3 c4 c5 c6
        have hfj : f + j < h := by omega
        have hfn : f + j < n := by omega
        clear d1 d2 d3 d4 d5 d6 d9 d10 hY q2 hlw
        go_wp2_with (go_at_call 62; refine (HCH _).mono ?_; rintro e w3 ⟨rfl, hb⟩; have H3 : Hid (Later w w3) := Lib.hid (HW.out.trans (Later.trans (by repeat (first | (with_reducible exact Later.refl _) | (with_reducible exact Hid.out (by assumption)) | (with_reducible refine Later.alloc ?_ _) | (with_reducible refine Later.setCell ?_ (by simp; omega) _) | (with_reducible refine Later.setCell ?_ (by simp) _) | (with_reducible refine Later.drewN ?_ _) | (with_reducible refine Later.drew ?_) | (with_reducible refine Later.trans ?_ (Hid.out (by assumption))))) hb)); have c3' := (hb.cell (p := ⟨w.heap.size, 0, none⟩) hz1).trans hc1; clear hb)
        all_goals
          go_roundw
          case rel =>
            refine ⟨j + 1, by omega, by go_num, ?_, by rw [HY.out], c3', H3.out⟩
            rw [HG.out]
            congr 1
            first | omega | (split <;> omega)
          case measure => simp [intOf]; omega
      · obtain rfl : c = j := by omega
        obtain ⟨b', o', hbb, hb', hc7⟩ := (HS.out.later hlw).at h hhn
        simp only [Option.some.injEq, Addr.mk.injEq, and_true] at hbb
        obtain ⟨rfl, rfl⟩ := hbb
        obtain ⟨c0, c1, c2, c3, c4, c5, c6⟩ := hc7
        rw [show sx L h = y by rw [HB.out.ye, HB.out.he]; rfl] at c0 c1 c2 c3 c4 c5 c6
        have hnf : ¬ ((f + c : Nat) : Int) < (h : Int) := by omega
        have hw := wk_bd y HB.out.ysg
        have eR : rnK L F b = R := HB.out.Re.symm
        have eC : cnK L F b = c := HB.out.cn.symm
        have eY : hoS L F b = y := HB.out.ye.symm
        have eS : slowB L F b = (!brk y.k || decide (1 ≤ wkL y)) := by unfold slowB; rw [eY]
        have eH : hiK L F b = if brk y.k = true then min (hgK R c) (wkL y - clH R c) else hgK R c := by unfold hiK; rw [eY, eR, eC]
        obtain ⟨d1, d2, d3⟩ := cl_bd R HB.out.Rok c (by rw [HB.out.Rl]; exact hj)
        have dc : c ≤ 24 := by omega
        have hnc : ¬ f + c < h := by omega
        clear hlw hch hcc0 HEND HND
        cases hbk : brk y.k
        · have E1 : Hid (enHi L F b = hgK R c) := Lib.hid (by rw [HHI.out, eS, eH, hbk]; simp)
          have E2 : Hid (enLo L F b = lo) := Lib.hid (by rw [HLO.out, eS, hbk]; simp)
          clear eS eH eY eR eC hw d1 d2 d3
          go_wp2_with (first | (go_at_call 87; refine (s_Brake y _ hbk _).mono ?_; rintro e w3 ⟨rfl, hb⟩; have HW := Lib.hid (HW.out.trans (Later.trans (by repeat (first | (with_reducible exact Later.refl _) | (with_reducible exact Hid.out (by assumption)) | (with_reducible refine Later.alloc ?_ _) | (with_reducible refine Later.setCell ?_ (by simp; omega) _) | (with_reducible refine Later.setCell ?_ (by simp) _) | (with_reducible refine Later.drewN ?_ _) | (with_reducible refine Later.drew ?_) | (with_reducible refine Later.trans ?_ (Hid.out (by assumption))))) hb)); obtain ⟨H, hcc, hff, hzz⟩ := later_facts hb; clear hb; (try simp only [World.heap_drewN, World.cell?_drewN, World.frozen?_drewN] at hcc hff hzz); (try (have hz3 : w.heap.size < w3.heap.size := (by omega))); (try (have hz4 : b0 < w3.heap.size := (by omega)))) | (go_at_call 86; refine (s_Work y _ HB.out.ysg).mono ?_; rintro e w4 ⟨rfl, hb⟩; have HW := Lib.hid (HW.out.trans (Later.trans (by repeat (first | (with_reducible exact Later.refl _) | (with_reducible exact Hid.out (by assumption)) | (with_reducible refine Later.alloc ?_ _) | (with_reducible refine Later.setCell ?_ (by simp; omega) _) | (with_reducible refine Later.setCell ?_ (by simp) _) | (with_reducible refine Later.drewN ?_ _) | (with_reducible refine Later.drew ?_) | (with_reducible refine Later.trans ?_ (Hid.out (by assumption))))) hb)); clear hb))
          go_ret2
          exact ⟨ret_2i E2.out.symm E1.out.symm, (by repeat (first | (with_reducible exact Later.refl _) | (with_reducible exact Hid.out (by assumption)) | (with_reducible refine Later.alloc ?_ _) | (with_reducible refine Later.setCell ?_ (by simp; omega) _) | (with_reducible refine Later.setCell ?_ (by simp) _) | (with_reducible refine Later.drewN ?_ _) | (with_reducible refine Later.drew ?_) | (with_reducible refine Later.trans ?_ (Hid.out (by assumption)))))⟩
        · by_cases hp : 1 ≤ wkL y
          · have E1 : Hid (enHi L F b = min (hgK R c) (wkL y - clH R c)) := Lib.hid (by rw [HHI.out, eS, eH, hbk]; simp [hp])
            have E2 : Hid (enLo L F b = lo) := Lib.hid (by rw [HLO.out, eS, hbk]; simp [hp])
            have hfd : ∀ w : World, (Instr.field 25 (.agg #[.int .i64 (wkL y), .int .i64 (wkH y)]) 0).run Try.prog w = .ok (.int .i64 (wkL y)) w := fun _ => by kernel_rfl
            have hwr : IntKind.i64.wrap (wkL y - clH R c) = wkL y - clH R c := IntWalk.i64_in _ ⟨by omega, by omega⟩
            have hp2 : ¬ wkL y < 1 := by omega
            clear eS eH eY eR eC hw d1 d2 d3
            go_wp2_with (first | (go_at_call 87; refine (s_Brake y _ hbk _).mono ?_; rintro e w3 ⟨rfl, hb⟩; have HW := Lib.hid (HW.out.trans (Later.trans (by repeat (first | (with_reducible exact Later.refl _) | (with_reducible exact Hid.out (by assumption)) | (with_reducible refine Later.alloc ?_ _) | (with_reducible refine Later.setCell ?_ (by simp; omega) _) | (with_reducible refine Later.setCell ?_ (by simp) _) | (with_reducible refine Later.drewN ?_ _) | (with_reducible refine Later.drew ?_) | (with_reducible refine Later.trans ?_ (Hid.out (by assumption))))) hb)); obtain ⟨H, hcc, hff, hzz⟩ := later_facts hb; clear hb; (try simp only [World.heap_drewN, World.cell?_drewN, World.frozen?_drewN] at hcc hff hzz); (try (have hz3 : w.heap.size < w3.heap.size := (by omega))); (try (have hz4 : b0 < w3.heap.size := (by omega)))) | (go_at_call 86; refine (s_Work y _ HB.out.ysg).mono ?_; rintro e w4 ⟨rfl, hb⟩; have HW := Lib.hid (HW.out.trans (Later.trans (by repeat (first | (with_reducible exact Later.refl _) | (with_reducible exact Hid.out (by assumption)) | (with_reducible refine Later.alloc ?_ _) | (with_reducible refine Later.setCell ?_ (by simp; omega) _) | (with_reducible refine Later.setCell ?_ (by simp) _) | (with_reducible refine Later.drewN ?_ _) | (with_reducible refine Later.drew ?_) | (with_reducible refine Later.trans ?_ (Hid.out (by assumption))))) hb)); clear hb))
            all_goals
              go_ret2
              exact ⟨ret_2i E2.out.symm (by rw [E1.out]; first | rfl | omega), (by repeat (first | (with_reducible exact Later.refl _) | (with_reducible exact Hid.out (by assumption)) | (with_reducible refine Later.alloc ?_ _) | (with_reducible refine Later.setCell ?_ (by simp; omega) _) | (with_reducible refine Later.setCell ?_ (by simp) _) | (with_reducible refine Later.drewN ?_ _) | (with_reducible refine Later.drew ?_) | (with_reducible refine Later.trans ?_ (Hid.out (by assumption)))))⟩
          · have E1 : Hid (enHi L F b = -1) := Lib.hid (by rw [HHI.out, eS, hbk]; simp [hp])
            have E2 : Hid (enLo L F b = 0) := Lib.hid (by rw [HLO.out, eS, hbk]; simp [hp])
            have hfd : ∀ w : World, (Instr.field 25 (.agg #[.int .i64 (wkL y), .int .i64 (wkH y)]) 0).run Try.prog w = .ok (.int .i64 (wkL y)) w := fun _ => by kernel_rfl
            have hp2 : wkL y < 1 := by omega
            clear eS eH eY eR eC hw d1 d2 d3
            go_wp2_with (first | (go_at_call 87; refine (s_Brake y _ hbk _).mono ?_; rintro e w3 ⟨rfl, hb⟩; have HW := Lib.hid (HW.out.trans (Later.trans (by repeat (first | (with_reducible exact Later.refl _) | (with_reducible exact Hid.out (by assumption)) | (with_reducible refine Later.alloc ?_ _) | (with_reducible refine Later.setCell ?_ (by simp; omega) _) | (with_reducible refine Later.setCell ?_ (by simp) _) | (with_reducible refine Later.drewN ?_ _) | (with_reducible refine Later.drew ?_) | (with_reducible refine Later.trans ?_ (Hid.out (by assumption))))) hb)); obtain ⟨H, hcc, hff, hzz⟩ := later_facts hb; clear hb; (try simp only [World.heap_drewN, World.cell?_drewN, World.frozen?_drewN] at hcc hff hzz); (try (have hz3 : w.heap.size < w3.heap.size := (by omega))); (try (have hz4 : b0 < w3.heap.size := (by omega)))) | (go_at_call 86; refine (s_Work y _ HB.out.ysg).mono ?_; rintro e w4 ⟨rfl, hb⟩; have HW := Lib.hid (HW.out.trans (Later.trans (by repeat (first | (with_reducible exact Later.refl _) | (with_reducible exact Hid.out (by assumption)) | (with_reducible refine Later.alloc ?_ _) | (with_reducible refine Later.setCell ?_ (by simp; omega) _) | (with_reducible refine Later.setCell ?_ (by simp) _) | (with_reducible refine Later.drewN ?_ _) | (with_reducible refine Later.drew ?_) | (with_reducible refine Later.trans ?_ (Hid.out (by assumption))))) hb)); clear hb))
            go_ret2
            exact ⟨ret_2i E2.out.symm E1.out.symm, (by repeat (first | (with_reducible exact Later.refl _) | (with_reducible exact Hid.out (by assumption)) | (with_reducible refine Later.alloc ?_ _) | (with_reducible refine Later.setCell ?_ (by simp; omega) _) | (with_reducible refine Later.setCell ?_ (by simp) _) | (with_reducible refine Later.drewN ?_ _) | (with_reducible refine Later.drew ?_) | (with_reducible refine Later.trans ?_ (Hid.out (by assumption)))))⟩
end Go.Proofs.Ytdhoiiejcmnmbaa
namespace Go.Proofs.Ytdhoiiejcmnmbaa
open Go.RowKit
set_option maxHeartbeats 4000000
set_option linter.unusedVariables false
set_option linter.unusedSimpArgs false
theorem en_le {L : List Sg} {F : List Int} {b n : Nat} (hv : layB L = true) (hk : bkC L F = true) (hb : b < F.length) : okK L F b = decide (enLo L F b ≤ enHi L F b) := by
  have h := lo_hi_bd (n := n) hv hk hb
  unfold okK enLo enHi
  cases slowB L F b <;> simp
theorem en_in {L : List Sg} {F : List Int} {b n : Nat} {x y : Int} (hv : layB L = true) (hk : bkC L F = true) (hb : b < F.length) (he : enB x y = true) :
    (okK L F b && (decide (loK L F b ≤ x) && decide (y ≤ hiK L F b))) = (decide (enLo L F b ≤ x) && decide (y ≤ enHi L F b)) := by
  have h := lo_hi_bd (n := n) hv hk hb
  have h2 := (enB_iff x y).1 he
  unfold okK enLo enHi
  cases slowB L F b
  · simp; omega
  · simp; omega
set_option maxRecDepth 100000 in
theorem s_EntryBounds (a : Option Addr) (n cap : Nat) (L : List Sg) (A : Option Addr) (m capF : Nat) (F : List Int) (p : Int) (w : World) (hs : Sgs w a n L) (hf : Sl w A m F) (hp : -9223372036854775808 ≤ p) (hp2 : p ≤ 9223372036854775807) :
    Calls Try.prog 50 #[.agg #[.slice a n cap], .slice A m capF, .int .i64 p] w fun e w' => e = .returned (.tuple #[.agg #[.int .i64 (ebL L F p), .int .i64 (ebH L F p)], .int .i64 (ebE L F p)]) ∧ Later w w' := by
  have HC := fun w h1 h2 => s_l04Block a n cap L A m capF F p w h1 h2 hp hp2
  have HS := Lib.hid hs; have HF := Lib.hid hf
  by_cases h0 : fndE L F (isNo p) = 0
  · obtain ⟨b, rfl, hb, hv, hk, hsec⟩ := isNo_cases h0
    have HE := fun w (h : Sgs w a n L) (h2 : Sl w A m F) => s_Entry a n cap L A m capF F b w h h2 hv hk (by rw [← hf.1]; exact hb)
    rw [h0] at HC
    have e1 : ebE L F b = kE L F b := ebE_ok h0
    have e2 : ebL L F b = okV (kE L F b) (loK L F b) := by unfold ebL; rw [e1]; rfl
    have e3 : ebH L F b = okV (kE L F b) (hiK L F b) := by unfold ebH; rw [e1]; rfl
    have hle := en_le (n := n) hv hk hb
    rw [e1, e2, e3]
    cases ho : okK L F b
    · have ek : kE L F b = 5 := by unfold kE; rw [ho]; rfl
      rw [ek]
      rw [ho] at hle
      have hgt : enHi L F b < enLo L F b := by
        have : ¬ enLo L F b ≤ enHi L F b := by simpa using hle.symm
        omega
      generalize enLo L F b = lo at *
      generalize enHi L F b = hi at *
      clear hs hf h0 hsec e1 e2 e3 hv hk hb hp hp2 hle ek ho
      go_enter Try.func50, Try.ntmps50
      go_wp2_with (first
          | (go_at_call 95; refine (HC _ (HS.out.later (by repeat (first | (with_reducible exact Later.refl _) | (with_reducible exact Hid.out (by assumption)) | (with_reducible refine Later.alloc ?_ _) | (with_reducible refine Later.setCell ?_ (by simp; omega) _) | (with_reducible refine Later.setCell ?_ (by simp) _) | (with_reducible refine Later.drewN ?_ _) | (with_reducible refine Later.drew ?_) | (with_reducible refine Later.trans ?_ (Hid.out (by assumption)))))) (HF.out.later (by repeat (first | (with_reducible exact Later.refl _) | (with_reducible exact Hid.out (by assumption)) | (with_reducible refine Later.alloc ?_ _) | (with_reducible refine Later.setCell ?_ (by simp; omega) _) | (with_reducible refine Later.setCell ?_ (by simp) _) | (with_reducible refine Later.drewN ?_ _) | (with_reducible refine Later.drew ?_) | (with_reducible refine Later.trans ?_ (Hid.out (by assumption))))))).mono ?_; rintro e w1 ⟨rfl, hb⟩; obtain ⟨H, hcc, hff, hzz⟩ := later_facts hb; clear hb; (try simp at hzz); have hz0 : w.heap.size < w1.heap.size := (by omega); have hz1 : w.heap.size + 1 < w1.heap.size := (by omega))
          | (go_at_call 96; refine (HE _ (HS.out.later (by repeat (first | (with_reducible exact Later.refl _) | (with_reducible exact Hid.out (by assumption)) | (with_reducible refine Later.alloc ?_ _) | (with_reducible refine Later.setCell ?_ (by simp; omega) _) | (with_reducible refine Later.setCell ?_ (by simp) _) | (with_reducible refine Later.drewN ?_ _) | (with_reducible refine Later.drew ?_) | (with_reducible refine Later.trans ?_ (Hid.out (by assumption)))))) (HF.out.later (by repeat (first | (with_reducible exact Later.refl _) | (with_reducible exact Hid.out (by assumption)) | (with_reducible refine Later.alloc ?_ _) | (with_reducible refine Later.setCell ?_ (by simp; omega) _) | (with_reducible refine Later.setCell ?_ (by simp) _) | (with_reducible refine Later.drewN ?_ _) | (with_reducible refine Later.drew ?_) | (with_reducible refine Later.trans ?_ (Hid.out (by assumption))))))).mono ?_; rintro e w2 ⟨rfl, hb⟩; obtain ⟨H, hcc, hff, hzz⟩ := later_facts hb; clear hb; (try simp at hzz); have hz0 : w.heap.size < w2.heap.size := (by omega); have hz1 : w.heap.size + 1 < w2.heap.size := (by omega)))
      refine bodyPost_ret (v := .tuple #[.agg #[.int .i64 0, .int .i64 0], .int .i64 5]) (by simp [results, Try.results50, go_sem, *]) rfl ⟨rfl, (by repeat (first | (with_reducible exact Later.refl _) | (with_reducible exact Hid.out (by assumption)) | (with_reducible refine Later.alloc ?_ _) | (with_reducible refine Later.setCell ?_ (by simp; omega) _) | (with_reducible refine Later.setCell ?_ (by simp) _) | (with_reducible refine Later.drewN ?_ _) | (with_reducible refine Later.drew ?_) | (with_reducible refine Later.trans ?_ (Hid.out (by assumption)))))⟩
    · have ek : kE L F b = 0 := by unfold kE; rw [ho]; rfl
      have hsl : slowB L F b = true := by unfold okK at ho; simp at ho; exact ho.1
      have q1 : enLo L F b = loK L F b := by unfold enLo; rw [if_pos hsl]
      have q2 : enHi L F b = hiK L F b := by unfold enHi; rw [if_pos hsl]
      have q3 : okV 0 (loK L F b) = loK L F b := rfl
      have q4 : okV 0 (hiK L F b) = hiK L F b := rfl
      rw [ek, q3, q4]
      rw [ho, q1, q2] at hle
      rw [q1, q2] at HE
      have hngt : ¬ hiK L F b < loK L F b := by
        have : loK L F b ≤ hiK L F b := by simpa using hle.symm
        omega
      generalize loK L F b = lo at *
      generalize hiK L F b = hi at *
      clear hs hf h0 hsec e1 e2 e3 hv hk hb hp hp2 hle ek ho q1 q2 q3 q4 hsl
      go_enter Try.func50, Try.ntmps50
      go_wp2_with (first
          | (go_at_call 95; refine (HC _ (HS.out.later (by repeat (first | (with_reducible exact Later.refl _) | (with_reducible exact Hid.out (by assumption)) | (with_reducible refine Later.alloc ?_ _) | (with_reducible refine Later.setCell ?_ (by simp; omega) _) | (with_reducible refine Later.setCell ?_ (by simp) _) | (with_reducible refine Later.drewN ?_ _) | (with_reducible refine Later.drew ?_) | (with_reducible refine Later.trans ?_ (Hid.out (by assumption)))))) (HF.out.later (by repeat (first | (with_reducible exact Later.refl _) | (with_reducible exact Hid.out (by assumption)) | (with_reducible refine Later.alloc ?_ _) | (with_reducible refine Later.setCell ?_ (by simp; omega) _) | (with_reducible refine Later.setCell ?_ (by simp) _) | (with_reducible refine Later.drewN ?_ _) | (with_reducible refine Later.drew ?_) | (with_reducible refine Later.trans ?_ (Hid.out (by assumption))))))).mono ?_; rintro e w1 ⟨rfl, hb⟩; obtain ⟨H, hcc, hff, hzz⟩ := later_facts hb; clear hb; (try simp at hzz); have hz0 : w.heap.size < w1.heap.size := (by omega); have hz1 : w.heap.size + 1 < w1.heap.size := (by omega))
          | (go_at_call 96; refine (HE _ (HS.out.later (by repeat (first | (with_reducible exact Later.refl _) | (with_reducible exact Hid.out (by assumption)) | (with_reducible refine Later.alloc ?_ _) | (with_reducible refine Later.setCell ?_ (by simp; omega) _) | (with_reducible refine Later.setCell ?_ (by simp) _) | (with_reducible refine Later.drewN ?_ _) | (with_reducible refine Later.drew ?_) | (with_reducible refine Later.trans ?_ (Hid.out (by assumption)))))) (HF.out.later (by repeat (first | (with_reducible exact Later.refl _) | (with_reducible exact Hid.out (by assumption)) | (with_reducible refine Later.alloc ?_ _) | (with_reducible refine Later.setCell ?_ (by simp; omega) _) | (with_reducible refine Later.setCell ?_ (by simp) _) | (with_reducible refine Later.drewN ?_ _) | (with_reducible refine Later.drew ?_) | (with_reducible refine Later.trans ?_ (Hid.out (by assumption))))))).mono ?_; rintro e w2 ⟨rfl, hb⟩; obtain ⟨H, hcc, hff, hzz⟩ := later_facts hb; clear hb; (try simp at hzz); have hz0 : w.heap.size < w2.heap.size := (by omega); have hz1 : w.heap.size + 1 < w2.heap.size := (by omega)))
      refine bodyPost_ret (v := .tuple #[.agg #[.int .i64 lo, .int .i64 hi], .int .i64 0]) (by simp [results, Try.results50, go_sem, *]) rfl ⟨rfl, (by repeat (first | (with_reducible exact Later.refl _) | (with_reducible exact Hid.out (by assumption)) | (with_reducible refine Later.alloc ?_ _) | (with_reducible refine Later.setCell ?_ (by simp; omega) _) | (with_reducible refine Later.setCell ?_ (by simp) _) | (with_reducible refine Later.drewN ?_ _) | (with_reducible refine Later.drew ?_) | (with_reducible refine Later.trans ?_ (Hid.out (by assumption)))))⟩
  · have e1 : ebE L F p = fndE L F (isNo p) := by unfold ebE; rw [if_neg h0]
    have e2 : ebL L F p = 0 := by unfold ebL okV; rw [e1, if_neg h0]
    have e3 : ebH L F p = 0 := by unfold ebH okV; rw [e1, if_neg h0]
    rw [e1, e2, e3]
    generalize fndE L F (isNo p) = ce at *
    have hne : (ce != 0) = true := by simpa using h0
    clear hs hf h0 e1 e2 e3 hp hp2
    go_enter Try.func50, Try.ntmps50
    go_wp2_with (first
          | (go_at_call 95; refine (HC _ (HS.out.later (by repeat (first | (with_reducible exact Later.refl _) | (with_reducible exact Hid.out (by assumption)) | (with_reducible refine Later.alloc ?_ _) | (with_reducible refine Later.setCell ?_ (by simp; omega) _) | (with_reducible refine Later.setCell ?_ (by simp) _) | (with_reducible refine Later.drewN ?_ _) | (with_reducible refine Later.drew ?_) | (with_reducible refine Later.trans ?_ (Hid.out (by assumption)))))) (HF.out.later (by repeat (first | (with_reducible exact Later.refl _) | (with_reducible exact Hid.out (by assumption)) | (with_reducible refine Later.alloc ?_ _) | (with_reducible refine Later.setCell ?_ (by simp; omega) _) | (with_reducible refine Later.setCell ?_ (by simp) _) | (with_reducible refine Later.drewN ?_ _) | (with_reducible refine Later.drew ?_) | (with_reducible refine Later.trans ?_ (Hid.out (by assumption))))))).mono ?_; rintro e w1 ⟨rfl, hb⟩; obtain ⟨H, hcc, hff, hzz⟩ := later_facts hb; clear hb; (try simp at hzz); have hz0 : w.heap.size < w1.heap.size := (by omega); have hz1 : w.heap.size + 1 < w1.heap.size := (by omega)))
    refine bodyPost_ret (v := .tuple #[.agg #[.int .i64 0, .int .i64 0], .int .i64 ce]) (by simp [results, Try.results50, go_sem, *]) rfl ⟨rfl, (by repeat (first | (with_reducible exact Later.refl _) | (with_reducible exact Hid.out (by assumption)) | (with_reducible refine Later.alloc ?_ _) | (with_reducible refine Later.setCell ?_ (by simp; omega) _) | (with_reducible refine Later.setCell ?_ (by simp) _) | (with_reducible refine Later.drewN ?_ _) | (with_reducible refine Later.drew ?_) | (with_reducible refine Later.trans ?_ (Hid.out (by assumption)))))⟩
theorem fndE_bk {L : List Sg} {F : List Int} {q : Sc → Bool} (h : bkB L F = false) : fndE L F q = 1 := (fndC_bad h).2
set_option maxRecDepth 100000 in
theorem s_MayEnter (a : Option Addr) (n cap : Nat) (L : List Sg) (A : Option Addr) (m capF : Nat) (F : List Int) (p x y : Int) (w : World) (hs : Sgs w a n L) (hf : Sl w A m F) (hp : -9223372036854775808 ≤ p) (hp2 : p ≤ 9223372036854775807) :
    Calls Try.prog 53 #[.agg #[.slice a n cap], .slice A m capF, .int .i64 p, .agg #[.int .i64 x, .int .i64 y]] w fun e w' => e = .returned (.tuple #[.bool (meB L F p x y), .int .i64 (meE L F p x y)]) ∧ Later w w' := by
  have HC := fun w h1 h2 => s_l04Block a n cap L A m capF F p w h1 h2 hp hp2
  have HA := fun w h1 h2 => s_AreBlocks a n cap L A m capF F w h1 h2
  have HS := Lib.hid hs; have HF := Lib.hid hf
  cases hb : bkB L F
  · have e1 : Hid (meE L F p x y = 1) := Lib.hid (by unfold meE; rw [fndE_bk hb]; cases enB x y <;> rfl)
    have e2 : Hid (meB L F p x y = false) := Lib.hid (by unfold meB; rw [e1.out]; rfl)
    rw [hb] at HA
    clear hs hf hp hp2
    go_enter Try.func53, Try.ntmps53
    go_wp2_with (go_at_call 98; refine (HA _ (HS.out.later (by repeat (first | (with_reducible exact Later.refl _) | (with_reducible exact Hid.out (by assumption)) | (with_reducible refine Later.alloc ?_ _) | (with_reducible refine Later.setCell ?_ (by simp; omega) _) | (with_reducible refine Later.setCell ?_ (by simp) _) | (with_reducible refine Later.drewN ?_ _) | (with_reducible refine Later.drew ?_) | (with_reducible refine Later.trans ?_ (Hid.out (by assumption)))))) (HF.out.later (by repeat (first | (with_reducible exact Later.refl _) | (with_reducible exact Hid.out (by assumption)) | (with_reducible refine Later.alloc ?_ _) | (with_reducible refine Later.setCell ?_ (by simp; omega) _) | (with_reducible refine Later.setCell ?_ (by simp) _) | (with_reducible refine Later.drewN ?_ _) | (with_reducible refine Later.drew ?_) | (with_reducible refine Later.trans ?_ (Hid.out (by assumption))))))).mono ?_; rintro e w1 ⟨rfl, hb⟩; obtain ⟨H, hcc, hff, hzz⟩ := later_facts hb; clear hb; (try simp at hzz); have hz0 : w.heap.size < w1.heap.size := (by omega); have hz1 : w.heap.size + 1 < w1.heap.size := (by omega))
    go_ret2
    exact ⟨ret_bi (by rw [e2.out]) (by rw [e1.out]), (by repeat (first | (with_reducible exact Later.refl _) | (with_reducible exact Hid.out (by assumption)) | (with_reducible refine Later.alloc ?_ _) | (with_reducible refine Later.setCell ?_ (by simp; omega) _) | (with_reducible refine Later.setCell ?_ (by simp) _) | (with_reducible refine Later.drewN ?_ _) | (with_reducible refine Later.drew ?_) | (with_reducible refine Later.trans ?_ (Hid.out (by assumption)))))⟩
  · rw [hb] at HA
    cases he : enB x y
    · have e1 : Hid (meE L F p x y = 1) := Lib.hid (by unfold meE; rw [he]; rfl)
      have e2 : Hid (meB L F p x y = false) := Lib.hid (by unfold meB; rw [e1.out]; rfl)
      clear hs hf hp hp2
      go_enter Try.func53, Try.ntmps53
      go_wp2_with (first
          | (go_at_call 98; refine (HA _ (HS.out.later (by repeat (first | (with_reducible exact Later.refl _) | (with_reducible exact Hid.out (by assumption)) | (with_reducible refine Later.alloc ?_ _) | (with_reducible refine Later.setCell ?_ (by simp; omega) _) | (with_reducible refine Later.setCell ?_ (by simp) _) | (with_reducible refine Later.drewN ?_ _) | (with_reducible refine Later.drew ?_) | (with_reducible refine Later.trans ?_ (Hid.out (by assumption)))))) (HF.out.later (by repeat (first | (with_reducible exact Later.refl _) | (with_reducible exact Hid.out (by assumption)) | (with_reducible refine Later.alloc ?_ _) | (with_reducible refine Later.setCell ?_ (by simp; omega) _) | (with_reducible refine Later.setCell ?_ (by simp) _) | (with_reducible refine Later.drewN ?_ _) | (with_reducible refine Later.drew ?_) | (with_reducible refine Later.trans ?_ (Hid.out (by assumption))))))).mono ?_; rintro e w1 ⟨rfl, hb⟩; obtain ⟨H, hcc, hff, hzz⟩ := later_facts hb; clear hb; (try simp at hzz); have hz0 : w.heap.size < w1.heap.size := (by omega); have hz1 : w.heap.size + 1 < w1.heap.size := (by omega))
          | (go_at_call 68; refine (s_IsEnergy _ _ _).mono ?_; rintro e w1 ⟨rfl, hb⟩; obtain ⟨H, hcc, hff, hzz⟩ := later_facts hb; clear hb; (try simp at hzz); (try simp only [World.heap_drewN, World.cell?_drewN, World.frozen?_drewN] at hcc hff); have hz0 : w.heap.size < w1.heap.size := (by omega); (try (have hz1 : w.heap.size + 1 < w1.heap.size := (by omega))); (try (have hz2 : w.heap.size + 1 + 1 < w1.heap.size := (by omega))); (try (have hz3 : w.heap.size + 1 + 1 + 1 < w1.heap.size := (by omega))); (try (have hz4 : w.heap.size + 1 + 1 + 1 + 1 < w1.heap.size := (by omega)))))
      go_ret2
      exact ⟨ret_bi (by rw [e2.out]) (by rw [e1.out]), (by repeat (first | (with_reducible exact Later.refl _) | (with_reducible exact Hid.out (by assumption)) | (with_reducible refine Later.alloc ?_ _) | (with_reducible refine Later.setCell ?_ (by simp; omega) _) | (with_reducible refine Later.setCell ?_ (by simp) _) | (with_reducible refine Later.drewN ?_ _) | (with_reducible refine Later.drew ?_) | (with_reducible refine Later.trans ?_ (Hid.out (by assumption)))))⟩
    · by_cases h0 : fndE L F (isNo p) = 0
      · obtain ⟨b, rfl, hbl, hv, hk, hsec⟩ := isNo_cases h0
        have HE := fun w (h : Sgs w a n L) (h2 : Sl w A m F) => s_Entry a n cap L A m capF F b w h h2 hv hk (by rw [← hf.1]; exact hbl)
        rw [h0] at HC
        obtain ⟨e1, e2⟩ := meB_in h0 he
        rw [en_in (n := n) hv hk hbl he] at e2
        have E1 := Lib.hid e1
        generalize enLo L F b = lo at *
        generalize enHi L F b = hi at *
        have E2 := Lib.hid e2
        clear hs hf hp hp2 h0 hsec hv hk hbl hb e1 e2
        by_cases c1 : lo ≤ x
        · go_enter Try.func53, Try.ntmps53
          go_wp2_with (first
          | (go_at_call 98; refine (HA _ (HS.out.later (by repeat (first | (with_reducible exact Later.refl _) | (with_reducible exact Hid.out (by assumption)) | (with_reducible refine Later.alloc ?_ _) | (with_reducible refine Later.setCell ?_ (by simp; omega) _) | (with_reducible refine Later.setCell ?_ (by simp) _) | (with_reducible refine Later.drewN ?_ _) | (with_reducible refine Later.drew ?_) | (with_reducible refine Later.trans ?_ (Hid.out (by assumption)))))) (HF.out.later (by repeat (first | (with_reducible exact Later.refl _) | (with_reducible exact Hid.out (by assumption)) | (with_reducible refine Later.alloc ?_ _) | (with_reducible refine Later.setCell ?_ (by simp; omega) _) | (with_reducible refine Later.setCell ?_ (by simp) _) | (with_reducible refine Later.drewN ?_ _) | (with_reducible refine Later.drew ?_) | (with_reducible refine Later.trans ?_ (Hid.out (by assumption))))))).mono ?_; rintro e w1 ⟨rfl, hb⟩; obtain ⟨H, hcc, hff, hzz⟩ := later_facts hb; clear hb; (try simp at hzz); have hz0 : w.heap.size < w1.heap.size := (by omega); have hz1 : w.heap.size + 1 < w1.heap.size := (by omega))
          | (go_at_call 68; refine (s_IsEnergy _ _ _).mono ?_; rintro e w1 ⟨rfl, hb⟩; obtain ⟨H, hcc, hff, hzz⟩ := later_facts hb; clear hb; (try simp at hzz); (try simp only [World.heap_drewN, World.cell?_drewN, World.frozen?_drewN] at hcc hff); have hz0 : w.heap.size < w1.heap.size := (by omega); (try (have hz1 : w.heap.size + 1 < w1.heap.size := (by omega))); (try (have hz2 : w.heap.size + 1 + 1 < w1.heap.size := (by omega))); (try (have hz3 : w.heap.size + 1 + 1 + 1 < w1.heap.size := (by omega))); (try (have hz4 : w.heap.size + 1 + 1 + 1 + 1 < w1.heap.size := (by omega))))
          | (go_at_call 95; refine (HC _ (HS.out.later (by repeat (first | (with_reducible exact Later.refl _) | (with_reducible exact Hid.out (by assumption)) | (with_reducible refine Later.alloc ?_ _) | (with_reducible refine Later.setCell ?_ (by simp; omega) _) | (with_reducible refine Later.setCell ?_ (by simp) _) | (with_reducible refine Later.drewN ?_ _) | (with_reducible refine Later.drew ?_) | (with_reducible refine Later.trans ?_ (Hid.out (by assumption)))))) (HF.out.later (by repeat (first | (with_reducible exact Later.refl _) | (with_reducible exact Hid.out (by assumption)) | (with_reducible refine Later.alloc ?_ _) | (with_reducible refine Later.setCell ?_ (by simp; omega) _) | (with_reducible refine Later.setCell ?_ (by simp) _) | (with_reducible refine Later.drewN ?_ _) | (with_reducible refine Later.drew ?_) | (with_reducible refine Later.trans ?_ (Hid.out (by assumption))))))).mono ?_; rintro e w1 ⟨rfl, hb⟩; obtain ⟨H, hcc, hff, hzz⟩ := later_facts hb; clear hb; (try simp at hzz); have hz0 : w.heap.size < w1.heap.size := (by omega); have hz1 : w.heap.size + 1 < w1.heap.size := (by omega))
          | (go_at_call 96; refine (HE _ (HS.out.later (by repeat (first | (with_reducible exact Later.refl _) | (with_reducible exact Hid.out (by assumption)) | (with_reducible refine Later.alloc ?_ _) | (with_reducible refine Later.setCell ?_ (by simp; omega) _) | (with_reducible refine Later.setCell ?_ (by simp) _) | (with_reducible refine Later.drewN ?_ _) | (with_reducible refine Later.drew ?_) | (with_reducible refine Later.trans ?_ (Hid.out (by assumption)))))) (HF.out.later (by repeat (first | (with_reducible exact Later.refl _) | (with_reducible exact Hid.out (by assumption)) | (with_reducible refine Later.alloc ?_ _) | (with_reducible refine Later.setCell ?_ (by simp; omega) _) | (with_reducible refine Later.setCell ?_ (by simp) _) | (with_reducible refine Later.drewN ?_ _) | (with_reducible refine Later.drew ?_) | (with_reducible refine Later.trans ?_ (Hid.out (by assumption))))))).mono ?_; rintro e w2 ⟨rfl, hb⟩; obtain ⟨H, hcc, hff, hzz⟩ := later_facts hb; clear hb; (try simp at hzz); have hz0 : w.heap.size < w2.heap.size := (by omega); have hz1 : w.heap.size + 1 < w2.heap.size := (by omega)))
          go_ret2
          exact ⟨ret_bi (by rw [E2.out]; simp [c1]) (by rw [E1.out]), (by repeat (first | (with_reducible exact Later.refl _) | (with_reducible exact Hid.out (by assumption)) | (with_reducible refine Later.alloc ?_ _) | (with_reducible refine Later.setCell ?_ (by simp; omega) _) | (with_reducible refine Later.setCell ?_ (by simp) _) | (with_reducible refine Later.drewN ?_ _) | (with_reducible refine Later.drew ?_) | (with_reducible refine Later.trans ?_ (Hid.out (by assumption)))))⟩
        · go_enter Try.func53, Try.ntmps53
          go_wp2_with (first
          | (go_at_call 98; refine (HA _ (HS.out.later (by repeat (first | (with_reducible exact Later.refl _) | (with_reducible exact Hid.out (by assumption)) | (with_reducible refine Later.alloc ?_ _) | (with_reducible refine Later.setCell ?_ (by simp; omega) _) | (with_reducible refine Later.setCell ?_ (by simp) _) | (with_reducible refine Later.drewN ?_ _) | (with_reducible refine Later.drew ?_) | (with_reducible refine Later.trans ?_ (Hid.out (by assumption)))))) (HF.out.later (by repeat (first | (with_reducible exact Later.refl _) | (with_reducible exact Hid.out (by assumption)) | (with_reducible refine Later.alloc ?_ _) | (with_reducible refine Later.setCell ?_ (by simp; omega) _) | (with_reducible refine Later.setCell ?_ (by simp) _) | (with_reducible refine Later.drewN ?_ _) | (with_reducible refine Later.drew ?_) | (with_reducible refine Later.trans ?_ (Hid.out (by assumption))))))).mono ?_; rintro e w1 ⟨rfl, hb⟩; obtain ⟨H, hcc, hff, hzz⟩ := later_facts hb; clear hb; (try simp at hzz); have hz0 : w.heap.size < w1.heap.size := (by omega); have hz1 : w.heap.size + 1 < w1.heap.size := (by omega))
          | (go_at_call 68; refine (s_IsEnergy _ _ _).mono ?_; rintro e w1 ⟨rfl, hb⟩; obtain ⟨H, hcc, hff, hzz⟩ := later_facts hb; clear hb; (try simp at hzz); (try simp only [World.heap_drewN, World.cell?_drewN, World.frozen?_drewN] at hcc hff); have hz0 : w.heap.size < w1.heap.size := (by omega); (try (have hz1 : w.heap.size + 1 < w1.heap.size := (by omega))); (try (have hz2 : w.heap.size + 1 + 1 < w1.heap.size := (by omega))); (try (have hz3 : w.heap.size + 1 + 1 + 1 < w1.heap.size := (by omega))); (try (have hz4 : w.heap.size + 1 + 1 + 1 + 1 < w1.heap.size := (by omega))))
          | (go_at_call 95; refine (HC _ (HS.out.later (by repeat (first | (with_reducible exact Later.refl _) | (with_reducible exact Hid.out (by assumption)) | (with_reducible refine Later.alloc ?_ _) | (with_reducible refine Later.setCell ?_ (by simp; omega) _) | (with_reducible refine Later.setCell ?_ (by simp) _) | (with_reducible refine Later.drewN ?_ _) | (with_reducible refine Later.drew ?_) | (with_reducible refine Later.trans ?_ (Hid.out (by assumption)))))) (HF.out.later (by repeat (first | (with_reducible exact Later.refl _) | (with_reducible exact Hid.out (by assumption)) | (with_reducible refine Later.alloc ?_ _) | (with_reducible refine Later.setCell ?_ (by simp; omega) _) | (with_reducible refine Later.setCell ?_ (by simp) _) | (with_reducible refine Later.drewN ?_ _) | (with_reducible refine Later.drew ?_) | (with_reducible refine Later.trans ?_ (Hid.out (by assumption))))))).mono ?_; rintro e w1 ⟨rfl, hb⟩; obtain ⟨H, hcc, hff, hzz⟩ := later_facts hb; clear hb; (try simp at hzz); have hz0 : w.heap.size < w1.heap.size := (by omega); have hz1 : w.heap.size + 1 < w1.heap.size := (by omega))
          | (go_at_call 96; refine (HE _ (HS.out.later (by repeat (first | (with_reducible exact Later.refl _) | (with_reducible exact Hid.out (by assumption)) | (with_reducible refine Later.alloc ?_ _) | (with_reducible refine Later.setCell ?_ (by simp; omega) _) | (with_reducible refine Later.setCell ?_ (by simp) _) | (with_reducible refine Later.drewN ?_ _) | (with_reducible refine Later.drew ?_) | (with_reducible refine Later.trans ?_ (Hid.out (by assumption)))))) (HF.out.later (by repeat (first | (with_reducible exact Later.refl _) | (with_reducible exact Hid.out (by assumption)) | (with_reducible refine Later.alloc ?_ _) | (with_reducible refine Later.setCell ?_ (by simp; omega) _) | (with_reducible refine Later.setCell ?_ (by simp) _) | (with_reducible refine Later.drewN ?_ _) | (with_reducible refine Later.drew ?_) | (with_reducible refine Later.trans ?_ (Hid.out (by assumption))))))).mono ?_; rintro e w2 ⟨rfl, hb⟩; obtain ⟨H, hcc, hff, hzz⟩ := later_facts hb; clear hb; (try simp at hzz); have hz0 : w.heap.size < w2.heap.size := (by omega); have hz1 : w.heap.size + 1 < w2.heap.size := (by omega)))
          go_ret2
          exact ⟨ret_bi (by rw [E2.out]; simp; omega) (by rw [E1.out]), (by repeat (first | (with_reducible exact Later.refl _) | (with_reducible exact Hid.out (by assumption)) | (with_reducible refine Later.alloc ?_ _) | (with_reducible refine Later.setCell ?_ (by simp; omega) _) | (with_reducible refine Later.setCell ?_ (by simp) _) | (with_reducible refine Later.drewN ?_ _) | (with_reducible refine Later.drew ?_) | (with_reducible refine Later.trans ?_ (Hid.out (by assumption)))))⟩
      · have e1 : Hid (meE L F p x y = fndE L F (isNo p)) := Lib.hid (by unfold meE; rw [if_pos he])
        have e2 : Hid (meB L F p x y = false) := Lib.hid (by unfold meB; rw [e1.out]; simp [h0])
        generalize fndE L F (isNo p) = ce at *
        have hne : (ce != 0) = true := by simpa using h0
        clear hs hf h0 hp hp2
        go_enter Try.func53, Try.ntmps53
        go_wp2_with (first
          | (go_at_call 98; refine (HA _ (HS.out.later (by repeat (first | (with_reducible exact Later.refl _) | (with_reducible exact Hid.out (by assumption)) | (with_reducible refine Later.alloc ?_ _) | (with_reducible refine Later.setCell ?_ (by simp; omega) _) | (with_reducible refine Later.setCell ?_ (by simp) _) | (with_reducible refine Later.drewN ?_ _) | (with_reducible refine Later.drew ?_) | (with_reducible refine Later.trans ?_ (Hid.out (by assumption)))))) (HF.out.later (by repeat (first | (with_reducible exact Later.refl _) | (with_reducible exact Hid.out (by assumption)) | (with_reducible refine Later.alloc ?_ _) | (with_reducible refine Later.setCell ?_ (by simp; omega) _) | (with_reducible refine Later.setCell ?_ (by simp) _) | (with_reducible refine Later.drewN ?_ _) | (with_reducible refine Later.drew ?_) | (with_reducible refine Later.trans ?_ (Hid.out (by assumption))))))).mono ?_; rintro e w1 ⟨rfl, hb⟩; obtain ⟨H, hcc, hff, hzz⟩ := later_facts hb; clear hb; (try simp at hzz); have hz0 : w.heap.size < w1.heap.size := (by omega); have hz1 : w.heap.size + 1 < w1.heap.size := (by omega))
          | (go_at_call 68; refine (s_IsEnergy _ _ _).mono ?_; rintro e w1 ⟨rfl, hb⟩; obtain ⟨H, hcc, hff, hzz⟩ := later_facts hb; clear hb; (try simp at hzz); (try simp only [World.heap_drewN, World.cell?_drewN, World.frozen?_drewN] at hcc hff); have hz0 : w.heap.size < w1.heap.size := (by omega); (try (have hz1 : w.heap.size + 1 < w1.heap.size := (by omega))); (try (have hz2 : w.heap.size + 1 + 1 < w1.heap.size := (by omega))); (try (have hz3 : w.heap.size + 1 + 1 + 1 < w1.heap.size := (by omega))); (try (have hz4 : w.heap.size + 1 + 1 + 1 + 1 < w1.heap.size := (by omega))))
          | (go_at_call 95; refine (HC _ (HS.out.later (by repeat (first | (with_reducible exact Later.refl _) | (with_reducible exact Hid.out (by assumption)) | (with_reducible refine Later.alloc ?_ _) | (with_reducible refine Later.setCell ?_ (by simp; omega) _) | (with_reducible refine Later.setCell ?_ (by simp) _) | (with_reducible refine Later.drewN ?_ _) | (with_reducible refine Later.drew ?_) | (with_reducible refine Later.trans ?_ (Hid.out (by assumption)))))) (HF.out.later (by repeat (first | (with_reducible exact Later.refl _) | (with_reducible exact Hid.out (by assumption)) | (with_reducible refine Later.alloc ?_ _) | (with_reducible refine Later.setCell ?_ (by simp; omega) _) | (with_reducible refine Later.setCell ?_ (by simp) _) | (with_reducible refine Later.drewN ?_ _) | (with_reducible refine Later.drew ?_) | (with_reducible refine Later.trans ?_ (Hid.out (by assumption))))))).mono ?_; rintro e w1 ⟨rfl, hb⟩; obtain ⟨H, hcc, hff, hzz⟩ := later_facts hb; clear hb; (try simp at hzz); have hz0 : w.heap.size < w1.heap.size := (by omega); have hz1 : w.heap.size + 1 < w1.heap.size := (by omega)))
        go_ret2
        exact ⟨ret_bi (by rw [e2.out]) (by rw [e1.out]), (by repeat (first | (with_reducible exact Later.refl _) | (with_reducible exact Hid.out (by assumption)) | (with_reducible refine Later.alloc ?_ _) | (with_reducible refine Later.setCell ?_ (by simp; omega) _) | (with_reducible refine Later.setCell ?_ (by simp) _) | (with_reducible refine Later.drewN ?_ _) | (with_reducible refine Later.drew ?_) | (with_reducible refine Later.trans ?_ (Hid.out (by assumption)))))⟩
end Go.Proofs.Ytdhoiiejcmnmbaa
namespace Go.Proofs.Ytdhoiiejcmnmbaa
open Go.RowKit
set_option maxHeartbeats 4000000
set_option linter.unusedVariables false
set_option linter.unusedSimpArgs false
set_option maxRecDepth 100000 in
theorem s_DrawEntryBounds (a : Option Addr) (len cap : Nat) (w : World) (hs : Bytes w a len) :
    Calls Try.prog 48 #[.slice a len cap] w (DrawnLF w) := by
  have HS := Lib.hid hs
  clear hs
  go_enter Try.func48, Try.ntmps48
  go_wp2_with fail
  refine (s_From a len cap _ (HS.out.later ((Below.refl _ _).alloc (Nat.le_refl _) _))).mono ?_
  rintro e w1 ⟨rfl, src, lt, bel⟩
  rw [World.size_alloc] at src lt bel ⊢
  have S1 := Lib.hid src
  have hc1 : w1.cell? ⟨w.heap.size, 0, none⟩ = some (.slice none 0 0) := by rw [bel.cell (p := ⟨w.heap.size, 0, none⟩) (Nat.lt_succ_self _)]; simp
  have hf1 : w1.frozen? ⟨w.heap.size, 0, none⟩ = false := by rw [Below.frozen (p := ⟨w.heap.size, 0, none⟩) bel (Nat.lt_succ_self _)]; simp
  have B1 : Hid (Below w.heap.size w w1) := Lib.hid (((Below.refl _ _).alloc (Nat.le_refl _) _).trans (bel.mono (Nat.le_succ _)))
  have hz1 := cell_lt hc1
  clear src bel
  go_wp2_with fail
  refine (s_l04DrawBlock (w.heap.size + 1) a len cap _ S1.out).mono ?_
  rintro e w2 ⟨a', n, cap', L, A, m, capF, F, q, rfl, hl, hcap, hbl, hsl, hcF, hm, hbA, hq, gr⟩
  have B2 := Lib.hid (B1.out.grown gr B1.out.size (fun k h => by have := Option.some.inj h; omega))
  have hc2 := gr.cell hc1 (fun e => by have := Option.some.inj e; simp at this)
  have hf2 : w2.frozen? ⟨w.heap.size, 0, none⟩ = false := by rw [World.frozen?_of_block (w := w1) (gr.block w.heap.size (by omega) (fun e => by have := Option.some.inj e; omega))]; exact hf1
  have L2 := Lib.hid hl; have F2 := Lib.hid hsl; have HQ := Lib.hid hq
  have NB : Hid (∀ x, a' = some x → 0 < n → x.block ≠ w.heap.size) := Lib.hid (fun x hx hn => by have h1 := hbl x hx hn; omega)
  have NA : Hid (∀ x, A = some x → x.block ≠ w.heap.size) := Lib.hid (fun x hx => by have h1 := hbA x hx; omega)
  clear hl hsl gr hbl hbA hc1 hf1 hq
  go_wp2_with fail
  have HL : Sgs (w2.setCell ⟨w.heap.size, 0, none⟩ (.slice a' n cap')) a' n L := by
    obtain ⟨h1, h2, h3, h4⟩ := L2.out
    refine ⟨h1, h2, fun k hk => ?_, h4⟩
    obtain ⟨b, off, e, hcl⟩ := h3 k hk
    have hne := NB.out _ e (by omega)
    refine ⟨b, off, e, fun i hi => ?_⟩
    rw [World.cell?_setCell_far _ _ _ _ (Ne.symm hne)]
    exact hcl i hi
  exact bodyPost_ret (v := .tuple #[.agg #[.slice a' n cap'], .slice A m capF, .int .i64 q]) (by simp [results, Try.results48, go_sem, *]) rfl ⟨a', n, cap', L, A, m, capF, F, q, rfl, HL, hcap, F2.out.far _ _ _ NA.out, hcF, by omega, HQ.out, B2.out.setCell (Nat.le_refl _) _⟩
/-- the bounds are reached, and nothing outside of them -/
theorem eb_facts {L : List Sg} {F : List Int} {p : Int} (h : ebE L F p = 0) : 0 ≤ ebL L F p ∧ ebL L F p ≤ ebH L F p ∧ ebH L F p ≤ 10000000000 ∧
    (meE L F p (ebL L F p) (ebH L F p) = 0 ∧ meB L F p (ebL L F p) (ebH L F p) = true) ∧
    (0 < ebL L F p → meE L F p (ebL L F p - 1) (ebH L F p) = 0 ∧ meB L F p (ebL L F p - 1) (ebH L F p) = false) ∧
    (ebH L F p < 10000000000 → meE L F p (ebL L F p) (ebH L F p + 1) = 0 ∧ meB L F p (ebL L F p) (ebH L F p + 1) = false) := by
  have h0 : fndE L F (isNo p) = 0 := by
    unfold ebE at h
    split at h
    · assumption
    · contradiction
  obtain ⟨b, rfl, hb, hv, hk, _⟩ := isNo_cases h0
  have hkE : kE L F b = 0 := by rw [← ebE_ok h0]; exact h
  have ho : okK L F b = true := by
    unfold kE at hkE
    split at hkE
    · assumption
    · cases hkE
  have e1 : ebL L F b = loK L F b := by unfold ebL; rw [h]; rfl
  have e2 : ebH L F b = hiK L F b := by unfold ebH; rw [h]; rfl
  obtain ⟨b1, b2, b3⟩ := lo_hi_bd (n := 0) hv hk hb
  have hle : loK L F b ≤ hiK L F b := by unfold okK at ho; simp at ho; exact ho.2
  rw [e1, e2]
  refine ⟨b1, hle, b3, ?_, fun hlt => ?_, fun hlt => ?_⟩
  · obtain ⟨m1, m2⟩ := meB_in h0 ((enB_iff (loK L F b) (hiK L F b)).2 (by omega))
    exact ⟨m1, by rw [m2, ho]; simp⟩
  · obtain ⟨m1, m2⟩ := meB_in h0 ((enB_iff (loK L F b - 1) (hiK L F b)).2 (by omega))
    exact ⟨m1, by rw [m2, ho]; simp; omega⟩
  · obtain ⟨m1, m2⟩ := meB_in h0 ((enB_iff (loK L F b) (hiK L F b + 1)).2 (by omega))
    exact ⟨m1, by rw [m2, ho]; simp; omega⟩
set_option maxRecDepth 100000 in
theorem walk_FnEntryBounds (a0 : Option Addr) (len0 cap0 : Nat) (z0 : List Int) (w : World) (w0 : IsRow .u8 w a0 len0 cap0 z0) :
    Calls Try.prog 10 #[.slice a0 len0 cap0] w fun e w' => e = .returned (.bool true) ∧ Below w.heap.size w w' := by
  have HS := Lib.hid (isRow_bytes w0)
  clear w0
  by_cases hbig : 4096 < len0
  · go_enter Try.func10, Try.ntmps10
    go_wp2_with fail
    refine (l_big _ _ _ _).mono ?_
    rintro e w' ⟨rfl, rfl⟩
    go_wp2
    go_ret
    exact ⟨rfl, Below.refl _ _⟩
  go_enter Try.func10, Try.ntmps10
  go_wp2_with fail
  refine (l_big _ _ _ _).mono ?_
  rintro e w' ⟨rfl, rfl⟩
  go_wp2_with fail
  refine (s_DrawEntryBounds _ _ _ _ HS.out).mono ?_
  rintro e w1 ⟨a, n, cap, L, A, m, capF, F, p, rfl, hl, hcap, hf, hmF, hm, hp, bel⟩
  have L1 := Lib.hid hl
  have F1 := Lib.hid hf
  have HP := Lib.hid hp
  have B1 := Lib.hid (show Later w w1 from bel)
  have H1 : Hid (Held [(w1.heap.size, 0, .slice a n cap)] w1 (w1.alloc (.cells #[.slice a n cap] 47))) := Lib.hid (held_box (held_start w1) w1.heap.size [.slice a n cap] _ rfl)
  have HFA := fun (h : ebE L F p = 0) => eb_facts h
  have HMI := fun x y w h1 h2 => i_MayEnter a n cap L A m capF F p x y w h1 h2 hcap hmF
  have HEI := fun w h1 h2 => i_EntryBounds a n cap L A m capF F p w h1 h2 hcap hmF
  have HES := fun w h1 h2 => s_EntryBounds a n cap L A m capF F p w h1 h2 hp.1 hp.2
  clear hl hf bel hbig hp
  generalize ebL L F p = lo at *
  generalize ebH L F p = hi at *
  generalize ebE L F p = ce at *
  have e1 : (ce != ce) = false := by simp
  have e2 : (lo != lo) = false := by simp
  have e3 : (hi != hi) = false := by simp
  have e4 : (lo == lo) = true := by simp
  have e5 : (hi == hi) = true := by simp
  go_wp2_with fail
  refine (HEI _ (L1.out.later H1.out.is) (sl_lat F1.out H1.out.is)).mono ?_
  rintro e w2 ⟨rfl, hb⟩
  have H2 := Lib.hid (H1.out.later hb)
  obtain ⟨k0, _⟩ := Held.s1 H2.out
  have zz := H2.out.lt w1.heap.size 0 (.slice a n cap) (by simp)
  clear hb
  go_wp2_with fail
  have HT2 : Hid (Held [(w2.heap.size, 0, .int .i64 lo), (w2.heap.size, 1, .int .i64 hi), (w1.heap.size, 0, .slice a n cap)] w1 (w2.alloc (.cells #[.int .i64 lo, .int .i64 hi] 25))) := Lib.hid (held_box H2.out w2.heap.size [.int .i64 lo, .int .i64 hi] _ rfl)
  refine (HES _ (L1.out.later HT2.out.is) (sl_lat F1.out HT2.out.is)).mono ?_
  rintro e w3 ⟨rfl, hb⟩
  have H3 := Lib.hid (HT2.out.later hb)
  obtain ⟨k1, k2, k0, _⟩ := Held.s3 H3.out
  have z1 := H3.out.lt w1.heap.size 0 (.slice a n cap) (by simp)
  have z2 := H3.out.lt w2.heap.size 0 (.int .i64 lo) (by simp)
  clear hb zz
  by_cases he : ce = 0
  · obtain ⟨f1, f2, f3, ⟨f4, f5⟩, f6, f7⟩ := HFA he
    have HM1 := HMI lo hi
    rw [f4, f5] at HM1
    subst he
    have hne : ((0 : Int) != 0) = false := rfl
    have hwl : IntKind.i64.wrap (lo - 1) = lo - 1 := IntWalk.i64_in _ ⟨by omega, by omega⟩
    have hwh : IntKind.i64.wrap (hi + 1) = hi + 1 := IntWalk.i64_in _ ⟨by omega, by omega⟩
    have HT3 : Hid (Held [(w2.heap.size, 0, .int .i64 lo), (w2.heap.size, 1, .int .i64 hi), (w1.heap.size, 0, .slice a n cap)] w1 (w3.alloc (.cells #[.int .i64 lo, .int .i64 hi] 25))) := Lib.hid (H3.out.later ((Later.refl _).alloc _))
    clear f4 f5
    go_wp2_with fail
    refine (HM1 _ (L1.out.later HT3.out.is) (sl_lat F1.out HT3.out.is)).mono ?_
    rintro e w4 ⟨rfl, hb⟩
    have H4 := Lib.hid (HT3.out.later hb)
    clear k0 k1 k2 z1 z2 hb
    obtain ⟨k1, k2, k0, _⟩ := Held.s3 H4.out
    by_cases c1 : 0 < lo
    · obtain ⟨g1, g2⟩ := f6 c1
      have HM2 := HMI (lo - 1) hi
      rw [g1, g2] at HM2
      have hlo : ¬ lo ≤ 0 := by omega
      clear g1 g2
      go_wp2_with fail
      refine (HM2 _ (L1.out.later H4.out.is) (sl_lat F1.out H4.out.is)).mono ?_
      rintro e w5 ⟨rfl, hb⟩
      have H5 := Lib.hid (H4.out.later hb)
      clear k0 k1 k2 hb
      obtain ⟨k1, k2, k0, _⟩ := Held.s3 H5.out
      by_cases c2 : hi < 10000000000
      · obtain ⟨g1, g2⟩ := f7 c2
        have HM3 := HMI lo (hi + 1)
        rw [g1, g2] at HM3
        have hhi : (hi == 10000000000) = false := by simp; omega
        clear g1 g2
        go_wp2_with fail
        refine (HM3 _ (L1.out.later H5.out.is) (sl_lat F1.out H5.out.is)).mono ?_
        rintro e w6 ⟨rfl, hb⟩
        have HX := Lib.hid (H5.out.later hb)
        clear k0 k1 k2 hb
        obtain ⟨k1, k2, k0, _⟩ := Held.s3 HX.out
        go_wp2_with fail
        go_ret
        exact ⟨rfl, B1.out.trans HX.out.is⟩
      · obtain rfl : hi = 10000000000 := by omega
        have HM3 := HMI lo (10000000000 + 1)
        generalize meE L F p lo (10000000000 + 1) = ce3 at *
        generalize meB L F p lo (10000000000 + 1) = cb3 at *
        clear e3 e5 f3
        go_wp2_with fail
        refine (HM3 _ (L1.out.later H5.out.is) (sl_lat F1.out H5.out.is)).mono ?_
        rintro e w6 ⟨rfl, hb⟩
        have HX := Lib.hid (H5.out.later hb)
        clear k0 k1 k2 hb
        obtain ⟨k1, k2, k0, _⟩ := Held.s3 HX.out
        go_wp2_with fail
        go_ret
        exact ⟨rfl, B1.out.trans HX.out.is⟩
    · have hlo : ¬ 0 < lo := c1
      by_cases c2 : hi < 10000000000
      · obtain ⟨g1, g2⟩ := f7 c2
        have HM3 := HMI lo (hi + 1)
        rw [g1, g2] at HM3
        have hhi : (hi == 10000000000) = false := by simp; omega
        clear g1 g2
        go_wp2_with fail
        refine (HM3 _ (L1.out.later H4.out.is) (sl_lat F1.out H4.out.is)).mono ?_
        rintro e w5 ⟨rfl, hb⟩
        have HX := Lib.hid (H4.out.later hb)
        clear k0 k1 k2 hb
        obtain ⟨k1, k2, k0, _⟩ := Held.s3 HX.out
        go_wp2_with fail
        go_ret
        exact ⟨rfl, B1.out.trans HX.out.is⟩
      · obtain rfl : hi = 10000000000 := by omega
        have HM3 := HMI lo (10000000000 + 1)
        generalize meE L F p lo (10000000000 + 1) = ce3 at *
        generalize meB L F p lo (10000000000 + 1) = cb3 at *
        clear e3 e5 f3
        go_wp2_with fail
        refine (HM3 _ (L1.out.later H4.out.is) (sl_lat F1.out H4.out.is)).mono ?_
        rintro e w5 ⟨rfl, hb⟩
        have HX := Lib.hid (H4.out.later hb)
        clear k0 k1 k2 hb
        obtain ⟨k1, k2, k0, _⟩ := Held.s3 HX.out
        go_wp2_with fail
        go_ret
        exact ⟨rfl, B1.out.trans HX.out.is⟩
  · have hne : (ce != 0) = true := by simpa using he
    go_wp2_with fail
    go_ret
    exact ⟨rfl, B1.out.trans (H3.out.is.trans (by repeat (first | exact Later.refl _ | refine Later.drew ?_ | refine Later.drewN ?_ _ | refine Later.alloc ?_ _)))⟩
end Go.Proofs.Ytdhoiiejcmnmbaa
