/- Contracts of chapter 6: runs, and the energy that is needed: the model's functions. -/
import Derived.Test.YtnmlkigpiaekjaaEnP
import Derived.Test.YtnmlkigpiaekjaaEnS
import Derived.Test.YtnmlkigpiaekjaaSgU
import Derived.Deep.RegionWith
namespace Go.Proofs.Ytnmlkigpiaekjaa
open Go.RowKit
set_option maxHeartbeats 4000000
set_option linter.unusedVariables false
set_option linter.unusedSimpArgs false
theorem s_Range (a : Option Addr) (n cap : Nat) (f c : Int) (b : Bool) (w : World) (hn : n ≤ 9223372036854775807) (h : ((decide (0 ≤ f) && decide (f ≤ (n : Int) - 1)) && (decide (0 ≤ c) && decide (c ≤ 24))) = b) :
    Calls Try.prog 39 #[.agg #[.slice a n cap], .int .i64 f, .int .i64 c] w fun e w' => e = .returned (.bool b) ∧ Later w w' := by
  subst h
  cases h1 : (decide (0 ≤ f) && decide (f ≤ (n : Int) - 1))
  all_goals
    have H1 := Lib.hid h1
    clear h1
  · go_enter Try.func39, Try.ntmps39
    go_wp2_with (go_at_call 73; refine (s_InB f 0 ((n : Int) - 1) false H1.out _).mono ?_; rintro e w' ⟨rfl, rfl⟩)
    go_ret
    exact ⟨by simp, (by repeat (first | (with_reducible exact Later.refl _) | (with_reducible exact Hid.out (by assumption)) | (with_reducible refine Later.alloc ?_ _) | (with_reducible refine Later.setCell ?_ (by simp; omega) _) | (with_reducible refine Later.setCell ?_ (by simp) _) | (with_reducible refine Later.drewN ?_ _) | (with_reducible refine Later.drew ?_) | (with_reducible refine Later.trans ?_ (Hid.out (by assumption)))))⟩
  · go_enter Try.func39, Try.ntmps39
    go_wp2_with fail
    refine (s_InB f 0 ((n : Int) - 1) true H1.out _).mono ?_
    rintro e w' ⟨rfl, rfl⟩
    go_wp2_with fail
    refine (s_In c 0 24 _).mono ?_
    rintro e w' ⟨rfl, rfl⟩
    go_wp2_with fail
    go_ret
    exact ⟨by simp, (by repeat (first | (with_reducible exact Later.refl _) | (with_reducible exact Hid.out (by assumption)) | (with_reducible refine Later.alloc ?_ _) | (with_reducible refine Later.setCell ?_ (by simp; omega) _) | (with_reducible refine Later.setCell ?_ (by simp) _) | (with_reducible refine Later.drewN ?_ _) | (with_reducible refine Later.drew ?_) | (with_reducible refine Later.trans ?_ (Hid.out (by assumption)))))⟩
theorem s_l06Segment (a : Option Addr) (n cap k : Nat) (L : List Sg) (w : World) (hs : Sgs w a n L) (hn : 0 < n) :
    Calls Try.prog 48 #[.agg #[.slice a n cap], .int .i64 (k : Int)] w fun e w' => e = .returned (.agg #[.int .i64 (sx L (k % n)).k, .int .i64 (sx L (k % n)).l, .int .i64 (sx L (k % n)).r, .int .i64 (sx L (k % n)).a, .int .i64 (sx L (k % n)).b, .int .i64 (sx L (k % n)).c, .int .i64 (sx L (k % n)).d]) ∧ Later w w' := by
  obtain ⟨r, hr⟩ : ∃ r, r = k % n := ⟨_, rfl⟩
  have hrn : r < n := by rw [hr]; exact Nat.mod_lt _ hn
  have hmod : (k : Int).tmod (n : Int) = (r : Int) := by rw [Int.tmod_eq_emod_of_nonneg (by omega), hr, Int.natCast_emod]
  rw [← hr]
  have hn0 : ¬ n = 0 := by omega
  have hnm := hs.2.1
  obtain ⟨b, off, rfl, hb, hcc⟩ := hs.at r hrn
  obtain ⟨c0, c1, c2, c3, c4, c5, c6⟩ := hcc
  generalize sx L r = x at c0 c1 c2 c3 c4 c5 c6
  clear hs hr
  go_enter Try.func48, Try.ntmps48
  go_wp2_with fail
  go_region
  all_goals
    go_wp2_with fail
    refine bodyPost_ret (v := .agg #[.int .i64 x.k, .int .i64 x.l, .int .i64 x.r, .int .i64 x.a, .int .i64 x.b, .int .i64 x.c, .int .i64 x.d]) (by simp [results, Try.results48, go_sem, *]) rfl ⟨rfl, (by repeat (first | (with_reducible exact Later.refl _) | (with_reducible exact Hid.out (by assumption)) | (with_reducible refine Later.alloc ?_ _) | (with_reducible refine Later.setCell ?_ (by simp; omega) _) | (with_reducible refine Later.setCell ?_ (by simp) _) | (with_reducible refine Later.drewN ?_ _) | (with_reducible refine Later.drew ?_) | (with_reducible refine Later.trans ?_ (Hid.out (by assumption)))))⟩
end Go.Proofs.Ytnmlkigpiaekjaa
