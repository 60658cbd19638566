/- Contracts of chapter 7: the energies with which a train may enter a block, of the program. -/
import Derived.Test.YtnmlkigpiaekjaaBrN
import Derived.Test.YtnmlkigpiaekjaaBrJ
import Derived.Test.YtnmlkigpiaekjaaEnC
import Derived.Test.YtnmlkigpiaekjaaBkL
import Derived.Deep.RegionWith
namespace Go.Proofs.Ytnmlkigpiaekjaa
open Go.RowKit
set_option maxHeartbeats 4000000
set_option linter.unusedVariables false
set_option linter.unusedSimpArgs false
theorem i_energiesBefore (a b m : Int) (w : World) (ha : -1000000000000 ≤ a) (ha' : a ≤ 1000000000000) (hb : -1000000000000 ≤ b) (hb' : b ≤ 1000000000000) (hm : -1000000000000 ≤ m) (hm' : m ≤ 1000000000000) :
    Calls Try.prog 103 #[.agg #[.int .i64 a, .int .i64 b], .int .i64 m] w fun e w' => e = .returned (.agg #[.int .i64 (-a), .int .i64 (m - b)]) ∧ Later w w' := by
  go_enter Try.func103, Try.ntmps103
  go_wp2
  refine bodyPost_ret (v := .agg #[.int .i64 (-a), .int .i64 (m - b)]) (by simp [results, Try.results103, go_sem, *]) rfl ⟨rfl, (by repeat (first | (with_reducible exact Later.refl _) | (with_reducible exact Hid.out (by assumption)) | (with_reducible refine Later.alloc ?_ _) | (with_reducible refine Later.setCell ?_ (by simp; omega) _) | (with_reducible refine Later.setCell ?_ (by simp) _) | (with_reducible refine Later.drewN ?_ _) | (with_reducible refine Later.drew ?_) | (with_reducible refine Later.trans ?_ (Hid.out (by assumption)))))⟩
/-- the greatest energy that a holding segment holds, and its code -/
def ghV (x : Sg) : Int := if x.k = 1 then 10000000000 else gsV x
def ghE (x : Sg) : Int := if x.k = 1 then 0 else slE x
theorem i_greatestHeld (x : Sg) (w : World) :
    Calls Try.prog 104 #[.agg #[.int .i64 x.k, .int .i64 x.l, .int .i64 x.r, .int .i64 x.a, .int .i64 x.b, .int .i64 x.c, .int .i64 x.d]] w fun e w' => e = .returned (.tuple #[.int .i64 (ghV x), .int .i64 (ghE x)]) ∧ Later w w' := by
  by_cases h : x.k = 1
  · have e1 : Hid (ghV x = 10000000000) := Lib.hid (by unfold ghV; rw [if_pos h])
    have e2 : Hid (ghE x = 0) := Lib.hid (by unfold ghE; rw [if_pos h])
    have hk : (x.k == 1) = true := by simpa using h
    clear h
    go_enter Try.func104, Try.ntmps104
    go_wp2
    go_ret2
    exact ⟨ret_2i e1.out.symm e2.out.symm, (by repeat (first | (with_reducible exact Later.refl _) | (with_reducible exact Hid.out (by assumption)) | (with_reducible refine Later.alloc ?_ _) | (with_reducible refine Later.setCell ?_ (by simp; omega) _) | (with_reducible refine Later.setCell ?_ (by simp) _) | (with_reducible refine Later.drewN ?_ _) | (with_reducible refine Later.drew ?_) | (with_reducible refine Later.trans ?_ (Hid.out (by assumption)))))⟩
  · have e1 : ghV x = gsV x := by unfold ghV; rw [if_neg h]
    have e2 : ghE x = slE x := by unfold ghE; rw [if_neg h]
    have hk : (x.k == 1) = false := by simpa using h
    rw [e1, e2]
    clear h e1 e2
    go_enter Try.func104, Try.ntmps104
    go_wp2_with (go_at_call 117; refine (i_GreatestStop x _).mono ?_; rintro e w1 ⟨rfl, hb⟩; obtain ⟨H, hcc, hff, hzz⟩ := later_facts hb; clear hb; (try simp at hzz); (try simp only [World.heap_drewN, World.cell?_drewN, World.frozen?_drewN] at hcc hff); have hz0 : w.heap.size < w1.heap.size := (by omega); (try (have hz1 : w.heap.size + 1 < w1.heap.size := (by omega))); (try (have hz2 : w.heap.size + 1 + 1 < w1.heap.size := (by omega))); (try (have hz3 : w.heap.size + 1 + 1 + 1 < w1.heap.size := (by omega))); (try (have hz4 : w.heap.size + 1 + 1 + 1 + 1 < w1.heap.size := (by omega))))
    go_ret2
    exact ⟨rfl, (by repeat (first | (with_reducible exact Later.refl _) | (with_reducible exact Hid.out (by assumption)) | (with_reducible refine Later.alloc ?_ _) | (with_reducible refine Later.setCell ?_ (by simp; omega) _) | (with_reducible refine Later.setCell ?_ (by simp) _) | (with_reducible refine Later.drewN ?_ _) | (with_reducible refine Later.drew ?_) | (with_reducible refine Later.trans ?_ (Hid.out (by assumption)))))⟩
end Go.Proofs.Ytnmlkigpiaekjaa
