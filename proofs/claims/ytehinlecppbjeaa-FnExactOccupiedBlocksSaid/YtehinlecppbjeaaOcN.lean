/- Contracts of chapter 5: sensors: the program's small functions. -/
import Derived.Test.YtehinlecppbjeaaOcR
import Derived.Test.YtehinlecppbjeaaList
import Derived.Test.YtehinlecppbjeaaApp
import Derived.Test.YtehinlecppbjeaaSgO
import Derived.WalkSmall
import Derived.Deep.DeepMust
namespace Go.Proofs.Ytehinlecppbjeaa
open Go.RowKit
set_option maxHeartbeats 2000000
set_option linter.unusedVariables false
set_option linter.unusedSimpArgs false
/-- the length of the track beside sensors, or a code -/
def tsV (L : List Sg) (S : List Int) : Int := if senB L S = true then totL L else 0
def tsE (L : List Sg) (S : List Int) : Int := if senB L S = true then 0 else 1
theorem i_trackOfSensors (a : Option Addr) (n cap : Nat) (L : List Sg) (A : Option Addr) (m capF : Nat) (F : List Int) (w : World) (hs : Sgs w a n L) (hf : Sl w A m F) :
    Calls Try.prog 97 #[.agg #[.slice a n cap], .slice A m capF] w fun e w' => e = .returned (.tuple #[.int .i64 (tsV L F), .int .i64 (tsE L F)]) ∧ Later w w' := by
  have HS := Lib.hid hs
  have HF := Lib.hid hf
  have HM := Lib.hid hf.1
  have hm := hf.2.1
  clear hs hf
  have NO : senB L F = false → Hid (tsV L F = 0 ∧ tsE L F = 1) := fun h => Lib.hid (by unfold tsV tsE; rw [h]; simp)
  cases hv : layB L
  · have HT := NO (by rw [senB_no, hv]; simp)
    clear NO
    go_enter Try.func97, Try.ntmps97
    go_wp2_with (go_at_call 32; refine (i_TL_no a n cap L _ (HS.out.later ((Later.refl _).alloc _)) hv).mono ?_; rintro e w1 ⟨rfl, hb⟩; obtain ⟨H, hcc, hff, hzz⟩ := later_facts hb; clear hb; (try simp at hzz); (try simp only [World.heap_drewN, World.cell?_drewN, World.frozen?_drewN] at hcc hff))
    go_ret2
    exact ⟨ret_2i (by rw [HT.out.1]) (by rw [HT.out.2]), (by repeat (first | (with_reducible exact Later.refl _) | (with_reducible exact Hid.out (by assumption)) | (with_reducible refine Later.alloc ?_ _) | (with_reducible refine Later.setCell ?_ (by simp; omega) _) | (with_reducible refine Later.setCell ?_ (by simp) _) | (with_reducible refine Later.drewN ?_ _) | (with_reducible refine Later.drew ?_) | (with_reducible refine Later.trans ?_ (Hid.out (by assumption)))))⟩
  by_cases h32 : 32 < m
  · have HT := NO (by rw [senB_no, HM.out]; omega)
    clear NO
    go_enter Try.func97, Try.ntmps97
    go_wp2_with (go_at_call 32; refine (i_TL_ok a n cap L _ (HS.out.later ((Later.refl _).alloc _)) hv).mono ?_; rintro e w1 ⟨rfl, hb⟩; obtain ⟨H, hcc, hff, hzz⟩ := later_facts hb; clear hb; (try simp at hzz); (try simp only [World.heap_drewN, World.cell?_drewN, World.frozen?_drewN] at hcc hff))
    go_ret2
    exact ⟨ret_2i (by rw [HT.out.1]) (by rw [HT.out.2]), (by repeat (first | (with_reducible exact Later.refl _) | (with_reducible exact Hid.out (by assumption)) | (with_reducible refine Later.alloc ?_ _) | (with_reducible refine Later.setCell ?_ (by simp; omega) _) | (with_reducible refine Later.setCell ?_ (by simp) _) | (with_reducible refine Later.drewN ?_ _) | (with_reducible refine Later.drew ?_) | (with_reducible refine Later.trans ?_ (Hid.out (by assumption)))))⟩
  have h32' : m ≤ 32 := by omega
  cases hr : risB F (totL L)
  · have HT := NO (by rw [senB_no, hr]; simp)
    clear NO
    go_enter Try.func97, Try.ntmps97
    go_wp2_with (first
      | (go_at_call 32; refine (i_TL_ok a n cap L _ (HS.out.later ((Later.refl _).alloc _)) hv).mono ?_; rintro e w1 ⟨rfl, hb⟩; obtain ⟨H, hcc, hff, hzz⟩ := later_facts hb; clear hb; (try simp at hzz); (try simp only [World.heap_drewN, World.cell?_drewN, World.frozen?_drewN] at hcc hff))
      | (go_at_call 110; refine (i_IsRising A m capF F (totL L) _ (sl_lat HF.out (by repeat (first | (with_reducible exact Later.refl _) | (with_reducible exact Hid.out (by assumption)) | (with_reducible refine Later.alloc ?_ _) | (with_reducible refine Later.setCell ?_ (by simp; omega) _) | (with_reducible refine Later.setCell ?_ (by simp) _) | (with_reducible refine Later.drewN ?_ _) | (with_reducible refine Later.drew ?_) | (with_reducible refine Later.trans ?_ (Hid.out (by assumption))))))).mono ?_; rw [hr]; rintro e w' ⟨rfl, rfl⟩))
    go_ret2
    exact ⟨ret_2i (by rw [HT.out.1]) (by rw [HT.out.2]), (by repeat (first | (with_reducible exact Later.refl _) | (with_reducible exact Hid.out (by assumption)) | (with_reducible refine Later.alloc ?_ _) | (with_reducible refine Later.setCell ?_ (by simp; omega) _) | (with_reducible refine Later.setCell ?_ (by simp) _) | (with_reducible refine Later.drewN ?_ _) | (with_reducible refine Later.drew ?_) | (with_reducible refine Later.trans ?_ (Hid.out (by assumption)))))⟩
  · have HT : Hid (tsV L F = totL L ∧ tsE L F = 0) := Lib.hid (by
      have : senB L F = true := by rw [senB_iff, HM.out]; exact ⟨hv, h32', hr⟩
      unfold tsV tsE; rw [this]; simp)
    clear NO
    go_enter Try.func97, Try.ntmps97
    go_wp2_with (first
      | (go_at_call 32; refine (i_TL_ok a n cap L _ (HS.out.later ((Later.refl _).alloc _)) hv).mono ?_; rintro e w1 ⟨rfl, hb⟩; obtain ⟨H, hcc, hff, hzz⟩ := later_facts hb; clear hb; (try simp at hzz); (try simp only [World.heap_drewN, World.cell?_drewN, World.frozen?_drewN] at hcc hff))
      | (go_at_call 110; refine (i_IsRising A m capF F (totL L) _ (sl_lat HF.out (by repeat (first | (with_reducible exact Later.refl _) | (with_reducible exact Hid.out (by assumption)) | (with_reducible refine Later.alloc ?_ _) | (with_reducible refine Later.setCell ?_ (by simp; omega) _) | (with_reducible refine Later.setCell ?_ (by simp) _) | (with_reducible refine Later.drewN ?_ _) | (with_reducible refine Later.drew ?_) | (with_reducible refine Later.trans ?_ (Hid.out (by assumption))))))).mono ?_; rw [hr]; rintro e w' ⟨rfl, rfl⟩))
    go_ret2
    exact ⟨ret_2i (by rw [HT.out.1]) (by rw [HT.out.2]), (by repeat (first | (with_reducible exact Later.refl _) | (with_reducible exact Hid.out (by assumption)) | (with_reducible refine Later.alloc ?_ _) | (with_reducible refine Later.setCell ?_ (by simp; omega) _) | (with_reducible refine Later.setCell ?_ (by simp) _) | (with_reducible refine Later.drewN ?_ _) | (with_reducible refine Later.drew ?_) | (with_reducible refine Later.trans ?_ (Hid.out (by assumption)))))⟩
/-- what hands back a list of its own leaves -/
def Gives (w : World) (l : List Int) (e : Ending) (w' : World) : Prop := ∃ v, e = .returned v ∧ Own w' w.heap.size v l ∧ Later w w'
theorem i_sensorsOn (A : Option Addr) (m capF : Nat) (F : List Int) (x z : Int) (w : World) (hf : Sl w A m F) (h32 : m ≤ 1000) :
    Calls Try.prog 100 #[.slice A m capF, .agg #[.int .i64 x, .int .i64 z]] w (Gives w (onI F x z m)) := by
  have HF := Lib.hid hf
  have HM := Lib.hid hf.1
  have hm := hf.2.1
  clear hf
  go_enter Try.func100, Try.ntmps100
  go_wp2
  go_loopw [5, 10] (fun v i wr => ∃ k : Nat, k ≤ m ∧ i = .int .i64 k ∧ Own wr (w.heap.size + 1) v (onI F x z k) ∧ Later (w.alloc (.cells #[.int .i64 x, .int .i64 z] 91)) wr) (fun _ i _ => m - (intOf i).toNat)
  case atStart => exact ⟨0, by omega, rfl, by rw [onI_0]; exact own_none _ _, Later.refl _⟩
  case round =>
    obtain ⟨k, hk, rfl, ho, hlw⟩ := hrel
    have O := Lib.hid ho
    have HW : Hid (Later w wr) := Lib.hid (((Later.refl _).alloc _).trans hlw)
    have HW1 := Lib.hid hlw
    obtain ⟨c0, c1, _, _⟩ := Fr.o2 (fr_alloc (X := w) (l := [.int .i64 x, .int .i64 z]) hlw)
    have hz : w.heap.size + 1 ≤ wr.heap.size := by have := hlw.size; rw [World.size_alloc] at this; exact this
    have hz0 : w.heap.size < wr.heap.size := by omega
    have hlen := onI_len F x z k
    clear ho hlw
    by_cases hlt : k < m
    · obtain ⟨b', off', rfl, hc⟩ := (sl_lat HF.out HW.out).at k hlt
      by_cases h1 : x ≤ gx F k
      · by_cases h2 : gx F k ≤ z
        · have HD : Hid (onI F x z (k + 1) = onI F x z k ++ [(k : Int)]) := Lib.hid (by rw [onI_succ, if_pos ⟨h1, h2⟩])
          go_wp2_with (at_builtin; go_must (refine app1 rfl _ _ rfl (w.heap.size + 1) _ _ _ _ _ O.out rfl rfl ⟨by omega, by omega⟩ (by omega) hz ?_; intro v' w5 ho hg; obtain ⟨W5, k5, z5⟩ := later_grown HW.out O.out hg; have O5 := Lib.hid ho; have W51 : Hid (Later (w.alloc (.cells #[.int .i64 x, .int .i64 z] 91)) w5) := Lib.hid (Below.grown HW1.out hg HW1.out.size (fun j e => by have := (O.out.lt j e).1; rw [World.size_alloc]; omega)); clear ho hg k5))
          go_roundw
          case rel => exact ⟨k + 1, by omega, by go_num, by rw [HD.out]; exact O5.out, W51.out⟩
          case measure => simp [intOf]; omega
        · have HD : Hid (onI F x z (k + 1) = onI F x z k) := Lib.hid (by rw [onI_succ, if_neg (by omega)])
          go_wp2
          go_roundw
          case rel => exact ⟨k + 1, by omega, by go_num, by rw [HD.out]; exact O.out, HW1.out⟩
          case measure => simp [intOf]; omega
      · have HD : Hid (onI F x z (k + 1) = onI F x z k) := Lib.hid (by rw [onI_succ, if_neg (by omega)])
        go_wp2
        go_roundw
        case rel => exact ⟨k + 1, by omega, by go_num, by rw [HD.out]; exact O.out, HW1.out⟩
        case measure => simp [intOf]; omega
    · obtain rfl : k = m := by omega
      go_wp2
      go_ret
      exact ⟨_, rfl, O.out.mono (Nat.le_succ _), HW.out⟩
end Go.Proofs.Ytehinlecppbjeaa
