/- Contracts of chapter 8: which lists are devices of a layout: of the program and of the model. -/
import Derived.Test.YtdhoiiejcmnmbaaLnP
import Derived.Test.YtdhoiiejcmnmbaaBkS
namespace Go.Proofs.Ytdhoiiejcmnmbaa
open Go.RowKit
set_option maxHeartbeats 4000000
set_option linter.unusedVariables false
set_option linter.unusedSimpArgs false
theorem dv_nat {F : List Int} {n : Nat} (h : risB F (n : Int) = true) (k : Nat) (hk : k < F.length) : ∃ q : Nat, gx F k = (q : Int) ∧ q < n := by
  have a := (risB_iff F n).1 h
  have b := okAt_nn F n F.length a k hk
  have c := a k hk
  unfold okAt at c
  rw [Bool.and_eq_true, decide_eq_true_eq, decide_eq_true_eq] at c
  exact ⟨(gx F k).toNat, by omega, by omega⟩
theorem knB_iff (L : List Sg) (F : List Int) : knB L F = true ↔ ∀ i, i < F.length → (sx L (gx F i).toNat).k ≠ 0 := by
  unfold knB
  rw [List.all_eq_true]
  constructor
  · intro h i hi
    have := h (gx F i) (gx_mem F i hi)
    simpa using this
  · intro h x hx
    obtain ⟨i, hi, rfl⟩ := List.getElem_of_mem hx
    have := h i hi
    rw [gx_of F i hi] at this
    simpa using this
/-- 'these are devices of a valid layout' -/
def areB (L : List Sg) (F : List Int) : Bool := layB L && dvB L F
theorem dvB_bad {L : List Sg} {F : List Int} {k : Nat} {q : Nat} (hk : k < F.length) (hq : gx F k = (q : Int)) (hz : (sx L q).k = 0) : dvB L F = false := by
  rw [Bool.eq_false_iff]
  intro h
  unfold dvB at h
  rw [Bool.and_eq_true] at h
  have := (knB_iff L F).1 h.2 k hk
  rw [hq] at this
  exact this (by simpa using hz)
theorem i_AreDevices (a : Option Addr) (n cap : Nat) (L : List Sg) (A : Option Addr) (m capF : Nat) (F : List Int) (w : World) (hs : Sgs w a n L) (hf : Sl w A m F) :
    Calls Try.prog 34 #[.agg #[.slice a n cap], .slice A m capF] w fun e w' => e = .returned (.bool (areB L F)) ∧ Later w w' := by
  have HS := Lib.hid hs; have HL := Lib.hid hs.1
  have HF := Lib.hid hf; have HM := Lib.hid hf.1
  have hn := hs.2.1; have hm := hf.2.1
  clear hs hf
  cases hv : layB L
  · have HT : Hid (areB L F = false) := Lib.hid (by unfold areB; rw [hv]; rfl)
    go_enter Try.func34, Try.ntmps34
    go_wp2_with (go_at_call 81; refine (i_IsLayout a n cap L _ (HS.out.later ((Later.refl _).alloc _))).mono ?_; rintro e w1 ⟨rfl, hb⟩; obtain ⟨H, hcc, hff, hzz⟩ := later_facts hb; clear hb; (try simp at hzz); (try simp only [World.heap_drewN, World.cell?_drewN, World.frozen?_drewN] at hcc hff))
    go_ret
    exact ⟨ret_b (by rw [HT.out]), (by repeat (first | (with_reducible exact Later.refl _) | (with_reducible exact Hid.out (by assumption)) | (with_reducible refine Later.alloc ?_ _) | (with_reducible refine Later.setCell ?_ (by simp; omega) _) | (with_reducible refine Later.setCell ?_ (by simp) _) | (with_reducible refine Later.drewN ?_ _) | (with_reducible refine Later.drew ?_) | (with_reducible refine Later.trans ?_ (Hid.out (by assumption)))))⟩
  · cases hr : risB F (n : Int)
    · have HT : Hid (areB L F = false) := Lib.hid (by unfold areB dvB; rw [HL.out, hr]; simp)
      go_enter Try.func34, Try.ntmps34
      go_wp2_with (first
        | (go_at_call 81; refine (i_IsLayout a n cap L _ (HS.out.later ((Later.refl _).alloc _))).mono ?_; rintro e w1 ⟨rfl, hb⟩; obtain ⟨H, hcc, hff, hzz⟩ := later_facts hb; clear hb; (try simp at hzz); (try simp only [World.heap_drewN, World.cell?_drewN, World.frozen?_drewN] at hcc hff))
        | (go_at_call 82; refine (i_IsRising _ m capF F n _ (HF.out.later (by repeat (first | (with_reducible exact Later.refl _) | (with_reducible exact Hid.out (by assumption)) | (with_reducible refine Later.alloc ?_ _) | (with_reducible refine Later.setCell ?_ (by simp; omega) _) | (with_reducible refine Later.setCell ?_ (by simp) _) | (with_reducible refine Later.drewN ?_ _) | (with_reducible refine Later.drew ?_) | (with_reducible refine Later.trans ?_ (Hid.out (by assumption))))))).mono ?_; rw [hr]; rintro e w' ⟨rfl, rfl⟩))
      go_ret
      exact ⟨ret_b (by rw [HT.out]), (by repeat (first | (with_reducible exact Later.refl _) | (with_reducible exact Hid.out (by assumption)) | (with_reducible refine Later.alloc ?_ _) | (with_reducible refine Later.setCell ?_ (by simp; omega) _) | (with_reducible refine Later.setCell ?_ (by simp) _) | (with_reducible refine Later.drewN ?_ _) | (with_reducible refine Later.drew ?_) | (with_reducible refine Later.trans ?_ (Hid.out (by assumption)))))⟩
    · have HR := Lib.hid hr
      have HB : Hid (areB L F = knB L F) := Lib.hid (by unfold areB dvB; rw [hv, HL.out, hr]; simp)
      go_enter Try.func34, Try.ntmps34
      go_wp2_with (first
        | (go_at_call 81; refine (i_IsLayout a n cap L _ (HS.out.later ((Later.refl _).alloc _))).mono ?_; rintro e w1 ⟨rfl, hb⟩; obtain ⟨H, hcc, hff, hzz⟩ := later_facts hb; clear hb; (try simp at hzz); (try simp only [World.heap_drewN, World.cell?_drewN, World.frozen?_drewN] at hcc hff))
        | (go_at_call 82; refine (i_IsRising _ m capF F n _ (HF.out.later (by repeat (first | (with_reducible exact Later.refl _) | (with_reducible exact Hid.out (by assumption)) | (with_reducible refine Later.alloc ?_ _) | (with_reducible refine Later.setCell ?_ (by simp; omega) _) | (with_reducible refine Later.setCell ?_ (by simp) _) | (with_reducible refine Later.drewN ?_ _) | (with_reducible refine Later.drew ?_) | (with_reducible refine Later.trans ?_ (Hid.out (by assumption))))))).mono ?_; rw [hr]; rintro e w' ⟨rfl, rfl⟩))
      have HW1 : Hid (Later w w1) := Lib.hid (Later.trans (by repeat (first | (with_reducible exact Later.refl _) | (with_reducible exact Hid.out (by assumption)) | (with_reducible refine Later.alloc ?_ _) | (with_reducible refine Later.setCell ?_ (by simp; omega) _) | (with_reducible refine Later.setCell ?_ (by simp) _) | (with_reducible refine Later.drewN ?_ _) | (with_reducible refine Later.drew ?_) | (with_reducible refine Later.trans ?_ (Hid.out (by assumption))))) H.out)
      have cb1 : w1.cell? ⟨w.heap.size, 0, none⟩ = some (.slice a n cap) := by rw [hcc _ _ (by simp)]; simp
      have hz1 : w.heap.size < w1.heap.size := by omega
      clear hcc hff hr hv H
      go_loopw [20] (fun i wr => ∃ k : Nat, k ≤ m ∧ i = .int .i64 k ∧ (∀ j, j < k → (sx L (gx F j).toNat).k ≠ 0) ∧ Later w1 wr) (fun i _ => m - (intOf i).toNat)
      case atStart => exact ⟨0, by omega, rfl, fun j hj => absurd hj (by omega), Later.refl _⟩
      case round =>
        obtain ⟨k, hk, rfl, hok, hlw⟩ := hrel
        have HO := Lib.hid hok; have HLW := Lib.hid hlw
        have HW : Hid (Later w wr) := Lib.hid (HW1.out.trans hlw)
        have cb : wr.cell? ⟨w.heap.size, 0, none⟩ = some (.slice a n cap) := by rw [hlw.cell (p := ⟨w.heap.size, 0, none⟩) hz1]; exact cb1
        clear hok hlw
        by_cases hlt : k < m
        · have hkF : k < F.length := by rw [HM.out]; exact hlt
          obtain ⟨q, hq, hqn⟩ := dv_nat HR.out k hkF
          obtain ⟨bF, oF, rfl, hcF⟩ := (HF.out.later HW.out).at k hlt
          rw [hq] at hcF
          obtain ⟨b2, o2, rfl, hb2, hc⟩ := (HS.out.later HW.out).at q hqn
          obtain ⟨c0, _⟩ := hc
          have hq3 : (0 : Int) ≤ (q : Int) := by omega
          have hq4 : (q : Int) < (n : Int) := by omega
          by_cases hz : (sx L q).k = 0
          · have e0 : ((sx L q).k == 0) = true := by simpa using hz
            have HT : Hid (areB L F = false) := Lib.hid (by unfold areB; rw [dvB_bad hkF hq hz]; simp)
            go_wp2_with fail
            go_ret
            exact ⟨ret_b (by rw [HT.out]), HW.out⟩
          · have e0 : ((sx L q).k == 0) = false := by simpa using hz
            have HN : Hid (∀ j, j < k + 1 → (sx L (gx F j).toNat).k ≠ 0) := Lib.hid (fun j hj => by
              by_cases h : j < k
              · exact HO.out j h
              · obtain rfl : j = k := by omega
                rw [hq]; simpa using hz)
            clear hq
            go_wp2_with fail
            go_roundw
            case rel => exact ⟨k + 1, by omega, by go_num, HN.out, HLW.out⟩
            case measure => simp [intOf]; omega
        · obtain rfl : k = m := by omega
          have HT : Hid (knB L F = true) := Lib.hid ((knB_iff L F).2 (fun j hj => HO.out j (by rw [HM.out] at hj; exact hj)))
          go_wp2_with fail
          go_ret
          exact ⟨ret_b (by rw [HB.out, HT.out]), HW.out⟩
theorem s_l08Devices (a : Option Addr) (n cap : Nat) (L : List Sg) (A : Option Addr) (m capF : Nat) (F : List Int) (w : World) (hs : Sgs w a n L) (hf : Sl w A m F) :
    Calls Try.prog 79 #[.agg #[.slice a n cap], .slice A m capF] w fun e w' => e = .returned (.bool (dvB L F)) ∧ Later w w' := by
  have HS := Lib.hid hs; have HL := Lib.hid hs.1
  have HF := Lib.hid hf; have HM := Lib.hid hf.1
  have hn := hs.2.1; have hm := hf.2.1
  clear hs hf
  cases hr : risB F (n : Int)
  · have HT : Hid (dvB L F = false) := Lib.hid (by unfold dvB; rw [HL.out, hr]; simp)
    go_enter Try.func79, Try.ntmps79
    go_wp2_with (go_at_call 108; refine (s_RisesL _ m capF F n _ (HF.out.later (by repeat (first | (with_reducible exact Later.refl _) | (with_reducible exact Hid.out (by assumption)) | (with_reducible refine Later.alloc ?_ _) | (with_reducible refine Later.setCell ?_ (by simp; omega) _) | (with_reducible refine Later.setCell ?_ (by simp) _) | (with_reducible refine Later.drewN ?_ _) | (with_reducible refine Later.drew ?_) | (with_reducible refine Later.trans ?_ (Hid.out (by assumption))))))).mono ?_; rw [hr]; rintro e w1 ⟨rfl, hb⟩; have H := Lib.hid hb; clear hb)
    go_ret
    exact ⟨ret_b (by rw [HT.out]), (by repeat (first | (with_reducible exact Later.refl _) | (with_reducible exact Hid.out (by assumption)) | (with_reducible refine Later.alloc ?_ _) | (with_reducible refine Later.setCell ?_ (by simp; omega) _) | (with_reducible refine Later.setCell ?_ (by simp) _) | (with_reducible refine Later.drewN ?_ _) | (with_reducible refine Later.drew ?_) | (with_reducible refine Later.trans ?_ (Hid.out (by assumption)))))⟩
  · have HR := Lib.hid hr
    have HB : Hid (dvB L F = knB L F) := Lib.hid (by unfold dvB; rw [HL.out, hr]; simp)
    go_enter Try.func79, Try.ntmps79
    go_wp2_with (go_at_call 108; refine (s_RisesL _ m capF F n _ (HF.out.later (by repeat (first | (with_reducible exact Later.refl _) | (with_reducible exact Hid.out (by assumption)) | (with_reducible refine Later.alloc ?_ _) | (with_reducible refine Later.setCell ?_ (by simp; omega) _) | (with_reducible refine Later.setCell ?_ (by simp) _) | (with_reducible refine Later.drewN ?_ _) | (with_reducible refine Later.drew ?_) | (with_reducible refine Later.trans ?_ (Hid.out (by assumption))))))).mono ?_; rintro e w1 ⟨rfl, hb⟩; obtain ⟨H, hcc, hff, hzz⟩ := later_facts hb; clear hb; (try simp at hzz); (try simp only [World.heap_drewN, World.cell?_drewN, World.frozen?_drewN] at hcc hff))
    have HW1 : Hid (Later w w1) := Lib.hid (Later.trans (by repeat (first | (with_reducible exact Later.refl _) | (with_reducible exact Hid.out (by assumption)) | (with_reducible refine Later.alloc ?_ _) | (with_reducible refine Later.setCell ?_ (by simp; omega) _) | (with_reducible refine Later.setCell ?_ (by simp) _) | (with_reducible refine Later.drewN ?_ _) | (with_reducible refine Later.drew ?_) | (with_reducible refine Later.trans ?_ (Hid.out (by assumption))))) H.out)
    have cb1 : w1.cell? ⟨w.heap.size, 0, none⟩ = some (.slice a n cap) := by rw [hcc _ _ (by simp)]; simp
    have hz1 : w.heap.size < w1.heap.size := by omega
    clear hcc hff hr H
    go_loopw [5] (fun i wr => ∃ k : Nat, k ≤ m ∧ i = .int .i64 k ∧ (∀ j, j < k → (sx L (gx F j).toNat).k ≠ 0) ∧ Later w1 wr) (fun i _ => m - (intOf i).toNat)
    case atStart => exact ⟨0, by omega, rfl, fun j hj => absurd hj (by omega), Later.refl _⟩
    case round =>
      obtain ⟨k, hk, rfl, hok, hlw⟩ := hrel
      have HO := Lib.hid hok; have HLW := Lib.hid hlw
      have HW : Hid (Later w wr) := Lib.hid (HW1.out.trans hlw)
      have cb : wr.cell? ⟨w.heap.size, 0, none⟩ = some (.slice a n cap) := by rw [hlw.cell (p := ⟨w.heap.size, 0, none⟩) hz1]; exact cb1
      clear hok hlw
      by_cases hlt : k < m
      · have hkF : k < F.length := by rw [HM.out]; exact hlt
        obtain ⟨q, hq, hqn⟩ := dv_nat HR.out k hkF
        obtain ⟨bF, oF, rfl, hcF⟩ := (HF.out.later HW.out).at k hlt
        rw [hq] at hcF
        obtain ⟨b2, o2, rfl, hb2, hc⟩ := (HS.out.later HW.out).at q hqn
        obtain ⟨c0, _⟩ := hc
        have hq3 : (0 : Int) ≤ (q : Int) := by omega
        have hq4 : (q : Int) < (n : Int) := by omega
        have hk3 : (0 : Int) ≤ (k : Int) := by omega
        have hk4 : (k : Int) < (m : Int) := by omega
        by_cases hz : (sx L q).k = 0
        · have e0 : ((sx L q).k == 0) = true := by simpa using hz
          have HT : Hid (dvB L F = false) := Lib.hid (dvB_bad hkF hq hz)
          go_wp2_with fail
          go_region
          all_goals
            go_wp2
            go_ret
            exact ⟨ret_b (by rw [HT.out]), (by repeat (first | (with_reducible exact Later.refl _) | (with_reducible exact Hid.out (by assumption)) | (with_reducible refine Later.alloc ?_ _) | (with_reducible refine Later.setCell ?_ (by simp; omega) _) | (with_reducible refine Later.setCell ?_ (by simp) _) | (with_reducible refine Later.drewN ?_ _) | (with_reducible refine Later.drew ?_) | (with_reducible refine Later.trans ?_ (Hid.out (by assumption)))))⟩
        · have e0 : ((sx L q).k == 0) = false := by simpa using hz
          have HN : Hid (∀ j, j < k + 1 → (sx L (gx F j).toNat).k ≠ 0) := Lib.hid (fun j hj => by
            by_cases h : j < k
            · exact HO.out j h
            · obtain rfl : j = k := by omega
              rw [hq]; simpa using hz)
          clear hq
          go_wp2_with fail
          go_region
          all_goals
            go_wp2
            go_roundw
            case rel => exact ⟨k + 1, by omega, by go_num, HN.out, Later.trans HLW.out (by repeat (first | (with_reducible exact Later.refl _) | (with_reducible exact Hid.out (by assumption)) | (with_reducible refine Later.alloc ?_ _) | (with_reducible refine Later.setCell ?_ (by simp; omega) _) | (with_reducible refine Later.setCell ?_ (by simp) _) | (with_reducible refine Later.drewN ?_ _) | (with_reducible refine Later.drew ?_) | (with_reducible refine Later.trans ?_ (Hid.out (by assumption)))))⟩
            case measure => simp [intOf]; omega
      · obtain rfl : k = m := by omega
        have HT : Hid (knB L F = true) := Lib.hid ((knB_iff L F).2 (fun j hj => HO.out j (by rw [HM.out] at hj; exact hj)))
        go_wp2_with fail
        go_ret
        exact ⟨ret_b (by rw [HB.out, HT.out]), HW.out⟩
theorem s_AreDevices (a : Option Addr) (n cap : Nat) (L : List Sg) (A : Option Addr) (m capF : Nat) (F : List Int) (w : World) (hs : Sgs w a n L) (hf : Sl w A m F) :
    Calls Try.prog 31 #[.agg #[.slice a n cap], .slice A m capF] w fun e w' => e = .returned (.bool (areB L F)) ∧ Later w w' := by
  have HS := Lib.hid hs; have HF := Lib.hid hf
  clear hs hf
  cases hv : layB L
  · have HT : Hid (areB L F = false) := Lib.hid (by unfold areB; rw [hv]; rfl)
    go_enter Try.func31, Try.ntmps31
    go_wp2_with (go_at_call 78; refine (s_IsLayout a n cap L _ (HS.out.later ((Later.refl _).alloc _))).mono ?_; rintro e w1 ⟨rfl, hb⟩; obtain ⟨H, hcc, hff, hzz⟩ := later_facts hb; clear hb; (try simp at hzz); (try simp only [World.heap_drewN, World.cell?_drewN, World.frozen?_drewN] at hcc hff))
    go_ret
    exact ⟨ret_b (by rw [HT.out]), (by repeat (first | (with_reducible exact Later.refl _) | (with_reducible exact Hid.out (by assumption)) | (with_reducible refine Later.alloc ?_ _) | (with_reducible refine Later.setCell ?_ (by simp; omega) _) | (with_reducible refine Later.setCell ?_ (by simp) _) | (with_reducible refine Later.drewN ?_ _) | (with_reducible refine Later.drew ?_) | (with_reducible refine Later.trans ?_ (Hid.out (by assumption)))))⟩
  · have HT : Hid (areB L F = dvB L F) := Lib.hid (by unfold areB; rw [hv]; rfl)
    go_enter Try.func31, Try.ntmps31
    go_wp2_with (first
      | (go_at_call 78; refine (s_IsLayout a n cap L _ (HS.out.later ((Later.refl _).alloc _))).mono ?_; rintro e w1 ⟨rfl, hb⟩; obtain ⟨H, hcc, hff, hzz⟩ := later_facts hb; clear hb; (try simp at hzz); (try simp only [World.heap_drewN, World.cell?_drewN, World.frozen?_drewN] at hcc hff))
      | (go_at_call 79; refine (s_l08Devices a n cap L A m capF F _ (HS.out.later (by repeat (first | (with_reducible exact Later.refl _) | (with_reducible exact Hid.out (by assumption)) | (with_reducible refine Later.alloc ?_ _) | (with_reducible refine Later.setCell ?_ (by simp; omega) _) | (with_reducible refine Later.setCell ?_ (by simp) _) | (with_reducible refine Later.drewN ?_ _) | (with_reducible refine Later.drew ?_) | (with_reducible refine Later.trans ?_ (Hid.out (by assumption)))))) (HF.out.later (by repeat (first | (with_reducible exact Later.refl _) | (with_reducible exact Hid.out (by assumption)) | (with_reducible refine Later.alloc ?_ _) | (with_reducible refine Later.setCell ?_ (by simp; omega) _) | (with_reducible refine Later.setCell ?_ (by simp) _) | (with_reducible refine Later.drewN ?_ _) | (with_reducible refine Later.drew ?_) | (with_reducible refine Later.trans ?_ (Hid.out (by assumption))))))).mono ?_; rintro e w2 ⟨rfl, hb⟩; have H2 := Lib.hid hb; clear hb))
    go_ret
    exact ⟨ret_b (by rw [HT.out]), (by repeat (first | (with_reducible exact Later.refl _) | (with_reducible exact Hid.out (by assumption)) | (with_reducible refine Later.alloc ?_ _) | (with_reducible refine Later.setCell ?_ (by simp; omega) _) | (with_reducible refine Later.setCell ?_ (by simp) _) | (with_reducible refine Later.drewN ?_ _) | (with_reducible refine Later.drew ?_) | (with_reducible refine Later.trans ?_ (Hid.out (by assumption)))))⟩
end Go.Proofs.Ytdhoiiejcmnmbaa
