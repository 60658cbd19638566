/- Contracts of chapter 5: separate trains: the program's function. -/
import Derived.Test.YtehinlecppbjeaaOcR
namespace Go.Proofs.Ytehinlecppbjeaa
open Go.RowKit
set_option maxHeartbeats 2000000
set_option linter.unusedVariables false
set_option linter.unusedSimpArgs false
theorem sepB_l {L : List Sg} {F : List Int} {q : Int} (hv : layB L = false) : sepB L F q = false := by unfold sepB; rw [hv]; rfl
theorem sepB_4 {L : List Sg} {F : List Int} {q : Int} (h : 4 < F.length) : sepB L F q = false := by
  unfold sepB
  have : decide (F.length ≤ 4) = false := by simp; omega
  rw [this]; simp
theorem sepB_t {L : List Sg} {F : List Int} {q : Int} (h : trsB (totL L) q F = false) : sepB L F q = false := by unfold sepB; rw [h]; simp
theorem sepB_k {L : List Sg} {F : List Int} {q : Int} (hv : layB L = true) (h : F.length ≤ 4) (ht : trsB (totL L) q F = true) : sepB L F q = sepK (totL L) q F F.length := by
  unfold sepB; rw [hv, ht]; simp [h]
set_option maxRecDepth 100000 in
theorem i_AreSeparate (a : Option Addr) (n cap : Nat) (L : List Sg) (A : Option Addr) (m capF : Nat) (F : List Int) (q : Int) (w : World) (hs : Sgs w a n L) (hf : Sl w A m F) (hcF : m ≤ capF) :
    Calls Try.prog 30 #[.agg #[.slice a n cap], .slice A m capF, .int .i64 q] w fun e w' => e = .returned (.bool (sepB L F q)) ∧ Later w w' := by
  have HS := Lib.hid hs
  have HF := Lib.hid hf
  have HM := Lib.hid hf.1
  have hm := hf.2.1
  clear hs hf
  cases hv : layB L
  · have HT := Lib.hid (sepB_l (F := F) (q := q) hv)
    go_enter Try.func30, Try.ntmps30
    go_wp2_with (go_at_call 32; refine (i_TL_no a n cap L _ (HS.out.later ((Later.refl _).alloc _)) hv).mono ?_; rintro e w1 ⟨rfl, hb⟩; obtain ⟨H, hcc, hff, hzz⟩ := later_facts hb; clear hb; (try simp at hzz); (try simp only [World.heap_drewN, World.cell?_drewN, World.frozen?_drewN] at hcc hff))
    go_ret
    exact ⟨ret_b (by rw [HT.out]), (by repeat (first | (with_reducible exact Later.refl _) | (with_reducible exact Hid.out (by assumption)) | (with_reducible refine Later.alloc ?_ _) | (with_reducible refine Later.setCell ?_ (by simp; omega) _) | (with_reducible refine Later.setCell ?_ (by simp) _) | (with_reducible refine Later.drewN ?_ _) | (with_reducible refine Later.drew ?_) | (with_reducible refine Later.trans ?_ (Hid.out (by assumption)))))⟩
  obtain ⟨t1, t2⟩ := tot_bd hv
  by_cases h4 : 4 < m
  · have HT := Lib.hid (sepB_4 (L := L) (F := F) (q := q) (by rw [HM.out]; exact h4))
    go_enter Try.func30, Try.ntmps30
    go_wp2_with (go_at_call 32; refine (i_TL_ok a n cap L _ (HS.out.later ((Later.refl _).alloc _)) hv).mono ?_; rintro e w1 ⟨rfl, hb⟩; obtain ⟨H, hcc, hff, hzz⟩ := later_facts hb; clear hb; (try simp at hzz); (try simp only [World.heap_drewN, World.cell?_drewN, World.frozen?_drewN] at hcc hff))
    go_ret
    exact ⟨ret_b (by rw [HT.out]), (by repeat (first | (with_reducible exact Later.refl _) | (with_reducible exact Hid.out (by assumption)) | (with_reducible refine Later.alloc ?_ _) | (with_reducible refine Later.setCell ?_ (by simp; omega) _) | (with_reducible refine Later.setCell ?_ (by simp) _) | (with_reducible refine Later.drewN ?_ _) | (with_reducible refine Later.drew ?_) | (with_reducible refine Later.trans ?_ (Hid.out (by assumption)))))⟩
  have h4' : m ≤ 4 := by omega
  cases hc : trsB (totL L) q F
  · have HT := Lib.hid (sepB_t (L := L) (F := F) (q := q) hc)
    go_enter Try.func30, Try.ntmps30
    go_wp2_with (first
      | (go_at_call 32; refine (i_TL_ok a n cap L _ (HS.out.later ((Later.refl _).alloc _)) hv).mono ?_; rintro e w1 ⟨rfl, hb⟩; obtain ⟨H, hcc, hff, hzz⟩ := later_facts hb; clear hb; (try simp at hzz); (try simp only [World.heap_drewN, World.cell?_drewN, World.frozen?_drewN] at hcc hff))
      | (go_at_call 75; refine (i_areTrains (totL L) q A m capF F _ (sl_lat HF.out (by repeat (first | (with_reducible exact Later.refl _) | (with_reducible exact Hid.out (by assumption)) | (with_reducible refine Later.alloc ?_ _) | (with_reducible refine Later.setCell ?_ (by simp; omega) _) | (with_reducible refine Later.setCell ?_ (by simp) _) | (with_reducible refine Later.drewN ?_ _) | (with_reducible refine Later.drew ?_) | (with_reducible refine Later.trans ?_ (Hid.out (by assumption))))))).mono ?_; rw [hc]; rintro e w' ⟨rfl, rfl⟩))
    go_ret
    exact ⟨ret_b (by rw [HT.out]), (by repeat (first | (with_reducible exact Later.refl _) | (with_reducible exact Hid.out (by assumption)) | (with_reducible refine Later.alloc ?_ _) | (with_reducible refine Later.setCell ?_ (by simp; omega) _) | (with_reducible refine Later.setCell ?_ (by simp) _) | (with_reducible refine Later.drewN ?_ _) | (with_reducible refine Later.drew ?_) | (with_reducible refine Later.trans ?_ (Hid.out (by assumption)))))⟩
  · have HT := Lib.hid (sepB_k (L := L) (F := F) (q := q) hv (by rw [HM.out]; exact h4') hc)
    have hx := hc
    unfold trsB at hx
    rw [Bool.and_eq_true] at hx
    have HA := Lib.hid hx.2
    clear hx
    go_enter Try.func30, Try.ntmps30
    go_wp2_with (first
      | (go_at_call 32; refine (i_TL_ok a n cap L _ (HS.out.later ((Later.refl _).alloc _)) hv).mono ?_; rintro e w1 ⟨rfl, hb⟩; obtain ⟨H, hcc, hff, hzz⟩ := later_facts hb; clear hb; (try simp at hzz); (try simp only [World.heap_drewN, World.cell?_drewN, World.frozen?_drewN] at hcc hff))
      | (go_at_call 75; refine (i_areTrains (totL L) q A m capF F _ (sl_lat HF.out (by repeat (first | (with_reducible exact Later.refl _) | (with_reducible exact Hid.out (by assumption)) | (with_reducible refine Later.alloc ?_ _) | (with_reducible refine Later.setCell ?_ (by simp; omega) _) | (with_reducible refine Later.setCell ?_ (by simp) _) | (with_reducible refine Later.drewN ?_ _) | (with_reducible refine Later.drew ?_) | (with_reducible refine Later.trans ?_ (Hid.out (by assumption))))))).mono ?_; rw [hc]; rintro e w' ⟨rfl, rfl⟩))
    have HW : Hid (Later w w1) := Lib.hid (by repeat (first | (with_reducible exact Later.refl _) | (with_reducible exact Hid.out (by assumption)) | (with_reducible refine Later.alloc ?_ _) | (with_reducible refine Later.setCell ?_ (by simp; omega) _) | (with_reducible refine Later.setCell ?_ (by simp) _) | (with_reducible refine Later.drewN ?_ _) | (with_reducible refine Later.drew ?_) | (with_reducible refine Later.trans ?_ (Hid.out (by assumption)))))
    clear hcc hff hzz
    go_loop [34] (fun i => ∃ k : Nat, k ≤ m ∧ i = .int .i64 k ∧ sepK (totL L) q F k = true) (fun i => m - (intOf i).toNat)
    case atStart => exact ⟨0, by omega, rfl, sepK_0 _ _ _⟩
    case round =>
      obtain ⟨k, hk, rfl, hok⟩ := hrel
      have HO := Lib.hid hok
      clear hok
      by_cases hlt : k < m
      · obtain ⟨b, off, rfl, hc'⟩ := (sl_lat HF.out HW.out).at k hlt
        obtain ⟨x1, x2⟩ := allP_at HA.out k (by rw [HM.out]; exact hlt)
        go_wp2_with fail
        clear hc'
        go_loop [43] (fun i => ∃ j : Nat, j ≤ k ∧ i = .int .i64 j ∧ sepJ (totL L) q F k j = true) (fun i => k - (intOf i).toNat)
        case atStart => exact ⟨0, by omega, rfl, sepJ_0 _ _ _ _⟩
        case round =>
          obtain ⟨j, hj, rfl, hok⟩ := hrel
          have HJ := Lib.hid hok
          clear hok
          by_cases hlt2 : j < k
          · obtain ⟨b', off', hbb, hcj⟩ := (sl_lat HF.out HW.out).at j (by omega)
            simp only [Option.some.injEq, Addr.mk.injEq, and_true] at hbb
            obtain ⟨rfl, rfl⟩ := hbb
            obtain ⟨y1, y2⟩ := allP_at HA.out j (by rw [HM.out]; omega)
            cases hp : apB (totL L) (gx F k) (gx F j) q
            · have HN := Lib.hid (sepK_no (m := F.length) (by rw [HM.out]; exact hlt) hlt2 hp)
              go_wp2_with (go_at_call 80; refine (i_isApart (totL L) (gx F k) (gx F j) q _ (by omega) t2 x1 x2 y1 y2).mono ?_; rw [hp]; rintro e w' ⟨rfl, rfl⟩)
              go_ret
              exact ⟨ret_b (by rw [HT.out, HN.out]), HW.out⟩
            · have HN : Hid (sepJ (totL L) q F k (j + 1) = true) := Lib.hid (by rw [sepJ_succ, HJ.out, hp]; rfl)
              go_wp2_with (go_at_call 80; refine (i_isApart (totL L) (gx F k) (gx F j) q _ (by omega) t2 x1 x2 y1 y2).mono ?_; rw [hp]; rintro e w' ⟨rfl, rfl⟩)
              go_round
              case rel => exact ⟨j + 1, by omega, by go_num, HN.out⟩
              case measure => simp [intOf]; omega
          · obtain rfl : j = k := by omega
            have HN : Hid (sepK (totL L) q F (j + 1) = true) := Lib.hid (by rw [sepK_succ, HO.out, HJ.out]; rfl)
            go_wp2
            go_round
            case rel => exact ⟨j + 1, by omega, by go_num, HN.out⟩
            case measure => simp [intOf]; omega
      · obtain rfl : k = m := by omega
        have HN : Hid (sepK (totL L) q F F.length = true) := Lib.hid (by rw [HM.out]; exact HO.out)
        go_wp2
        go_ret
        exact ⟨ret_b (by rw [HT.out, HN.out]), HW.out⟩
end Go.Proofs.Ytehinlecppbjeaa
