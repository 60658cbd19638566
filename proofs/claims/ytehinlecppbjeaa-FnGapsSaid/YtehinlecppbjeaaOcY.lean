/- Contracts of chapter 5: separate trains: the model's function. -/
import Derived.Test.YtehinlecppbjeaaOcV
import Derived.Test.YtehinlecppbjeaaOcS
namespace Go.Proofs.Ytehinlecppbjeaa
open Go.RowKit
set_option maxHeartbeats 4000000
set_option linter.unusedVariables false
set_option linter.unusedSimpArgs false
set_option maxRecDepth 100000 in
theorem s_AreSeparate (a : Option Addr) (n cap : Nat) (L : List Sg) (A : Option Addr) (m capF : Nat) (F : List Int) (q : Int) (w : World) (hs : Sgs w a n L) (hf : Sl w A m F) :
    Calls Try.prog 31 #[.agg #[.slice a n cap], .slice A m capF, .int .i64 q] w fun e w' => e = .returned (.bool (sepB L F q)) ∧ Later w w' := by
  have HS := Lib.hid hs; have HL := Lib.hid hs.1
  have HF := Lib.hid hf; have HM := Lib.hid hf.1
  have hm := hf.2.1
  clear hs hf
  have KB : Hid (∀ W', Later (w.alloc (.cells #[.slice a n cap] 26)) W' → W'.cell? ⟨w.heap.size, 0, none⟩ = some (.slice a n cap)) := Lib.hid (fun W' k => by rw [k.cell (p := ⟨w.heap.size, 0, none⟩) (by simp)]; simp)
  cases hv : layB L
  · have HT := Lib.hid (sepB_l (F := F) (q := q) hv)
    go_enter Try.func31, Try.ntmps31
    go_wp2_with (go_at_call 84; refine (s_IsLayout a n cap L _ (HS.out.later (by repeat (first | (with_reducible exact Later.refl _) | (with_reducible exact Hid.out (by assumption)) | (with_reducible refine Later.alloc ?_ _) | (with_reducible refine Later.setCell ?_ (by simp; omega) _) | (with_reducible refine Later.setCell ?_ (by simp) _) | (with_reducible refine Later.drewN ?_ _) | (with_reducible refine Later.drew ?_) | (with_reducible refine Later.trans ?_ (Hid.out (by assumption))))))).mono ?_; rw [hv]; rintro e w1 ⟨rfl, hb⟩; have H1 := Lib.hid hb; clear hb)
    go_ret
    exact ⟨ret_b (by rw [HT.out]), (by repeat (first | (with_reducible exact Later.refl _) | (with_reducible exact Hid.out (by assumption)) | (with_reducible refine Later.alloc ?_ _) | (with_reducible refine Later.setCell ?_ (by simp; omega) _) | (with_reducible refine Later.setCell ?_ (by simp) _) | (with_reducible refine Later.drewN ?_ _) | (with_reducible refine Later.drew ?_) | (with_reducible refine Later.trans ?_ (Hid.out (by assumption)))))⟩
  have HO := Lib.hid ((layB_iff L).1 hv).2.2.1
  have h24 := ((layB_iff L).1 hv).2.1
  rw [HL.out] at h24
  obtain ⟨t1, t2⟩ := tot_bd hv
  have HV := Lib.hid hv
  by_cases h4 : 4 < m
  · have HT := Lib.hid (sepB_4 (L := L) (F := F) (q := q) (by rw [HM.out]; exact h4))
    go_enter Try.func31, Try.ntmps31
    go_wp2_with (go_at_call 84; refine (s_IsLayout a n cap L _ (HS.out.later (by repeat (first | (with_reducible exact Later.refl _) | (with_reducible exact Hid.out (by assumption)) | (with_reducible refine Later.alloc ?_ _) | (with_reducible refine Later.setCell ?_ (by simp; omega) _) | (with_reducible refine Later.setCell ?_ (by simp) _) | (with_reducible refine Later.drewN ?_ _) | (with_reducible refine Later.drew ?_) | (with_reducible refine Later.trans ?_ (Hid.out (by assumption))))))).mono ?_; rw [hv]; rintro e w1 ⟨rfl, hb⟩; have H1 := Lib.hid hb; have c1 := KB.out w1 hb; clear hb)
    go_ret
    exact ⟨ret_b (by rw [HT.out]), (by repeat (first | (with_reducible exact Later.refl _) | (with_reducible exact Hid.out (by assumption)) | (with_reducible refine Later.alloc ?_ _) | (with_reducible refine Later.setCell ?_ (by simp; omega) _) | (with_reducible refine Later.setCell ?_ (by simp) _) | (with_reducible refine Later.drewN ?_ _) | (with_reducible refine Later.drew ?_) | (with_reducible refine Later.trans ?_ (Hid.out (by assumption)))))⟩
  have h4' : m ≤ 4 := by omega
  cases hc : trsB (totL L) q F
  · have HT := Lib.hid (sepB_t (L := L) (F := F) (q := q) hc)
    go_enter Try.func31, Try.ntmps31
    go_wp2_with (first
      | (go_at_call 84; refine (s_IsLayout a n cap L _ (HS.out.later (by repeat (first | (with_reducible exact Later.refl _) | (with_reducible exact Hid.out (by assumption)) | (with_reducible refine Later.alloc ?_ _) | (with_reducible refine Later.setCell ?_ (by simp; omega) _) | (with_reducible refine Later.setCell ?_ (by simp) _) | (with_reducible refine Later.drewN ?_ _) | (with_reducible refine Later.drew ?_) | (with_reducible refine Later.trans ?_ (Hid.out (by assumption))))))).mono ?_; rw [hv]; rintro e w1 ⟨rfl, hb⟩; have H1 := Lib.hid hb; have c1 := KB.out w1 hb; clear hb)
      | (go_at_call 85; refine (s_l05Fronts a n cap L A m capF F q _ (HS.out.later (by repeat (first | (with_reducible exact Later.refl _) | (with_reducible exact Hid.out (by assumption)) | (with_reducible refine Later.alloc ?_ _) | (with_reducible refine Later.setCell ?_ (by simp; omega) _) | (with_reducible refine Later.setCell ?_ (by simp) _) | (with_reducible refine Later.drewN ?_ _) | (with_reducible refine Later.drew ?_) | (with_reducible refine Later.trans ?_ (Hid.out (by assumption)))))) (sl_lat HF.out (by repeat (first | (with_reducible exact Later.refl _) | (with_reducible exact Hid.out (by assumption)) | (with_reducible refine Later.alloc ?_ _) | (with_reducible refine Later.setCell ?_ (by simp; omega) _) | (with_reducible refine Later.setCell ?_ (by simp) _) | (with_reducible refine Later.drewN ?_ _) | (with_reducible refine Later.drew ?_) | (with_reducible refine Later.trans ?_ (Hid.out (by assumption)))))) HV.out).mono ?_; rw [hc]; rintro e w2 ⟨rfl, hb⟩; have H2 := Lib.hid hb; clear hb))
    go_ret
    exact ⟨ret_b (by rw [HT.out]), (by repeat (first | (with_reducible exact Later.refl _) | (with_reducible exact Hid.out (by assumption)) | (with_reducible refine Later.alloc ?_ _) | (with_reducible refine Later.setCell ?_ (by simp; omega) _) | (with_reducible refine Later.setCell ?_ (by simp) _) | (with_reducible refine Later.drewN ?_ _) | (with_reducible refine Later.drew ?_) | (with_reducible refine Later.trans ?_ (Hid.out (by assumption)))))⟩
  · have HT := Lib.hid (sepB_k (L := L) (F := F) (q := q) hv (by rw [HM.out]; exact h4') hc)
    have hx := hc
    unfold trsB at hx
    rw [Bool.and_eq_true] at hx
    have HA := Lib.hid hx.2
    clear hx
    go_enter Try.func31, Try.ntmps31
    go_wp2_with (first
      | (go_at_call 84; refine (s_IsLayout a n cap L _ (HS.out.later (by repeat (first | (with_reducible exact Later.refl _) | (with_reducible exact Hid.out (by assumption)) | (with_reducible refine Later.alloc ?_ _) | (with_reducible refine Later.setCell ?_ (by simp; omega) _) | (with_reducible refine Later.setCell ?_ (by simp) _) | (with_reducible refine Later.drewN ?_ _) | (with_reducible refine Later.drew ?_) | (with_reducible refine Later.trans ?_ (Hid.out (by assumption))))))).mono ?_; rw [hv]; rintro e w1 ⟨rfl, hb⟩; have H1 := Lib.hid hb; have c1 := KB.out w1 hb; clear hb)
      | (go_at_call 85; refine (s_l05Fronts a n cap L A m capF F q _ (HS.out.later (by repeat (first | (with_reducible exact Later.refl _) | (with_reducible exact Hid.out (by assumption)) | (with_reducible refine Later.alloc ?_ _) | (with_reducible refine Later.setCell ?_ (by simp; omega) _) | (with_reducible refine Later.setCell ?_ (by simp) _) | (with_reducible refine Later.drewN ?_ _) | (with_reducible refine Later.drew ?_) | (with_reducible refine Later.trans ?_ (Hid.out (by assumption)))))) (sl_lat HF.out (by repeat (first | (with_reducible exact Later.refl _) | (with_reducible exact Hid.out (by assumption)) | (with_reducible refine Later.alloc ?_ _) | (with_reducible refine Later.setCell ?_ (by simp; omega) _) | (with_reducible refine Later.setCell ?_ (by simp) _) | (with_reducible refine Later.drewN ?_ _) | (with_reducible refine Later.drew ?_) | (with_reducible refine Later.trans ?_ (Hid.out (by assumption)))))) HV.out).mono ?_; rw [hc]; rintro e w2 ⟨rfl, hb⟩; have H2 := Lib.hid hb; clear hb))
    have HB : Hid (Later (w.alloc (.cells #[.slice a n cap] 26)) w2) := Lib.hid (H1.out.trans H2.out)
    clear c1 hv
    go_loopw [7] (fun i wr => ∃ k : Nat, k ≤ m ∧ i = .int .i64 k ∧ sepK (totL L) q F k = true ∧ Later (w.alloc (.cells #[.slice a n cap] 26)) wr) (fun i _ => m - (intOf i).toNat)
    case atStart => exact ⟨0, by omega, rfl, sepK_0 _ _ _, HB.out⟩
    case round =>
      obtain ⟨k, hk, rfl, hok, hlw⟩ := hrel
      have HK := Lib.hid hok
      have HW1 := Lib.hid hlw
      have HW : Hid (Later w wr) := Lib.hid (((Later.refl _).alloc _).trans hlw)
      clear hok hlw
      by_cases hlt : k < m
      · obtain ⟨x1, x2⟩ := allP_at HA.out k (by rw [HM.out]; exact hlt)
        go_wp2_with fail
        go_loopw [8] (fun i wi => ∃ j : Nat, j ≤ k ∧ i = .int .i64 j ∧ sepJ (totL L) q F k j = true ∧ Later wr wi) (fun i _ => k - (intOf i).toNat)
        case atStart => exact ⟨0, by omega, rfl, sepJ_0 _ _ _ _, Later.refl _⟩
        case round =>
          obtain ⟨wi, rfl⟩ : ∃ wi, wi = wr := ⟨_, rfl⟩
          obtain ⟨j, hj, rfl, hok, hlw⟩ := hrel
          have HJ := Lib.hid hok
          have HI := Lib.hid hlw
          have HI1 : Hid (Later (w.alloc (.cells #[.slice a n cap] 26)) wi) := Lib.hid (HW1.out.trans hlw)
          have HI0 : Hid (Later w wi) := Lib.hid (HW.out.trans hlw)
          clear hok hlw
          by_cases hlt2 : j < k
          · obtain ⟨b, off, rfl, hc1⟩ := (sl_lat HF.out HI0.out).at k hlt
            obtain ⟨b', off', hbb, hc2⟩ := (sl_lat HF.out HI0.out).at j (by omega)
            simp only [Option.some.injEq, Addr.mk.injEq, and_true] at hbb
            obtain ⟨rfl, rfl⟩ := hbb
            obtain ⟨y1, y2⟩ := allP_at HA.out j (by rw [HM.out]; omega)
            have hb1 := cell_lt hc1
            have hjm : j < m := by omega
            have cb := KB.out _ HI1.out
            have KK : Hid (∀ W', Later wi W' → W'.cell? ⟨w.heap.size, 0, none⟩ = some (.slice a n cap) ∧ W'.cell? ⟨b, off + k, none⟩ = some (.int .i64 (gx F k)) ∧ W'.cell? ⟨b, off + j, none⟩ = some (.int .i64 (gx F j))) := Lib.hid (fun W' h => ⟨KB.out W' (HI1.out.trans h), by rw [h.cell (p := ⟨b, off + k, none⟩) hb1]; exact hc1, by rw [h.cell (p := ⟨b, off + j, none⟩) hb1]; exact hc2⟩)
            cases hp : apB (totL L) (gx F k) (gx F j) q
            · have HN := Lib.hid (sepK_no (m := F.length) (by rw [HM.out]; exact hlt) hlt2 hp)
              go_wp2_with fail
              go_region_held3 (fun w' => w'.cell? ⟨w.heap.size, 0, none⟩ = some (.slice a n cap) ∧ w'.cell? ⟨b, off + k, none⟩ = some (.int .i64 (gx F k)) ∧ w'.cell? ⟨b, off + j, none⟩ = some (.int .i64 (gx F j))) (exact KK.out _ (by repeat (first | (with_reducible exact Later.refl _) | (with_reducible exact Hid.out (by assumption)) | (with_reducible refine Later.alloc ?_ _) | (with_reducible refine Later.setCell ?_ (by simp; omega) _) | (with_reducible refine Later.setCell ?_ (by simp) _) | (with_reducible refine Later.drewN ?_ _) | (with_reducible refine Later.drew ?_) | (with_reducible refine Later.trans ?_ (Hid.out (by assumption))))))
                (first
                  | (go_at_call 73; refine (s_Total a n cap L _ (HS.out.later (by repeat (first | (with_reducible exact Later.refl _) | (with_reducible exact Hid.out (by assumption)) | (with_reducible refine Later.alloc ?_ _) | (with_reducible refine Later.setCell ?_ (by simp; omega) _) | (with_reducible refine Later.setCell ?_ (by simp) _) | (with_reducible refine Later.drewN ?_ _) | (with_reducible refine Later.drew ?_) | (with_reducible refine Later.trans ?_ (Hid.out (by assumption)))))) HO.out h24).mono ?_; rintro e w4 ⟨rfl, hb⟩; have H4 := Lib.hid hb; clear hb)
                  | (go_at_call 82; refine (s_l05Apart (totL L) (gx F k) (gx F j) q _ (by omega) t2 x1 x2 y1 y2).mono ?_; rw [hp]; rintro e w' ⟨rfl, rfl⟩))
              all_goals
                go_wp2_with fail
                go_ret
                exact ⟨ret_b (by rw [HT.out, HN.out]), (by repeat (first | (with_reducible exact Later.refl _) | (with_reducible exact Hid.out (by assumption)) | (with_reducible refine Later.alloc ?_ _) | (with_reducible refine Later.setCell ?_ (by simp; omega) _) | (with_reducible refine Later.setCell ?_ (by simp) _) | (with_reducible refine Later.drewN ?_ _) | (with_reducible refine Later.drew ?_) | (with_reducible refine Later.trans ?_ (Hid.out (by assumption)))))⟩
            · have HN : Hid (sepJ (totL L) q F k (j + 1) = true) := Lib.hid (by rw [sepJ_succ, HJ.out, hp]; rfl)
              go_wp2_with fail
              go_region_held3 (fun w' => w'.cell? ⟨w.heap.size, 0, none⟩ = some (.slice a n cap) ∧ w'.cell? ⟨b, off + k, none⟩ = some (.int .i64 (gx F k)) ∧ w'.cell? ⟨b, off + j, none⟩ = some (.int .i64 (gx F j))) (exact KK.out _ (by repeat (first | (with_reducible exact Later.refl _) | (with_reducible exact Hid.out (by assumption)) | (with_reducible refine Later.alloc ?_ _) | (with_reducible refine Later.setCell ?_ (by simp; omega) _) | (with_reducible refine Later.setCell ?_ (by simp) _) | (with_reducible refine Later.drewN ?_ _) | (with_reducible refine Later.drew ?_) | (with_reducible refine Later.trans ?_ (Hid.out (by assumption))))))
                (first
                  | (go_at_call 73; refine (s_Total a n cap L _ (HS.out.later (by repeat (first | (with_reducible exact Later.refl _) | (with_reducible exact Hid.out (by assumption)) | (with_reducible refine Later.alloc ?_ _) | (with_reducible refine Later.setCell ?_ (by simp; omega) _) | (with_reducible refine Later.setCell ?_ (by simp) _) | (with_reducible refine Later.drewN ?_ _) | (with_reducible refine Later.drew ?_) | (with_reducible refine Later.trans ?_ (Hid.out (by assumption)))))) HO.out h24).mono ?_; rintro e w4 ⟨rfl, hb⟩; have H4 := Lib.hid hb; clear hb)
                  | (go_at_call 82; refine (s_l05Apart (totL L) (gx F k) (gx F j) q _ (by omega) t2 x1 x2 y1 y2).mono ?_; rw [hp]; rintro e w' ⟨rfl, rfl⟩))
              all_goals
                go_wp2_with fail
                go_roundw
                case rel => exact ⟨j + 1, by omega, by go_num, HN.out, (by repeat (first | (with_reducible exact Later.refl _) | (with_reducible exact Hid.out (by assumption)) | (with_reducible refine Later.alloc ?_ _) | (with_reducible refine Later.setCell ?_ (by simp; omega) _) | (with_reducible refine Later.setCell ?_ (by simp) _) | (with_reducible refine Later.drewN ?_ _) | (with_reducible refine Later.drew ?_) | (with_reducible refine Later.trans ?_ (Hid.out (by assumption)))))⟩
                case measure => simp [intOf]; omega
          · obtain rfl : j = k := by omega
            have HN : Hid (sepK (totL L) q F (j + 1) = true) := Lib.hid (by rw [sepK_succ, HK.out, HJ.out]; rfl)
            go_wp2
            go_roundw
            case rel => exact ⟨j + 1, by omega, by go_num, HN.out, HI1.out⟩
            case measure => simp [intOf]; omega
      · obtain rfl : k = m := by omega
        have HN : Hid (sepK (totL L) q F F.length = true) := Lib.hid (by rw [HM.out]; exact HK.out)
        go_wp2
        go_ret
        exact ⟨ret_b (by rw [HT.out, HN.out]), HW.out⟩
end Go.Proofs.Ytehinlecppbjeaa
