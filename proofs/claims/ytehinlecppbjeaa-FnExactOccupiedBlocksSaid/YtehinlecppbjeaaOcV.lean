/- Contracts of chapter 5: gaps, separate trains, sensors: the model's functions. -/
import Derived.Test.YtehinlecppbjeaaOcU
import Derived.Test.YtehinlecppbjeaaOcR
import Derived.Test.YtehinlecppbjeaaList
import Derived.Test.YtehinlecppbjeaaHeld
import Derived.BigQuiet
import Derived.Deep.QuietTactic
namespace Go.Proofs.Ytehinlecppbjeaa
open Go.RowKit
set_option maxHeartbeats 4000000
set_option linter.unusedVariables false
set_option linter.unusedSimpArgs false
theorem tr_cases (L : List Sg) (x y q : Int) : (trE L x q = 1 ∧ trE L y q = 1 ∧ gapE L x y q = 1) ∨ (trE L x q = 2 ∧ trE L y q = 2 ∧ gapE L x y q = 2) ∨ (trE L x q = 2 ∧ trE L y q = 0 ∧ gapE L x y q = 2) ∨ (trE L x q = 0 ∧ trE L y q = 2 ∧ gapE L x y q = 2) ∨ (trE L x q = 0 ∧ trE L y q = 0) := by
  cases hv : layB L
  · left
    exact ⟨trE_bad hv, trE_bad hv, by unfold gapE; rw [trE_bad hv]; simp⟩
  · right
    unfold gapE trE
    rw [if_pos hv, if_pos hv]
    cases trsB (totL L) q [x] <;> cases trsB (totL L) q [y] <;> simp
set_option maxRecDepth 100000 in
theorem s_GapAhead (a : Option Addr) (n cap : Nat) (L : List Sg) (x y q : Int) (w : World) (hs : Sgs w a n L) :
    Calls Try.prog 28 #[.agg #[.slice a n cap], .int .i64 x, .int .i64 y, .int .i64 q] w fun e w' => e = .returned (.tuple #[.int .i64 (gapV L x y q), .int .i64 (gapE L x y q)]) ∧ Later w w' := by
  have HS := Lib.hid hs
  have HL := Lib.hid hs.1
  clear hs
  have KB : Hid (∀ W', Later (w.alloc (.cells #[.slice a n cap] 26)) W' → W'.cell? ⟨w.heap.size, 0, none⟩ = some (.slice a n cap)) := Lib.hid (fun W' k => by rw [k.cell (p := ⟨w.heap.size, 0, none⟩) (by simp)]; simp)
  rcases tr_cases L x y q with ⟨e1, e2, e3⟩ | ⟨e1, e2, e3⟩ | ⟨e1, e2, e3⟩ | ⟨e1, e2, e3⟩ | ⟨e1, e2⟩
  iterate 4
    · have HX := Lib.hid e1; have HY := Lib.hid e2
      have HT : Hid (gapV L x y q = 0 ∧ gapE L x y q = gapE L x y q) := Lib.hid ⟨by unfold gapV; rw [e3]; simp, rfl⟩
      have HE := Lib.hid e3
      clear e1 e2 e3
      go_enter Try.func28, Try.ntmps28
      go_wp2_with fail
      go_region_held3 (fun w' => w'.cell? ⟨w.heap.size, 0, none⟩ = some (.slice a n cap)) (exact KB.out _ (by repeat (first | (with_reducible exact Later.refl _) | (with_reducible exact Hid.out (by assumption)) | (with_reducible refine Later.alloc ?_ _) | (with_reducible refine Later.setCell ?_ (by simp; omega) _) | (with_reducible refine Later.setCell ?_ (by simp) _) | (with_reducible refine Later.drewN ?_ _) | (with_reducible refine Later.drew ?_) | (with_reducible refine Later.trans ?_ (Hid.out (by assumption))))))
        (first | (go_at_call 77; refine (s_l05Train a n cap L _ q _ (HS.out.later (by repeat (first | (with_reducible exact Later.refl _) | (with_reducible exact Hid.out (by assumption)) | (with_reducible refine Later.alloc ?_ _) | (with_reducible refine Later.setCell ?_ (by simp; omega) _) | (with_reducible refine Later.setCell ?_ (by simp) _) | (with_reducible refine Later.drewN ?_ _) | (with_reducible refine Later.drew ?_) | (with_reducible refine Later.trans ?_ (Hid.out (by assumption))))))).mono ?_; (first | rw [HX.out] | rw [HY.out]); rintro e w1 ⟨rfl, hb⟩; have H1 := Lib.hid hb; clear hb))
      all_goals
        go_wp2_with fail
        go_ret2
        exact ⟨ret_2i (by rw [HT.out.1]) (by rw [HE.out]), (by repeat (first | (with_reducible exact Later.refl _) | (with_reducible exact Hid.out (by assumption)) | (with_reducible refine Later.alloc ?_ _) | (with_reducible refine Later.setCell ?_ (by simp; omega) _) | (with_reducible refine Later.setCell ?_ (by simp) _) | (with_reducible refine Later.drewN ?_ _) | (with_reducible refine Later.drew ?_) | (with_reducible refine Later.trans ?_ (Hid.out (by assumption)))))⟩
  · obtain ⟨hv, hn, hp⟩ := trE_ok e1
    obtain ⟨_, _, hp'⟩ := trE_ok e2
    have HX := Lib.hid e1; have HY := Lib.hid e2
    have HO := Lib.hid ((layB_iff L).1 hv).2.2.1
    have h24 := ((layB_iff L).1 hv).2.1
    rw [HL.out] at h24
    obtain ⟨t1, t2⟩ := tot_bd hv
    rw [isN_iff] at hn
    rw [isP_iff] at hp hp'
    obtain ⟨q1, q2, q3⟩ := hn
    obtain ⟨x1, x2⟩ := hp
    obtain ⟨y1, y2⟩ := hp'
    cases ha : apB (totL L) x y q
    · have HT : Hid (gapV L x y q = 0 ∧ gapE L x y q = 5) := Lib.hid (by
        have : gapE L x y q = 5 := by unfold gapE; rw [e1, e2, ha]; simp
        unfold gapV; rw [this]; simp)
      clear hv e1 e2
      go_enter Try.func28, Try.ntmps28
      go_wp2_with fail
      go_region_held3 (fun w' => w'.cell? ⟨w.heap.size, 0, none⟩ = some (.slice a n cap)) (exact KB.out _ (by repeat (first | (with_reducible exact Later.refl _) | (with_reducible exact Hid.out (by assumption)) | (with_reducible refine Later.alloc ?_ _) | (with_reducible refine Later.setCell ?_ (by simp; omega) _) | (with_reducible refine Later.setCell ?_ (by simp) _) | (with_reducible refine Later.drewN ?_ _) | (with_reducible refine Later.drew ?_) | (with_reducible refine Later.trans ?_ (Hid.out (by assumption))))))
        (first | (go_at_call 77; refine (s_l05Train a n cap L _ q _ (HS.out.later (by repeat (first | (with_reducible exact Later.refl _) | (with_reducible exact Hid.out (by assumption)) | (with_reducible refine Later.alloc ?_ _) | (with_reducible refine Later.setCell ?_ (by simp; omega) _) | (with_reducible refine Later.setCell ?_ (by simp) _) | (with_reducible refine Later.drewN ?_ _) | (with_reducible refine Later.drew ?_) | (with_reducible refine Later.trans ?_ (Hid.out (by assumption))))))).mono ?_; (first | rw [HX.out] | rw [HY.out]); rintro e w1 ⟨rfl, hb⟩; have H1 := Lib.hid hb; clear hb))
      all_goals
        refine then_into (fun W => Later (w.alloc (.cells #[.slice a n cap] 26)) W) (by repeat (first | (with_reducible exact Later.refl _) | (with_reducible exact Hid.out (by assumption)) | (with_reducible refine Later.alloc ?_ _) | (with_reducible refine Later.setCell ?_ (by simp; omega) _) | (with_reducible refine Later.setCell ?_ (by simp) _) | (with_reducible refine Later.drewN ?_ _) | (with_reducible refine Later.drew ?_) | (with_reducible refine Later.trans ?_ (Hid.out (by assumption))))) ?_
        intro W hW
        have HW : Hid (Later w W) := Lib.hid (((Later.refl _).alloc _).trans hW)
        have cb := KB.out W hW
        clear hW
        go_wp2_with (first
          | (go_at_call 73; refine (s_Total a n cap L _ (HS.out.later (by repeat (first | (with_reducible exact Later.refl _) | (with_reducible exact Hid.out (by assumption)) | (with_reducible refine Later.alloc ?_ _) | (with_reducible refine Later.setCell ?_ (by simp; omega) _) | (with_reducible refine Later.setCell ?_ (by simp) _) | (with_reducible refine Later.drewN ?_ _) | (with_reducible refine Later.drew ?_) | (with_reducible refine Later.trans ?_ (Hid.out (by assumption)))))) HO.out h24).mono ?_; rintro e w2 ⟨rfl, hb⟩; have H2 := Lib.hid hb; clear hb)
          | (go_at_call 82; refine (s_l05Apart (totL L) x y q _ (by omega) t2 x1 x2 y1 y2).mono ?_; rw [ha]; rintro e w' ⟨rfl, rfl⟩))
        go_ret2
        exact ⟨ret_2i (by rw [HT.out.1]) (by rw [HT.out.2]), (by repeat (first | (with_reducible exact Later.refl _) | (with_reducible exact Hid.out (by assumption)) | (with_reducible refine Later.alloc ?_ _) | (with_reducible refine Later.setCell ?_ (by simp; omega) _) | (with_reducible refine Later.setCell ?_ (by simp) _) | (with_reducible refine Later.drewN ?_ _) | (with_reducible refine Later.drew ?_) | (with_reducible refine Later.trans ?_ (Hid.out (by assumption)))))⟩
    · have HT : Hid (gapV L x y q = (y - x) % totL L - q ∧ gapE L x y q = 0) := Lib.hid (by
        have : gapE L x y q = 0 := by unfold gapE; rw [e1, e2, ha]; simp
        unfold gapV; rw [this]; exact ⟨rfl, rfl⟩)
      obtain ⟨r1, r2⟩ : 0 ≤ (y - x) % totL L ∧ (y - x) % totL L < totL L := mod_rng _ _ (by omega)
      clear hv e1 e2
      go_enter Try.func28, Try.ntmps28
      go_wp2_with fail
      go_region_held3 (fun w' => w'.cell? ⟨w.heap.size, 0, none⟩ = some (.slice a n cap)) (exact KB.out _ (by repeat (first | (with_reducible exact Later.refl _) | (with_reducible exact Hid.out (by assumption)) | (with_reducible refine Later.alloc ?_ _) | (with_reducible refine Later.setCell ?_ (by simp; omega) _) | (with_reducible refine Later.setCell ?_ (by simp) _) | (with_reducible refine Later.drewN ?_ _) | (with_reducible refine Later.drew ?_) | (with_reducible refine Later.trans ?_ (Hid.out (by assumption))))))
        (first | (go_at_call 77; refine (s_l05Train a n cap L _ q _ (HS.out.later (by repeat (first | (with_reducible exact Later.refl _) | (with_reducible exact Hid.out (by assumption)) | (with_reducible refine Later.alloc ?_ _) | (with_reducible refine Later.setCell ?_ (by simp; omega) _) | (with_reducible refine Later.setCell ?_ (by simp) _) | (with_reducible refine Later.drewN ?_ _) | (with_reducible refine Later.drew ?_) | (with_reducible refine Later.trans ?_ (Hid.out (by assumption))))))).mono ?_; (first | rw [HX.out] | rw [HY.out]); rintro e w1 ⟨rfl, hb⟩; have H1 := Lib.hid hb; clear hb))
      all_goals
        refine then_into (fun W => Later (w.alloc (.cells #[.slice a n cap] 26)) W) (by repeat (first | (with_reducible exact Later.refl _) | (with_reducible exact Hid.out (by assumption)) | (with_reducible refine Later.alloc ?_ _) | (with_reducible refine Later.setCell ?_ (by simp; omega) _) | (with_reducible refine Later.setCell ?_ (by simp) _) | (with_reducible refine Later.drewN ?_ _) | (with_reducible refine Later.drew ?_) | (with_reducible refine Later.trans ?_ (Hid.out (by assumption))))) ?_
        intro W hW
        have HW : Hid (Later w W) := Lib.hid (((Later.refl _).alloc _).trans hW)
        have cb := KB.out W hW
        clear hW
        go_wp2_with (first
          | (go_at_call 73; refine (s_Total a n cap L _ (HS.out.later (by repeat (first | (with_reducible exact Later.refl _) | (with_reducible exact Hid.out (by assumption)) | (with_reducible refine Later.alloc ?_ _) | (with_reducible refine Later.setCell ?_ (by simp; omega) _) | (with_reducible refine Later.setCell ?_ (by simp) _) | (with_reducible refine Later.drewN ?_ _) | (with_reducible refine Later.drew ?_) | (with_reducible refine Later.trans ?_ (Hid.out (by assumption)))))) HO.out h24).mono ?_; rintro e w2 ⟨rfl, hb⟩; have H2 := Lib.hid hb; clear hb)
          | (go_at_call 82; refine (s_l05Apart (totL L) x y q _ (by omega) t2 x1 x2 y1 y2).mono ?_; rw [ha]; rintro e w' ⟨rfl, rfl⟩)
          | (go_at_call 78; refine (s_l05Mod (y - x) (totL L) _ (by omega) (by omega) (by omega) (by omega)).mono ?_; rintro e w' ⟨rfl, rfl⟩))
        go_ret2
        exact ⟨ret_2i (by rw [HT.out.1]) (by rw [HT.out.2]), (by repeat (first | (with_reducible exact Later.refl _) | (with_reducible exact Hid.out (by assumption)) | (with_reducible refine Later.alloc ?_ _) | (with_reducible refine Later.setCell ?_ (by simp; omega) _) | (with_reducible refine Later.setCell ?_ (by simp) _) | (with_reducible refine Later.drewN ?_ _) | (with_reducible refine Later.drew ?_) | (with_reducible refine Later.trans ?_ (Hid.out (by assumption)))))⟩
theorem s_l05Fronts (a : Option Addr) (n cap : Nat) (L : List Sg) (A : Option Addr) (m capF : Nat) (F : List Int) (q : Int) (w : World) (hs : Sgs w a n L) (hf : Sl w A m F) (hv : layB L = true) :
    Calls Try.prog 85 #[.agg #[.slice a n cap], .slice A m capF, .int .i64 q] w fun e w' => e = .returned (.bool (trsB (totL L) q F)) ∧ Later w w' := by
  have HS := Lib.hid hs; have HL := Lib.hid hs.1
  have HF := Lib.hid hf; have HM := Lib.hid hf.1
  have hm := hf.2.1
  clear hs hf
  have HO := Lib.hid ((layB_iff L).1 hv).2.2.1
  have h24 := ((layB_iff L).1 hv).2.1
  rw [HL.out] at h24
  obtain ⟨t1, t2⟩ := tot_bd hv
  clear hv
  go_enter Try.func85, Try.ntmps85
  go_wp2_with (go_at_call 73; refine (s_Total a n cap L _ (HS.out.later (by repeat (first | (with_reducible exact Later.refl _) | (with_reducible exact Hid.out (by assumption)) | (with_reducible refine Later.alloc ?_ _) | (with_reducible refine Later.setCell ?_ (by simp; omega) _) | (with_reducible refine Later.setCell ?_ (by simp) _) | (with_reducible refine Later.drewN ?_ _) | (with_reducible refine Later.drew ?_) | (with_reducible refine Later.trans ?_ (Hid.out (by assumption)))))) HO.out h24).mono ?_; rintro e w2 ⟨rfl, hb⟩; have H2 := Lib.hid hb; clear hb)
  have HW : Hid (Later w w2) := Lib.hid (by repeat (first | (with_reducible exact Later.refl _) | (with_reducible exact Hid.out (by assumption)) | (with_reducible refine Later.alloc ?_ _) | (with_reducible refine Later.setCell ?_ (by simp; omega) _) | (with_reducible refine Later.setCell ?_ (by simp) _) | (with_reducible refine Later.drewN ?_ _) | (with_reducible refine Later.drew ?_) | (with_reducible refine Later.trans ?_ (Hid.out (by assumption)))))
  go_loop [8] (fun i => ∃ k : Nat, k ≤ m ∧ i = .int .i64 k ∧ ∀ j, j < k → isP (totL L) (gx F j) = true) (fun i => m - (intOf i).toNat)
  case atStart => exact ⟨0, by omega, rfl, fun j hj => by omega⟩
  case round =>
    obtain ⟨k, hk, rfl, hok⟩ := hrel
    have HK := Lib.hid hok
    clear hok
    by_cases hlt : k < m
    · obtain ⟨b, off, rfl, hc⟩ := (sl_lat HF.out HW.out).at k hlt
      by_cases hin : 0 ≤ gx F k ∧ gx F k ≤ totL L - 1
      · obtain ⟨g1, g2⟩ := hin
        go_wp2_with (go_at_call 108; refine (s_In _ _ _ _).mono ?_; rintro e w' ⟨rfl, rfl⟩)
        go_round
        case rel =>
          refine ⟨k + 1, by omega, by go_num, fun j hj => ?_⟩
          by_cases e : j = k
          · rw [e, isP_iff]; omega
          · exact HK.out j (by omega)
        case measure => simp [intOf]; omega
      · have HN : Hid (trsB (totL L) q F = false) := Lib.hid (by unfold trsB; rw [allP_no (by rw [HM.out]; exact hlt) ((isP_no _ _).2 (by omega))]; simp)
        have d : (decide (0 ≤ gx F k) && decide (gx F k ≤ totL L - 1)) = false := by simpa using hin
        clear hin
        go_wp2_with (go_at_call 108; refine (s_In _ _ _ _).mono ?_; rintro e w' ⟨rfl, rfl⟩)
        go_ret
        exact ⟨ret_b (by rw [HN.out]), HW.out⟩
    · obtain rfl : k = m := by omega
      have HA : Hid (allP (totL L) F = true) := Lib.hid (allP_of (by rw [HM.out]; exact HK.out))
      by_cases ht : 40000 ≤ totL L
      · have HT : Hid (trsB (totL L) q F = (decide (1 ≤ q) && decide (q ≤ 40000))) := Lib.hid (by unfold trsB isN; rw [HA.out, Bool.eq_iff_iff]; simp; omega)
        go_wp2_with (go_at_call 108; refine (s_In _ _ _ _).mono ?_; rintro e w' ⟨rfl, rfl⟩)
        go_ret
        exact ⟨ret_b (by rw [HT.out]), HW.out⟩
      · have HT : Hid (trsB (totL L) q F = (decide (1 ≤ q) && decide (q ≤ totL L))) := Lib.hid (by unfold trsB isN; rw [HA.out, Bool.eq_iff_iff]; simp; omega)
        go_wp2_with (go_at_call 108; refine (s_In _ _ _ _).mono ?_; rintro e w' ⟨rfl, rfl⟩)
        go_ret
        exact ⟨ret_b (by rw [HT.out]), HW.out⟩
theorem s_l05Sensors (a : Option Addr) (n cap : Nat) (L : List Sg) (A : Option Addr) (m capF : Nat) (F : List Int) (w : World) (hs : Sgs w a n L) (hf : Sl w A m F) :
    Calls Try.prog 101 #[.agg #[.slice a n cap], .slice A m capF] w fun e w' => e = .returned (.bool (senB L F)) ∧ Later w w' := by
  have HS := Lib.hid hs; have HL := Lib.hid hs.1
  have HF := Lib.hid hf; have HM := Lib.hid hf.1
  have hm := hf.2.1
  clear hs hf
  cases hv : layB L
  · have HT : Hid (senB L F = false) := Lib.hid (by rw [senB_no, hv]; simp)
    go_enter Try.func101, Try.ntmps101
    go_wp2_with (go_at_call 84; refine (s_IsLayout a n cap L _ (HS.out.later (by repeat (first | (with_reducible exact Later.refl _) | (with_reducible exact Hid.out (by assumption)) | (with_reducible refine Later.alloc ?_ _) | (with_reducible refine Later.setCell ?_ (by simp; omega) _) | (with_reducible refine Later.setCell ?_ (by simp) _) | (with_reducible refine Later.drewN ?_ _) | (with_reducible refine Later.drew ?_) | (with_reducible refine Later.trans ?_ (Hid.out (by assumption))))))).mono ?_; rw [hv]; rintro e w1 ⟨rfl, hb⟩; have H1 := Lib.hid hb; clear hb)
    go_ret
    exact ⟨ret_b (by rw [HT.out]), (by repeat (first | (with_reducible exact Later.refl _) | (with_reducible exact Hid.out (by assumption)) | (with_reducible refine Later.alloc ?_ _) | (with_reducible refine Later.setCell ?_ (by simp; omega) _) | (with_reducible refine Later.setCell ?_ (by simp) _) | (with_reducible refine Later.drewN ?_ _) | (with_reducible refine Later.drew ?_) | (with_reducible refine Later.trans ?_ (Hid.out (by assumption)))))⟩
  have HO := Lib.hid ((layB_iff L).1 hv).2.2.1
  have h24 := ((layB_iff L).1 hv).2.1
  rw [HL.out] at h24
  by_cases h32 : m ≤ 32
  · have HT : Hid (senB L F = risB F (totL L)) := Lib.hid (by rw [Bool.eq_iff_iff, senB_iff, HM.out]; exact ⟨fun h => h.2.2, fun h => ⟨hv, h32, h⟩⟩)
    go_enter Try.func101, Try.ntmps101
    go_wp2_with (first
      | (go_at_call 84; refine (s_IsLayout a n cap L _ (HS.out.later (by repeat (first | (with_reducible exact Later.refl _) | (with_reducible exact Hid.out (by assumption)) | (with_reducible refine Later.alloc ?_ _) | (with_reducible refine Later.setCell ?_ (by simp; omega) _) | (with_reducible refine Later.setCell ?_ (by simp) _) | (with_reducible refine Later.drewN ?_ _) | (with_reducible refine Later.drew ?_) | (with_reducible refine Later.trans ?_ (Hid.out (by assumption))))))).mono ?_; rw [hv]; rintro e w1 ⟨rfl, hb⟩; obtain ⟨H, hcc, hff, hzz⟩ := later_facts hb; clear hb; (try simp at hzz))
      | (go_at_call 73; refine (s_Total a n cap L _ (HS.out.later (by repeat (first | (with_reducible exact Later.refl _) | (with_reducible exact Hid.out (by assumption)) | (with_reducible refine Later.alloc ?_ _) | (with_reducible refine Later.setCell ?_ (by simp; omega) _) | (with_reducible refine Later.setCell ?_ (by simp) _) | (with_reducible refine Later.drewN ?_ _) | (with_reducible refine Later.drew ?_) | (with_reducible refine Later.trans ?_ (Hid.out (by assumption)))))) HO.out h24).mono ?_; rintro e w2 ⟨rfl, hb⟩; have H2 := Lib.hid hb; clear hb)
      | (go_at_call 133; refine (s_Rises _ _ _ _ _ _ (sl_lat HF.out (by repeat (first | (with_reducible exact Later.refl _) | (with_reducible exact Hid.out (by assumption)) | (with_reducible refine Later.alloc ?_ _) | (with_reducible refine Later.setCell ?_ (by simp; omega) _) | (with_reducible refine Later.setCell ?_ (by simp) _) | (with_reducible refine Later.drewN ?_ _) | (with_reducible refine Later.drew ?_) | (with_reducible refine Later.trans ?_ (Hid.out (by assumption))))))).mono ?_; rintro e w' ⟨rfl, qq, rfl⟩))
    go_ret
    exact ⟨ret_b (by rw [HT.out]), (by repeat (first | (with_reducible exact Later.refl _) | (with_reducible exact Hid.out (by assumption)) | (with_reducible refine Later.alloc ?_ _) | (with_reducible refine Later.setCell ?_ (by simp; omega) _) | (with_reducible refine Later.setCell ?_ (by simp) _) | (with_reducible refine Later.drewN ?_ _) | (with_reducible refine Later.drew ?_) | (with_reducible refine Later.trans ?_ (Hid.out (by assumption)))))⟩
  · have HT : Hid (senB L F = false) := Lib.hid (by rw [senB_no, HM.out]; omega)
    go_enter Try.func101, Try.ntmps101
    go_wp2_with (first
      | (go_at_call 84; refine (s_IsLayout a n cap L _ (HS.out.later (by repeat (first | (with_reducible exact Later.refl _) | (with_reducible exact Hid.out (by assumption)) | (with_reducible refine Later.alloc ?_ _) | (with_reducible refine Later.setCell ?_ (by simp; omega) _) | (with_reducible refine Later.setCell ?_ (by simp) _) | (with_reducible refine Later.drewN ?_ _) | (with_reducible refine Later.drew ?_) | (with_reducible refine Later.trans ?_ (Hid.out (by assumption))))))).mono ?_; rw [hv]; rintro e w1 ⟨rfl, hb⟩; obtain ⟨H, hcc, hff, hzz⟩ := later_facts hb; clear hb; (try simp at hzz)))
    go_ret
    exact ⟨ret_b (by rw [HT.out]), (by repeat (first | (with_reducible exact Later.refl _) | (with_reducible exact Hid.out (by assumption)) | (with_reducible refine Later.alloc ?_ _) | (with_reducible refine Later.setCell ?_ (by simp; omega) _) | (with_reducible refine Later.setCell ?_ (by simp) _) | (with_reducible refine Later.drewN ?_ _) | (with_reducible refine Later.drew ?_) | (with_reducible refine Later.trans ?_ (Hid.out (by assumption)))))⟩
end Go.Proofs.Ytehinlecppbjeaa
