/- Contracts of chapter 4: the model's look-ups. -/
import Derived.Test.YtblmbaioflebkaaBkS
namespace Go.Proofs.Ytblmbaioflebkaa
open Go.RowKit
set_option maxHeartbeats 4000000
set_option linter.unusedVariables false
set_option linter.unusedSimpArgs false
theorem s_AreBlocks (a : Option Addr) (n cap : Nat) (L : List Sg) (A : Option Addr) (m capF : Nat) (F : List Int) (w : World) (hs : Sgs w a n L) (hf : Sl w A m F) :
    Calls Try.prog 26 #[.agg #[.slice a n cap], .slice A m capF] w fun e w' => e = .returned (.bool (bkB L F)) ∧ Later w w' := by
  have HS := Lib.hid hs; have HF := Lib.hid hf
  clear hs hf
  cases hv : layB L
  · have HT := Lib.hid (bkB_nl (F := F) hv)
    go_enter Try.func26, Try.ntmps26
    go_wp2_with (first
      | (go_at_call 48; refine (s_IsLayout a n cap L _ (HS.out.later (by repeat (first | (with_reducible exact Later.refl _) | (with_reducible exact Hid.out (by assumption)) | (with_reducible refine Later.alloc ?_ _) | (with_reducible refine Later.setCell ?_ (by simp; omega) _) | (with_reducible refine Later.setCell ?_ (by simp) _) | (with_reducible refine Later.drewN ?_ _) | (with_reducible refine Later.drew ?_) | (with_reducible refine Later.trans ?_ (Hid.out (by assumption))))))).mono ?_; rw [hv]; rintro e w1 ⟨rfl, hb⟩; obtain ⟨H, hcc, hff, hzz⟩ := later_facts hb; clear hb; (try simp at hzz)))
    go_ret
    exact ⟨ret_b (by rw [HT.out]), (by repeat (first | (with_reducible exact Later.refl _) | (with_reducible exact Hid.out (by assumption)) | (with_reducible refine Later.alloc ?_ _) | (with_reducible refine Later.setCell ?_ (by simp; omega) _) | (with_reducible refine Later.setCell ?_ (by simp) _) | (with_reducible refine Later.drewN ?_ _) | (with_reducible refine Later.drew ?_) | (with_reducible refine Later.trans ?_ (Hid.out (by assumption)))))⟩
  · have HV := Lib.hid hv
    have HB : Hid (bkB L F = bkC L F) := Lib.hid (bkB_l hv)
    cases hk : bkC L F
    all_goals
      go_enter Try.func26, Try.ntmps26
      go_wp2_with (first
        | (go_at_call 48; refine (s_IsLayout a n cap L _ (HS.out.later (by repeat (first | (with_reducible exact Later.refl _) | (with_reducible exact Hid.out (by assumption)) | (with_reducible refine Later.alloc ?_ _) | (with_reducible refine Later.setCell ?_ (by simp; omega) _) | (with_reducible refine Later.setCell ?_ (by simp) _) | (with_reducible refine Later.drewN ?_ _) | (with_reducible refine Later.drew ?_) | (with_reducible refine Later.trans ?_ (Hid.out (by assumption))))))).mono ?_; rw [hv]; rintro e w1 ⟨rfl, hb⟩; obtain ⟨H, hcc, hff, hzz⟩ := later_facts hb; clear hb; (try simp at hzz))
        | (go_at_call 62; refine (s_l04Blocks a n cap L A m capF F _ (HS.out.later (by repeat (first | (with_reducible exact Later.refl _) | (with_reducible exact Hid.out (by assumption)) | (with_reducible refine Later.alloc ?_ _) | (with_reducible refine Later.setCell ?_ (by simp; omega) _) | (with_reducible refine Later.setCell ?_ (by simp) _) | (with_reducible refine Later.drewN ?_ _) | (with_reducible refine Later.drew ?_) | (with_reducible refine Later.trans ?_ (Hid.out (by assumption)))))) (HF.out.later (by repeat (first | (with_reducible exact Later.refl _) | (with_reducible exact Hid.out (by assumption)) | (with_reducible refine Later.alloc ?_ _) | (with_reducible refine Later.setCell ?_ (by simp; omega) _) | (with_reducible refine Later.setCell ?_ (by simp) _) | (with_reducible refine Later.drewN ?_ _) | (with_reducible refine Later.drew ?_) | (with_reducible refine Later.trans ?_ (Hid.out (by assumption)))))) HV.out).mono ?_; rw [hk]; rintro e w2 ⟨rfl, hb⟩; have H2 := Lib.hid hb; clear hb))
      go_ret
      exact ⟨ret_b (by rw [HB.out, hk]), (by repeat (first | (with_reducible exact Later.refl _) | (with_reducible exact Hid.out (by assumption)) | (with_reducible refine Later.alloc ?_ _) | (with_reducible refine Later.setCell ?_ (by simp; omega) _) | (with_reducible refine Later.setCell ?_ (by simp) _) | (with_reducible refine Later.drewN ?_ _) | (with_reducible refine Later.drew ?_) | (with_reducible refine Later.trans ?_ (Hid.out (by assumption)))))⟩
/-- the block of a segment -/
theorem s_l04Of (A : Option Addr) (m capF : Nat) (F : List Int) (L : List Sg) (s b : Nat) (w : World) (hf : Sl w A m F) (hk : bkC L F = true) (hs : s ≤ 1000) (hb : IsB L F s b) :
    Calls Try.prog 72 #[.slice A m capF, .int .i64 s] w fun e w' => e = .returned (.int .i64 b) ∧ w = w' := by
  have HF := Lib.hid hf; have HM := Lib.hid hf.1
  have HK := Lib.hid hk; have HB := Lib.hid hb
  obtain ⟨h2, h8, hr, _, _⟩ := (bkC_iff L F).1 hk
  have HR := Lib.hid hr
  rw [HM.out] at h2 h8
  obtain ⟨b1, b2, b3⟩ := hb
  rw [HM.out] at b1
  clear hf hk hr
  go_enter Try.func72, Try.ntmps72
  go_wp2
  go_loop [5] (fun i => ∃ k : Nat, k ≤ b ∧ i = .int .i64 k) (fun i => b - (intOf i).toNat)
  case atStart => exact ⟨0, by omega, rfl⟩
  case round =>
    obtain ⟨k, hkb, rfl⟩ := hrel
    by_cases hlt : k < b
    · obtain ⟨bF, oF, rfl, hc⟩ := HF.out.at (k + 1) (by omega)
      have e1 := (ris_nat HR.out (k + 1) (by rw [HM.out]; omega)).1
      have e2 := ris_mono HR.out (k + 1) b (by omega) (by rw [HM.out]; omega)
      rw [e1] at hc
      have hkm : ((k : Int) + 1 < m) := by omega
      have hle : (fstK F (k + 1) : Int) ≤ s := by omega
      go_wp2
      go_round
      case rel => exact ⟨k + 1, by omega, by go_num⟩
      case measure => simp [intOf]; omega
    · obtain rfl : k = b := by omega
      by_cases hk1 : k + 1 < m
      · obtain ⟨bF, oF, rfl, hc⟩ := HF.out.at (k + 1) (by omega)
        have e1 := (ris_nat HR.out (k + 1) (by rw [HM.out]; omega)).1
        rw [e1] at hc
        rw [endK_next k (by rw [HM.out]; exact hk1)] at b3
        have hkm : ((k : Int) + 1 < m) := by omega
        have hle : ¬ ((fstK F (k + 1) : Int) ≤ s) := by omega
        go_wp2
        go_ret
        exact ⟨rfl, rfl⟩
      · have hkm : ¬ ((k : Int) + 1 < m) := by omega
        go_wp2
        go_ret
        exact ⟨rfl, rfl⟩
theorem s_BlockOfSegment (a : Option Addr) (n cap : Nat) (L : List Sg) (A : Option Addr) (m capF : Nat) (F : List Int) (p : Int) (w : World) (hs : Sgs w a n L) (hf : Sl w A m F) (hp : -9223372036854775808 ≤ p) (hp2 : p ≤ 9223372036854775807) :
    Calls Try.prog 41 #[.agg #[.slice a n cap], .slice A m capF, .int .i64 p] w fun e w' => e = .returned (.tuple #[.int .i64 (fndC L F (hasS p)).n, .int .i64 (fndE L F (hasS p))]) ∧ Later w w' := by
  have HS := Lib.hid hs; have HF := Lib.hid hf; have HL := Lib.hid hs.1; have HM := Lib.hid hf.1
  have hn := hs.2.1; have hm := hf.2.1
  clear hs hf
  cases hb : bkB L F
  · have HB := Lib.hid hb
    have HT := Lib.hid (fndC_bad (p := hasS p) hb)
    clear hb
    go_enter Try.func41, Try.ntmps41
    go_wp2_with (first
      | (go_at_call 26; refine (s_AreBlocks a n cap L A m capF F _ (HS.out.later (by repeat (first | (with_reducible exact Later.refl _) | (with_reducible exact Hid.out (by assumption)) | (with_reducible refine Later.alloc ?_ _) | (with_reducible refine Later.setCell ?_ (by simp; omega) _) | (with_reducible refine Later.setCell ?_ (by simp) _) | (with_reducible refine Later.drewN ?_ _) | (with_reducible refine Later.drew ?_) | (with_reducible refine Later.trans ?_ (Hid.out (by assumption)))))) (HF.out.later (by repeat (first | (with_reducible exact Later.refl _) | (with_reducible exact Hid.out (by assumption)) | (with_reducible refine Later.alloc ?_ _) | (with_reducible refine Later.setCell ?_ (by simp; omega) _) | (with_reducible refine Later.setCell ?_ (by simp) _) | (with_reducible refine Later.drewN ?_ _) | (with_reducible refine Later.drew ?_) | (with_reducible refine Later.trans ?_ (Hid.out (by assumption))))))).mono ?_; rw [HB.out]; rintro e w1 ⟨rfl, hb⟩; obtain ⟨H, hcc, hff, hzz⟩ := later_facts hb; clear hb; (try simp at hzz)))
    go_ret2
    exact ⟨ret_2i (by rw [HT.out.1]; rfl) (by rw [HT.out.2]), (by repeat (first | (with_reducible exact Later.refl _) | (with_reducible exact Hid.out (by assumption)) | (with_reducible refine Later.alloc ?_ _) | (with_reducible refine Later.setCell ?_ (by simp; omega) _) | (with_reducible refine Later.setCell ?_ (by simp) _) | (with_reducible refine Later.drewN ?_ _) | (with_reducible refine Later.drew ?_) | (with_reducible refine Later.trans ?_ (Hid.out (by assumption)))))⟩
  · have HB := Lib.hid hb
    obtain ⟨hv, hk⟩ := bkB_lay hb
    have HK := Lib.hid hk
    have h24 := ((layB_iff L).1 hv).2.1; have h3 := ((layB_iff L).1 hv).1
    rw [HL.out] at h24 h3
    clear hv
    by_cases hin : 0 ≤ p ∧ p ≤ (n : Int) - 1
    · obtain ⟨s, rfl⟩ : ∃ s : Nat, p = (s : Int) := ⟨p.toNat, by omega⟩
      obtain ⟨b, hsb⟩ := isB_some hk (show s < L.length by rw [HL.out]; omega)
      have HIB := Lib.hid hsb
      have HT : Hid (fndC L F (hasS (s : Int)) = sec L F b ∧ fndE L F (hasS (s : Int)) = 0) := Lib.hid (fndC_some hb (fnd_hasS hk hsb))
      obtain ⟨q1, q2⟩ := hin
      clear hsb hb hk
      go_enter Try.func41, Try.ntmps41
      go_wp2_with (first
        | (go_at_call 26; refine (s_AreBlocks a n cap L A m capF F _ (HS.out.later (by repeat (first | (with_reducible exact Later.refl _) | (with_reducible exact Hid.out (by assumption)) | (with_reducible refine Later.alloc ?_ _) | (with_reducible refine Later.setCell ?_ (by simp; omega) _) | (with_reducible refine Later.setCell ?_ (by simp) _) | (with_reducible refine Later.drewN ?_ _) | (with_reducible refine Later.drew ?_) | (with_reducible refine Later.trans ?_ (Hid.out (by assumption)))))) (HF.out.later (by repeat (first | (with_reducible exact Later.refl _) | (with_reducible exact Hid.out (by assumption)) | (with_reducible refine Later.alloc ?_ _) | (with_reducible refine Later.setCell ?_ (by simp; omega) _) | (with_reducible refine Later.setCell ?_ (by simp) _) | (with_reducible refine Later.drewN ?_ _) | (with_reducible refine Later.drew ?_) | (with_reducible refine Later.trans ?_ (Hid.out (by assumption))))))).mono ?_; rw [HB.out]; rintro e w1 ⟨rfl, hb⟩; obtain ⟨H, hcc, hff, hzz⟩ := later_facts hb; clear hb; (try simp at hzz))
        | (go_at_call 59; refine (s_In _ _ _ _).mono ?_; rintro e w' ⟨rfl, rfl⟩)
        | (go_at_call 72; refine (s_l04Of A m capF F L s b _ (HF.out.later (by repeat (first | (with_reducible exact Later.refl _) | (with_reducible exact Hid.out (by assumption)) | (with_reducible refine Later.alloc ?_ _) | (with_reducible refine Later.setCell ?_ (by simp; omega) _) | (with_reducible refine Later.setCell ?_ (by simp) _) | (with_reducible refine Later.drewN ?_ _) | (with_reducible refine Later.drew ?_) | (with_reducible refine Later.trans ?_ (Hid.out (by assumption)))))) HK.out (by omega) HIB.out).mono ?_; rintro e w' ⟨rfl, rfl⟩))
      go_ret2
      exact ⟨ret_2i (by rw [HT.out.1]; rfl) (by rw [HT.out.2]), (by repeat (first | (with_reducible exact Later.refl _) | (with_reducible exact Hid.out (by assumption)) | (with_reducible refine Later.alloc ?_ _) | (with_reducible refine Later.setCell ?_ (by simp; omega) _) | (with_reducible refine Later.setCell ?_ (by simp) _) | (with_reducible refine Later.drewN ?_ _) | (with_reducible refine Later.drew ?_) | (with_reducible refine Later.trans ?_ (Hid.out (by assumption)))))⟩
    · have HT : Hid (fndC L F (hasS p) = sc0 ∧ fndE L F (hasS p) = 2) := Lib.hid (fndC_none hb (fnd_hasS_no hk (by rw [HL.out]; omega)))
      have d : (decide (0 ≤ p) && decide (p ≤ (n : Int) - 1)) = false := by simpa using hin
      clear hin hb hk
      go_enter Try.func41, Try.ntmps41
      go_wp2_with (first
        | (go_at_call 26; refine (s_AreBlocks a n cap L A m capF F _ (HS.out.later (by repeat (first | (with_reducible exact Later.refl _) | (with_reducible exact Hid.out (by assumption)) | (with_reducible refine Later.alloc ?_ _) | (with_reducible refine Later.setCell ?_ (by simp; omega) _) | (with_reducible refine Later.setCell ?_ (by simp) _) | (with_reducible refine Later.drewN ?_ _) | (with_reducible refine Later.drew ?_) | (with_reducible refine Later.trans ?_ (Hid.out (by assumption)))))) (HF.out.later (by repeat (first | (with_reducible exact Later.refl _) | (with_reducible exact Hid.out (by assumption)) | (with_reducible refine Later.alloc ?_ _) | (with_reducible refine Later.setCell ?_ (by simp; omega) _) | (with_reducible refine Later.setCell ?_ (by simp) _) | (with_reducible refine Later.drewN ?_ _) | (with_reducible refine Later.drew ?_) | (with_reducible refine Later.trans ?_ (Hid.out (by assumption))))))).mono ?_; rw [HB.out]; rintro e w1 ⟨rfl, hb⟩; obtain ⟨H, hcc, hff, hzz⟩ := later_facts hb; clear hb; (try simp at hzz))
        | (go_at_call 59; refine (s_In _ _ _ _).mono ?_; rintro e w' ⟨rfl, rfl⟩))
      go_ret2
      exact ⟨ret_2i (by rw [HT.out.1]; rfl) (by rw [HT.out.2]), (by repeat (first | (with_reducible exact Later.refl _) | (with_reducible exact Hid.out (by assumption)) | (with_reducible refine Later.alloc ?_ _) | (with_reducible refine Later.setCell ?_ (by simp; omega) _) | (with_reducible refine Later.setCell ?_ (by simp) _) | (with_reducible refine Later.drewN ?_ _) | (with_reducible refine Later.drew ?_) | (with_reducible refine Later.trans ?_ (Hid.out (by assumption)))))⟩
theorem s_l04At (a : Option Addr) (n cap : Nat) (L : List Sg) (A : Option Addr) (m capF : Nat) (F : List Int) (p : Int) (k b : Nat) (w : World) (hs : Sgs w a n L) (hf : Sl w A m F) (hp : -9223372036854775808 ≤ p) (hp2 : p ≤ 9223372036854775807) (hv : layB L = true) (hk : bkC L F = true) (hat : IsAt L p k) (hb : IsB L F k b) :
    Calls Try.prog 61 #[.agg #[.slice a n cap], .slice A m capF, .int .i64 p] w fun e w' => e = .returned (.int .i64 b) ∧ Later w w' := by
  have HS := Lib.hid hs; have HF := Lib.hid hf; have HV := Lib.hid hv; have HK := Lib.hid hk; have HA := Lib.hid hat; have HB := Lib.hid hb
  have hkn : k ≤ 1000 := by have := hat.1; have := ((layB_iff L).1 hv).2.1; omega
  clear hs hf hv hk hat hb
  go_enter Try.func61, Try.ntmps61
  go_wp2_with (first
    | (go_at_call 87; refine (s_l03At a n cap L p k _ (HS.out.later (by repeat (first | (with_reducible exact Later.refl _) | (with_reducible exact Hid.out (by assumption)) | (with_reducible refine Later.alloc ?_ _) | (with_reducible refine Later.setCell ?_ (by simp; omega) _) | (with_reducible refine Later.setCell ?_ (by simp) _) | (with_reducible refine Later.drewN ?_ _) | (with_reducible refine Later.drew ?_) | (with_reducible refine Later.trans ?_ (Hid.out (by assumption)))))) hp hp2 HV.out HA.out).mono ?_; rintro e w1 ⟨rfl, hb⟩; have H := Lib.hid hb; clear hb)
    | (go_at_call 72; refine (s_l04Of A m capF F L k b _ (HF.out.later (by repeat (first | (with_reducible exact Later.refl _) | (with_reducible exact Hid.out (by assumption)) | (with_reducible refine Later.alloc ?_ _) | (with_reducible refine Later.setCell ?_ (by simp; omega) _) | (with_reducible refine Later.setCell ?_ (by simp) _) | (with_reducible refine Later.drewN ?_ _) | (with_reducible refine Later.drew ?_) | (with_reducible refine Later.trans ?_ (Hid.out (by assumption)))))) HK.out hkn HB.out).mono ?_; rintro e w' ⟨rfl, rfl⟩))
  go_ret
  exact ⟨rfl, (by repeat (first | (with_reducible exact Later.refl _) | (with_reducible exact Hid.out (by assumption)) | (with_reducible refine Later.alloc ?_ _) | (with_reducible refine Later.setCell ?_ (by simp; omega) _) | (with_reducible refine Later.setCell ?_ (by simp) _) | (with_reducible refine Later.drewN ?_ _) | (with_reducible refine Later.drew ?_) | (with_reducible refine Later.trans ?_ (Hid.out (by assumption)))))⟩
theorem s_BlockAt (a : Option Addr) (n cap : Nat) (L : List Sg) (A : Option Addr) (m capF : Nat) (F : List Int) (p : Int) (w : World) (hs : Sgs w a n L) (hf : Sl w A m F) (hp : -9223372036854775808 ≤ p) (hp2 : p ≤ 9223372036854775807) :
    Calls Try.prog 25 #[.agg #[.slice a n cap], .slice A m capF, .int .i64 p] w fun e w' => e = .returned (.tuple #[.int .i64 (fndC L F (hasP p)).n, .int .i64 (fndE L F (hasP p))]) ∧ Later w w' := by
  have HS := Lib.hid hs; have HF := Lib.hid hf; have HL := Lib.hid hs.1; have HM := Lib.hid hf.1
  have hn := hs.2.1; have hm := hf.2.1
  clear hs hf
  cases hb : bkB L F
  · have HB := Lib.hid hb
    have HT := Lib.hid (fndC_bad (p := hasP p) hb)
    clear hb
    go_enter Try.func25, Try.ntmps25
    go_wp2_with (first
      | (go_at_call 26; refine (s_AreBlocks a n cap L A m capF F _ (HS.out.later (by repeat (first | (with_reducible exact Later.refl _) | (with_reducible exact Hid.out (by assumption)) | (with_reducible refine Later.alloc ?_ _) | (with_reducible refine Later.setCell ?_ (by simp; omega) _) | (with_reducible refine Later.setCell ?_ (by simp) _) | (with_reducible refine Later.drewN ?_ _) | (with_reducible refine Later.drew ?_) | (with_reducible refine Later.trans ?_ (Hid.out (by assumption)))))) (HF.out.later (by repeat (first | (with_reducible exact Later.refl _) | (with_reducible exact Hid.out (by assumption)) | (with_reducible refine Later.alloc ?_ _) | (with_reducible refine Later.setCell ?_ (by simp; omega) _) | (with_reducible refine Later.setCell ?_ (by simp) _) | (with_reducible refine Later.drewN ?_ _) | (with_reducible refine Later.drew ?_) | (with_reducible refine Later.trans ?_ (Hid.out (by assumption))))))).mono ?_; rw [HB.out]; rintro e w1 ⟨rfl, hb⟩; obtain ⟨H, hcc, hff, hzz⟩ := later_facts hb; clear hb; (try simp at hzz)))
    go_ret2
    exact ⟨ret_2i (by rw [HT.out.1]; rfl) (by rw [HT.out.2]), (by repeat (first | (with_reducible exact Later.refl _) | (with_reducible exact Hid.out (by assumption)) | (with_reducible refine Later.alloc ?_ _) | (with_reducible refine Later.setCell ?_ (by simp; omega) _) | (with_reducible refine Later.setCell ?_ (by simp) _) | (with_reducible refine Later.drewN ?_ _) | (with_reducible refine Later.drew ?_) | (with_reducible refine Later.trans ?_ (Hid.out (by assumption)))))⟩
  · have HB := Lib.hid hb
    obtain ⟨hv, hk⟩ := bkB_lay hb
    have HK := Lib.hid hk; have HV := Lib.hid hv
    have HO := Lib.hid ((layB_iff L).1 hv).2.2.1
    have h24 := ((layB_iff L).1 hv).2.1; have h3 := ((layB_iff L).1 hv).1
    rw [HL.out] at h24 h3
    obtain ⟨_, _, t1, t2⟩ := up_bd L L.length (Nat.le_refl _) HO.out
    have t3 : 0 ≤ totL L ∧ totL L ≤ 4800000 := by unfold totL; rw [HL.out] at t1 t2 ⊢; omega
    obtain ⟨t3, t4⟩ := t3
    clear t1 t2
    by_cases hin : 0 ≤ p ∧ p ≤ totL L - 1
    · obtain ⟨k, hat⟩ := isAt_some L p hin.1 L.length (Nat.le_refl _) (by have := hin.2; unfold totL at this; omega)
      obtain ⟨b, hsb⟩ := isB_some hk hat.1
      have HA := Lib.hid hat; have HIB := Lib.hid hsb
      have HT : Hid (fndC L F (hasP p) = sec L F b ∧ fndE L F (hasP p) = 0) := Lib.hid (fndC_some hb (fnd_hasP hv hk hat hsb))
      obtain ⟨q1, q2⟩ := hin
      clear hsb hb hk hv hat
      go_enter Try.func25, Try.ntmps25
      go_wp2_with (first
        | (go_at_call 26; refine (s_AreBlocks a n cap L A m capF F _ (HS.out.later (by repeat (first | (with_reducible exact Later.refl _) | (with_reducible exact Hid.out (by assumption)) | (with_reducible refine Later.alloc ?_ _) | (with_reducible refine Later.setCell ?_ (by simp; omega) _) | (with_reducible refine Later.setCell ?_ (by simp) _) | (with_reducible refine Later.drewN ?_ _) | (with_reducible refine Later.drew ?_) | (with_reducible refine Later.trans ?_ (Hid.out (by assumption)))))) (HF.out.later (by repeat (first | (with_reducible exact Later.refl _) | (with_reducible exact Hid.out (by assumption)) | (with_reducible refine Later.alloc ?_ _) | (with_reducible refine Later.setCell ?_ (by simp; omega) _) | (with_reducible refine Later.setCell ?_ (by simp) _) | (with_reducible refine Later.drewN ?_ _) | (with_reducible refine Later.drew ?_) | (with_reducible refine Later.trans ?_ (Hid.out (by assumption))))))).mono ?_; rw [HB.out]; rintro e w1 ⟨rfl, hb⟩; obtain ⟨H, hcc, hff, hzz⟩ := later_facts hb; clear hb; (try simp at hzz))
        | (go_at_call 60; refine (s_Total a n cap L _ (HS.out.later (by repeat (first | (with_reducible exact Later.refl _) | (with_reducible exact Hid.out (by assumption)) | (with_reducible refine Later.alloc ?_ _) | (with_reducible refine Later.setCell ?_ (by simp; omega) _) | (with_reducible refine Later.setCell ?_ (by simp) _) | (with_reducible refine Later.drewN ?_ _) | (with_reducible refine Later.drew ?_) | (with_reducible refine Later.trans ?_ (Hid.out (by assumption)))))) HO.out h24).mono ?_; rintro e w2 ⟨rfl, hb⟩; obtain ⟨H2, hcc2, hff2, hzz2⟩ := later_facts hb; clear hb; have hz0 : w.heap.size < w1.heap.size := (by omega))
        | (go_at_call 59; refine (s_In _ _ _ _).mono ?_; rintro e w' ⟨rfl, rfl⟩)
        | (go_at_call 61; refine (s_l04At a n cap L A m capF F p k b _ (HS.out.later (by repeat (first | (with_reducible exact Later.refl _) | (with_reducible exact Hid.out (by assumption)) | (with_reducible refine Later.alloc ?_ _) | (with_reducible refine Later.setCell ?_ (by simp; omega) _) | (with_reducible refine Later.setCell ?_ (by simp) _) | (with_reducible refine Later.drewN ?_ _) | (with_reducible refine Later.drew ?_) | (with_reducible refine Later.trans ?_ (Hid.out (by assumption)))))) (HF.out.later (by repeat (first | (with_reducible exact Later.refl _) | (with_reducible exact Hid.out (by assumption)) | (with_reducible refine Later.alloc ?_ _) | (with_reducible refine Later.setCell ?_ (by simp; omega) _) | (with_reducible refine Later.setCell ?_ (by simp) _) | (with_reducible refine Later.drewN ?_ _) | (with_reducible refine Later.drew ?_) | (with_reducible refine Later.trans ?_ (Hid.out (by assumption)))))) hp hp2 HV.out HK.out HA.out HIB.out).mono ?_; rintro e w3 ⟨rfl, hb⟩; have H3 := Lib.hid hb; clear hb))
      go_ret2
      exact ⟨ret_2i (by rw [HT.out.1]; rfl) (by rw [HT.out.2]), (by repeat (first | (with_reducible exact Later.refl _) | (with_reducible exact Hid.out (by assumption)) | (with_reducible refine Later.alloc ?_ _) | (with_reducible refine Later.setCell ?_ (by simp; omega) _) | (with_reducible refine Later.setCell ?_ (by simp) _) | (with_reducible refine Later.drewN ?_ _) | (with_reducible refine Later.drew ?_) | (with_reducible refine Later.trans ?_ (Hid.out (by assumption)))))⟩
    · have HT : Hid (fndC L F (hasP p) = sc0 ∧ fndE L F (hasP p) = 2) := Lib.hid (fndC_none hb (fnd_hasP_no hv hk (by omega)))
      have d : (decide (0 ≤ p) && decide (p ≤ totL L - 1)) = false := by simpa using hin
      clear hin hb hk hv
      go_enter Try.func25, Try.ntmps25
      go_wp2_with (first
        | (go_at_call 26; refine (s_AreBlocks a n cap L A m capF F _ (HS.out.later (by repeat (first | (with_reducible exact Later.refl _) | (with_reducible exact Hid.out (by assumption)) | (with_reducible refine Later.alloc ?_ _) | (with_reducible refine Later.setCell ?_ (by simp; omega) _) | (with_reducible refine Later.setCell ?_ (by simp) _) | (with_reducible refine Later.drewN ?_ _) | (with_reducible refine Later.drew ?_) | (with_reducible refine Later.trans ?_ (Hid.out (by assumption)))))) (HF.out.later (by repeat (first | (with_reducible exact Later.refl _) | (with_reducible exact Hid.out (by assumption)) | (with_reducible refine Later.alloc ?_ _) | (with_reducible refine Later.setCell ?_ (by simp; omega) _) | (with_reducible refine Later.setCell ?_ (by simp) _) | (with_reducible refine Later.drewN ?_ _) | (with_reducible refine Later.drew ?_) | (with_reducible refine Later.trans ?_ (Hid.out (by assumption))))))).mono ?_; rw [HB.out]; rintro e w1 ⟨rfl, hb⟩; obtain ⟨H, hcc, hff, hzz⟩ := later_facts hb; clear hb; (try simp at hzz))
        | (go_at_call 60; refine (s_Total a n cap L _ (HS.out.later (by repeat (first | (with_reducible exact Later.refl _) | (with_reducible exact Hid.out (by assumption)) | (with_reducible refine Later.alloc ?_ _) | (with_reducible refine Later.setCell ?_ (by simp; omega) _) | (with_reducible refine Later.setCell ?_ (by simp) _) | (with_reducible refine Later.drewN ?_ _) | (with_reducible refine Later.drew ?_) | (with_reducible refine Later.trans ?_ (Hid.out (by assumption)))))) HO.out h24).mono ?_; rintro e w2 ⟨rfl, hb⟩; obtain ⟨H2, hcc2, hff2, hzz2⟩ := later_facts hb; clear hb; have hz0 : w.heap.size < w1.heap.size := (by omega))
        | (go_at_call 59; refine (s_In _ _ _ _).mono ?_; rintro e w' ⟨rfl, rfl⟩))
      go_ret2
      exact ⟨ret_2i (by rw [HT.out.1]; rfl) (by rw [HT.out.2]), (by repeat (first | (with_reducible exact Later.refl _) | (with_reducible exact Hid.out (by assumption)) | (with_reducible refine Later.alloc ?_ _) | (with_reducible refine Later.setCell ?_ (by simp; omega) _) | (with_reducible refine Later.setCell ?_ (by simp) _) | (with_reducible refine Later.drewN ?_ _) | (with_reducible refine Later.drew ?_) | (with_reducible refine Later.trans ?_ (Hid.out (by assumption)))))⟩
/-- the code of a block -/
theorem s_l04Block (a : Option Addr) (n cap : Nat) (L : List Sg) (A : Option Addr) (m capF : Nat) (F : List Int) (p : Int) (w : World) (hs : Sgs w a n L) (hf : Sl w A m F) (hp : -9223372036854775808 ≤ p) (hp2 : p ≤ 9223372036854775807) :
    Calls Try.prog 66 #[.agg #[.slice a n cap], .slice A m capF, .int .i64 p] w fun e w' => e = .returned (.int .i64 (fndE L F (isNo p))) ∧ Later w w' := by
  have HS := Lib.hid hs; have HF := Lib.hid hf; have HL := Lib.hid hs.1; have HM := Lib.hid hf.1
  have hn := hs.2.1; have hm := hf.2.1
  clear hs hf
  cases hb : bkB L F
  · have HB := Lib.hid hb
    have HT := Lib.hid (fndC_bad (p := isNo p) hb)
    clear hb
    go_enter Try.func66, Try.ntmps66
    go_wp2_with (first
      | (go_at_call 26; refine (s_AreBlocks a n cap L A m capF F _ (HS.out.later (by repeat (first | (with_reducible exact Later.refl _) | (with_reducible exact Hid.out (by assumption)) | (with_reducible refine Later.alloc ?_ _) | (with_reducible refine Later.setCell ?_ (by simp; omega) _) | (with_reducible refine Later.setCell ?_ (by simp) _) | (with_reducible refine Later.drewN ?_ _) | (with_reducible refine Later.drew ?_) | (with_reducible refine Later.trans ?_ (Hid.out (by assumption)))))) (HF.out.later (by repeat (first | (with_reducible exact Later.refl _) | (with_reducible exact Hid.out (by assumption)) | (with_reducible refine Later.alloc ?_ _) | (with_reducible refine Later.setCell ?_ (by simp; omega) _) | (with_reducible refine Later.setCell ?_ (by simp) _) | (with_reducible refine Later.drewN ?_ _) | (with_reducible refine Later.drew ?_) | (with_reducible refine Later.trans ?_ (Hid.out (by assumption))))))).mono ?_; rw [HB.out]; rintro e w1 ⟨rfl, hb⟩; obtain ⟨H, hcc, hff, hzz⟩ := later_facts hb; clear hb; (try simp at hzz)))
    go_ret
    exact ⟨ret_i64 (by rw [HT.out.2]), (by repeat (first | (with_reducible exact Later.refl _) | (with_reducible exact Hid.out (by assumption)) | (with_reducible refine Later.alloc ?_ _) | (with_reducible refine Later.setCell ?_ (by simp; omega) _) | (with_reducible refine Later.setCell ?_ (by simp) _) | (with_reducible refine Later.drewN ?_ _) | (with_reducible refine Later.drew ?_) | (with_reducible refine Later.trans ?_ (Hid.out (by assumption)))))⟩
  · have HB := Lib.hid hb
    obtain ⟨hv, hk⟩ := bkB_lay hb
    have h28 : 2 ≤ m ∧ m ≤ 8 := by have := (bkC_iff L F).1 hk; rw [HM.out] at this; omega
    obtain ⟨h2, h8⟩ := h28
    clear hv hk
    by_cases hin : 0 ≤ p ∧ p ≤ (m : Int) - 1
    · have HT : Hid (fndE L F (isNo p) = 0) := Lib.hid (by
        obtain ⟨b, rfl⟩ : ∃ b : Nat, p = (b : Int) := ⟨p.toNat, by omega⟩
        exact (fndC_some hb (fnd_isNo b (by rw [HM.out]; omega))).2)
      obtain ⟨q1, q2⟩ := hin
      clear hb
      go_enter Try.func66, Try.ntmps66
      go_wp2_with (first
        | (go_at_call 26; refine (s_AreBlocks a n cap L A m capF F _ (HS.out.later (by repeat (first | (with_reducible exact Later.refl _) | (with_reducible exact Hid.out (by assumption)) | (with_reducible refine Later.alloc ?_ _) | (with_reducible refine Later.setCell ?_ (by simp; omega) _) | (with_reducible refine Later.setCell ?_ (by simp) _) | (with_reducible refine Later.drewN ?_ _) | (with_reducible refine Later.drew ?_) | (with_reducible refine Later.trans ?_ (Hid.out (by assumption)))))) (HF.out.later (by repeat (first | (with_reducible exact Later.refl _) | (with_reducible exact Hid.out (by assumption)) | (with_reducible refine Later.alloc ?_ _) | (with_reducible refine Later.setCell ?_ (by simp; omega) _) | (with_reducible refine Later.setCell ?_ (by simp) _) | (with_reducible refine Later.drewN ?_ _) | (with_reducible refine Later.drew ?_) | (with_reducible refine Later.trans ?_ (Hid.out (by assumption))))))).mono ?_; rw [HB.out]; rintro e w1 ⟨rfl, hb⟩; obtain ⟨H, hcc, hff, hzz⟩ := later_facts hb; clear hb; (try simp at hzz))
        | (go_at_call 59; refine (s_In _ _ _ _).mono ?_; rintro e w' ⟨rfl, rfl⟩))
      go_ret
      exact ⟨ret_i64 (by rw [HT.out]), (by repeat (first | (with_reducible exact Later.refl _) | (with_reducible exact Hid.out (by assumption)) | (with_reducible refine Later.alloc ?_ _) | (with_reducible refine Later.setCell ?_ (by simp; omega) _) | (with_reducible refine Later.setCell ?_ (by simp) _) | (with_reducible refine Later.drewN ?_ _) | (with_reducible refine Later.drew ?_) | (with_reducible refine Later.trans ?_ (Hid.out (by assumption)))))⟩
    · have HT : Hid (fndE L F (isNo p) = 2) := Lib.hid (fndC_none hb (fnd_isNo_no p (by rw [HM.out]; omega))).2
      have d : (decide (0 ≤ p) && decide (p ≤ (m : Int) - 1)) = false := by simpa using hin
      clear hin hb
      go_enter Try.func66, Try.ntmps66
      go_wp2_with (first
        | (go_at_call 26; refine (s_AreBlocks a n cap L A m capF F _ (HS.out.later (by repeat (first | (with_reducible exact Later.refl _) | (with_reducible exact Hid.out (by assumption)) | (with_reducible refine Later.alloc ?_ _) | (with_reducible refine Later.setCell ?_ (by simp; omega) _) | (with_reducible refine Later.setCell ?_ (by simp) _) | (with_reducible refine Later.drewN ?_ _) | (with_reducible refine Later.drew ?_) | (with_reducible refine Later.trans ?_ (Hid.out (by assumption)))))) (HF.out.later (by repeat (first | (with_reducible exact Later.refl _) | (with_reducible exact Hid.out (by assumption)) | (with_reducible refine Later.alloc ?_ _) | (with_reducible refine Later.setCell ?_ (by simp; omega) _) | (with_reducible refine Later.setCell ?_ (by simp) _) | (with_reducible refine Later.drewN ?_ _) | (with_reducible refine Later.drew ?_) | (with_reducible refine Later.trans ?_ (Hid.out (by assumption))))))).mono ?_; rw [HB.out]; rintro e w1 ⟨rfl, hb⟩; obtain ⟨H, hcc, hff, hzz⟩ := later_facts hb; clear hb; (try simp at hzz))
        | (go_at_call 59; refine (s_In _ _ _ _).mono ?_; rintro e w' ⟨rfl, rfl⟩))
      go_ret
      exact ⟨ret_i64 (by rw [HT.out]), (by repeat (first | (with_reducible exact Later.refl _) | (with_reducible exact Hid.out (by assumption)) | (with_reducible refine Later.alloc ?_ _) | (with_reducible refine Later.setCell ?_ (by simp; omega) _) | (with_reducible refine Later.setCell ?_ (by simp) _) | (with_reducible refine Later.drewN ?_ _) | (with_reducible refine Later.drew ?_) | (with_reducible refine Later.trans ?_ (Hid.out (by assumption)))))⟩
/-- the index behind a block's last segment -/
theorem s_l04End (a : Option Addr) (n cap : Nat) (L : List Sg) (A : Option Addr) (m capF : Nat) (F : List Int) (b : Nat) (w : World) (hs : Sgs w a n L) (hf : Sl w A m F) (hk : bkC L F = true) (hb : b < m) :
    Calls Try.prog 75 #[.agg #[.slice a n cap], .slice A m capF, .int .i64 b] w fun e w' => e = .returned (.int .i64 (endK L F b)) ∧ Later w w' := by
  have HS := Lib.hid hs; have HF := Lib.hid hf; have HL := Lib.hid hs.1; have HM := Lib.hid hf.1
  have hn := hs.2.1
  obtain ⟨h2, h8, hr, _, _⟩ := (bkC_iff L F).1 hk
  rw [HM.out] at h2 h8
  by_cases hlt : b + 1 < m
  · obtain ⟨bF, oF, rfl, hc⟩ := hf.at (b + 1) hlt
    rw [(ris_nat hr (b + 1) (by rw [HM.out]; exact hlt)).1] at hc
    have HE : Hid (endK L F b = fstK F (b + 1)) := Lib.hid (endK_next b (by rw [HM.out]; exact hlt))
    have hbF := cell_lt hc
    have hkm : ((b : Int) + 1 < m) := by omega
    clear hs hf hk hr
    go_enter Try.func75, Try.ntmps75
    go_wp2_with fail
    go_ret
    exact ⟨ret_i64 (by rw [HE.out]), (by repeat (first | (with_reducible exact Later.refl _) | (with_reducible exact Hid.out (by assumption)) | (with_reducible refine Later.alloc ?_ _) | (with_reducible refine Later.setCell ?_ (by simp; omega) _) | (with_reducible refine Later.setCell ?_ (by simp) _) | (with_reducible refine Later.drewN ?_ _) | (with_reducible refine Later.drew ?_) | (with_reducible refine Later.trans ?_ (Hid.out (by assumption)))))⟩
  · have HE : Hid (endK L F b = n) := Lib.hid (by rw [endK_last b (by rw [HM.out]; omega)]; exact HL.out)
    have hkm : ¬ ((b : Int) + 1 < m) := by omega
    clear hs hf hk hr
    go_enter Try.func75, Try.ntmps75
    go_wp2_with fail
    go_ret
    exact ⟨ret_i64 (by rw [HE.out]), (by repeat (first | (with_reducible exact Later.refl _) | (with_reducible exact Hid.out (by assumption)) | (with_reducible refine Later.alloc ?_ _) | (with_reducible refine Later.setCell ?_ (by simp; omega) _) | (with_reducible refine Later.setCell ?_ (by simp) _) | (with_reducible refine Later.drewN ?_ _) | (with_reducible refine Later.drew ?_) | (with_reducible refine Later.trans ?_ (Hid.out (by assumption)))))⟩
/-- the length of a block -/
theorem s_l04Length (a : Option Addr) (n cap : Nat) (L : List Sg) (A : Option Addr) (m capF : Nat) (F : List Int) (b : Nat) (w : World) (hs : Sgs w a n L) (hf : Sl w A m F) (hv : layB L = true) (hk : bkC L F = true) (hb : b < m) :
    Calls Try.prog 73 #[.agg #[.slice a n cap], .slice A m capF, .int .i64 b] w fun e w' => e = .returned (.int .i64 (lnK L F b)) ∧ Later w w' := by
  have HS := Lib.hid hs; have HF := Lib.hid hf; have HL := Lib.hid hs.1; have HM := Lib.hid hf.1
  have HK := Lib.hid hk
  have hn := hs.2.1
  have HO := Lib.hid ((layB_iff L).1 hv).2.2.1
  have h24 := ((layB_iff L).1 hv).2.1
  rw [HL.out] at h24
  obtain ⟨g1, g2, g3⟩ := blk_bd hk b (by rw [HM.out]; exact hb)
  rw [HL.out] at g3
  obtain ⟨bF, oF, rfl, hc⟩ := hf.at b hb
  rw [g1] at hc
  have hbF := cell_lt hc
  have HE : Hid (lnK L F b = upL L (endK L F b) - upL L (fstK F b)) := Lib.hid rfl
  have HEN := Lib.hid (rfl : endK L F b = endK L F b)
  have h28 : m ≤ 8 := by have := (bkC_iff L F).1 hk; rw [HM.out] at this; omega
  clear hs hf hk hv g1
  have hend := fun w (h1 : Sgs w a n L) (h2 : Sl w (some ⟨bF, oF, none⟩) m F) => s_l04End a n cap L (some ⟨bF, oF, none⟩) m capF F b w h1 h2 HK.out hb
  have HEND := Lib.hid hend
  clear hend HEN
  generalize endK L F b = e at *
  generalize fstK F b = f at *
  go_enter Try.func73, Try.ntmps73
  go_wp2_with fail
  clear hc
  go_loopw [7, 8] (fun ln i wr => ∃ g : Nat, f ≤ g ∧ g ≤ e ∧ i = .int .i64 g ∧ ln = .int .i64 (upL L g - upL L f) ∧ wr.cell? ⟨w.heap.size, 0, none⟩ = some (.slice a n cap) ∧ w.heap.size < wr.heap.size ∧ Later w wr) (fun _ i _ => e - (intOf i).toNat)
  case atStart => exact ⟨f, by omega, by omega, rfl, by rw [Int.sub_self], by simp, by simp, (by repeat (first | (with_reducible exact Later.refl _) | (with_reducible exact Hid.out (by assumption)) | (with_reducible refine Later.alloc ?_ _) | (with_reducible refine Later.setCell ?_ (by simp; omega) _) | (with_reducible refine Later.setCell ?_ (by simp) _) | (with_reducible refine Later.drewN ?_ _) | (with_reducible refine Later.drew ?_) | (with_reducible refine Later.trans ?_ (Hid.out (by assumption)))))⟩
  case round =>
    obtain ⟨g, hg1, hg2, rfl, rfl, cb, hz, hlw⟩ := hrel
    have HW := Lib.hid hlw
    obtain ⟨_, _, bd1, bd2⟩ := up_bd L f (by rw [HL.out]; omega) (okB_le L L.length f (by rw [HL.out]; omega) HO.out)
    obtain ⟨_, _, bd3, bd4⟩ := up_bd L g (by rw [HL.out]; omega) (okB_le L L.length g (by rw [HL.out]; omega) HO.out)
    have bd5 := upL_mono L f g (by omega) (by rw [HL.out]; omega) HO.out
    clear hlw
    by_cases hlt : g < e
    · obtain ⟨b', o', rfl, hb', hc⟩ := (HS.out.later HW.out).at g (by omega)
      obtain ⟨c0, c1, c2, c3, c4, c5, c6⟩ := hc
      have hr := (sgB_iff _).1 (okB_at L L.length g (Nat.le_refl _) (by rw [HL.out]; omega) HO.out)
      have r1 := hr.2.1.1; have r2 := hr.2.1.2
      clear hr
      go_wp2_with (go_at_call 75; refine (HEND.out _ (HS.out.later HW.out) (HF.out.later HW.out)).mono ?_; rintro e' w1 ⟨rfl, hb1⟩; obtain ⟨H, hcc, hff, hzz⟩ := later_facts hb1; clear hb1)
      go_roundw
      case rel => exact ⟨g + 1, by omega, by omega, by go_num, by rw [upL_succ L g (by rw [HL.out]; omega)]; go_num, by rw [hcc _ _ hz]; exact cb, by omega, (by repeat (first | (with_reducible exact Later.refl _) | (with_reducible exact Hid.out (by assumption)) | (with_reducible refine Later.alloc ?_ _) | (with_reducible refine Later.setCell ?_ (by simp; omega) _) | (with_reducible refine Later.setCell ?_ (by simp) _) | (with_reducible refine Later.drewN ?_ _) | (with_reducible refine Later.drew ?_) | (with_reducible refine Later.trans ?_ (Hid.out (by assumption)))))⟩
      case measure => simp [intOf]; omega
    · obtain rfl : g = e := by omega
      go_wp2_with (go_at_call 75; refine (HEND.out _ (HS.out.later HW.out) (HF.out.later HW.out)).mono ?_; rintro e' w1 ⟨rfl, hb1⟩; have H := Lib.hid hb1; clear hb1)
      go_ret
      exact ⟨ret_i64 (by rw [HE.out]), (by repeat (first | (with_reducible exact Later.refl _) | (with_reducible exact Hid.out (by assumption)) | (with_reducible refine Later.alloc ?_ _) | (with_reducible refine Later.setCell ?_ (by simp; omega) _) | (with_reducible refine Later.setCell ?_ (by simp) _) | (with_reducible refine Later.drewN ?_ _) | (with_reducible refine Later.drew ?_) | (with_reducible refine Later.trans ?_ (Hid.out (by assumption)))))⟩
/-- a block that is asked for by its number -/
theorem isNo_cases {L : List Sg} {F : List Int} {p : Int} (h : fndE L F (isNo p) = 0) : ∃ b : Nat, p = (b : Int) ∧ b < F.length ∧ layB L = true ∧ bkC L F = true ∧ fndC L F (isNo p) = sec L F b := by
  cases hb : bkB L F
  · rw [(fndC_bad hb).2] at h; cases h
  · obtain ⟨hv, hk⟩ := bkB_lay hb
    by_cases hin : 0 ≤ p ∧ p < F.length
    · obtain ⟨b, rfl⟩ : ∃ b : Nat, p = (b : Int) := ⟨p.toNat, by omega⟩
      exact ⟨b, rfl, by omega, hv, hk, (fndC_some hb (fnd_isNo b (by omega))).1⟩
    · rw [(fndC_none hb (fnd_isNo_no p (by omega))).2] at h; cases h
theorem s_BlockLength (a : Option Addr) (n cap : Nat) (L : List Sg) (A : Option Addr) (m capF : Nat) (F : List Int) (p : Int) (w : World) (hs : Sgs w a n L) (hf : Sl w A m F) (hp : -9223372036854775808 ≤ p) (hp2 : p ≤ 9223372036854775807) :
    Calls Try.prog 42 #[.agg #[.slice a n cap], .slice A m capF, .int .i64 p] w fun e w' => e = .returned (.tuple #[.int .i64 (fndC L F (isNo p)).e, .int .i64 (fndE L F (isNo p))]) ∧ Later w w' := by
  have HS := Lib.hid hs; have HF := Lib.hid hf; have HL := Lib.hid hs.1; have HM := Lib.hid hf.1
  have hn := hs.2.1; have hm := hf.2.1
  clear hs hf
  by_cases h0 : fndE L F (isNo p) = 0
  · have HE := Lib.hid h0
    obtain ⟨b, rfl, hb, hv, hk, hsec⟩ := isNo_cases h0
    rw [HM.out] at hb
    have HV := Lib.hid hv; have HK := Lib.hid hk; have HSEC := Lib.hid hsec
    have h24 := ((layB_iff L).1 hv).2.1; have h3 := ((layB_iff L).1 hv).1
    rw [HL.out] at h24 h3
    have h28 : m ≤ 8 := by have := (bkC_iff L F).1 hk; rw [HM.out] at this; omega
    clear hv hk hsec h0
    go_enter Try.func42, Try.ntmps42
    go_wp2_with (first
      | (go_at_call 66; refine (s_l04Block a n cap L A m capF F (b : Int) _ (HS.out.later (by repeat (first | (with_reducible exact Later.refl _) | (with_reducible exact Hid.out (by assumption)) | (with_reducible refine Later.alloc ?_ _) | (with_reducible refine Later.setCell ?_ (by simp; omega) _) | (with_reducible refine Later.setCell ?_ (by simp) _) | (with_reducible refine Later.drewN ?_ _) | (with_reducible refine Later.drew ?_) | (with_reducible refine Later.trans ?_ (Hid.out (by assumption)))))) (HF.out.later (by repeat (first | (with_reducible exact Later.refl _) | (with_reducible exact Hid.out (by assumption)) | (with_reducible refine Later.alloc ?_ _) | (with_reducible refine Later.setCell ?_ (by simp; omega) _) | (with_reducible refine Later.setCell ?_ (by simp) _) | (with_reducible refine Later.drewN ?_ _) | (with_reducible refine Later.drew ?_) | (with_reducible refine Later.trans ?_ (Hid.out (by assumption)))))) hp hp2).mono ?_; rw [HE.out]; rintro e w1 ⟨rfl, hb⟩; obtain ⟨H, hcc, hff, hzz⟩ := later_facts hb; clear hb; (try simp at hzz); have hz0 : w.heap.size < w1.heap.size := (by omega))
      | (go_at_call 73; refine (s_l04Length a n cap L A m capF F b _ (HS.out.later (by repeat (first | (with_reducible exact Later.refl _) | (with_reducible exact Hid.out (by assumption)) | (with_reducible refine Later.alloc ?_ _) | (with_reducible refine Later.setCell ?_ (by simp; omega) _) | (with_reducible refine Later.setCell ?_ (by simp) _) | (with_reducible refine Later.drewN ?_ _) | (with_reducible refine Later.drew ?_) | (with_reducible refine Later.trans ?_ (Hid.out (by assumption)))))) (HF.out.later (by repeat (first | (with_reducible exact Later.refl _) | (with_reducible exact Hid.out (by assumption)) | (with_reducible refine Later.alloc ?_ _) | (with_reducible refine Later.setCell ?_ (by simp; omega) _) | (with_reducible refine Later.setCell ?_ (by simp) _) | (with_reducible refine Later.drewN ?_ _) | (with_reducible refine Later.drew ?_) | (with_reducible refine Later.trans ?_ (Hid.out (by assumption)))))) HV.out HK.out hb).mono ?_; rintro e w2 ⟨rfl, hb2⟩; have H2 := Lib.hid hb2; clear hb2))
    go_ret2
    exact ⟨ret_2i (by rw [HSEC.out]; rfl) (by rw [HE.out]), (by repeat (first | (with_reducible exact Later.refl _) | (with_reducible exact Hid.out (by assumption)) | (with_reducible refine Later.alloc ?_ _) | (with_reducible refine Later.setCell ?_ (by simp; omega) _) | (with_reducible refine Later.setCell ?_ (by simp) _) | (with_reducible refine Later.drewN ?_ _) | (with_reducible refine Later.drew ?_) | (with_reducible refine Later.trans ?_ (Hid.out (by assumption)))))⟩
  · have h1 : (fndE L F (isNo p) != 0) = true := by simpa using h0
    have HT := Lib.hid (fndC_no h0)
    have HE := Lib.hid (rfl : fndE L F (isNo p) = fndE L F (isNo p))
    clear h0
    go_enter Try.func42, Try.ntmps42
    go_wp2_with (go_at_call 66; refine (s_l04Block a n cap L A m capF F p _ (HS.out.later (by repeat (first | (with_reducible exact Later.refl _) | (with_reducible exact Hid.out (by assumption)) | (with_reducible refine Later.alloc ?_ _) | (with_reducible refine Later.setCell ?_ (by simp; omega) _) | (with_reducible refine Later.setCell ?_ (by simp) _) | (with_reducible refine Later.drewN ?_ _) | (with_reducible refine Later.drew ?_) | (with_reducible refine Later.trans ?_ (Hid.out (by assumption)))))) (HF.out.later (by repeat (first | (with_reducible exact Later.refl _) | (with_reducible exact Hid.out (by assumption)) | (with_reducible refine Later.alloc ?_ _) | (with_reducible refine Later.setCell ?_ (by simp; omega) _) | (with_reducible refine Later.setCell ?_ (by simp) _) | (with_reducible refine Later.drewN ?_ _) | (with_reducible refine Later.drew ?_) | (with_reducible refine Later.trans ?_ (Hid.out (by assumption)))))) hp hp2).mono ?_; rintro e w1 ⟨rfl, hb⟩; obtain ⟨H, hcc, hff, hzz⟩ := later_facts hb; clear hb; (try simp at hzz); have hz0 : w.heap.size < w1.heap.size := (by omega))
    go_ret2
    exact ⟨ret_2i (by rw [HT.out]; rfl) rfl, (by repeat (first | (with_reducible exact Later.refl _) | (with_reducible exact Hid.out (by assumption)) | (with_reducible refine Later.alloc ?_ _) | (with_reducible refine Later.setCell ?_ (by simp; omega) _) | (with_reducible refine Later.setCell ?_ (by simp) _) | (with_reducible refine Later.drewN ?_ _) | (with_reducible refine Later.drew ?_) | (with_reducible refine Later.trans ?_ (Hid.out (by assumption)))))⟩
theorem s_HoldingSegment (a : Option Addr) (n cap : Nat) (L : List Sg) (A : Option Addr) (m capF : Nat) (F : List Int) (p : Int) (w : World) (hs : Sgs w a n L) (hf : Sl w A m F) (hp : -9223372036854775808 ≤ p) (hp2 : p ≤ 9223372036854775807) :
    Calls Try.prog 44 #[.agg #[.slice a n cap], .slice A m capF, .int .i64 p] w fun e w' => e = .returned (.tuple #[.int .i64 (fndC L F (isNo p)).l, .int .i64 (fndE L F (isNo p))]) ∧ Later w w' := by
  have HS := Lib.hid hs; have HF := Lib.hid hf; have HL := Lib.hid hs.1; have HM := Lib.hid hf.1
  have hn := hs.2.1; have hm := hf.2.1
  clear hs hf
  by_cases h0 : fndE L F (isNo p) = 0
  · have HE := Lib.hid h0
    obtain ⟨b, rfl, hb, hv, hk, hsec⟩ := isNo_cases h0
    rw [HM.out] at hb
    have HV := Lib.hid hv; have HK := Lib.hid hk; have HSEC := Lib.hid hsec
    have h24 := ((layB_iff L).1 hv).2.1; have h3 := ((layB_iff L).1 hv).1
    rw [HL.out] at h24 h3
    have h28 : m ≤ 8 := by have := (bkC_iff L F).1 hk; rw [HM.out] at this; omega
    clear hv hk hsec h0
    have g3 := (blk_bd HK.out b (by rw [HM.out]; exact hb)).2.2
    have g2 := (blk_bd HK.out b (by rw [HM.out]; exact hb)).2.1
    rw [HL.out] at g3
    have hend := fun w (h1 : Sgs w a n L) (h2 : Sl w A m F) => s_l04End a n cap L A m capF F b w h1 h2 HK.out hb
    have HEND := Lib.hid hend
    have HSL : Hid ((fndC L F (isNo (b : Int))).l = (endK L F b : Int) - 1) := Lib.hid (by rw [HSEC.out]; rfl)
    clear hend
    generalize endK L F b = e at *
    go_enter Try.func44, Try.ntmps44
    go_wp2_with (first
      | (go_at_call 66; refine (s_l04Block a n cap L A m capF F (b : Int) _ (HS.out.later (by repeat (first | (with_reducible exact Later.refl _) | (with_reducible exact Hid.out (by assumption)) | (with_reducible refine Later.alloc ?_ _) | (with_reducible refine Later.setCell ?_ (by simp; omega) _) | (with_reducible refine Later.setCell ?_ (by simp) _) | (with_reducible refine Later.drewN ?_ _) | (with_reducible refine Later.drew ?_) | (with_reducible refine Later.trans ?_ (Hid.out (by assumption)))))) (HF.out.later (by repeat (first | (with_reducible exact Later.refl _) | (with_reducible exact Hid.out (by assumption)) | (with_reducible refine Later.alloc ?_ _) | (with_reducible refine Later.setCell ?_ (by simp; omega) _) | (with_reducible refine Later.setCell ?_ (by simp) _) | (with_reducible refine Later.drewN ?_ _) | (with_reducible refine Later.drew ?_) | (with_reducible refine Later.trans ?_ (Hid.out (by assumption)))))) hp hp2).mono ?_; rw [HE.out]; rintro e w1 ⟨rfl, hb⟩; obtain ⟨H, hcc, hff, hzz⟩ := later_facts hb; clear hb; (try simp at hzz); have hz0 : w.heap.size < w1.heap.size := (by omega))
      | (go_at_call 75; refine (HEND.out _ (HS.out.later (by repeat (first | (with_reducible exact Later.refl _) | (with_reducible exact Hid.out (by assumption)) | (with_reducible refine Later.alloc ?_ _) | (with_reducible refine Later.setCell ?_ (by simp; omega) _) | (with_reducible refine Later.setCell ?_ (by simp) _) | (with_reducible refine Later.drewN ?_ _) | (with_reducible refine Later.drew ?_) | (with_reducible refine Later.trans ?_ (Hid.out (by assumption)))))) (HF.out.later (by repeat (first | (with_reducible exact Later.refl _) | (with_reducible exact Hid.out (by assumption)) | (with_reducible refine Later.alloc ?_ _) | (with_reducible refine Later.setCell ?_ (by simp; omega) _) | (with_reducible refine Later.setCell ?_ (by simp) _) | (with_reducible refine Later.drewN ?_ _) | (with_reducible refine Later.drew ?_) | (with_reducible refine Later.trans ?_ (Hid.out (by assumption))))))).mono ?_; rintro e w2 ⟨rfl, hb2⟩; have H2 := Lib.hid hb2; clear hb2))
    go_ret2
    exact ⟨ret_2i (by rw [HSL.out]) (by rw [HE.out]), (by repeat (first | (with_reducible exact Later.refl _) | (with_reducible exact Hid.out (by assumption)) | (with_reducible refine Later.alloc ?_ _) | (with_reducible refine Later.setCell ?_ (by simp; omega) _) | (with_reducible refine Later.setCell ?_ (by simp) _) | (with_reducible refine Later.drewN ?_ _) | (with_reducible refine Later.drew ?_) | (with_reducible refine Later.trans ?_ (Hid.out (by assumption)))))⟩
  · have h1 : (fndE L F (isNo p) != 0) = true := by simpa using h0
    have HT := Lib.hid (fndC_no h0)
    have HE := Lib.hid (rfl : fndE L F (isNo p) = fndE L F (isNo p))
    clear h0
    go_enter Try.func44, Try.ntmps44
    go_wp2_with (go_at_call 66; refine (s_l04Block a n cap L A m capF F p _ (HS.out.later (by repeat (first | (with_reducible exact Later.refl _) | (with_reducible exact Hid.out (by assumption)) | (with_reducible refine Later.alloc ?_ _) | (with_reducible refine Later.setCell ?_ (by simp; omega) _) | (with_reducible refine Later.setCell ?_ (by simp) _) | (with_reducible refine Later.drewN ?_ _) | (with_reducible refine Later.drew ?_) | (with_reducible refine Later.trans ?_ (Hid.out (by assumption)))))) (HF.out.later (by repeat (first | (with_reducible exact Later.refl _) | (with_reducible exact Hid.out (by assumption)) | (with_reducible refine Later.alloc ?_ _) | (with_reducible refine Later.setCell ?_ (by simp; omega) _) | (with_reducible refine Later.setCell ?_ (by simp) _) | (with_reducible refine Later.drewN ?_ _) | (with_reducible refine Later.drew ?_) | (with_reducible refine Later.trans ?_ (Hid.out (by assumption)))))) hp hp2).mono ?_; rintro e w1 ⟨rfl, hb⟩; obtain ⟨H, hcc, hff, hzz⟩ := later_facts hb; clear hb; (try simp at hzz); have hz0 : w.heap.size < w1.heap.size := (by omega))
    go_ret2
    exact ⟨ret_2i (by rw [HT.out]; rfl) rfl, (by repeat (first | (with_reducible exact Later.refl _) | (with_reducible exact Hid.out (by assumption)) | (with_reducible refine Later.alloc ?_ _) | (with_reducible refine Later.setCell ?_ (by simp; omega) _) | (with_reducible refine Later.setCell ?_ (by simp) _) | (with_reducible refine Later.drewN ?_ _) | (with_reducible refine Later.drew ?_) | (with_reducible refine Later.trans ?_ (Hid.out (by assumption)))))⟩
theorem two_cells' {w w' : World} {B b o : Nat} {u v : Value} (h : w.cell? ⟨B, 0, none⟩ = some u) (k : w.cell? ⟨b, o, none⟩ = some v) (hb : Later w w') : w'.cell? ⟨B, 0, none⟩ = some u ∧ w'.cell? ⟨b, o, none⟩ = some v :=
  ⟨by rw [hb.cell (p := ⟨B, 0, none⟩) (cell_lt h)]; exact h, by rw [hb.cell (p := ⟨b, o, none⟩) (cell_lt k)]; exact k⟩
/-- the beginnings of segments, as a row whose element f is known -/
theorem s_StartsAt (a : Option Addr) (n cap : Nat) (L : List Sg) (f : Nat) (w : World) (hs : Sgs w a n L) (hv : layB L = true) (hf : f < n) :
    Calls Try.prog 74 #[.agg #[.slice a n cap]] w fun e w' => ∃ g c, e = .returned (.slice (some ⟨g, 0, none⟩) n c) ∧ w'.cell? ⟨g, f, none⟩ = some (.int .i64 (upL L f)) ∧ Later w w' := by
  have hl := hs.1
  refine (s_l03Starts a n cap L w hs hv).mono ?_
  rintro e w' ⟨v, rfl, ho, hb⟩
  have HT : strs L = sFst L n := by unfold strs sFst; rw [hv, hl]; simp
  rw [HT] at ho
  rcases ho.1.2 with ⟨_, e⟩ | ⟨g, cap5, cur, rfl, hg, _⟩
  · rw [sFst_len] at e; omega
  refine ⟨g, cap5, by rw [sFst_len], ?_, hb⟩
  rw [ho.1.cellAt f (by rw [sFst_len]; omega), List.getElem?_map]
  simp [sFst, hf]
set_option maxRecDepth 100000 in
theorem s_BlockStart (a : Option Addr) (n cap : Nat) (L : List Sg) (A : Option Addr) (m capF : Nat) (F : List Int) (p : Int) (w : World) (hs : Sgs w a n L) (hf : Sl w A m F) (hp : -9223372036854775808 ≤ p) (hp2 : p ≤ 9223372036854775807) :
    Calls Try.prog 43 #[.agg #[.slice a n cap], .slice A m capF, .int .i64 p] w fun e w' => e = .returned (.tuple #[.int .i64 (fndC L F (isNo p)).s, .int .i64 (fndE L F (isNo p))]) ∧ Later w w' := by
  have HS := Lib.hid hs; have HF := Lib.hid hf; have HL := Lib.hid hs.1; have HM := Lib.hid hf.1
  have hn := hs.2.1; have hm := hf.2.1
  clear hs hf
  by_cases h0 : fndE L F (isNo p) = 0
  · have HE := Lib.hid h0
    obtain ⟨b, rfl, hb, hv, hk, hsec⟩ := isNo_cases h0
    rw [HM.out] at hb
    have HV := Lib.hid hv; have HK := Lib.hid hk; have HSEC := Lib.hid hsec
    have h24 := ((layB_iff L).1 hv).2.1; have h3 := ((layB_iff L).1 hv).1
    rw [HL.out] at h24 h3
    have h28 : m ≤ 8 := by have := (bkC_iff L F).1 hk; rw [HM.out] at this; omega
    obtain ⟨g1, g2, g3⟩ := blk_bd hk b (by rw [HM.out]; exact hb)
    rw [HL.out] at g3
    have hfn : fstK F b < n := by omega
    have HSL : Hid ((fndC L F (isNo (b : Int))).s = upL L (fstK F b)) := Lib.hid (by rw [HSEC.out]; rfl)
    obtain ⟨bF, oF, rfl, hcF⟩ := HF.out.at b hb
    rw [g1] at hcF
    generalize fstK F b = f at *
    have HC := Lib.hid hcF
    have hbF := cell_lt hcF
    clear hv hk hsec h0 g1 g2 g3 hcF
    go_enter Try.func43, Try.ntmps43
    go_wp2_with fail
    refine (s_l04Block a n cap L _ m capF F (b : Int) _ (HS.out.later (by repeat (first | (with_reducible exact Later.refl _) | (with_reducible exact Hid.out (by assumption)) | (with_reducible refine Later.alloc ?_ _) | (with_reducible refine Later.setCell ?_ (by simp; omega) _) | (with_reducible refine Later.setCell ?_ (by simp) _) | (with_reducible refine Later.drewN ?_ _) | (with_reducible refine Later.drew ?_) | (with_reducible refine Later.trans ?_ (Hid.out (by assumption)))))) (HF.out.later (by repeat (first | (with_reducible exact Later.refl _) | (with_reducible exact Hid.out (by assumption)) | (with_reducible refine Later.alloc ?_ _) | (with_reducible refine Later.setCell ?_ (by simp; omega) _) | (with_reducible refine Later.setCell ?_ (by simp) _) | (with_reducible refine Later.drewN ?_ _) | (with_reducible refine Later.drew ?_) | (with_reducible refine Later.trans ?_ (Hid.out (by assumption)))))) hp hp2).mono ?_
    rw [HE.out]
    rintro e w1 ⟨rfl, hb1⟩
    have H1 : Hid (Later w w1) := Lib.hid (Later.trans (by repeat (first | (with_reducible exact Later.refl _) | (with_reducible exact Hid.out (by assumption)) | (with_reducible refine Later.alloc ?_ _) | (with_reducible refine Later.setCell ?_ (by simp; omega) _) | (with_reducible refine Later.setCell ?_ (by simp) _) | (with_reducible refine Later.drewN ?_ _) | (with_reducible refine Later.drew ?_) | (with_reducible refine Later.trans ?_ (Hid.out (by assumption))))) hb1)
    have cb : w1.cell? ⟨w.heap.size, 0, none⟩ = some (.slice a n cap) := by rw [hb1.cell (p := ⟨w.heap.size, 0, none⟩) (by simp)]; simp
    have cf : w1.cell? ⟨bF, oF + b, none⟩ = some (.int .i64 f) := by rw [H1.out.cell (p := ⟨bF, oF + b, none⟩) hbF]; exact HC.out
    have HCB := Lib.hid cb; have HCF := Lib.hid cf
    have hk1 : (0 : Int) ≤ (b : Int) := by omega
    have hk2 : (b : Int) < (m : Int) := by omega
    have hk3 : (0 : Int) ≤ (f : Int) := by omega
    have hk4 : (f : Int) < (n : Int) := by omega
    clear hb1
    go_wp2_with fail
    go_region_with (go_at_call 74; refine (s_StartsAt a n cap L f _ (HS.out.later (by repeat (first | (with_reducible exact Later.refl _) | (with_reducible exact Hid.out (by assumption)) | (with_reducible refine Later.alloc ?_ _) | (with_reducible refine Later.setCell ?_ (by simp; omega) _) | (with_reducible refine Later.setCell ?_ (by simp) _) | (with_reducible refine Later.drewN ?_ _) | (with_reducible refine Later.drew ?_) | (with_reducible refine Later.trans ?_ (Hid.out (by assumption)))))) HV.out hfn).mono ?_; rintro e w3 ⟨g, c, rfl, hcg, hb3⟩; have H3 := Lib.hid hb3; obtain ⟨cb3, cf3⟩ := two_cells' HCB.out HCF.out (Later.trans (by repeat (first | (with_reducible exact Later.refl _) | (with_reducible exact Hid.out (by assumption)) | (with_reducible refine Later.alloc ?_ _) | (with_reducible refine Later.setCell ?_ (by simp; omega) _) | (with_reducible refine Later.setCell ?_ (by simp) _) | (with_reducible refine Later.drewN ?_ _) | (with_reducible refine Later.drew ?_) | (with_reducible refine Later.trans ?_ (Hid.out (by assumption))))) hb3); clear hb3)
    all_goals
      go_wp2
      go_ret2
      exact ⟨ret_2i (by rw [HSL.out]) (by rw [HE.out]), (by repeat (first | (with_reducible exact Later.refl _) | (with_reducible exact Hid.out (by assumption)) | (with_reducible refine Later.alloc ?_ _) | (with_reducible refine Later.setCell ?_ (by simp; omega) _) | (with_reducible refine Later.setCell ?_ (by simp) _) | (with_reducible refine Later.drewN ?_ _) | (with_reducible refine Later.drew ?_) | (with_reducible refine Later.trans ?_ (Hid.out (by assumption)))))⟩
  · have h1 : (fndE L F (isNo p) != 0) = true := by simpa using h0
    have HT := Lib.hid (fndC_no h0)
    clear h0
    go_enter Try.func43, Try.ntmps43
    go_wp2_with (go_at_call 66; refine (s_l04Block a n cap L A m capF F p _ (HS.out.later (by repeat (first | (with_reducible exact Later.refl _) | (with_reducible exact Hid.out (by assumption)) | (with_reducible refine Later.alloc ?_ _) | (with_reducible refine Later.setCell ?_ (by simp; omega) _) | (with_reducible refine Later.setCell ?_ (by simp) _) | (with_reducible refine Later.drewN ?_ _) | (with_reducible refine Later.drew ?_) | (with_reducible refine Later.trans ?_ (Hid.out (by assumption)))))) (HF.out.later (by repeat (first | (with_reducible exact Later.refl _) | (with_reducible exact Hid.out (by assumption)) | (with_reducible refine Later.alloc ?_ _) | (with_reducible refine Later.setCell ?_ (by simp; omega) _) | (with_reducible refine Later.setCell ?_ (by simp) _) | (with_reducible refine Later.drewN ?_ _) | (with_reducible refine Later.drew ?_) | (with_reducible refine Later.trans ?_ (Hid.out (by assumption)))))) hp hp2).mono ?_; rintro e w1 ⟨rfl, hb⟩; obtain ⟨H, hcc, hff, hzz⟩ := later_facts hb; clear hb; (try simp at hzz); have hz0 : w.heap.size < w1.heap.size := (by omega))
    go_ret2
    exact ⟨ret_2i (by rw [HT.out]; rfl) rfl, (by repeat (first | (with_reducible exact Later.refl _) | (with_reducible exact Hid.out (by assumption)) | (with_reducible refine Later.alloc ?_ _) | (with_reducible refine Later.setCell ?_ (by simp; omega) _) | (with_reducible refine Later.setCell ?_ (by simp) _) | (with_reducible refine Later.drewN ?_ _) | (with_reducible refine Later.drew ?_) | (with_reducible refine Later.trans ?_ (Hid.out (by assumption)))))⟩
end Go.Proofs.Ytblmbaioflebkaa
