/- Contracts of chapter 4: the model's look-ups. -/
import Derived.Test.YtehinlecppbjeaaBkS
namespace Go.Proofs.Ytehinlecppbjeaa
open Go.RowKit
set_option maxHeartbeats 4000000
set_option linter.unusedVariables false
set_option linter.unusedSimpArgs false
theorem s_AreBlocks (a : Option Addr) (n cap : Nat) (L : List Sg) (A : Option Addr) (m capF : Nat) (F : List Int) (w : World) (hs : Sgs w a n L) (hf : Sl w A m F) :
    Calls Try.prog 58 #[.agg #[.slice a n cap], .slice A m capF] w fun e w' => e = .returned (.bool (bkB L F)) ∧ Later w w' := by
  have HS := Lib.hid hs; have HF := Lib.hid hf
  clear hs hf
  cases hv : layB L
  · have HT := Lib.hid (bkB_nl (F := F) hv)
    go_enter Try.func58, Try.ntmps58
    go_wp2_with (first
      | (go_at_call 84; refine (s_IsLayout a n cap L _ (HS.out.later (by repeat (first | (with_reducible exact Later.refl _) | (with_reducible exact Hid.out (by assumption)) | (with_reducible refine Later.alloc ?_ _) | (with_reducible refine Later.setCell ?_ (by simp; omega) _) | (with_reducible refine Later.setCell ?_ (by simp) _) | (with_reducible refine Later.drewN ?_ _) | (with_reducible refine Later.drew ?_) | (with_reducible refine Later.trans ?_ (Hid.out (by assumption))))))).mono ?_; rw [hv]; rintro e w1 ⟨rfl, hb⟩; obtain ⟨H, hcc, hff, hzz⟩ := later_facts hb; clear hb; (try simp at hzz)))
    go_ret
    exact ⟨ret_b (by rw [HT.out]), (by repeat (first | (with_reducible exact Later.refl _) | (with_reducible exact Hid.out (by assumption)) | (with_reducible refine Later.alloc ?_ _) | (with_reducible refine Later.setCell ?_ (by simp; omega) _) | (with_reducible refine Later.setCell ?_ (by simp) _) | (with_reducible refine Later.drewN ?_ _) | (with_reducible refine Later.drew ?_) | (with_reducible refine Later.trans ?_ (Hid.out (by assumption)))))⟩
  · have HV := Lib.hid hv
    have HB : Hid (bkB L F = bkC L F) := Lib.hid (bkB_l hv)
    cases hk : bkC L F
    all_goals
      go_enter Try.func58, Try.ntmps58
      go_wp2_with (first
        | (go_at_call 84; refine (s_IsLayout a n cap L _ (HS.out.later (by repeat (first | (with_reducible exact Later.refl _) | (with_reducible exact Hid.out (by assumption)) | (with_reducible refine Later.alloc ?_ _) | (with_reducible refine Later.setCell ?_ (by simp; omega) _) | (with_reducible refine Later.setCell ?_ (by simp) _) | (with_reducible refine Later.drewN ?_ _) | (with_reducible refine Later.drew ?_) | (with_reducible refine Later.trans ?_ (Hid.out (by assumption))))))).mono ?_; rw [hv]; rintro e w1 ⟨rfl, hb⟩; obtain ⟨H, hcc, hff, hzz⟩ := later_facts hb; clear hb; (try simp at hzz))
        | (go_at_call 112; refine (s_l04Blocks a n cap L A m capF F _ (HS.out.later (by repeat (first | (with_reducible exact Later.refl _) | (with_reducible exact Hid.out (by assumption)) | (with_reducible refine Later.alloc ?_ _) | (with_reducible refine Later.setCell ?_ (by simp; omega) _) | (with_reducible refine Later.setCell ?_ (by simp) _) | (with_reducible refine Later.drewN ?_ _) | (with_reducible refine Later.drew ?_) | (with_reducible refine Later.trans ?_ (Hid.out (by assumption)))))) (HF.out.later (by repeat (first | (with_reducible exact Later.refl _) | (with_reducible exact Hid.out (by assumption)) | (with_reducible refine Later.alloc ?_ _) | (with_reducible refine Later.setCell ?_ (by simp; omega) _) | (with_reducible refine Later.setCell ?_ (by simp) _) | (with_reducible refine Later.drewN ?_ _) | (with_reducible refine Later.drew ?_) | (with_reducible refine Later.trans ?_ (Hid.out (by assumption)))))) HV.out).mono ?_; rw [hk]; rintro e w2 ⟨rfl, hb⟩; have H2 := Lib.hid hb; clear hb))
      go_ret
      exact ⟨ret_b (by rw [HB.out, hk]), (by repeat (first | (with_reducible exact Later.refl _) | (with_reducible exact Hid.out (by assumption)) | (with_reducible refine Later.alloc ?_ _) | (with_reducible refine Later.setCell ?_ (by simp; omega) _) | (with_reducible refine Later.setCell ?_ (by simp) _) | (with_reducible refine Later.drewN ?_ _) | (with_reducible refine Later.drew ?_) | (with_reducible refine Later.trans ?_ (Hid.out (by assumption)))))⟩
/-- the block of a segment -/
theorem s_l04Of (A : Option Addr) (m capF : Nat) (F : List Int) (L : List Sg) (s b : Nat) (w : World) (hf : Sl w A m F) (hk : bkC L F = true) (hs : s ≤ 1000) (hb : IsB L F s b) :
    Calls Try.prog 137 #[.slice A m capF, .int .i64 s] w fun e w' => e = .returned (.int .i64 b) ∧ w = w' := by
  have HF := Lib.hid hf; have HM := Lib.hid hf.1
  have HK := Lib.hid hk; have HB := Lib.hid hb
  obtain ⟨h2, h8, hr, _, _⟩ := (bkC_iff L F).1 hk
  have HR := Lib.hid hr
  rw [HM.out] at h2 h8
  obtain ⟨b1, b2, b3⟩ := hb
  rw [HM.out] at b1
  clear hf hk hr
  go_enter Try.func137, Try.ntmps137
  go_wp2
  go_loop [5] (fun i => ∃ k : Nat, k ≤ b ∧ i = .int .i64 k) (fun i => b - (intOf i).toNat)
  case atStart => exact ⟨0, by omega, rfl⟩
  case round =>
    obtain ⟨k, hkb, rfl⟩ := hrel
    by_cases hlt : k < b
    · obtain ⟨bF, oF, rfl, hc⟩ := HF.out.at (k + 1) (by omega)
      have e1 := (ris_nat HR.out (k + 1) (by rw [HM.out]; omega)).1
      have e2 := ris_mono HR.out (k + 1) b (by omega) (by rw [HM.out]; omega)
      rw [e1] at hc
      have hkm : ((k : Int) + 1 < m) := by omega
      have hle : (fstK F (k + 1) : Int) ≤ s := by omega
      go_wp2
      go_round
      case rel => exact ⟨k + 1, by omega, by go_num⟩
      case measure => simp [intOf]; omega
    · obtain rfl : k = b := by omega
      by_cases hk1 : k + 1 < m
      · obtain ⟨bF, oF, rfl, hc⟩ := HF.out.at (k + 1) (by omega)
        have e1 := (ris_nat HR.out (k + 1) (by rw [HM.out]; omega)).1
        rw [e1] at hc
        rw [endK_next k (by rw [HM.out]; exact hk1)] at b3
        have hkm : ((k : Int) + 1 < m) := by omega
        have hle : ¬ ((fstK F (k + 1) : Int) ≤ s) := by omega
        go_wp2
        go_ret
        exact ⟨rfl, rfl⟩
      · have hkm : ¬ ((k : Int) + 1 < m) := by omega
        go_wp2
        go_ret
        exact ⟨rfl, rfl⟩
theorem s_l04At (a : Option Addr) (n cap : Nat) (L : List Sg) (A : Option Addr) (m capF : Nat) (F : List Int) (p : Int) (k b : Nat) (w : World) (hs : Sgs w a n L) (hf : Sl w A m F) (hp : -9223372036854775808 ≤ p) (hp2 : p ≤ 9223372036854775807) (hv : layB L = true) (hk : bkC L F = true) (hat : IsAt L p k) (hb : IsB L F k b) :
    Calls Try.prog 109 #[.agg #[.slice a n cap], .slice A m capF, .int .i64 p] w fun e w' => e = .returned (.int .i64 b) ∧ Later w w' := by
  have HS := Lib.hid hs; have HF := Lib.hid hf; have HV := Lib.hid hv; have HK := Lib.hid hk; have HA := Lib.hid hat; have HB := Lib.hid hb
  have hkn : k ≤ 1000 := by have := hat.1; have := ((layB_iff L).1 hv).2.1; omega
  clear hs hf hv hk hat hb
  go_enter Try.func109, Try.ntmps109
  go_wp2_with (first
    | (go_at_call 136; refine (s_l03At a n cap L p k _ (HS.out.later (by repeat (first | (with_reducible exact Later.refl _) | (with_reducible exact Hid.out (by assumption)) | (with_reducible refine Later.alloc ?_ _) | (with_reducible refine Later.setCell ?_ (by simp; omega) _) | (with_reducible refine Later.setCell ?_ (by simp) _) | (with_reducible refine Later.drewN ?_ _) | (with_reducible refine Later.drew ?_) | (with_reducible refine Later.trans ?_ (Hid.out (by assumption)))))) hp hp2 HV.out HA.out).mono ?_; rintro e w1 ⟨rfl, hb⟩; have H := Lib.hid hb; clear hb)
    | (go_at_call 137; refine (s_l04Of A m capF F L k b _ (HF.out.later (by repeat (first | (with_reducible exact Later.refl _) | (with_reducible exact Hid.out (by assumption)) | (with_reducible refine Later.alloc ?_ _) | (with_reducible refine Later.setCell ?_ (by simp; omega) _) | (with_reducible refine Later.setCell ?_ (by simp) _) | (with_reducible refine Later.drewN ?_ _) | (with_reducible refine Later.drew ?_) | (with_reducible refine Later.trans ?_ (Hid.out (by assumption)))))) HK.out hkn HB.out).mono ?_; rintro e w' ⟨rfl, rfl⟩))
  go_ret
  exact ⟨rfl, (by repeat (first | (with_reducible exact Later.refl _) | (with_reducible exact Hid.out (by assumption)) | (with_reducible refine Later.alloc ?_ _) | (with_reducible refine Later.setCell ?_ (by simp; omega) _) | (with_reducible refine Later.setCell ?_ (by simp) _) | (with_reducible refine Later.drewN ?_ _) | (with_reducible refine Later.drew ?_) | (with_reducible refine Later.trans ?_ (Hid.out (by assumption)))))⟩
theorem s_BlockAt (a : Option Addr) (n cap : Nat) (L : List Sg) (A : Option Addr) (m capF : Nat) (F : List Int) (p : Int) (w : World) (hs : Sgs w a n L) (hf : Sl w A m F) (hp : -9223372036854775808 ≤ p) (hp2 : p ≤ 9223372036854775807) :
    Calls Try.prog 56 #[.agg #[.slice a n cap], .slice A m capF, .int .i64 p] w fun e w' => e = .returned (.tuple #[.int .i64 (fndC L F (hasP p)).n, .int .i64 (fndE L F (hasP p))]) ∧ Later w w' := by
  have HS := Lib.hid hs; have HF := Lib.hid hf; have HL := Lib.hid hs.1; have HM := Lib.hid hf.1
  have hn := hs.2.1; have hm := hf.2.1
  clear hs hf
  cases hb : bkB L F
  · have HB := Lib.hid hb
    have HT := Lib.hid (fndC_bad (p := hasP p) hb)
    clear hb
    go_enter Try.func56, Try.ntmps56
    go_wp2_with (first
      | (go_at_call 58; refine (s_AreBlocks a n cap L A m capF F _ (HS.out.later (by repeat (first | (with_reducible exact Later.refl _) | (with_reducible exact Hid.out (by assumption)) | (with_reducible refine Later.alloc ?_ _) | (with_reducible refine Later.setCell ?_ (by simp; omega) _) | (with_reducible refine Later.setCell ?_ (by simp) _) | (with_reducible refine Later.drewN ?_ _) | (with_reducible refine Later.drew ?_) | (with_reducible refine Later.trans ?_ (Hid.out (by assumption)))))) (HF.out.later (by repeat (first | (with_reducible exact Later.refl _) | (with_reducible exact Hid.out (by assumption)) | (with_reducible refine Later.alloc ?_ _) | (with_reducible refine Later.setCell ?_ (by simp; omega) _) | (with_reducible refine Later.setCell ?_ (by simp) _) | (with_reducible refine Later.drewN ?_ _) | (with_reducible refine Later.drew ?_) | (with_reducible refine Later.trans ?_ (Hid.out (by assumption))))))).mono ?_; rw [HB.out]; rintro e w1 ⟨rfl, hb⟩; obtain ⟨H, hcc, hff, hzz⟩ := later_facts hb; clear hb; (try simp at hzz)))
    go_ret2
    exact ⟨ret_2i (by rw [HT.out.1]; rfl) (by rw [HT.out.2]), (by repeat (first | (with_reducible exact Later.refl _) | (with_reducible exact Hid.out (by assumption)) | (with_reducible refine Later.alloc ?_ _) | (with_reducible refine Later.setCell ?_ (by simp; omega) _) | (with_reducible refine Later.setCell ?_ (by simp) _) | (with_reducible refine Later.drewN ?_ _) | (with_reducible refine Later.drew ?_) | (with_reducible refine Later.trans ?_ (Hid.out (by assumption)))))⟩
  · have HB := Lib.hid hb
    obtain ⟨hv, hk⟩ := bkB_lay hb
    have HK := Lib.hid hk; have HV := Lib.hid hv
    have HO := Lib.hid ((layB_iff L).1 hv).2.2.1
    have h24 := ((layB_iff L).1 hv).2.1; have h3 := ((layB_iff L).1 hv).1
    rw [HL.out] at h24 h3
    obtain ⟨_, _, t1, t2⟩ := up_bd L L.length (Nat.le_refl _) HO.out
    have t3 : 0 ≤ totL L ∧ totL L ≤ 4800000 := by unfold totL; rw [HL.out] at t1 t2 ⊢; omega
    obtain ⟨t3, t4⟩ := t3
    clear t1 t2
    by_cases hin : 0 ≤ p ∧ p ≤ totL L - 1
    · obtain ⟨k, hat⟩ := isAt_some L p hin.1 L.length (Nat.le_refl _) (by have := hin.2; unfold totL at this; omega)
      obtain ⟨b, hsb⟩ := isB_some hk hat.1
      have HA := Lib.hid hat; have HIB := Lib.hid hsb
      have HT : Hid (fndC L F (hasP p) = sec L F b ∧ fndE L F (hasP p) = 0) := Lib.hid (fndC_some hb (fnd_hasP hv hk hat hsb))
      obtain ⟨q1, q2⟩ := hin
      clear hsb hb hk hv hat
      go_enter Try.func56, Try.ntmps56
      go_wp2_with (first
        | (go_at_call 58; refine (s_AreBlocks a n cap L A m capF F _ (HS.out.later (by repeat (first | (with_reducible exact Later.refl _) | (with_reducible exact Hid.out (by assumption)) | (with_reducible refine Later.alloc ?_ _) | (with_reducible refine Later.setCell ?_ (by simp; omega) _) | (with_reducible refine Later.setCell ?_ (by simp) _) | (with_reducible refine Later.drewN ?_ _) | (with_reducible refine Later.drew ?_) | (with_reducible refine Later.trans ?_ (Hid.out (by assumption)))))) (HF.out.later (by repeat (first | (with_reducible exact Later.refl _) | (with_reducible exact Hid.out (by assumption)) | (with_reducible refine Later.alloc ?_ _) | (with_reducible refine Later.setCell ?_ (by simp; omega) _) | (with_reducible refine Later.setCell ?_ (by simp) _) | (with_reducible refine Later.drewN ?_ _) | (with_reducible refine Later.drew ?_) | (with_reducible refine Later.trans ?_ (Hid.out (by assumption))))))).mono ?_; rw [HB.out]; rintro e w1 ⟨rfl, hb⟩; obtain ⟨H, hcc, hff, hzz⟩ := later_facts hb; clear hb; (try simp at hzz))
        | (go_at_call 73; refine (s_Total a n cap L _ (HS.out.later (by repeat (first | (with_reducible exact Later.refl _) | (with_reducible exact Hid.out (by assumption)) | (with_reducible refine Later.alloc ?_ _) | (with_reducible refine Later.setCell ?_ (by simp; omega) _) | (with_reducible refine Later.setCell ?_ (by simp) _) | (with_reducible refine Later.drewN ?_ _) | (with_reducible refine Later.drew ?_) | (with_reducible refine Later.trans ?_ (Hid.out (by assumption)))))) HO.out h24).mono ?_; rintro e w2 ⟨rfl, hb⟩; obtain ⟨H2, hcc2, hff2, hzz2⟩ := later_facts hb; clear hb; have hz0 : w.heap.size < w1.heap.size := (by omega))
        | (go_at_call 108; refine (s_In _ _ _ _).mono ?_; rintro e w' ⟨rfl, rfl⟩)
        | (go_at_call 109; refine (s_l04At a n cap L A m capF F p k b _ (HS.out.later (by repeat (first | (with_reducible exact Later.refl _) | (with_reducible exact Hid.out (by assumption)) | (with_reducible refine Later.alloc ?_ _) | (with_reducible refine Later.setCell ?_ (by simp; omega) _) | (with_reducible refine Later.setCell ?_ (by simp) _) | (with_reducible refine Later.drewN ?_ _) | (with_reducible refine Later.drew ?_) | (with_reducible refine Later.trans ?_ (Hid.out (by assumption)))))) (HF.out.later (by repeat (first | (with_reducible exact Later.refl _) | (with_reducible exact Hid.out (by assumption)) | (with_reducible refine Later.alloc ?_ _) | (with_reducible refine Later.setCell ?_ (by simp; omega) _) | (with_reducible refine Later.setCell ?_ (by simp) _) | (with_reducible refine Later.drewN ?_ _) | (with_reducible refine Later.drew ?_) | (with_reducible refine Later.trans ?_ (Hid.out (by assumption)))))) hp hp2 HV.out HK.out HA.out HIB.out).mono ?_; rintro e w3 ⟨rfl, hb⟩; have H3 := Lib.hid hb; clear hb))
      go_ret2
      exact ⟨ret_2i (by rw [HT.out.1]; rfl) (by rw [HT.out.2]), (by repeat (first | (with_reducible exact Later.refl _) | (with_reducible exact Hid.out (by assumption)) | (with_reducible refine Later.alloc ?_ _) | (with_reducible refine Later.setCell ?_ (by simp; omega) _) | (with_reducible refine Later.setCell ?_ (by simp) _) | (with_reducible refine Later.drewN ?_ _) | (with_reducible refine Later.drew ?_) | (with_reducible refine Later.trans ?_ (Hid.out (by assumption)))))⟩
    · have HT : Hid (fndC L F (hasP p) = sc0 ∧ fndE L F (hasP p) = 2) := Lib.hid (fndC_none hb (fnd_hasP_no hv hk (by omega)))
      have d : (decide (0 ≤ p) && decide (p ≤ totL L - 1)) = false := by simpa using hin
      clear hin hb hk hv
      go_enter Try.func56, Try.ntmps56
      go_wp2_with (first
        | (go_at_call 58; refine (s_AreBlocks a n cap L A m capF F _ (HS.out.later (by repeat (first | (with_reducible exact Later.refl _) | (with_reducible exact Hid.out (by assumption)) | (with_reducible refine Later.alloc ?_ _) | (with_reducible refine Later.setCell ?_ (by simp; omega) _) | (with_reducible refine Later.setCell ?_ (by simp) _) | (with_reducible refine Later.drewN ?_ _) | (with_reducible refine Later.drew ?_) | (with_reducible refine Later.trans ?_ (Hid.out (by assumption)))))) (HF.out.later (by repeat (first | (with_reducible exact Later.refl _) | (with_reducible exact Hid.out (by assumption)) | (with_reducible refine Later.alloc ?_ _) | (with_reducible refine Later.setCell ?_ (by simp; omega) _) | (with_reducible refine Later.setCell ?_ (by simp) _) | (with_reducible refine Later.drewN ?_ _) | (with_reducible refine Later.drew ?_) | (with_reducible refine Later.trans ?_ (Hid.out (by assumption))))))).mono ?_; rw [HB.out]; rintro e w1 ⟨rfl, hb⟩; obtain ⟨H, hcc, hff, hzz⟩ := later_facts hb; clear hb; (try simp at hzz))
        | (go_at_call 73; refine (s_Total a n cap L _ (HS.out.later (by repeat (first | (with_reducible exact Later.refl _) | (with_reducible exact Hid.out (by assumption)) | (with_reducible refine Later.alloc ?_ _) | (with_reducible refine Later.setCell ?_ (by simp; omega) _) | (with_reducible refine Later.setCell ?_ (by simp) _) | (with_reducible refine Later.drewN ?_ _) | (with_reducible refine Later.drew ?_) | (with_reducible refine Later.trans ?_ (Hid.out (by assumption)))))) HO.out h24).mono ?_; rintro e w2 ⟨rfl, hb⟩; obtain ⟨H2, hcc2, hff2, hzz2⟩ := later_facts hb; clear hb; have hz0 : w.heap.size < w1.heap.size := (by omega))
        | (go_at_call 108; refine (s_In _ _ _ _).mono ?_; rintro e w' ⟨rfl, rfl⟩))
      go_ret2
      exact ⟨ret_2i (by rw [HT.out.1]; rfl) (by rw [HT.out.2]), (by repeat (first | (with_reducible exact Later.refl _) | (with_reducible exact Hid.out (by assumption)) | (with_reducible refine Later.alloc ?_ _) | (with_reducible refine Later.setCell ?_ (by simp; omega) _) | (with_reducible refine Later.setCell ?_ (by simp) _) | (with_reducible refine Later.drewN ?_ _) | (with_reducible refine Later.drew ?_) | (with_reducible refine Later.trans ?_ (Hid.out (by assumption)))))⟩
/-- the code of a block -/
theorem s_l04Block (a : Option Addr) (n cap : Nat) (L : List Sg) (A : Option Addr) (m capF : Nat) (F : List Int) (p : Int) (w : World) (hs : Sgs w a n L) (hf : Sl w A m F) (hp : -9223372036854775808 ≤ p) (hp2 : p ≤ 9223372036854775807) :
    Calls Try.prog 117 #[.agg #[.slice a n cap], .slice A m capF, .int .i64 p] w fun e w' => e = .returned (.int .i64 (fndE L F (isNo p))) ∧ Later w w' := by
  have HS := Lib.hid hs; have HF := Lib.hid hf; have HL := Lib.hid hs.1; have HM := Lib.hid hf.1
  have hn := hs.2.1; have hm := hf.2.1
  clear hs hf
  cases hb : bkB L F
  · have HB := Lib.hid hb
    have HT := Lib.hid (fndC_bad (p := isNo p) hb)
    clear hb
    go_enter Try.func117, Try.ntmps117
    go_wp2_with (first
      | (go_at_call 58; refine (s_AreBlocks a n cap L A m capF F _ (HS.out.later (by repeat (first | (with_reducible exact Later.refl _) | (with_reducible exact Hid.out (by assumption)) | (with_reducible refine Later.alloc ?_ _) | (with_reducible refine Later.setCell ?_ (by simp; omega) _) | (with_reducible refine Later.setCell ?_ (by simp) _) | (with_reducible refine Later.drewN ?_ _) | (with_reducible refine Later.drew ?_) | (with_reducible refine Later.trans ?_ (Hid.out (by assumption)))))) (HF.out.later (by repeat (first | (with_reducible exact Later.refl _) | (with_reducible exact Hid.out (by assumption)) | (with_reducible refine Later.alloc ?_ _) | (with_reducible refine Later.setCell ?_ (by simp; omega) _) | (with_reducible refine Later.setCell ?_ (by simp) _) | (with_reducible refine Later.drewN ?_ _) | (with_reducible refine Later.drew ?_) | (with_reducible refine Later.trans ?_ (Hid.out (by assumption))))))).mono ?_; rw [HB.out]; rintro e w1 ⟨rfl, hb⟩; obtain ⟨H, hcc, hff, hzz⟩ := later_facts hb; clear hb; (try simp at hzz)))
    go_ret
    exact ⟨ret_i64 (by rw [HT.out.2]), (by repeat (first | (with_reducible exact Later.refl _) | (with_reducible exact Hid.out (by assumption)) | (with_reducible refine Later.alloc ?_ _) | (with_reducible refine Later.setCell ?_ (by simp; omega) _) | (with_reducible refine Later.setCell ?_ (by simp) _) | (with_reducible refine Later.drewN ?_ _) | (with_reducible refine Later.drew ?_) | (with_reducible refine Later.trans ?_ (Hid.out (by assumption)))))⟩
  · have HB := Lib.hid hb
    obtain ⟨hv, hk⟩ := bkB_lay hb
    have h28 : 2 ≤ m ∧ m ≤ 8 := by have := (bkC_iff L F).1 hk; rw [HM.out] at this; omega
    obtain ⟨h2, h8⟩ := h28
    clear hv hk
    by_cases hin : 0 ≤ p ∧ p ≤ (m : Int) - 1
    · have HT : Hid (fndE L F (isNo p) = 0) := Lib.hid (by
        obtain ⟨b, rfl⟩ : ∃ b : Nat, p = (b : Int) := ⟨p.toNat, by omega⟩
        exact (fndC_some hb (fnd_isNo b (by rw [HM.out]; omega))).2)
      obtain ⟨q1, q2⟩ := hin
      clear hb
      go_enter Try.func117, Try.ntmps117
      go_wp2_with (first
        | (go_at_call 58; refine (s_AreBlocks a n cap L A m capF F _ (HS.out.later (by repeat (first | (with_reducible exact Later.refl _) | (with_reducible exact Hid.out (by assumption)) | (with_reducible refine Later.alloc ?_ _) | (with_reducible refine Later.setCell ?_ (by simp; omega) _) | (with_reducible refine Later.setCell ?_ (by simp) _) | (with_reducible refine Later.drewN ?_ _) | (with_reducible refine Later.drew ?_) | (with_reducible refine Later.trans ?_ (Hid.out (by assumption)))))) (HF.out.later (by repeat (first | (with_reducible exact Later.refl _) | (with_reducible exact Hid.out (by assumption)) | (with_reducible refine Later.alloc ?_ _) | (with_reducible refine Later.setCell ?_ (by simp; omega) _) | (with_reducible refine Later.setCell ?_ (by simp) _) | (with_reducible refine Later.drewN ?_ _) | (with_reducible refine Later.drew ?_) | (with_reducible refine Later.trans ?_ (Hid.out (by assumption))))))).mono ?_; rw [HB.out]; rintro e w1 ⟨rfl, hb⟩; obtain ⟨H, hcc, hff, hzz⟩ := later_facts hb; clear hb; (try simp at hzz))
        | (go_at_call 108; refine (s_In _ _ _ _).mono ?_; rintro e w' ⟨rfl, rfl⟩))
      go_ret
      exact ⟨ret_i64 (by rw [HT.out]), (by repeat (first | (with_reducible exact Later.refl _) | (with_reducible exact Hid.out (by assumption)) | (with_reducible refine Later.alloc ?_ _) | (with_reducible refine Later.setCell ?_ (by simp; omega) _) | (with_reducible refine Later.setCell ?_ (by simp) _) | (with_reducible refine Later.drewN ?_ _) | (with_reducible refine Later.drew ?_) | (with_reducible refine Later.trans ?_ (Hid.out (by assumption)))))⟩
    · have HT : Hid (fndE L F (isNo p) = 2) := Lib.hid (fndC_none hb (fnd_isNo_no p (by rw [HM.out]; omega))).2
      have d : (decide (0 ≤ p) && decide (p ≤ (m : Int) - 1)) = false := by simpa using hin
      clear hin hb
      go_enter Try.func117, Try.ntmps117
      go_wp2_with (first
        | (go_at_call 58; refine (s_AreBlocks a n cap L A m capF F _ (HS.out.later (by repeat (first | (with_reducible exact Later.refl _) | (with_reducible exact Hid.out (by assumption)) | (with_reducible refine Later.alloc ?_ _) | (with_reducible refine Later.setCell ?_ (by simp; omega) _) | (with_reducible refine Later.setCell ?_ (by simp) _) | (with_reducible refine Later.drewN ?_ _) | (with_reducible refine Later.drew ?_) | (with_reducible refine Later.trans ?_ (Hid.out (by assumption)))))) (HF.out.later (by repeat (first | (with_reducible exact Later.refl _) | (with_reducible exact Hid.out (by assumption)) | (with_reducible refine Later.alloc ?_ _) | (with_reducible refine Later.setCell ?_ (by simp; omega) _) | (with_reducible refine Later.setCell ?_ (by simp) _) | (with_reducible refine Later.drewN ?_ _) | (with_reducible refine Later.drew ?_) | (with_reducible refine Later.trans ?_ (Hid.out (by assumption))))))).mono ?_; rw [HB.out]; rintro e w1 ⟨rfl, hb⟩; obtain ⟨H, hcc, hff, hzz⟩ := later_facts hb; clear hb; (try simp at hzz))
        | (go_at_call 108; refine (s_In _ _ _ _).mono ?_; rintro e w' ⟨rfl, rfl⟩))
      go_ret
      exact ⟨ret_i64 (by rw [HT.out]), (by repeat (first | (with_reducible exact Later.refl _) | (with_reducible exact Hid.out (by assumption)) | (with_reducible refine Later.alloc ?_ _) | (with_reducible refine Later.setCell ?_ (by simp; omega) _) | (with_reducible refine Later.setCell ?_ (by simp) _) | (with_reducible refine Later.drewN ?_ _) | (with_reducible refine Later.drew ?_) | (with_reducible refine Later.trans ?_ (Hid.out (by assumption)))))⟩
/-- a block that is asked for by its number -/
theorem isNo_cases {L : List Sg} {F : List Int} {p : Int} (h : fndE L F (isNo p) = 0) : ∃ b : Nat, p = (b : Int) ∧ b < F.length ∧ layB L = true ∧ bkC L F = true ∧ fndC L F (isNo p) = sec L F b := by
  cases hb : bkB L F
  · rw [(fndC_bad hb).2] at h; cases h
  · obtain ⟨hv, hk⟩ := bkB_lay hb
    by_cases hin : 0 ≤ p ∧ p < F.length
    · obtain ⟨b, rfl⟩ : ∃ b : Nat, p = (b : Int) := ⟨p.toNat, by omega⟩
      exact ⟨b, rfl, by omega, hv, hk, (fndC_some hb (fnd_isNo b (by omega))).1⟩
    · rw [(fndC_none hb (fnd_isNo_no p (by omega))).2] at h; cases h
theorem two_cells' {w w' : World} {B b o : Nat} {u v : Value} (h : w.cell? ⟨B, 0, none⟩ = some u) (k : w.cell? ⟨b, o, none⟩ = some v) (hb : Later w w') : w'.cell? ⟨B, 0, none⟩ = some u ∧ w'.cell? ⟨b, o, none⟩ = some v :=
  ⟨by rw [hb.cell (p := ⟨B, 0, none⟩) (cell_lt h)]; exact h, by rw [hb.cell (p := ⟨b, o, none⟩) (cell_lt k)]; exact k⟩
/-- the beginnings of segments, as a row whose element f is known -/
theorem s_StartsAt (a : Option Addr) (n cap : Nat) (L : List Sg) (f : Nat) (w : World) (hs : Sgs w a n L) (hv : layB L = true) (hf : f < n) :
    Calls Try.prog 129 #[.agg #[.slice a n cap]] w fun e w' => ∃ g c, e = .returned (.slice (some ⟨g, 0, none⟩) n c) ∧ w'.cell? ⟨g, f, none⟩ = some (.int .i64 (upL L f)) ∧ Later w w' := by
  have hl := hs.1
  refine (s_l03Starts a n cap L w hs hv).mono ?_
  rintro e w' ⟨v, rfl, ho, hb⟩
  have HT : strs L = sFst L n := by unfold strs sFst; rw [hv, hl]; simp
  rw [HT] at ho
  rcases ho.1.2 with ⟨_, e⟩ | ⟨g, cap5, cur, rfl, hg, _⟩
  · rw [sFst_len] at e; omega
  refine ⟨g, cap5, by rw [sFst_len], ?_, hb⟩
  rw [ho.1.cellAt f (by rw [sFst_len]; omega), List.getElem?_map]
  simp [sFst, hf]
end Go.Proofs.Ytehinlecppbjeaa
