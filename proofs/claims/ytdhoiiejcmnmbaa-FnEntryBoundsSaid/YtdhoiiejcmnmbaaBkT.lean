/- Contracts of chapter 4: the model's look-ups. -/
import Derived.Test.YtdhoiiejcmnmbaaBkS
namespace Go.Proofs.Ytdhoiiejcmnmbaa
open Go.RowKit
set_option maxHeartbeats 4000000
set_option linter.unusedVariables false
set_option linter.unusedSimpArgs false
theorem s_AreBlocks (a : Option Addr) (n cap : Nat) (L : List Sg) (A : Option Addr) (m capF : Nat) (F : List Int) (w : World) (hs : Sgs w a n L) (hf : Sl w A m F) :
    Calls Try.prog 98 #[.agg #[.slice a n cap], .slice A m capF] w fun e w' => e = .returned (.bool (bkB L F)) ∧ Later w w' := by
  have HS := Lib.hid hs; have HF := Lib.hid hf
  clear hs hf
  cases hv : layB L
  · have HT := Lib.hid (bkB_nl (F := F) hv)
    go_enter Try.func98, Try.ntmps98
    go_wp2_with (first
      | (go_at_call 78; refine (s_IsLayout a n cap L _ (HS.out.later (by repeat (first | (with_reducible exact Later.refl _) | (with_reducible exact Hid.out (by assumption)) | (with_reducible refine Later.alloc ?_ _) | (with_reducible refine Later.setCell ?_ (by simp; omega) _) | (with_reducible refine Later.setCell ?_ (by simp) _) | (with_reducible refine Later.drewN ?_ _) | (with_reducible refine Later.drew ?_) | (with_reducible refine Later.trans ?_ (Hid.out (by assumption))))))).mono ?_; rw [hv]; rintro e w1 ⟨rfl, hb⟩; obtain ⟨H, hcc, hff, hzz⟩ := later_facts hb; clear hb; (try simp at hzz)))
    go_ret
    exact ⟨ret_b (by rw [HT.out]), (by repeat (first | (with_reducible exact Later.refl _) | (with_reducible exact Hid.out (by assumption)) | (with_reducible refine Later.alloc ?_ _) | (with_reducible refine Later.setCell ?_ (by simp; omega) _) | (with_reducible refine Later.setCell ?_ (by simp) _) | (with_reducible refine Later.drewN ?_ _) | (with_reducible refine Later.drew ?_) | (with_reducible refine Later.trans ?_ (Hid.out (by assumption)))))⟩
  · have HV := Lib.hid hv
    have HB : Hid (bkB L F = bkC L F) := Lib.hid (bkB_l hv)
    cases hk : bkC L F
    all_goals
      go_enter Try.func98, Try.ntmps98
      go_wp2_with (first
        | (go_at_call 78; refine (s_IsLayout a n cap L _ (HS.out.later (by repeat (first | (with_reducible exact Later.refl _) | (with_reducible exact Hid.out (by assumption)) | (with_reducible refine Later.alloc ?_ _) | (with_reducible refine Later.setCell ?_ (by simp; omega) _) | (with_reducible refine Later.setCell ?_ (by simp) _) | (with_reducible refine Later.drewN ?_ _) | (with_reducible refine Later.drew ?_) | (with_reducible refine Later.trans ?_ (Hid.out (by assumption))))))).mono ?_; rw [hv]; rintro e w1 ⟨rfl, hb⟩; obtain ⟨H, hcc, hff, hzz⟩ := later_facts hb; clear hb; (try simp at hzz))
        | (go_at_call 123; refine (s_l04Blocks a n cap L A m capF F _ (HS.out.later (by repeat (first | (with_reducible exact Later.refl _) | (with_reducible exact Hid.out (by assumption)) | (with_reducible refine Later.alloc ?_ _) | (with_reducible refine Later.setCell ?_ (by simp; omega) _) | (with_reducible refine Later.setCell ?_ (by simp) _) | (with_reducible refine Later.drewN ?_ _) | (with_reducible refine Later.drew ?_) | (with_reducible refine Later.trans ?_ (Hid.out (by assumption)))))) (HF.out.later (by repeat (first | (with_reducible exact Later.refl _) | (with_reducible exact Hid.out (by assumption)) | (with_reducible refine Later.alloc ?_ _) | (with_reducible refine Later.setCell ?_ (by simp; omega) _) | (with_reducible refine Later.setCell ?_ (by simp) _) | (with_reducible refine Later.drewN ?_ _) | (with_reducible refine Later.drew ?_) | (with_reducible refine Later.trans ?_ (Hid.out (by assumption)))))) HV.out).mono ?_; rw [hk]; rintro e w2 ⟨rfl, hb⟩; have H2 := Lib.hid hb; clear hb))
      go_ret
      exact ⟨ret_b (by rw [HB.out, hk]), (by repeat (first | (with_reducible exact Later.refl _) | (with_reducible exact Hid.out (by assumption)) | (with_reducible refine Later.alloc ?_ _) | (with_reducible refine Later.setCell ?_ (by simp; omega) _) | (with_reducible refine Later.setCell ?_ (by simp) _) | (with_reducible refine Later.drewN ?_ _) | (with_reducible refine Later.drew ?_) | (with_reducible refine Later.trans ?_ (Hid.out (by assumption)))))⟩
/-- the code of a block -/
theorem s_l04Block (a : Option Addr) (n cap : Nat) (L : List Sg) (A : Option Addr) (m capF : Nat) (F : List Int) (p : Int) (w : World) (hs : Sgs w a n L) (hf : Sl w A m F) (hp : -9223372036854775808 ≤ p) (hp2 : p ≤ 9223372036854775807) :
    Calls Try.prog 95 #[.agg #[.slice a n cap], .slice A m capF, .int .i64 p] w fun e w' => e = .returned (.int .i64 (fndE L F (isNo p))) ∧ Later w w' := by
  have HS := Lib.hid hs; have HF := Lib.hid hf; have HL := Lib.hid hs.1; have HM := Lib.hid hf.1
  have hn := hs.2.1; have hm := hf.2.1
  clear hs hf
  cases hb : bkB L F
  · have HB := Lib.hid hb
    have HT := Lib.hid (fndC_bad (p := isNo p) hb)
    clear hb
    go_enter Try.func95, Try.ntmps95
    go_wp2_with (first
      | (go_at_call 98; refine (s_AreBlocks a n cap L A m capF F _ (HS.out.later (by repeat (first | (with_reducible exact Later.refl _) | (with_reducible exact Hid.out (by assumption)) | (with_reducible refine Later.alloc ?_ _) | (with_reducible refine Later.setCell ?_ (by simp; omega) _) | (with_reducible refine Later.setCell ?_ (by simp) _) | (with_reducible refine Later.drewN ?_ _) | (with_reducible refine Later.drew ?_) | (with_reducible refine Later.trans ?_ (Hid.out (by assumption)))))) (HF.out.later (by repeat (first | (with_reducible exact Later.refl _) | (with_reducible exact Hid.out (by assumption)) | (with_reducible refine Later.alloc ?_ _) | (with_reducible refine Later.setCell ?_ (by simp; omega) _) | (with_reducible refine Later.setCell ?_ (by simp) _) | (with_reducible refine Later.drewN ?_ _) | (with_reducible refine Later.drew ?_) | (with_reducible refine Later.trans ?_ (Hid.out (by assumption))))))).mono ?_; rw [HB.out]; rintro e w1 ⟨rfl, hb⟩; obtain ⟨H, hcc, hff, hzz⟩ := later_facts hb; clear hb; (try simp at hzz)))
    go_ret
    exact ⟨ret_i64 (by rw [HT.out.2]), (by repeat (first | (with_reducible exact Later.refl _) | (with_reducible exact Hid.out (by assumption)) | (with_reducible refine Later.alloc ?_ _) | (with_reducible refine Later.setCell ?_ (by simp; omega) _) | (with_reducible refine Later.setCell ?_ (by simp) _) | (with_reducible refine Later.drewN ?_ _) | (with_reducible refine Later.drew ?_) | (with_reducible refine Later.trans ?_ (Hid.out (by assumption)))))⟩
  · have HB := Lib.hid hb
    obtain ⟨hv, hk⟩ := bkB_lay hb
    have h28 : 2 ≤ m ∧ m ≤ 8 := by have := (bkC_iff L F).1 hk; rw [HM.out] at this; omega
    obtain ⟨h2, h8⟩ := h28
    clear hv hk
    by_cases hin : 0 ≤ p ∧ p ≤ (m : Int) - 1
    · have HT : Hid (fndE L F (isNo p) = 0) := Lib.hid (by
        obtain ⟨b, rfl⟩ : ∃ b : Nat, p = (b : Int) := ⟨p.toNat, by omega⟩
        exact (fndC_some hb (fnd_isNo b (by rw [HM.out]; omega))).2)
      obtain ⟨q1, q2⟩ := hin
      clear hb
      go_enter Try.func95, Try.ntmps95
      go_wp2_with (first
        | (go_at_call 98; refine (s_AreBlocks a n cap L A m capF F _ (HS.out.later (by repeat (first | (with_reducible exact Later.refl _) | (with_reducible exact Hid.out (by assumption)) | (with_reducible refine Later.alloc ?_ _) | (with_reducible refine Later.setCell ?_ (by simp; omega) _) | (with_reducible refine Later.setCell ?_ (by simp) _) | (with_reducible refine Later.drewN ?_ _) | (with_reducible refine Later.drew ?_) | (with_reducible refine Later.trans ?_ (Hid.out (by assumption)))))) (HF.out.later (by repeat (first | (with_reducible exact Later.refl _) | (with_reducible exact Hid.out (by assumption)) | (with_reducible refine Later.alloc ?_ _) | (with_reducible refine Later.setCell ?_ (by simp; omega) _) | (with_reducible refine Later.setCell ?_ (by simp) _) | (with_reducible refine Later.drewN ?_ _) | (with_reducible refine Later.drew ?_) | (with_reducible refine Later.trans ?_ (Hid.out (by assumption))))))).mono ?_; rw [HB.out]; rintro e w1 ⟨rfl, hb⟩; obtain ⟨H, hcc, hff, hzz⟩ := later_facts hb; clear hb; (try simp at hzz))
        | (go_at_call 69; refine (s_In _ _ _ _).mono ?_; rintro e w' ⟨rfl, rfl⟩))
      go_ret
      exact ⟨ret_i64 (by rw [HT.out]), (by repeat (first | (with_reducible exact Later.refl _) | (with_reducible exact Hid.out (by assumption)) | (with_reducible refine Later.alloc ?_ _) | (with_reducible refine Later.setCell ?_ (by simp; omega) _) | (with_reducible refine Later.setCell ?_ (by simp) _) | (with_reducible refine Later.drewN ?_ _) | (with_reducible refine Later.drew ?_) | (with_reducible refine Later.trans ?_ (Hid.out (by assumption)))))⟩
    · have HT : Hid (fndE L F (isNo p) = 2) := Lib.hid (fndC_none hb (fnd_isNo_no p (by rw [HM.out]; omega))).2
      have d : (decide (0 ≤ p) && decide (p ≤ (m : Int) - 1)) = false := by simpa using hin
      clear hin hb
      go_enter Try.func95, Try.ntmps95
      go_wp2_with (first
        | (go_at_call 98; refine (s_AreBlocks a n cap L A m capF F _ (HS.out.later (by repeat (first | (with_reducible exact Later.refl _) | (with_reducible exact Hid.out (by assumption)) | (with_reducible refine Later.alloc ?_ _) | (with_reducible refine Later.setCell ?_ (by simp; omega) _) | (with_reducible refine Later.setCell ?_ (by simp) _) | (with_reducible refine Later.drewN ?_ _) | (with_reducible refine Later.drew ?_) | (with_reducible refine Later.trans ?_ (Hid.out (by assumption)))))) (HF.out.later (by repeat (first | (with_reducible exact Later.refl _) | (with_reducible exact Hid.out (by assumption)) | (with_reducible refine Later.alloc ?_ _) | (with_reducible refine Later.setCell ?_ (by simp; omega) _) | (with_reducible refine Later.setCell ?_ (by simp) _) | (with_reducible refine Later.drewN ?_ _) | (with_reducible refine Later.drew ?_) | (with_reducible refine Later.trans ?_ (Hid.out (by assumption))))))).mono ?_; rw [HB.out]; rintro e w1 ⟨rfl, hb⟩; obtain ⟨H, hcc, hff, hzz⟩ := later_facts hb; clear hb; (try simp at hzz))
        | (go_at_call 69; refine (s_In _ _ _ _).mono ?_; rintro e w' ⟨rfl, rfl⟩))
      go_ret
      exact ⟨ret_i64 (by rw [HT.out]), (by repeat (first | (with_reducible exact Later.refl _) | (with_reducible exact Hid.out (by assumption)) | (with_reducible refine Later.alloc ?_ _) | (with_reducible refine Later.setCell ?_ (by simp; omega) _) | (with_reducible refine Later.setCell ?_ (by simp) _) | (with_reducible refine Later.drewN ?_ _) | (with_reducible refine Later.drew ?_) | (with_reducible refine Later.trans ?_ (Hid.out (by assumption)))))⟩
/-- the index behind a block's last segment -/
theorem s_l04End (a : Option Addr) (n cap : Nat) (L : List Sg) (A : Option Addr) (m capF : Nat) (F : List Int) (b : Nat) (w : World) (hs : Sgs w a n L) (hf : Sl w A m F) (hk : bkC L F = true) (hb : b < m) :
    Calls Try.prog 99 #[.agg #[.slice a n cap], .slice A m capF, .int .i64 b] w fun e w' => e = .returned (.int .i64 (endK L F b)) ∧ Later w w' := by
  have HS := Lib.hid hs; have HF := Lib.hid hf; have HL := Lib.hid hs.1; have HM := Lib.hid hf.1
  have hn := hs.2.1
  obtain ⟨h2, h8, hr, _, _⟩ := (bkC_iff L F).1 hk
  rw [HM.out] at h2 h8
  by_cases hlt : b + 1 < m
  · obtain ⟨bF, oF, rfl, hc⟩ := hf.at (b + 1) hlt
    rw [(ris_nat hr (b + 1) (by rw [HM.out]; exact hlt)).1] at hc
    have HE : Hid (endK L F b = fstK F (b + 1)) := Lib.hid (endK_next b (by rw [HM.out]; exact hlt))
    have hbF := cell_lt hc
    have hkm : ((b : Int) + 1 < m) := by omega
    clear hs hf hk hr
    go_enter Try.func99, Try.ntmps99
    go_wp2_with fail
    go_ret
    exact ⟨ret_i64 (by rw [HE.out]), (by repeat (first | (with_reducible exact Later.refl _) | (with_reducible exact Hid.out (by assumption)) | (with_reducible refine Later.alloc ?_ _) | (with_reducible refine Later.setCell ?_ (by simp; omega) _) | (with_reducible refine Later.setCell ?_ (by simp) _) | (with_reducible refine Later.drewN ?_ _) | (with_reducible refine Later.drew ?_) | (with_reducible refine Later.trans ?_ (Hid.out (by assumption)))))⟩
  · have HE : Hid (endK L F b = n) := Lib.hid (by rw [endK_last b (by rw [HM.out]; omega)]; exact HL.out)
    have hkm : ¬ ((b : Int) + 1 < m) := by omega
    clear hs hf hk hr
    go_enter Try.func99, Try.ntmps99
    go_wp2_with fail
    go_ret
    exact ⟨ret_i64 (by rw [HE.out]), (by repeat (first | (with_reducible exact Later.refl _) | (with_reducible exact Hid.out (by assumption)) | (with_reducible refine Later.alloc ?_ _) | (with_reducible refine Later.setCell ?_ (by simp; omega) _) | (with_reducible refine Later.setCell ?_ (by simp) _) | (with_reducible refine Later.drewN ?_ _) | (with_reducible refine Later.drew ?_) | (with_reducible refine Later.trans ?_ (Hid.out (by assumption)))))⟩
/-- a block that is asked for by its number -/
theorem isNo_cases {L : List Sg} {F : List Int} {p : Int} (h : fndE L F (isNo p) = 0) : ∃ b : Nat, p = (b : Int) ∧ b < F.length ∧ layB L = true ∧ bkC L F = true ∧ fndC L F (isNo p) = sec L F b := by
  cases hb : bkB L F
  · rw [(fndC_bad hb).2] at h; cases h
  · obtain ⟨hv, hk⟩ := bkB_lay hb
    by_cases hin : 0 ≤ p ∧ p < F.length
    · obtain ⟨b, rfl⟩ : ∃ b : Nat, p = (b : Int) := ⟨p.toNat, by omega⟩
      exact ⟨b, rfl, by omega, hv, hk, (fndC_some hb (fnd_isNo b (by omega))).1⟩
    · rw [(fndC_none hb (fnd_isNo_no p (by omega))).2] at h; cases h
theorem two_cells' {w w' : World} {B b o : Nat} {u v : Value} (h : w.cell? ⟨B, 0, none⟩ = some u) (k : w.cell? ⟨b, o, none⟩ = some v) (hb : Later w w') : w'.cell? ⟨B, 0, none⟩ = some u ∧ w'.cell? ⟨b, o, none⟩ = some v :=
  ⟨by rw [hb.cell (p := ⟨B, 0, none⟩) (cell_lt h)]; exact h, by rw [hb.cell (p := ⟨b, o, none⟩) (cell_lt k)]; exact k⟩
end Go.Proofs.Ytdhoiiejcmnmbaa
