/- Contracts of chapter 11: reports and permitted moves, of the model. -/
import Derived.Test.YtpeebgkgccacbaaIkS
import Derived.Test.YtpeebgkgccacbaaIkP
namespace Go.Proofs.Ytpeebgkgccacbaa
open Go.RowKit
set_option maxHeartbeats 4000000
set_option maxRecDepth 100000
set_option linter.unusedVariables false
set_option linter.unusedSimpArgs false
theorem s_l11Is (B : Int) (a1 : Option Addr) (n1 c1 : Nat) (l1 : List Int) (a2 : Option Addr) (n2 c2 : Nat) (l2 : List Int) (w : World) (hs1 : Sl w a1 n1 l1) (hs2 : Sl w a2 n2 l2) :
    Calls Try.prog 34 #[.int .i64 B, .agg #[.slice a1 n1 c1, .slice a2 n2 c2]] w fun e w' => e = .returned (.bool (rpB B n1 l1 && rpB B n2 l2)) ∧ Later w w' := by
  have HS := Lib.hid hs1; have HT := Lib.hid hs2
  have m1 := hs1.2.1; have m2 := hs2.2.1
  clear hs1 hs2
  by_cases e1 : (n1 : Int) = B
  · by_cases e2 : (n2 : Int) = B
    · have E2 : Hid (n2 = n1) := Lib.hid (by omega)
      have HF : Hid ((rpB B n1 l1 && rpB B n2 l2) = (rpA l1 n1 && rpA l2 n1)) := Lib.hid (by unfold rpB; rw [decide_eq_true e1, decide_eq_true e2, E2.out]; rfl)
      have g1 : ((n1 : Int) != B) = false := by simp [e1]
      have g2 : ((n2 : Int) != B) = false := by simp [e2]
      have EB : Hid (B = (n1 : Int)) := Lib.hid e1.symm
      clear e1 e2
      have HE2 : Hid ((n2 : Int) = (n1 : Int)) := Lib.hid (by rw [E2.out])
      go_enter Try.func34, Try.ntmps34
      go_wp2_with fail
      go_loopw [5] (fun i wr => ∃ k : Nat, k ≤ n1 ∧ i = .int .i64 k ∧ rpA l1 k = true ∧ rpA l2 k = true ∧ wr.cell? ⟨w.heap.size, 0, none⟩ = some (.slice a1 n1 c1) ∧ wr.cell? ⟨w.heap.size, 1, none⟩ = some (.slice a2 n2 c2) ∧ Later w wr) (fun i _ => n1 - (intOf i).toNat)
      case atStart => exact ⟨0, by omega, rfl, rfl, rfl, by simp, by simp, (by repeat (first | (with_reducible exact Later.refl _) | (with_reducible exact Hid.out (by assumption)) | (with_reducible refine Later.alloc ?_ _) | (with_reducible refine Later.setCell ?_ (by simp; omega) _) | (with_reducible refine Later.setCell ?_ (by simp) _) | (with_reducible refine Later.drewN ?_ _) | (with_reducible refine Later.drew ?_) | (with_reducible refine Later.trans ?_ (Hid.out (by assumption)))))⟩
      case round =>
        obtain ⟨k, hk, rfl, hp1, hp2, q0, q1, hg⟩ := hrel
        have HP1 := Lib.hid hp1; have HP2 := Lib.hid hp2; have HG := Lib.hid hg
        clear hp1 hp2 hg
        by_cases hlt : k < n1
        · obtain ⟨x1, o1, rfl, r1⟩ := (sl_later HS.out HG.out).at k hlt
          obtain ⟨x2, o2, rfl, r2⟩ := (sl_later HT.out HG.out).at k (by rw [E2.out]; exact hlt)
          have hkB : ((k : Int) < B) = True := by rw [EB.out]; simp; omega
          have k1 : (0 : Int) ≤ k := by omega
          have k2 : (k : Int) < n1 := by omega
          have k3 : (k : Int) < n2 := by rw [HE2.out]; omega
          have N1 := Lib.hid (rpA_succ l1 k); have N2 := Lib.hid (rpA_succ l2 k)
          have R1 := Lib.hid (ikR_in (gx l1 k)); have R2 := Lib.hid (ikR_in (gx l2 k))
          have KS := Lib.hid (keep2 q0 q1)
          cases u1 : ikR (gx l1 k)
          · have HQ : Hid ((rpA l1 n1 && rpA l2 n1) = false) := Lib.hid (by rw [rpA_no hlt u1]; rfl)
            have U1 : Hid _ := Lib.hid (R1.out.trans u1)
            clear u1
            go_wp2_with (go_at_call 39; refine (s_In _ _ _ _).mono ?_; rintro e w' ⟨rfl, rfl⟩; rw [U1.out])
            go_ret
            exact ⟨ret_b (by rw [HF.out, HQ.out]), (by repeat (first | (with_reducible exact Later.refl _) | (with_reducible exact Hid.out (by assumption)) | (with_reducible refine Later.alloc ?_ _) | (with_reducible refine Later.setCell ?_ (by simp; omega) _) | (with_reducible refine Later.setCell ?_ (by simp) _) | (with_reducible refine Later.drewN ?_ _) | (with_reducible refine Later.drew ?_) | (with_reducible refine Later.trans ?_ (Hid.out (by assumption)))))⟩
          · cases u2 : ikR (gx l2 k)
            · have HQ : Hid ((rpA l1 n1 && rpA l2 n1) = false) := Lib.hid (by rw [rpA_no hlt u2]; simp)
              have U1 : Hid _ := Lib.hid (R1.out.trans u1); have U2 : Hid _ := Lib.hid (R2.out.trans u2)
              clear u1 u2
              go_wp2_with fail
              refine (s_In _ _ _ _).mono ?_
              rintro e w' ⟨rfl, rfl⟩
              rw [U1.out]
              go_wp2_with (go_at_call 39; refine (s_In _ _ _ _).mono ?_; rintro e w' ⟨rfl, rfl⟩; rw [U2.out])
              go_ret
              exact ⟨ret_b (by rw [HF.out, HQ.out]), (by repeat (first | (with_reducible exact Later.refl _) | (with_reducible exact Hid.out (by assumption)) | (with_reducible refine Later.alloc ?_ _) | (with_reducible refine Later.setCell ?_ (by simp; omega) _) | (with_reducible refine Later.setCell ?_ (by simp) _) | (with_reducible refine Later.drewN ?_ _) | (with_reducible refine Later.drew ?_) | (with_reducible refine Later.trans ?_ (Hid.out (by assumption)))))⟩
            · have HQ1 : Hid (rpA l1 (k + 1) = true) := Lib.hid (by rw [N1.out, HP1.out, u1]; rfl)
              have HQ2 : Hid (rpA l2 (k + 1) = true) := Lib.hid (by rw [N2.out, HP2.out, u2]; rfl)
              have U1 : Hid _ := Lib.hid (R1.out.trans u1); have U2 : Hid _ := Lib.hid (R2.out.trans u2)
              clear u1 u2
              go_wp2_with fail
              refine (s_In _ _ _ _).mono ?_
              rintro e w' ⟨rfl, rfl⟩
              rw [U1.out]
              go_wp2_with (go_at_call 39; refine (s_In _ _ _ _).mono ?_; rintro e w' ⟨rfl, rfl⟩; rw [U2.out])
              go_roundw
              case rel => exact ⟨k + 1, by omega, by go_num, HQ1.out, HQ2.out, (KS.out _ (by repeat (first | (with_reducible exact Later.refl _) | (with_reducible exact Hid.out (by assumption)) | (with_reducible refine Later.alloc ?_ _) | (with_reducible refine Later.setCell ?_ (by simp; omega) _) | (with_reducible refine Later.setCell ?_ (by simp) _) | (with_reducible refine Later.drewN ?_ _) | (with_reducible refine Later.drew ?_) | (with_reducible refine Later.trans ?_ (Hid.out (by assumption)))))).1, (KS.out _ (by repeat (first | (with_reducible exact Later.refl _) | (with_reducible exact Hid.out (by assumption)) | (with_reducible refine Later.alloc ?_ _) | (with_reducible refine Later.setCell ?_ (by simp; omega) _) | (with_reducible refine Later.setCell ?_ (by simp) _) | (with_reducible refine Later.drewN ?_ _) | (with_reducible refine Later.drew ?_) | (with_reducible refine Later.trans ?_ (Hid.out (by assumption)))))).2, (by repeat (first | (with_reducible exact Later.refl _) | (with_reducible exact Hid.out (by assumption)) | (with_reducible refine Later.alloc ?_ _) | (with_reducible refine Later.setCell ?_ (by simp; omega) _) | (with_reducible refine Later.setCell ?_ (by simp) _) | (with_reducible refine Later.drewN ?_ _) | (with_reducible refine Later.drew ?_) | (with_reducible refine Later.trans ?_ (Hid.out (by assumption)))))⟩
              case measure => simp [intOf]; omega
        · obtain rfl : k = n1 := by omega
          have hkB : ((k : Int) < B) = False := by rw [EB.out]; simp
          go_wp2_with fail
          go_ret
          exact ⟨ret_b (by rw [HF.out, HP1.out, HP2.out]; rfl), (by repeat (first | (with_reducible exact Later.refl _) | (with_reducible exact Hid.out (by assumption)) | (with_reducible refine Later.alloc ?_ _) | (with_reducible refine Later.setCell ?_ (by simp; omega) _) | (with_reducible refine Later.setCell ?_ (by simp) _) | (with_reducible refine Later.drewN ?_ _) | (with_reducible refine Later.drew ?_) | (with_reducible refine Later.trans ?_ (Hid.out (by assumption)))))⟩
    · have HF : Hid ((rpB B n1 l1 && rpB B n2 l2) = false) := Lib.hid (by unfold rpB; rw [decide_eq_false e2]; simp)
      have g1 : ((n1 : Int) != B) = false := by simp [e1]
      have g2 : ((n2 : Int) != B) = true := by simp [e2]
      clear e1 e2
      go_enter Try.func34, Try.ntmps34
      go_wp2_with fail
      go_ret
      exact ⟨ret_b (by rw [HF.out]), (by repeat (first | (with_reducible exact Later.refl _) | (with_reducible exact Hid.out (by assumption)) | (with_reducible refine Later.alloc ?_ _) | (with_reducible refine Later.setCell ?_ (by simp; omega) _) | (with_reducible refine Later.setCell ?_ (by simp) _) | (with_reducible refine Later.drewN ?_ _) | (with_reducible refine Later.drew ?_) | (with_reducible refine Later.trans ?_ (Hid.out (by assumption)))))⟩
  · have HF : Hid ((rpB B n1 l1 && rpB B n2 l2) = false) := Lib.hid (by unfold rpB; rw [decide_eq_false e1]; rfl)
    have g1 : ((n1 : Int) != B) = true := by simp [e1]
    clear e1
    go_enter Try.func34, Try.ntmps34
    go_wp2_with fail
    go_ret
    exact ⟨ret_b (by rw [HF.out]), (by repeat (first | (with_reducible exact Later.refl _) | (with_reducible exact Hid.out (by assumption)) | (with_reducible refine Later.alloc ?_ _) | (with_reducible refine Later.setCell ?_ (by simp; omega) _) | (with_reducible refine Later.setCell ?_ (by simp) _) | (with_reducible refine Later.drewN ?_ _) | (with_reducible refine Later.drew ?_) | (with_reducible refine Later.trans ?_ (Hid.out (by assumption)))))⟩
/-- the model's: the blocks of which the values' sum is s -/
def bsV (s B : Int) (n1 n2 : Nat) (l1 l2 : List Int) : List Int := if rpE B n1 n2 l1 l2 = 0 then ckL (smP s l1 l2) B.toNat else []
theorem bsV_cl (B : Int) (n1 n2 : Nat) (l1 l2 : List Int) : bsV 0 B n1 n2 l1 l2 = byV clP B n1 n2 l1 l2 := by
  unfold bsV byV
  by_cases h : rpE B n1 n2 l1 l2 = 0
  · obtain ⟨_, _, e1, e2, r1, r2⟩ := rpE_ok h
    rw [if_pos h, if_pos h]
    obtain rfl : n1 = n2 := by omega
    exact ckL_congr (fun b hb => clP_sm r1 r2 (by omega))
  · rw [if_neg h, if_neg h]
theorem bsV_ds (B : Int) (n1 n2 : Nat) (l1 l2 : List Int) : bsV 1 B n1 n2 l1 l2 = byV dsP B n1 n2 l1 l2 := by
  unfold bsV byV
  by_cases h : rpE B n1 n2 l1 l2 = 0
  · obtain ⟨_, _, e1, e2, r1, r2⟩ := rpE_ok h
    rw [if_pos h, if_pos h]
    obtain rfl : n1 = n2 := by omega
    exact ckL_congr (fun b hb => dsP_sm r1 r2 (by omega))
  · rw [if_neg h, if_neg h]
theorem s_l11Blocks (B : Int) (a1 : Option Addr) (n1 c1 : Nat) (l1 : List Int) (a2 : Option Addr) (n2 c2 : Nat) (l2 : List Int) (s : Int) (w : World) (hs1 : Sl w a1 n1 l1) (hs2 : Sl w a2 n2 l2) :
    Calls Try.prog 24 #[.int .i64 B, .agg #[.slice a1 n1 c1, .slice a2 n2 c2], .int .i64 s] w (LstC w (bsV s B n1 n2 l1 l2) (rpE B n1 n2 l1 l2)) := by
  have HS := Lib.hid hs1; have HT := Lib.hid hs2
  clear hs1 hs2
  cases hb : nbB B
  · have HE : Hid (rpE B n1 n2 l1 l2 = 1) := Lib.hid (rpE_1 hb)
    have HV : Hid (bsV s B n1 n2 l1 l2 = []) := Lib.hid (by unfold bsV; rw [rpE_1 hb]; rfl)
    have HNB := Lib.hid hb
    clear hb
    go_enter Try.func24, Try.ntmps24
    go_wp2_with (go_at_call 38; refine (s_l11Number _ _).mono ?_; rintro e w' ⟨rfl, rfl⟩; rw [HNB.out])
    refine bodyPost_ret (v := .tuple #[.slice none 0 0, .int .i64 1]) (by simp [results, Try.results24, go_sem, *]) rfl ⟨.slice none 0 0, by rw [HE.out], by rw [HV.out]; exact tf_none _ _, (by repeat (first | (with_reducible exact Later.refl _) | (with_reducible exact Hid.out (by assumption)) | (with_reducible refine Later.alloc ?_ _) | (with_reducible refine Later.setCell ?_ (by simp; omega) _) | (with_reducible refine Later.setCell ?_ (by simp) _) | (with_reducible refine Later.drewN ?_ _) | (with_reducible refine Later.drew ?_) | (with_reducible refine Later.trans ?_ (Hid.out (by assumption)))))⟩
  · have HNB := Lib.hid hb
    cases hr : (rpB B n1 l1 && rpB B n2 l2)
    · have HE : Hid (rpE B n1 n2 l1 l2 = 2) := Lib.hid (rpE_2 hb hr)
      have HV : Hid (bsV s B n1 n2 l1 l2 = []) := Lib.hid (by unfold bsV; rw [rpE_2 hb hr]; rfl)
      have HR := Lib.hid hr
      clear hb hr
      go_enter Try.func24, Try.ntmps24
      go_wp2_with (first | (go_at_call 38; refine (s_l11Number _ _).mono ?_; rintro e w' ⟨rfl, rfl⟩; rw [HNB.out]) | (go_at_call 34; refine (s_l11Is _ _ _ _ _ _ _ _ _ _ (sl_later HS.out (show Later w _ from (by repeat (first | (with_reducible exact Later.refl _) | (with_reducible exact Hid.out (by assumption)) | (with_reducible refine Later.alloc ?_ _) | (with_reducible refine Later.setCell ?_ (by simp; omega) _) | (with_reducible refine Later.setCell ?_ (by simp) _) | (with_reducible refine Later.drewN ?_ _) | (with_reducible refine Later.drew ?_) | (with_reducible refine Later.trans ?_ (Hid.out (by assumption))))))) (sl_later HT.out (show Later w _ from (by repeat (first | (with_reducible exact Later.refl _) | (with_reducible exact Hid.out (by assumption)) | (with_reducible refine Later.alloc ?_ _) | (with_reducible refine Later.setCell ?_ (by simp; omega) _) | (with_reducible refine Later.setCell ?_ (by simp) _) | (with_reducible refine Later.drewN ?_ _) | (with_reducible refine Later.drew ?_) | (with_reducible refine Later.trans ?_ (Hid.out (by assumption)))))))).mono ?_; rw [HR.out]; rintro e w1 ⟨rfl, hb⟩; have H1 := Lib.hid hb; clear hb))
      refine bodyPost_ret (v := .tuple #[.slice none 0 0, .int .i64 2]) (by simp [results, Try.results24, go_sem, *]) rfl ⟨.slice none 0 0, by rw [HE.out], by rw [HV.out]; exact tf_none _ _, (by repeat (first | (with_reducible exact Later.refl _) | (with_reducible exact Hid.out (by assumption)) | (with_reducible refine Later.alloc ?_ _) | (with_reducible refine Later.setCell ?_ (by simp; omega) _) | (with_reducible refine Later.setCell ?_ (by simp) _) | (with_reducible refine Later.drewN ?_ _) | (with_reducible refine Later.drew ?_) | (with_reducible refine Later.trans ?_ (Hid.out (by assumption)))))⟩
    · have h0 := rpE_0 hb hr
      obtain ⟨b1, b2, e1, e2, r1, r2⟩ := rpE_ok h0
      have HE := Lib.hid h0
      have HV : Hid (bsV s B n1 n2 l1 l2 = ckL (smP s l1 l2) B.toNat) := Lib.hid (by unfold bsV; rw [if_pos h0])
      have HR := Lib.hid hr
      have RA1 := Lib.hid r1; have RA2 := Lib.hid r2
      obtain ⟨bn, rfl⟩ := Int.eq_ofNat_of_zero_le (show 0 ≤ B by omega)
      have hb8 : bn ≤ 8 := by omega
      have E1 : Hid (n1 = bn) := Lib.hid (by omega)
      have E2 : Hid (n2 = bn) := Lib.hid (by omega)
      clear hb hr h0 e1 e2 r1 r2
      go_enter Try.func24, Try.ntmps24
      go_wp2_with (go_at_call 38; refine (s_l11Number _ _).mono ?_; rintro e w' ⟨rfl, rfl⟩; rw [HNB.out])
      refine (s_l11Is _ _ _ _ _ _ _ _ _ _ (sl_later HS.out (show Later w _ from (by repeat (first | (with_reducible exact Later.refl _) | (with_reducible exact Hid.out (by assumption)) | (with_reducible refine Later.alloc ?_ _) | (with_reducible refine Later.setCell ?_ (by simp; omega) _) | (with_reducible refine Later.setCell ?_ (by simp) _) | (with_reducible refine Later.drewN ?_ _) | (with_reducible refine Later.drew ?_) | (with_reducible refine Later.trans ?_ (Hid.out (by assumption))))))) (sl_later HT.out (show Later w _ from (by repeat (first | (with_reducible exact Later.refl _) | (with_reducible exact Hid.out (by assumption)) | (with_reducible refine Later.alloc ?_ _) | (with_reducible refine Later.setCell ?_ (by simp; omega) _) | (with_reducible refine Later.setCell ?_ (by simp) _) | (with_reducible refine Later.drewN ?_ _) | (with_reducible refine Later.drew ?_) | (with_reducible refine Later.trans ?_ (Hid.out (by assumption)))))))).mono ?_
      rw [HR.out]
      rintro e w1 ⟨rfl, hb⟩
      obtain ⟨H1, hcc, hff, hzz⟩ := later_facts hb; clear hb
      simp only [World.size_alloc] at hzz hcc hff
      have q0 : w1.cell? ⟨w.heap.size, 0, none⟩ = some (.slice a1 n1 c1) := by rw [hcc _ _ (by omega)]; simp
      have q1 : w1.cell? ⟨w.heap.size, 1, none⟩ = some (.slice a2 n2 c2) := by rw [hcc _ _ (by omega)]; simp
      have HG1 : Hid (Later w w1) := Lib.hid (by repeat (first | (with_reducible exact Later.refl _) | (with_reducible exact Hid.out (by assumption)) | (with_reducible refine Later.alloc ?_ _) | (with_reducible refine Later.setCell ?_ (by simp; omega) _) | (with_reducible refine Later.setCell ?_ (by simp) _) | (with_reducible refine Later.drewN ?_ _) | (with_reducible refine Later.drew ?_) | (with_reducible refine Later.trans ?_ (Hid.out (by assumption)))))
      have O1 : Hid (Own (w1.alloc (.cells #[] 2)) (w.heap.size + 1) (.slice (some ⟨w1.heap.size, 0, none⟩) 0 0) (ckL (smP s l1 l2) 0)) := Lib.hid (own_new _ _ hzz)
      have KS := Lib.hid (keep2 q0 q1)
      clear hcc hff H1
      go_wp2_with fail
      go_loopw [8, 9] (fun v i wr => ∃ k : Nat, k ≤ bn ∧ i = .int .i64 k ∧ wr.cell? ⟨w.heap.size, 0, none⟩ = some (.slice a1 n1 c1) ∧ wr.cell? ⟨w.heap.size, 1, none⟩ = some (.slice a2 n2 c2) ∧ Own wr (w.heap.size + 1) v (ckL (smP s l1 l2) k) ∧ Later w wr ∧ w.heap.size + 1 ≤ wr.heap.size) (fun _ i _ => bn - (intOf i).toNat)
      case atStart => exact ⟨0, by omega, rfl, (KS.out _ ((Later.refl _).alloc _)).1, (KS.out _ ((Later.refl _).alloc _)).2, O1.out, HG1.out.alloc _, by rw [World.size_alloc]; omega⟩
      case round =>
        clear q0 q1 HG1 hzz KS O1
        obtain ⟨k, hk, rfl, q0, q1, ho, hg, hz⟩ := hrel
        have HG := Lib.hid hg; have HO := Lib.hid ho
        clear hg ho
        by_cases hlt : k < bn
        · have HN := Lib.hid (ckL_succ (smP s l1 l2) k)
          have hlen := ckL_len (smP s l1 l2) k
          have hl9 : (ckL (smP s l1 l2) k).length ≤ 1000000000 := by omega
          obtain ⟨L, hL⟩ : ∃ L, L = ckL (smP s l1 l2) k := ⟨_, rfl⟩
          rw [← hL] at HN hl9 HO
          clear hL hlen
          have HKR : Hid (InR (k : Int)) := Lib.hid ⟨by omega, by omega⟩
          obtain ⟨x1, o1, rfl, r1⟩ := (sl_later HS.out HG.out).at k (by rw [E1.out]; exact hlt)
          obtain ⟨x2, o2, rfl, r2⟩ := (sl_later HT.out HG.out).at k (by rw [E2.out]; exact hlt)
          have v1 := rp_at RA1.out (by rw [E1.out]; exact hlt)
          have v2 := rp_at RA2.out (by rw [E2.out]; exact hlt)
          have k1 : (0 : Int) ≤ k := by omega
          have k2 : (k : Int) < n1 := by rw [E1.out]; omega
          have k3 : (k : Int) < n2 := by rw [E2.out]; omega
          have HPD : Hid (smP s l1 l2 (k : Int) = (gx l1 k + gx l2 k == s)) := Lib.hid (by unfold smP; rw [Int.toNat_natCast])
          obtain ⟨u1, hu1⟩ : ∃ x, x = gx l1 k := ⟨_, rfl⟩
          obtain ⟨u2, hu2⟩ : ∃ x, x = gx l2 k := ⟨_, rfl⟩
          rw [← hu1, ← hu2] at HPD
          rw [← hu1] at r1 v1
          rw [← hu2] at r2 v2
          have hw2 : IntKind.i64.wrap (u1 + u2) = u1 + u2 := IntWalk.i64_in _ (by omega)
          obtain ⟨sm, hsm⟩ : ∃ x, u1 + u2 = x := ⟨_, rfl⟩
          have hw3 : IntKind.i64.wrap (u1 + u2) = sm := hw2.trans hsm
          rw [hsm] at HPD
          clear hu1 hu2 v1 v2 hw2 hsm
          have KS := Lib.hid (keep2 q0 q1)
          cases hp : (sm == s)
          · have HQ : Hid (ckL (smP s l1 l2) (k + 1) = L) := Lib.hid (by rw [HN.out, HPD.out, hp]; simp)
            clear HN HPD
            go_wp2_with fail
            go_quiet (fail)
            go_wp2_with fail
            go_roundw
            case rel => exact ⟨k + 1, by omega, by go_num, (KS.out _ (by repeat (first | (with_reducible exact Later.refl _) | (with_reducible exact Hid.out (by assumption)) | (with_reducible refine Later.alloc ?_ _) | (with_reducible refine Later.setCell ?_ (by simp; omega) _) | (with_reducible refine Later.setCell ?_ (by simp) _) | (with_reducible refine Later.drewN ?_ _) | (with_reducible refine Later.drew ?_) | (with_reducible refine Later.trans ?_ (Hid.out (by assumption)))))).1, (KS.out _ (by repeat (first | (with_reducible exact Later.refl _) | (with_reducible exact Hid.out (by assumption)) | (with_reducible refine Later.alloc ?_ _) | (with_reducible refine Later.setCell ?_ (by simp; omega) _) | (with_reducible refine Later.setCell ?_ (by simp) _) | (with_reducible refine Later.drewN ?_ _) | (with_reducible refine Later.drew ?_) | (with_reducible refine Later.trans ?_ (Hid.out (by assumption)))))).2, by rw [HQ.out]; exact tf_lat HO.out (show Later wr _ from (by repeat (first | (with_reducible exact Later.refl _) | (with_reducible exact Hid.out (by assumption)) | (with_reducible refine Later.alloc ?_ _) | (with_reducible refine Later.setCell ?_ (by simp; omega) _) | (with_reducible refine Later.setCell ?_ (by simp) _) | (with_reducible refine Later.drewN ?_ _) | (with_reducible refine Later.drew ?_) | (with_reducible refine Later.trans ?_ (Hid.out (by assumption)))))), (by repeat (first | (with_reducible exact Later.refl _) | (with_reducible exact Hid.out (by assumption)) | (with_reducible refine Later.alloc ?_ _) | (with_reducible refine Later.setCell ?_ (by simp; omega) _) | (with_reducible refine Later.setCell ?_ (by simp) _) | (with_reducible refine Later.drewN ?_ _) | (with_reducible refine Later.drew ?_) | (with_reducible refine Later.trans ?_ (Hid.out (by assumption))))), Nat.le_trans hz (Later.size (show Later wr _ from (by repeat (first | (with_reducible exact Later.refl _) | (with_reducible exact Hid.out (by assumption)) | (with_reducible refine Later.alloc ?_ _) | (with_reducible refine Later.setCell ?_ (by simp; omega) _) | (with_reducible refine Later.setCell ?_ (by simp) _) | (with_reducible refine Later.drewN ?_ _) | (with_reducible refine Later.drew ?_) | (with_reducible refine Later.trans ?_ (Hid.out (by assumption)))))))⟩
            case measure => simp [intOf]; omega
          · have HQ : Hid (ckL (smP s l1 l2) (k + 1) = L ++ [(k : Int)]) := Lib.hid (by rw [HN.out, HPD.out, hp]; simp)
            clear HN HPD
            go_wp2_with fail
            go_quiet (fail)
            refine then_into (fun W => Later wr W) (show Later wr _ from (by repeat (first | (with_reducible exact Later.refl _) | (with_reducible exact Hid.out (by assumption)) | (with_reducible refine Later.alloc ?_ _) | (with_reducible refine Later.setCell ?_ (by simp; omega) _) | (with_reducible refine Later.setCell ?_ (by simp) _) | (with_reducible refine Later.drewN ?_ _) | (with_reducible refine Later.drew ?_) | (with_reducible refine Later.trans ?_ (Hid.out (by assumption)))))) ?_
            intro w3 hb3
            have HO3 := Lib.hid (tf_lat HO.out hb3)
            have HG3 := Lib.hid (HG.out.trans hb3)
            have hz3 : w.heap.size + 1 ≤ w3.heap.size := Nat.le_trans hz hb3.size
            obtain ⟨d0, d1⟩ := KS.out _ hb3
            clear hb3 KS q0 q1 HO HG r1 r2
            go_wp2_with (at_builtin; go_must (refine app1 rfl _ _ rfl (w.heap.size + 1) _ _ _ _ _ HO3.out rfl rfl HKR.out hl9 hz3 ?_; intro v' w5 ho hg; have c0 := hg.cell d0 (fun e => by have := (HO3.out.lt _ e.symm).1; simp at this; omega); have c1 := hg.cell d1 (fun e => by have := (HO3.out.lt _ e.symm).1; simp at this; omega); have HG5 := Lib.hid (Below.grown HG3.out hg HG3.out.size (fun q e => by have := (HO3.out.lt q e).1; omega)); have hz5 := Nat.le_trans hz3 hg.size; have HO5 := Lib.hid ho; clear ho hg))
            go_roundw
            case rel => exact ⟨k + 1, by omega, by go_num, c0, c1, by rw [HQ.out]; exact HO5.out, HG5.out, hz5⟩
            case measure => simp [intOf]; omega
        · obtain rfl : k = bn := by omega
          have HO6 := Lib.hid (tf_mono (b2 := w.heap.size) HO.out (by omega))
          obtain ⟨a', c', hv, _, _⟩ := HO.out.sl
          generalize (ckL (smP s l1 l2) k).length = m at hv
          subst hv
          go_wp2_with fail
          refine bodyPost_ret (v := .tuple #[.slice a' m c', .int .i64 0]) (by simp [results, Try.results24, go_sem, *]) rfl ⟨_, by rw [HE.out], by rw [HV.out]; simpa using HO6.out, HG.out⟩
theorem s_ClearBlocks (B : Int) (a1 : Option Addr) (n1 c1 : Nat) (l1 : List Int) (a2 : Option Addr) (n2 c2 : Nat) (l2 : List Int) (w : World) (hs1 : Sl w a1 n1 l1) (hs2 : Sl w a2 n2 l2) :
    Calls Try.prog 8 #[.int .i64 B, .agg #[.slice a1 n1 c1, .slice a2 n2 c2]] w (LstC w (byV clP B n1 n2 l1 l2) (rpE B n1 n2 l1 l2)) := by
  have HS := Lib.hid hs1; have HT := Lib.hid hs2
  clear hs1 hs2
  rw [← bsV_cl]
  go_enter Try.func8, Try.ntmps8
  go_wp2_with fail
  refine (s_l11Blocks B a1 n1 c1 l1 a2 n2 c2 l2 0 _ (sl_later HS.out (show Later w _ from (by repeat (first | (with_reducible exact Later.refl _) | (with_reducible exact Hid.out (by assumption)) | (with_reducible refine Later.alloc ?_ _) | (with_reducible refine Later.setCell ?_ (by simp; omega) _) | (with_reducible refine Later.setCell ?_ (by simp) _) | (with_reducible refine Later.drewN ?_ _) | (with_reducible refine Later.drew ?_) | (with_reducible refine Later.trans ?_ (Hid.out (by assumption))))))) (sl_later HT.out (show Later w _ from (by repeat (first | (with_reducible exact Later.refl _) | (with_reducible exact Hid.out (by assumption)) | (with_reducible refine Later.alloc ?_ _) | (with_reducible refine Later.setCell ?_ (by simp; omega) _) | (with_reducible refine Later.setCell ?_ (by simp) _) | (with_reducible refine Later.drewN ?_ _) | (with_reducible refine Later.drew ?_) | (with_reducible refine Later.trans ?_ (Hid.out (by assumption)))))))).mono ?_
  rintro e w1 ⟨v, rfl, ho, hb⟩
  have HB : Hid (Later w w1) := Lib.hid (((Later.refl w).alloc _).trans hb)
  have HO := Lib.hid (tf_mono (b2 := w.heap.size) ho (by simp))
  obtain ⟨a', c', hv, _, _⟩ := ho.sl
  generalize (bsV 0 B n1 n2 l1 l2).length = m at hv
  subst hv
  obtain ⟨c, hc⟩ : ∃ c, c = rpE B n1 n2 l1 l2 := ⟨_, rfl⟩
  have HC := Lib.hid hc
  rw [← hc]
  clear hc
  clear ho hb
  go_wp2_with fail
  refine bodyPost_ret (v := .tuple #[.slice a' m c', .int .i64 c]) (by simp [results, Try.results8, go_sem, *]) rfl ⟨_, by rw [HC.out], HO.out, HB.out⟩
theorem s_Discrepancies (B : Int) (a1 : Option Addr) (n1 c1 : Nat) (l1 : List Int) (a2 : Option Addr) (n2 c2 : Nat) (l2 : List Int) (w : World) (hs1 : Sl w a1 n1 l1) (hs2 : Sl w a2 n2 l2) :
    Calls Try.prog 10 #[.int .i64 B, .agg #[.slice a1 n1 c1, .slice a2 n2 c2]] w (LstC w (byV dsP B n1 n2 l1 l2) (rpE B n1 n2 l1 l2)) := by
  have HS := Lib.hid hs1; have HT := Lib.hid hs2
  clear hs1 hs2
  rw [← bsV_ds]
  go_enter Try.func10, Try.ntmps10
  go_wp2_with fail
  refine (s_l11Blocks B a1 n1 c1 l1 a2 n2 c2 l2 1 _ (sl_later HS.out (show Later w _ from (by repeat (first | (with_reducible exact Later.refl _) | (with_reducible exact Hid.out (by assumption)) | (with_reducible refine Later.alloc ?_ _) | (with_reducible refine Later.setCell ?_ (by simp; omega) _) | (with_reducible refine Later.setCell ?_ (by simp) _) | (with_reducible refine Later.drewN ?_ _) | (with_reducible refine Later.drew ?_) | (with_reducible refine Later.trans ?_ (Hid.out (by assumption))))))) (sl_later HT.out (show Later w _ from (by repeat (first | (with_reducible exact Later.refl _) | (with_reducible exact Hid.out (by assumption)) | (with_reducible refine Later.alloc ?_ _) | (with_reducible refine Later.setCell ?_ (by simp; omega) _) | (with_reducible refine Later.setCell ?_ (by simp) _) | (with_reducible refine Later.drewN ?_ _) | (with_reducible refine Later.drew ?_) | (with_reducible refine Later.trans ?_ (Hid.out (by assumption)))))))).mono ?_
  rintro e w1 ⟨v, rfl, ho, hb⟩
  have HB : Hid (Later w w1) := Lib.hid (((Later.refl w).alloc _).trans hb)
  have HO := Lib.hid (tf_mono (b2 := w.heap.size) ho (by simp))
  obtain ⟨a', c', hv, _, _⟩ := ho.sl
  generalize (bsV 1 B n1 n2 l1 l2).length = m at hv
  subst hv
  obtain ⟨c, hc⟩ : ∃ c, c = rpE B n1 n2 l1 l2 := ⟨_, rfl⟩
  have HC := Lib.hid hc
  rw [← hc]
  clear hc
  clear ho hb
  go_wp2_with fail
  refine bodyPost_ret (v := .tuple #[.slice a' m c', .int .i64 c]) (by simp [results, Try.results10, go_sem, *]) rfl ⟨_, by rw [HC.out], HO.out, HB.out⟩
end Go.Proofs.Ytpeebgkgccacbaa
