/- Contracts of chapter 11: tolerated faults and reports, of the program. -/
import Derived.Test.YtpeebgkgccacbaaIkI
namespace Go.Proofs.Ytpeebgkgccacbaa
open Go.RowKit
set_option maxHeartbeats 4000000
set_option maxRecDepth 100000
set_option linter.unusedVariables false
set_option linter.unusedSimpArgs false
theorem mx10_ik (B : Int) (n : Nat) (l : List Int) : decide (mx10 0 (ikL B l n) B.toNat < 2) = ikTl B n l := by
  rw [Bool.eq_iff_iff, decide_eq_true_eq, ikTl_iff]
  constructor
  · intro h b hb
    have := ((mx10_le 0 1 (ikL B l n) B.toNat).1 (by omega)).2 b hb
    rw [ikL_gx B l n b hb] at this
    omega
  · intro h
    have := (mx10_le 0 1 (ikL B l n) B.toNat).2 ⟨by omega, fun j hj => by
      have := h j hj
      rw [ikL_gx B l n j hj]
      omega⟩
    omega
/-- the values of one channel -/
theorem i_areReported (B : Int) (a : Option Addr) (n cap : Nat) (l : List Int) (w : World) (hs : Sl w a n l) :
    Calls Try.prog 43 #[.int .i64 B, .slice a n cap] w fun e w' => e = .returned (.bool (rpB B n l)) ∧ w = w' := by
  have HS := Lib.hid hs
  have hn := hs.2.1
  clear hs
  by_cases he : (n : Int) = B
  · have HF : Hid (rpB B n l = rpA l n) := Lib.hid (by unfold rpB; rw [decide_eq_true he]; rfl)
    have e0 : ((n : Int) != B) = false := by simp [he]
    have HE := Lib.hid he
    clear he
    go_enter Try.func43, Try.ntmps43
    go_wp2_with fail
    go_loop [13] (fun i => ∃ k : Nat, k ≤ n ∧ i = .int .i64 k ∧ rpA l k = true) (fun i => n - (intOf i).toNat)
    case atStart => exact ⟨0, by omega, rfl, rfl⟩
    case round =>
      obtain ⟨k, hk, rfl, hp⟩ := hrel
      have HP := Lib.hid hp
      clear hp
      by_cases hlt : k < n
      · obtain ⟨b, off, rfl, hc⟩ := HS.out.at k hlt
        have HN := Lib.hid (rpA_succ l k)
        cases hr : ikR (gx l k)
        · have HQ : Hid (rpA l n = false) := Lib.hid (rpA_no hlt hr)
          have HR := Lib.hid hr
          clear hr
          go_wp2_with (go_at_call 48; refine (i_isReported _ _).mono ?_; rw [HR.out]; rintro e w1 ⟨rfl, rfl⟩)
          go_ret
          exact ⟨ret_b (by rw [HF.out, HQ.out]), rfl⟩
        · have HQ : Hid (rpA l (k + 1) = true) := Lib.hid (by rw [HN.out, HP.out, hr]; rfl)
          have HR := Lib.hid hr
          clear hr
          go_wp2_with (go_at_call 48; refine (i_isReported _ _).mono ?_; rw [HR.out]; rintro e w1 ⟨rfl, rfl⟩)
          go_round
          case rel => exact ⟨k + 1, by omega, by go_num, HQ.out⟩
          case measure => simp [intOf]; omega
      · obtain rfl : k = n := by omega
        go_wp2_with fail
        go_ret
        exact ⟨ret_b (by rw [HF.out, HP.out]), rfl⟩
  · have HF : Hid (rpB B n l = false) := Lib.hid (by unfold rpB; rw [decide_eq_false he]; rfl)
    have e0 : ((n : Int) != B) = true := by simp [he]
    clear he
    go_enter Try.func43, Try.ntmps43
    go_wp2_with fail
    go_ret
    exact ⟨ret_b (by rw [HF.out]), rfl⟩
theorem i_reportError (B : Int) (a1 : Option Addr) (n1 c1 : Nat) (l1 : List Int) (a2 : Option Addr) (n2 c2 : Nat) (l2 : List Int) (w : World) (hs1 : Sl w a1 n1 l1) (hs2 : Sl w a2 n2 l2) :
    Calls Try.prog 32 #[.int .i64 B, .agg #[.slice a1 n1 c1, .slice a2 n2 c2]] w fun e w' => e = .returned (.int .i64 (rpE B n1 n2 l1 l2)) ∧ Later w w' := by
  have HS := Lib.hid hs1; have HT := Lib.hid hs2
  clear hs1 hs2
  cases hb : nbB B
  · have HF : Hid (rpE B n1 n2 l1 l2 = 1) := Lib.hid (rpE_1 hb)
    have HNB := Lib.hid hb
    clear hb
    go_enter Try.func32, Try.ntmps32
    go_wp2_with (go_at_call 41; refine (i_isNumberOfBlocks _ _).mono ?_; rintro e w' ⟨rfl, rfl⟩; rw [HNB.out])
    go_ret
    exact ⟨ret_i64 (by rw [HF.out]), (by repeat (first | (with_reducible exact Later.refl _) | (with_reducible exact Hid.out (by assumption)) | (with_reducible refine Later.alloc ?_ _) | (with_reducible refine Later.setCell ?_ (by simp; omega) _) | (with_reducible refine Later.setCell ?_ (by simp) _) | (with_reducible refine Later.drewN ?_ _) | (with_reducible refine Later.drew ?_) | (with_reducible refine Later.trans ?_ (Hid.out (by assumption)))))⟩
  · have HNB := Lib.hid hb
    cases h1 : rpB B n1 l1
    · have HF : Hid (rpE B n1 n2 l1 l2 = 2) := Lib.hid (rpE_2 hb (by rw [h1]; rfl))
      have R1 := Lib.hid h1
      clear hb h1
      go_enter Try.func32, Try.ntmps32
      go_wp2_with (first | (go_at_call 41; refine (i_isNumberOfBlocks _ _).mono ?_; rintro e w' ⟨rfl, rfl⟩; rw [HNB.out]) | (go_at_call 43; refine (i_areReported B a1 n1 c1 l1 _ (sl_later HS.out (show Later w _ from (by repeat (first | (with_reducible exact Later.refl _) | (with_reducible exact Hid.out (by assumption)) | (with_reducible refine Later.alloc ?_ _) | (with_reducible refine Later.setCell ?_ (by simp; omega) _) | (with_reducible refine Later.setCell ?_ (by simp) _) | (with_reducible refine Later.drewN ?_ _) | (with_reducible refine Later.drew ?_) | (with_reducible refine Later.trans ?_ (Hid.out (by assumption)))))))).mono ?_; rw [R1.out]; rintro e w' ⟨rfl, rfl⟩))
      go_ret
      exact ⟨ret_i64 (by rw [HF.out]), (by repeat (first | (with_reducible exact Later.refl _) | (with_reducible exact Hid.out (by assumption)) | (with_reducible refine Later.alloc ?_ _) | (with_reducible refine Later.setCell ?_ (by simp; omega) _) | (with_reducible refine Later.setCell ?_ (by simp) _) | (with_reducible refine Later.drewN ?_ _) | (with_reducible refine Later.drew ?_) | (with_reducible refine Later.trans ?_ (Hid.out (by assumption)))))⟩
    · cases h2 : rpB B n2 l2
      · have HF : Hid (rpE B n1 n2 l1 l2 = 2) := Lib.hid (rpE_2 hb (by rw [h1, h2]; rfl))
        have R1 := Lib.hid h1; have R2 := Lib.hid h2
        clear hb h1 h2
        go_enter Try.func32, Try.ntmps32
        go_wp2_with (go_at_call 41; refine (i_isNumberOfBlocks _ _).mono ?_; rintro e w' ⟨rfl, rfl⟩; rw [HNB.out])
        refine (i_areReported B a1 n1 c1 l1 _ (sl_later HS.out (show Later w _ from (by repeat (first | (with_reducible exact Later.refl _) | (with_reducible exact Hid.out (by assumption)) | (with_reducible refine Later.alloc ?_ _) | (with_reducible refine Later.setCell ?_ (by simp; omega) _) | (with_reducible refine Later.setCell ?_ (by simp) _) | (with_reducible refine Later.drewN ?_ _) | (with_reducible refine Later.drew ?_) | (with_reducible refine Later.trans ?_ (Hid.out (by assumption)))))))).mono ?_
        rw [R1.out]
        rintro e w' ⟨rfl, rfl⟩
        go_wp2_with (go_at_call 43; refine (i_areReported B a2 n2 c2 l2 _ (sl_later HT.out (show Later w _ from (by repeat (first | (with_reducible exact Later.refl _) | (with_reducible exact Hid.out (by assumption)) | (with_reducible refine Later.alloc ?_ _) | (with_reducible refine Later.setCell ?_ (by simp; omega) _) | (with_reducible refine Later.setCell ?_ (by simp) _) | (with_reducible refine Later.drewN ?_ _) | (with_reducible refine Later.drew ?_) | (with_reducible refine Later.trans ?_ (Hid.out (by assumption)))))))).mono ?_; rw [R2.out]; rintro e w' ⟨rfl, rfl⟩)
        go_ret
        exact ⟨ret_i64 (by rw [HF.out]), (by repeat (first | (with_reducible exact Later.refl _) | (with_reducible exact Hid.out (by assumption)) | (with_reducible refine Later.alloc ?_ _) | (with_reducible refine Later.setCell ?_ (by simp; omega) _) | (with_reducible refine Later.setCell ?_ (by simp) _) | (with_reducible refine Later.drewN ?_ _) | (with_reducible refine Later.drew ?_) | (with_reducible refine Later.trans ?_ (Hid.out (by assumption)))))⟩
      · have HF : Hid (rpE B n1 n2 l1 l2 = 0) := Lib.hid (rpE_0 hb (by rw [h1, h2]; rfl))
        have R1 := Lib.hid h1; have R2 := Lib.hid h2
        clear hb h1 h2
        go_enter Try.func32, Try.ntmps32
        go_wp2_with (go_at_call 41; refine (i_isNumberOfBlocks _ _).mono ?_; rintro e w' ⟨rfl, rfl⟩; rw [HNB.out])
        refine (i_areReported B a1 n1 c1 l1 _ (sl_later HS.out (show Later w _ from (by repeat (first | (with_reducible exact Later.refl _) | (with_reducible exact Hid.out (by assumption)) | (with_reducible refine Later.alloc ?_ _) | (with_reducible refine Later.setCell ?_ (by simp; omega) _) | (with_reducible refine Later.setCell ?_ (by simp) _) | (with_reducible refine Later.drewN ?_ _) | (with_reducible refine Later.drew ?_) | (with_reducible refine Later.trans ?_ (Hid.out (by assumption)))))))).mono ?_
        rw [R1.out]
        rintro e w' ⟨rfl, rfl⟩
        go_wp2_with (go_at_call 43; refine (i_areReported B a2 n2 c2 l2 _ (sl_later HT.out (show Later w _ from (by repeat (first | (with_reducible exact Later.refl _) | (with_reducible exact Hid.out (by assumption)) | (with_reducible refine Later.alloc ?_ _) | (with_reducible refine Later.setCell ?_ (by simp; omega) _) | (with_reducible refine Later.setCell ?_ (by simp) _) | (with_reducible refine Later.drewN ?_ _) | (with_reducible refine Later.drew ?_) | (with_reducible refine Later.trans ?_ (Hid.out (by assumption)))))))).mono ?_; rw [R2.out]; rintro e w' ⟨rfl, rfl⟩)
        go_ret
        exact ⟨ret_i64 (by rw [HF.out]), (by repeat (first | (with_reducible exact Later.refl _) | (with_reducible exact Hid.out (by assumption)) | (with_reducible refine Later.alloc ?_ _) | (with_reducible refine Later.setCell ?_ (by simp; omega) _) | (with_reducible refine Later.setCell ?_ (by simp) _) | (with_reducible refine Later.drewN ?_ _) | (with_reducible refine Later.drew ?_) | (with_reducible refine Later.trans ?_ (Hid.out (by assumption)))))⟩
end Go.Proofs.Ytpeebgkgccacbaa
