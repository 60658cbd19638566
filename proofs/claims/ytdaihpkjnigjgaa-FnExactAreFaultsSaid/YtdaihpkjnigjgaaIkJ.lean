/- Contracts of chapter 11: tolerated faults and reports, of the program. -/
import Derived.Test.YtdaihpkjnigjgaaIkI
namespace Go.Proofs.Ytdaihpkjnigjgaa
open Go.RowKit
set_option maxHeartbeats 4000000
set_option maxRecDepth 100000
set_option linter.unusedVariables false
set_option linter.unusedSimpArgs false
theorem mx10_ik (B : Int) (n : Nat) (l : List Int) : decide (mx10 0 (ikL B l n) B.toNat < 2) = ikTl B n l := by
  rw [Bool.eq_iff_iff, decide_eq_true_eq, ikTl_iff]
  constructor
  · intro h b hb
    have := ((mx10_le 0 1 (ikL B l n) B.toNat).1 (by omega)).2 b hb
    rw [ikL_gx B l n b hb] at this
    omega
  · intro h
    have := (mx10_le 0 1 (ikL B l n) B.toNat).2 ⟨by omega, fun j hj => by
      have := h j hj
      rw [ikL_gx B l n j hj]
      omega⟩
    omega
theorem i_AreTolerated (B : Int) (a : Option Addr) (n cap : Nat) (l : List Int) (w : World) (hc : n ≤ cap) (hs : Wd w a n 3 l) :
    Calls Try.prog 53 #[.int .i64 B, .slice a n cap] w fun e w' => e = .returned (.bool (ikT B n l)) ∧ Later w w' := by
  have HS := Lib.hid hs
  have hn := hs.2.1
  clear hs
  cases hv : ikA B n l
  · have HF : Hid (ikT B n l = false) := Lib.hid (by unfold ikT; rw [hv]; rfl)
    go_enter Try.func53, Try.ntmps53
    go_wp2_with (go_at_call 51; refine (i_AreFaults _ _ _ _ _ _ hc (HS.out.later (show Later w _ from (by repeat (first | (with_reducible exact Later.refl _) | (with_reducible exact Hid.out (by assumption)) | (with_reducible refine Later.alloc ?_ _) | (with_reducible refine Later.setCell ?_ (by simp; omega) _) | (with_reducible refine Later.setCell ?_ (by simp) _) | (with_reducible refine Later.drewN ?_ _) | (with_reducible refine Later.drew ?_) | (with_reducible refine Later.trans ?_ (Hid.out (by assumption)))))))).mono ?_; rintro e w1 ⟨rfl, hb⟩; rw [hv]; have H1 := Lib.hid hb; clear hb)
    go_ret
    exact ⟨ret_b (by rw [HF.out]), (by repeat (first | (with_reducible exact Later.refl _) | (with_reducible exact Hid.out (by assumption)) | (with_reducible refine Later.alloc ?_ _) | (with_reducible refine Later.setCell ?_ (by simp; omega) _) | (with_reducible refine Later.setCell ?_ (by simp) _) | (with_reducible refine Later.drewN ?_ _) | (with_reducible refine Later.drew ?_) | (with_reducible refine Later.trans ?_ (Hid.out (by assumption)))))⟩
  · have HF : Hid (ikT B n l = ikTl B n l) := Lib.hid (by unfold ikT; rw [hv]; rfl)
    obtain ⟨b1, b2, n8, hk8⟩ := (ikA_iff B n l).1 hv
    have HK := Lib.hid hk8
    obtain ⟨bn, rfl⟩ := Int.eq_ofNat_of_zero_le (show 0 ≤ B by omega)
    have hB1 : 2 ≤ bn := by omega
    have hB2 : bn ≤ 8 := by omega
    have hB3 : (-bn : Int) < 0 := by omega
    have HM := Lib.hid (mx10_ik bn n l)
    clear hk8
    obtain ⟨i0, hi, hz0, hz1, hz2⟩ := info_parts info_i64
    have HI := Lib.hid hi; clear hi
    have HZ0 := Lib.hid hz0; clear hz0
    have HZ1 := Lib.hid hz1; clear hz1
    have HZ2 := Lib.hid hz2; clear hz2
    go_enter Try.func53, Try.ntmps53
    go_wp2_with fail
    refine (i_AreFaults _ _ _ _ _ _ hc (HS.out.later (show Later w _ from (by repeat (first | (with_reducible exact Later.refl _) | (with_reducible exact Hid.out (by assumption)) | (with_reducible refine Later.alloc ?_ _) | (with_reducible refine Later.setCell ?_ (by simp; omega) _) | (with_reducible refine Later.setCell ?_ (by simp) _) | (with_reducible refine Later.drewN ?_ _) | (with_reducible refine Later.drew ?_) | (with_reducible refine Later.trans ?_ (Hid.out (by assumption)))))))).mono ?_
    rintro e w1 ⟨rfl, hb⟩
    rw [hv]
    have H1 := Lib.hid (show Later w w1 from hb)
    have hz : w.heap.size ≤ w1.heap.size := (show Later w w1 from hb).size
    clear hb
    go_wp2_with (refine wpList_make_full _ rfl _ _ _ rfl w.heap.size 2 i0 (.int .i64 0) 1 Try.underlying24 HI.out HZ0.out HZ1.out _ _ _ _ bn rfl rfl (by omega) (by omega) (by rw [HZ2.out]; omega) (by unfold maxLen; omega) hz ?_; intro w2 hown hgrow)
    have ho : Own w2 w.heap.size (.slice (some ⟨w1.heap.size, 0, none⟩) bn bn) (ikL bn l 0) := by
      rw [ikL_0]
      refine ⟨?_, fun x hx => by rw [List.eq_of_mem_replicate hx]; exact ⟨by omega, by omega⟩⟩
      have := toList_madeCells_one (.int .i64 0) bn
      simpa [Value.cells, this] using hown
    have HG : Hid (Later w w2) := Lib.hid (H1.out.trans ((Below.refl _ _).grown hgrow (Nat.le_refl _) (fun k e => by cases e)))
    have HO := Lib.hid ho
    obtain ⟨g, hg⟩ : ∃ g, g = w1.heap.size := ⟨_, rfl⟩
    have hgw : w.heap.size ≤ g := by omega
    rw [← hg] at HO ⊢
    clear hown hgrow ho hz H1 hg
    go_loopw [16] (fun i wr => ∃ k : Nat, k ≤ n ∧ i = .int .i64 k ∧ Own wr w.heap.size (.slice (some ⟨g, 0, none⟩) bn bn) (ikL bn l k) ∧ Later w wr) (fun i _ => n - (intOf i).toNat)
    case atStart => exact ⟨0, by omega, rfl, HO.out, HG.out⟩
    case round =>
      clear HO HG
      obtain ⟨k, hk, rfl, ho, hg⟩ := hrel
      have HO := Lib.hid ho; have HG := Lib.hid hg
      have hgl := (ho.lt g rfl).2
      clear ho hg
      by_cases hlt : k < n
      · obtain ⟨b', off, rfl, c0, c1, c2⟩ := (HS.out.later HG.out).three k hlt
        obtain ⟨f1, f2, _, _, f5⟩ := (ikF_iff _ _ _ _).1 (((ikK_iff _ _ _).1 HK.out k hlt).1)
        obtain ⟨xn, hxn⟩ := Int.eq_ofNat_of_zero_le f1
        have hx8 : xn < bn := by omega
        have HMISS : Hid (ikv l k ≠ 0 → ikL bn l (k + 1) = ikL bn l k) := Lib.hid (ikL_miss bn l k)
        have HHIT : Hid (ikv l k = 0 → ikL bn l (k + 1) = (ikL bn l k).set xn (gx (ikL bn l k) xn + 1)) := Lib.hid (fun h => ikL_hit bn l k xn (by simpa using hx8) h hxn)
        have hln : (ikL bn l k).length = bn := by rw [ikL_len]; simp
        obtain ⟨y1, y2⟩ := own_at HO.out hln xn hx8
        have hbd : 0 ≤ gx (ikL bn l k) xn ∧ gx (ikL bn l k) xn ≤ 8 := by
          rw [ikL_gx _ _ _ _ (by simpa using hx8)]
          have := ikN_le l k xn
          omega
        obtain ⟨z, hz⟩ : ∃ z, z = gx (ikL bn l k) xn := ⟨_, rfl⟩
        rw [← hz] at y1 hbd HHIT
        obtain ⟨z0, z1⟩ := hbd
        obtain ⟨x, hx⟩ : ∃ x, x = ikb l k := ⟨_, rfl⟩
        obtain ⟨v, hv'⟩ : ∃ v, v = ikv l k := ⟨_, rfl⟩
        rw [← hx] at c0 hxn
        rw [← hv'] at c2 HMISS HHIT f5
        clear hx hv' hz f1 f2
        subst hxn
        have hne : g ≠ wr.heap.size := by omega
        by_cases hv0 : v = 0
        · have HQ := Lib.hid (HHIT.out hv0)
          subst hv0
          clear HMISS HHIT f5
          have KO : Hid (∀ W', Later wr W' → Own W' w.heap.size (.slice (some ⟨g, 0, none⟩) bn bn) (ikL bn l k)) := Lib.hid (fun W' h => tf_lat HO.out h)
          have KC : Hid (∀ W', Later wr W' → W'.cell? ⟨g, xn, none⟩ = some (.int .i64 z) ∧ W'.frozen? ⟨g, xn, none⟩ = false) := Lib.hid (fun W' h => ⟨by rw [h.cell (p := ⟨g, xn, none⟩) hgl]; exact y1, by rw [Below.frozen (p := ⟨g, xn, none⟩) h hgl]; exact y2⟩)
          have HP : Hid (∀ W', Later wr W' → Own (W'.setCell ⟨g, xn, none⟩ (.int .i64 (z + 1))) w.heap.size (.slice (some ⟨g, 0, none⟩) bn bn) (ikL bn l (k + 1))) := Lib.hid (fun W' h => by rw [HQ.out]; exact (own_put (KO.out W' h) hln xn (z + 1) ⟨by omega, by omega⟩).1)
          have HL2 : Hid (∀ W', Later w W' → Later w (W'.setCell ⟨g, xn, none⟩ (.int .i64 (z + 1)))) := Lib.hid (fun W' h => h.setCell (p := ⟨g, xn, none⟩) (show w.heap.size ≤ g by omega) _)
          go_wp2_with fail
          go_roundw
          case rel => exact ⟨k + 1, by omega, by go_num, tf_lat (HP.out wr (Later.refl _)) (by repeat (first | (with_reducible exact Later.refl _) | (with_reducible exact Hid.out (by assumption)) | (with_reducible refine Later.alloc ?_ _) | (with_reducible refine Later.setCell ?_ (by simp; omega) _) | (with_reducible refine Later.setCell ?_ (by simp) _) | (with_reducible refine Later.drewN ?_ _) | (with_reducible refine Later.drew ?_) | (with_reducible refine Later.trans ?_ (Hid.out (by assumption))))), Later.trans (HL2.out wr HG.out) (by repeat (first | (with_reducible exact Later.refl _) | (with_reducible exact Hid.out (by assumption)) | (with_reducible refine Later.alloc ?_ _) | (with_reducible refine Later.setCell ?_ (by simp; omega) _) | (with_reducible refine Later.setCell ?_ (by simp) _) | (with_reducible refine Later.drewN ?_ _) | (with_reducible refine Later.drew ?_) | (with_reducible refine Later.trans ?_ (Hid.out (by assumption)))))⟩
          case measure => simp [intOf]; omega
        · have HQ := Lib.hid (HMISS.out hv0)
          have ev : (v == 0) = false := by simp [hv0]
          clear HMISS HHIT f5
          have KO : Hid (∀ W', Later wr W' → Own W' w.heap.size (.slice (some ⟨g, 0, none⟩) bn bn) (ikL bn l (k + 1))) := Lib.hid (fun W' h => by rw [HQ.out]; exact tf_lat HO.out h)
          go_wp2_with fail
          go_roundw
          case rel => exact ⟨k + 1, by omega, by go_num, KO.out _ (by repeat (first | (with_reducible exact Later.refl _) | (with_reducible exact Hid.out (by assumption)) | (with_reducible refine Later.alloc ?_ _) | (with_reducible refine Later.setCell ?_ (by simp; omega) _) | (with_reducible refine Later.setCell ?_ (by simp) _) | (with_reducible refine Later.drewN ?_ _) | (with_reducible refine Later.drew ?_) | (with_reducible refine Later.trans ?_ (Hid.out (by assumption))))), (by repeat (first | (with_reducible exact Later.refl _) | (with_reducible exact Hid.out (by assumption)) | (with_reducible refine Later.alloc ?_ _) | (with_reducible refine Later.setCell ?_ (by simp; omega) _) | (with_reducible refine Later.setCell ?_ (by simp) _) | (with_reducible refine Later.drewN ?_ _) | (with_reducible refine Later.drew ?_) | (with_reducible refine Later.trans ?_ (Hid.out (by assumption)))))⟩
          case measure => simp [intOf]; omega
      · obtain rfl : k = n := by omega
        have hsl : Sl wr (some ⟨g, 0, none⟩) bn (ikL bn l k) := by
          have hln : (ikL bn l k).length = bn := by rw [ikL_len]; simp
          obtain ⟨h1, h2⟩ := HO.out
          rw [hln] at h1
          exact sl_of_row h1 hln (by omega) h2
        have HSL := Lib.hid hsl
        clear hsl
        go_wp2_with (go_at_call 93; refine (i_greatest10 _ _ _ _ _ _ (sl_later HSL.out (show Later wr _ from (by repeat (first | (with_reducible exact Later.refl _) | (with_reducible exact Hid.out (by assumption)) | (with_reducible refine Later.alloc ?_ _) | (with_reducible refine Later.setCell ?_ (by simp; omega) _) | (with_reducible refine Later.setCell ?_ (by simp) _) | (with_reducible refine Later.drewN ?_ _) | (with_reducible refine Later.drew ?_) | (with_reducible refine Later.trans ?_ (Hid.out (by assumption)))))))).mono ?_; rintro e w2 ⟨rfl, hb⟩; have H2 := Lib.hid hb; clear hb)
        go_ret
        exact ⟨ret_b (by rw [HF.out, ← HM.out]; simp), (by repeat (first | (with_reducible exact Later.refl _) | (with_reducible exact Hid.out (by assumption)) | (with_reducible refine Later.alloc ?_ _) | (with_reducible refine Later.setCell ?_ (by simp; omega) _) | (with_reducible refine Later.setCell ?_ (by simp) _) | (with_reducible refine Later.drewN ?_ _) | (with_reducible refine Later.drew ?_) | (with_reducible refine Later.trans ?_ (Hid.out (by assumption)))))⟩
/-- the values of one channel -/
theorem i_areReported (B : Int) (a : Option Addr) (n cap : Nat) (l : List Int) (w : World) (hs : Sl w a n l) :
    Calls Try.prog 138 #[.int .i64 B, .slice a n cap] w fun e w' => e = .returned (.bool (rpB B n l)) ∧ w = w' := by
  have HS := Lib.hid hs
  have hn := hs.2.1
  clear hs
  by_cases he : (n : Int) = B
  · have HF : Hid (rpB B n l = rpA l n) := Lib.hid (by unfold rpB; rw [decide_eq_true he]; rfl)
    have e0 : ((n : Int) != B) = false := by simp [he]
    have HE := Lib.hid he
    clear he
    go_enter Try.func138, Try.ntmps138
    go_wp2_with fail
    go_loop [13] (fun i => ∃ k : Nat, k ≤ n ∧ i = .int .i64 k ∧ rpA l k = true) (fun i => n - (intOf i).toNat)
    case atStart => exact ⟨0, by omega, rfl, rfl⟩
    case round =>
      obtain ⟨k, hk, rfl, hp⟩ := hrel
      have HP := Lib.hid hp
      clear hp
      by_cases hlt : k < n
      · obtain ⟨b, off, rfl, hc⟩ := HS.out.at k hlt
        have HN := Lib.hid (rpA_succ l k)
        cases hr : ikR (gx l k)
        · have HQ : Hid (rpA l n = false) := Lib.hid (rpA_no hlt hr)
          have HR := Lib.hid hr
          clear hr
          go_wp2_with (go_at_call 137; refine (i_isReported _ _).mono ?_; rw [HR.out]; rintro e w1 ⟨rfl, rfl⟩)
          go_ret
          exact ⟨ret_b (by rw [HF.out, HQ.out]), rfl⟩
        · have HQ : Hid (rpA l (k + 1) = true) := Lib.hid (by rw [HN.out, HP.out, hr]; rfl)
          have HR := Lib.hid hr
          clear hr
          go_wp2_with (go_at_call 137; refine (i_isReported _ _).mono ?_; rw [HR.out]; rintro e w1 ⟨rfl, rfl⟩)
          go_round
          case rel => exact ⟨k + 1, by omega, by go_num, HQ.out⟩
          case measure => simp [intOf]; omega
      · obtain rfl : k = n := by omega
        go_wp2_with fail
        go_ret
        exact ⟨ret_b (by rw [HF.out, HP.out]), rfl⟩
  · have HF : Hid (rpB B n l = false) := Lib.hid (by unfold rpB; rw [decide_eq_false he]; rfl)
    have e0 : ((n : Int) != B) = true := by simp [he]
    clear he
    go_enter Try.func138, Try.ntmps138
    go_wp2_with fail
    go_ret
    exact ⟨ret_b (by rw [HF.out]), rfl⟩
theorem i_reportError (B : Int) (a1 : Option Addr) (n1 c1 : Nat) (l1 : List Int) (a2 : Option Addr) (n2 c2 : Nat) (l2 : List Int) (w : World) (hs1 : Sl w a1 n1 l1) (hs2 : Sl w a2 n2 l2) :
    Calls Try.prog 119 #[.int .i64 B, .agg #[.slice a1 n1 c1, .slice a2 n2 c2]] w fun e w' => e = .returned (.int .i64 (rpE B n1 n2 l1 l2)) ∧ Later w w' := by
  have HS := Lib.hid hs1; have HT := Lib.hid hs2
  clear hs1 hs2
  cases hb : nbB B
  · have HF : Hid (rpE B n1 n2 l1 l2 = 1) := Lib.hid (rpE_1 hb)
    have HNB := Lib.hid hb
    clear hb
    go_enter Try.func119, Try.ntmps119
    go_wp2_with (go_at_call 90; refine (i_isNumberOfBlocks _ _).mono ?_; rintro e w' ⟨rfl, rfl⟩; rw [HNB.out])
    go_ret
    exact ⟨ret_i64 (by rw [HF.out]), (by repeat (first | (with_reducible exact Later.refl _) | (with_reducible exact Hid.out (by assumption)) | (with_reducible refine Later.alloc ?_ _) | (with_reducible refine Later.setCell ?_ (by simp; omega) _) | (with_reducible refine Later.setCell ?_ (by simp) _) | (with_reducible refine Later.drewN ?_ _) | (with_reducible refine Later.drew ?_) | (with_reducible refine Later.trans ?_ (Hid.out (by assumption)))))⟩
  · have HNB := Lib.hid hb
    cases h1 : rpB B n1 l1
    · have HF : Hid (rpE B n1 n2 l1 l2 = 2) := Lib.hid (rpE_2 hb (by rw [h1]; rfl))
      have R1 := Lib.hid h1
      clear hb h1
      go_enter Try.func119, Try.ntmps119
      go_wp2_with (first | (go_at_call 90; refine (i_isNumberOfBlocks _ _).mono ?_; rintro e w' ⟨rfl, rfl⟩; rw [HNB.out]) | (go_at_call 138; refine (i_areReported B a1 n1 c1 l1 _ (sl_later HS.out (show Later w _ from (by repeat (first | (with_reducible exact Later.refl _) | (with_reducible exact Hid.out (by assumption)) | (with_reducible refine Later.alloc ?_ _) | (with_reducible refine Later.setCell ?_ (by simp; omega) _) | (with_reducible refine Later.setCell ?_ (by simp) _) | (with_reducible refine Later.drewN ?_ _) | (with_reducible refine Later.drew ?_) | (with_reducible refine Later.trans ?_ (Hid.out (by assumption)))))))).mono ?_; rw [R1.out]; rintro e w' ⟨rfl, rfl⟩))
      go_ret
      exact ⟨ret_i64 (by rw [HF.out]), (by repeat (first | (with_reducible exact Later.refl _) | (with_reducible exact Hid.out (by assumption)) | (with_reducible refine Later.alloc ?_ _) | (with_reducible refine Later.setCell ?_ (by simp; omega) _) | (with_reducible refine Later.setCell ?_ (by simp) _) | (with_reducible refine Later.drewN ?_ _) | (with_reducible refine Later.drew ?_) | (with_reducible refine Later.trans ?_ (Hid.out (by assumption)))))⟩
    · cases h2 : rpB B n2 l2
      · have HF : Hid (rpE B n1 n2 l1 l2 = 2) := Lib.hid (rpE_2 hb (by rw [h1, h2]; rfl))
        have R1 := Lib.hid h1; have R2 := Lib.hid h2
        clear hb h1 h2
        go_enter Try.func119, Try.ntmps119
        go_wp2_with (go_at_call 90; refine (i_isNumberOfBlocks _ _).mono ?_; rintro e w' ⟨rfl, rfl⟩; rw [HNB.out])
        refine (i_areReported B a1 n1 c1 l1 _ (sl_later HS.out (show Later w _ from (by repeat (first | (with_reducible exact Later.refl _) | (with_reducible exact Hid.out (by assumption)) | (with_reducible refine Later.alloc ?_ _) | (with_reducible refine Later.setCell ?_ (by simp; omega) _) | (with_reducible refine Later.setCell ?_ (by simp) _) | (with_reducible refine Later.drewN ?_ _) | (with_reducible refine Later.drew ?_) | (with_reducible refine Later.trans ?_ (Hid.out (by assumption)))))))).mono ?_
        rw [R1.out]
        rintro e w' ⟨rfl, rfl⟩
        go_wp2_with (go_at_call 138; refine (i_areReported B a2 n2 c2 l2 _ (sl_later HT.out (show Later w _ from (by repeat (first | (with_reducible exact Later.refl _) | (with_reducible exact Hid.out (by assumption)) | (with_reducible refine Later.alloc ?_ _) | (with_reducible refine Later.setCell ?_ (by simp; omega) _) | (with_reducible refine Later.setCell ?_ (by simp) _) | (with_reducible refine Later.drewN ?_ _) | (with_reducible refine Later.drew ?_) | (with_reducible refine Later.trans ?_ (Hid.out (by assumption)))))))).mono ?_; rw [R2.out]; rintro e w' ⟨rfl, rfl⟩)
        go_ret
        exact ⟨ret_i64 (by rw [HF.out]), (by repeat (first | (with_reducible exact Later.refl _) | (with_reducible exact Hid.out (by assumption)) | (with_reducible refine Later.alloc ?_ _) | (with_reducible refine Later.setCell ?_ (by simp; omega) _) | (with_reducible refine Later.setCell ?_ (by simp) _) | (with_reducible refine Later.drewN ?_ _) | (with_reducible refine Later.drew ?_) | (with_reducible refine Later.trans ?_ (Hid.out (by assumption)))))⟩
      · have HF : Hid (rpE B n1 n2 l1 l2 = 0) := Lib.hid (rpE_0 hb (by rw [h1, h2]; rfl))
        have R1 := Lib.hid h1; have R2 := Lib.hid h2
        clear hb h1 h2
        go_enter Try.func119, Try.ntmps119
        go_wp2_with (go_at_call 90; refine (i_isNumberOfBlocks _ _).mono ?_; rintro e w' ⟨rfl, rfl⟩; rw [HNB.out])
        refine (i_areReported B a1 n1 c1 l1 _ (sl_later HS.out (show Later w _ from (by repeat (first | (with_reducible exact Later.refl _) | (with_reducible exact Hid.out (by assumption)) | (with_reducible refine Later.alloc ?_ _) | (with_reducible refine Later.setCell ?_ (by simp; omega) _) | (with_reducible refine Later.setCell ?_ (by simp) _) | (with_reducible refine Later.drewN ?_ _) | (with_reducible refine Later.drew ?_) | (with_reducible refine Later.trans ?_ (Hid.out (by assumption)))))))).mono ?_
        rw [R1.out]
        rintro e w' ⟨rfl, rfl⟩
        go_wp2_with (go_at_call 138; refine (i_areReported B a2 n2 c2 l2 _ (sl_later HT.out (show Later w _ from (by repeat (first | (with_reducible exact Later.refl _) | (with_reducible exact Hid.out (by assumption)) | (with_reducible refine Later.alloc ?_ _) | (with_reducible refine Later.setCell ?_ (by simp; omega) _) | (with_reducible refine Later.setCell ?_ (by simp) _) | (with_reducible refine Later.drewN ?_ _) | (with_reducible refine Later.drew ?_) | (with_reducible refine Later.trans ?_ (Hid.out (by assumption)))))))).mono ?_; rw [R2.out]; rintro e w' ⟨rfl, rfl⟩)
        go_ret
        exact ⟨ret_i64 (by rw [HF.out]), (by repeat (first | (with_reducible exact Later.refl _) | (with_reducible exact Hid.out (by assumption)) | (with_reducible refine Later.alloc ?_ _) | (with_reducible refine Later.setCell ?_ (by simp; omega) _) | (with_reducible refine Later.setCell ?_ (by simp) _) | (with_reducible refine Later.drewN ?_ _) | (with_reducible refine Later.drew ?_) | (with_reducible refine Later.trans ?_ (Hid.out (by assumption)))))⟩
end Go.Proofs.Ytdaihpkjnigjgaa
