/- Contracts of chapter 10: the model's used blocks, loads, moves. -/
import Derived.Test.YtdaihpkjnigjgaaTfT
namespace Go.Proofs.Ytdaihpkjnigjgaa
open Go.RowKit
set_option maxHeartbeats 4000000
set_option maxRecDepth 100000
set_option linter.unusedVariables false
set_option linter.unusedSimpArgs false
theorem s_l10Code (B : Int) (a : Option Addr) (n cap : Nat) (l : List Int) (t : Int) (w : World) (hs : Sl w a n l) :
    Calls Try.prog 96 #[.agg #[.int .i64 B, .slice a n cap], .int .i64 t] w fun e w' => e = .returned (.int .i64 (thE B l t)) ∧ Later w w' := by
  have HS := Lib.hid hs
  have HL := Lib.hid hs.1
  have hn := hs.2.1
  clear hs
  cases hv : tfB B l
  · have HF := Lib.hid (thE_1 (t := t) hv)
    go_enter Try.func96, Try.ntmps96
    go_wp2_with (go_at_call 30; refine (s_IsTraffic _ _ _ _ _ _ (sl_later HS.out (show Later w _ from (by repeat (first | (with_reducible exact Later.refl _) | (with_reducible exact Hid.out (by assumption)) | (with_reducible refine Later.alloc ?_ _) | (with_reducible refine Later.setCell ?_ (by simp; omega) _) | (with_reducible refine Later.setCell ?_ (by simp) _) | (with_reducible refine Later.drewN ?_ _) | (with_reducible refine Later.drew ?_) | (with_reducible refine Later.trans ?_ (Hid.out (by assumption)))))))).mono ?_; rintro e w1 ⟨rfl, hb⟩; rw [hv]; have H1 := Lib.hid hb; clear hb)
    go_ret
    exact ⟨ret_i64 (by rw [HF.out]), (by repeat (first | (with_reducible exact Later.refl _) | (with_reducible exact Hid.out (by assumption)) | (with_reducible refine Later.alloc ?_ _) | (with_reducible refine Later.setCell ?_ (by simp; omega) _) | (with_reducible refine Later.setCell ?_ (by simp) _) | (with_reducible refine Later.drewN ?_ _) | (with_reducible refine Later.drew ?_) | (with_reducible refine Later.trans ?_ (Hid.out (by assumption)))))⟩
  · obtain ⟨_, _, n1, n2, _⟩ := (tfB_iff B l).1 hv
    rw [HL.out] at n1 n2
    have hq : (decide (0 ≤ t) && decide (t ≤ (n : Int) - 1)) = hasT l t := by
      unfold hasT; rw [HL.out, Bool.eq_iff_iff]; simp; omega
    cases hh : hasT l t
    · have HF := Lib.hid (thE_2 hv hh)
      rw [hh] at hq
      go_enter Try.func96, Try.ntmps96
      go_wp2_with fail
      refine (s_IsTraffic _ _ _ _ _ _ (sl_later HS.out (show Later w _ from (by repeat (first | (with_reducible exact Later.refl _) | (with_reducible exact Hid.out (by assumption)) | (with_reducible refine Later.alloc ?_ _) | (with_reducible refine Later.setCell ?_ (by simp; omega) _) | (with_reducible refine Later.setCell ?_ (by simp) _) | (with_reducible refine Later.drewN ?_ _) | (with_reducible refine Later.drew ?_) | (with_reducible refine Later.trans ?_ (Hid.out (by assumption)))))))).mono ?_
      rintro e w1 ⟨rfl, hl⟩
      rw [hv]
      obtain ⟨H1, hcc, hff, hzz⟩ := later_facts hl; clear hl
      go_wp2_with (go_at_call 92; refine (s_In _ _ _ _).mono ?_; rintro e w' ⟨rfl, rfl⟩; rw [hq])
      go_ret
      exact ⟨ret_i64 (by rw [HF.out]), (by repeat (first | (with_reducible exact Later.refl _) | (with_reducible exact Hid.out (by assumption)) | (with_reducible refine Later.alloc ?_ _) | (with_reducible refine Later.setCell ?_ (by simp; omega) _) | (with_reducible refine Later.setCell ?_ (by simp) _) | (with_reducible refine Later.drewN ?_ _) | (with_reducible refine Later.drew ?_) | (with_reducible refine Later.trans ?_ (Hid.out (by assumption)))))⟩
    · have HF := Lib.hid (thE_0 hv hh)
      rw [hh] at hq
      go_enter Try.func96, Try.ntmps96
      go_wp2_with fail
      refine (s_IsTraffic _ _ _ _ _ _ (sl_later HS.out (show Later w _ from (by repeat (first | (with_reducible exact Later.refl _) | (with_reducible exact Hid.out (by assumption)) | (with_reducible refine Later.alloc ?_ _) | (with_reducible refine Later.setCell ?_ (by simp; omega) _) | (with_reducible refine Later.setCell ?_ (by simp) _) | (with_reducible refine Later.drewN ?_ _) | (with_reducible refine Later.drew ?_) | (with_reducible refine Later.trans ?_ (Hid.out (by assumption)))))))).mono ?_
      rintro e w1 ⟨rfl, hl⟩
      rw [hv]
      obtain ⟨H1, hcc, hff, hzz⟩ := later_facts hl; clear hl
      go_wp2_with (go_at_call 92; refine (s_In _ _ _ _).mono ?_; rintro e w' ⟨rfl, rfl⟩; rw [hq])
      go_ret
      exact ⟨ret_i64 (by rw [HF.out]), (by repeat (first | (with_reducible exact Later.refl _) | (with_reducible exact Hid.out (by assumption)) | (with_reducible refine Later.alloc ?_ _) | (with_reducible refine Later.setCell ?_ (by simp; omega) _) | (with_reducible refine Later.setCell ?_ (by simp) _) | (with_reducible refine Later.drewN ?_ _) | (with_reducible refine Later.drew ?_) | (with_reducible refine Later.trans ?_ (Hid.out (by assumption)))))⟩
theorem ulM_len (B p : Int) (k : Nat) : (ulM B p k).length ≤ k := by unfold ulM; exact Nat.le_trans (List.length_filter_le _ _) (by rw [nm_len]; exact Nat.le_refl _)
theorem s_UsedBlocks (B : Int) (a : Option Addr) (n cap : Nat) (l : List Int) (t : Int) (w : World) (hs : Sl w a n l) :
    Calls Try.prog 41 #[.agg #[.int .i64 B, .slice a n cap], .int .i64 t] w (LstC w (udV B l t) (thE B l t)) := by
  have HS := Lib.hid hs
  have HL := Lib.hid hs.1
  have hn := hs.2.1
  clear hs
  by_cases h0 : thE B l t = 0
  · obtain ⟨hv, hk⟩ := thE_ok h0
    obtain ⟨b1, b2, n1, n2, hp⟩ := (tfB_iff B l).1 hv
    obtain ⟨k1, k2⟩ := (hasT_iff l t).1 hk
    rw [HL.out] at k2
    obtain ⟨tn, rfl⟩ := Int.eq_ofNat_of_zero_le k1
    have ht : tn < n := by omega
    obtain ⟨bn, rfl⟩ := Int.eq_ofNat_of_zero_le (show 0 ≤ B by omega)
    obtain ⟨p1, p2⟩ := plB_at hp tn (by rw [HL.out]; exact ht)
    have HV : Hid (udV bn l tn = ulM bn (gx l tn) bn) := Lib.hid (by unfold udV; rw [if_pos h0]; rfl)
    have HE := Lib.hid h0
    obtain ⟨b, off, rfl, hc0⟩ := HS.out.at tn ht
    have hb0 := cell_lt hc0
    clear hp h0 hk k1 k2
    go_enter Try.func41, Try.ntmps41
    go_wp2_with fail
    refine (s_l10Code _ _ _ _ _ _ _ (sl_later HS.out (show Later w _ from (by repeat (first | (with_reducible exact Later.refl _) | (with_reducible exact Hid.out (by assumption)) | (with_reducible refine Later.alloc ?_ _) | (with_reducible refine Later.setCell ?_ (by simp; omega) _) | (with_reducible refine Later.setCell ?_ (by simp) _) | (with_reducible refine Later.drewN ?_ _) | (with_reducible refine Later.drew ?_) | (with_reducible refine Later.trans ?_ (Hid.out (by assumption)))))))).mono ?_
    rintro e w1 ⟨rfl, hl⟩
    rw [HE.out]
    obtain ⟨H1, hcc, hff, hzz⟩ := later_facts hl; clear hl
    simp only [World.size_alloc] at hzz hcc hff
    have q0 : w1.cell? ⟨w.heap.size, 0, none⟩ = some (.int .i64 bn) := by rw [hcc _ _ (by omega)]; simp
    have q1 : w1.cell? ⟨w.heap.size, 1, none⟩ = some (.slice (some ⟨b, off, none⟩) n cap) := by rw [hcc _ _ (by omega)]; simp
    have HG : Hid (Later w w1) := Lib.hid (by repeat (first | (with_reducible exact Later.refl _) | (with_reducible exact Hid.out (by assumption)) | (with_reducible refine Later.alloc ?_ _) | (with_reducible refine Later.setCell ?_ (by simp; omega) _) | (with_reducible refine Later.setCell ?_ (by simp) _) | (with_reducible refine Later.drewN ?_ _) | (with_reducible refine Later.drew ?_) | (with_reducible refine Later.trans ?_ (Hid.out (by assumption)))))
    clear hcc hff H1 hc0
    have A0 : (w1.alloc (.cells #[] 2)).cell? ⟨w.heap.size, 0, none⟩ = some (.int .i64 bn) := (Below.cell (p := ⟨w.heap.size, 0, none⟩) ((Later.refl w1).alloc _) (by show w.heap.size < _; omega)).trans q0
    have A1 : (w1.alloc (.cells #[] 2)).cell? ⟨w.heap.size, 1, none⟩ = some (.slice (some ⟨b, off, none⟩) n cap) := (Below.cell (p := ⟨w.heap.size, 1, none⟩) ((Later.refl w1).alloc _) (by show w.heap.size < _; omega)).trans q1
    have AO : Hid (Own (w1.alloc (.cells #[] 2)) (w.heap.size + 1) (.slice (some ⟨w1.heap.size, 0, none⟩) 0 0) []) := Lib.hid (own_new w1 _ hzz)
    have AZ : w.heap.size + 1 ≤ (w1.alloc (.cells #[] 2)).heap.size := by rw [World.size_alloc]; omega
    go_wp2_with fail
    go_loopw [7, 8] (fun v i wr => ∃ k : Nat, k ≤ bn ∧ i = .int .i64 k ∧ wr.cell? ⟨w.heap.size, 0, none⟩ = some (.int .i64 bn) ∧ wr.cell? ⟨w.heap.size, 1, none⟩ = some (.slice (some ⟨b, off, none⟩) n cap) ∧ Own wr (w.heap.size + 1) v (ulM bn (gx l tn) k) ∧ Later w wr ∧ w.heap.size + 1 ≤ wr.heap.size) (fun _ i _ => bn - (intOf i).toNat)
    case atStart => exact ⟨0, by omega, rfl, A0, A1, AO.out, (by repeat (first | (with_reducible exact Later.refl _) | (with_reducible exact Hid.out (by assumption)) | (with_reducible refine Later.alloc ?_ _) | (with_reducible refine Later.setCell ?_ (by simp; omega) _) | (with_reducible refine Later.setCell ?_ (by simp) _) | (with_reducible refine Later.drewN ?_ _) | (with_reducible refine Later.drew ?_) | (with_reducible refine Later.trans ?_ (Hid.out (by assumption))))), AZ⟩
    case round =>
      clear q0 q1 A0 A1 AO AZ HG
      obtain ⟨k, hk, rfl, q0, q1, ho, hg, hz⟩ := hrel
      have HG := Lib.hid hg; have HO := Lib.hid ho
      clear hg ho
      by_cases hlt : k < bn
      · obtain ⟨b', off', hbb, hc⟩ := (sl_later HS.out HG.out).at tn ht
        simp only [Option.some.injEq, Addr.mk.injEq, and_true] at hbb
        obtain ⟨rfl, rfl⟩ := hbb
        have HN := Lib.hid (ulM_succ bn (gx l tn) k)
        have hlk := ulM_len bn (gx l tn) k
        cases hu : usB bn (gx l tn) k
        · have HQ : Hid (ulM bn (gx l tn) (k + 1) = ulM bn (gx l tn) k) := Lib.hid (by rw [HN.out, hu]; simp)
          go_wp2_with fail
          go_quiet ((go_at_call 100; exact Calls.quiet_of_same (s_UsesQ _ _ _ _ _ b1 b2 p1 p2 hu)))
          go_wp2_with fail
          go_roundw
          case rel => exact ⟨k + 1, by omega, by go_num, by simpa using q0, by simpa using q1, by rw [HQ.out]; exact tf_lat HO.out (show Later wr _ from (by repeat (first | (with_reducible exact Later.refl _) | (with_reducible exact Hid.out (by assumption)) | (with_reducible refine Later.alloc ?_ _) | (with_reducible refine Later.setCell ?_ (by simp; omega) _) | (with_reducible refine Later.setCell ?_ (by simp) _) | (with_reducible refine Later.drewN ?_ _) | (with_reducible refine Later.drew ?_) | (with_reducible refine Later.trans ?_ (Hid.out (by assumption)))))), (by repeat (first | (with_reducible exact Later.refl _) | (with_reducible exact Hid.out (by assumption)) | (with_reducible refine Later.alloc ?_ _) | (with_reducible refine Later.setCell ?_ (by simp; omega) _) | (with_reducible refine Later.setCell ?_ (by simp) _) | (with_reducible refine Later.drewN ?_ _) | (with_reducible refine Later.drew ?_) | (with_reducible refine Later.trans ?_ (Hid.out (by assumption))))), by simpa using hz⟩
          case measure => simp [intOf]; omega
        · have HQ : Hid (ulM bn (gx l tn) (k + 1) = ulM bn (gx l tn) k ++ [(k : Int)]) := Lib.hid (by rw [HN.out, hu]; simp)
          have HOD : Hid (∀ q, Own (wr.drewN q) (w.heap.size + 1) u7 (ulM bn (gx l tn) k)) := Lib.hid (fun q => tf_lat HO.out ((Later.refl wr).drewN q))
          go_wp2_with fail
          go_quiet ((go_at_call 100; exact Calls.quiet_of_same (s_UsesQ _ _ _ _ _ b1 b2 p1 p2 hu)))
          go_wp2_with (at_builtin; go_must (refine app1 rfl _ _ rfl (w.heap.size + 1) _ _ _ _ _ (HOD.out _) rfl rfl ⟨by omega, by omega⟩ (by omega) (by simpa using hz) ?_; intro v' w5 ho hg; have c0 := hg.cell (show (World.drewN wr _).cell? ⟨w.heap.size, 0, none⟩ = some (.int .i64 bn) by simpa using q0) (fun e => by have := (HO.out.lt _ e.symm).1; simp at this; omega); have c1 := hg.cell (show (World.drewN wr _).cell? ⟨w.heap.size, 1, none⟩ = some (.slice (some ⟨b, off, none⟩) n cap) by simpa using q1) (fun e => by have := (HO.out.lt _ e.symm).1; simp at this; omega); have HG5 := Lib.hid (Below.grown (show Later w (World.drewN wr _) from HG.out.drewN _) hg (by simpa using HG.out.size) (fun q e => by have := (HO.out.lt q e).1; omega)); have hz5 : w.heap.size + 1 ≤ w5.heap.size := Nat.le_trans (by simpa using hz) hg.size; have HO5 := Lib.hid ho; clear ho hg))
          go_roundw
          case rel => exact ⟨k + 1, by omega, by go_num, c0, c1, by rw [HQ.out]; exact HO5.out, HG5.out, hz5⟩
          case measure => simp [intOf]; omega
      · obtain rfl : k = bn := by omega
        obtain ⟨a2, c2, hvv, _, _⟩ := HO.out.sl
        subst hvv
        go_wp2_with fail
        exact bodyPost_ret (v := .tuple #[.slice a2 (ulM k (gx l tn) k).length c2, .int .i64 0]) (by simp [results, Try.results41, go_sem, *]) rfl ⟨_, by rw [HE.out], by rw [HV.out]; exact tf_mono HO.out (by omega), HG.out⟩
  · have HV : Hid (udV B l t = []) := Lib.hid (by unfold udV; rw [if_neg h0])
    have e0 : (thE B l t != 0) = true := by simpa using h0
    obtain ⟨c, hc⟩ : ∃ c, c = thE B l t := ⟨_, rfl⟩
    have HC := Lib.hid hc
    rw [← hc] at e0
    clear h0 hc
    go_enter Try.func41, Try.ntmps41
    go_wp2_with (go_at_call 96; refine (s_l10Code _ _ _ _ _ _ _ (sl_later HS.out (show Later w _ from (by repeat (first | (with_reducible exact Later.refl _) | (with_reducible exact Hid.out (by assumption)) | (with_reducible refine Later.alloc ?_ _) | (with_reducible refine Later.setCell ?_ (by simp; omega) _) | (with_reducible refine Later.setCell ?_ (by simp) _) | (with_reducible refine Later.drewN ?_ _) | (with_reducible refine Later.drew ?_) | (with_reducible refine Later.trans ?_ (Hid.out (by assumption)))))))).mono ?_; rintro e w1 ⟨rfl, hb⟩; rw [← HC.out]; have H1 := Lib.hid hb; clear hb)
    exact bodyPost_ret (v := .tuple #[.slice none 0 0, .int .i64 c]) (by simp [results, Try.results41, go_sem, *]) rfl ⟨.slice none 0 0, by rw [HC.out], by rw [HV.out]; exact tf_none _ _, (by repeat (first | (with_reducible exact Later.refl _) | (with_reducible exact Hid.out (by assumption)) | (with_reducible refine Later.alloc ?_ _) | (with_reducible refine Later.setCell ?_ (by simp; omega) _) | (with_reducible refine Later.setCell ?_ (by simp) _) | (with_reducible refine Later.drewN ?_ _) | (with_reducible refine Later.drew ?_) | (with_reducible refine Later.trans ?_ (Hid.out (by assumption)))))⟩
end Go.Proofs.Ytdaihpkjnigjgaa
