/- Contracts of chapter 10: allowed moves and runs of moves, of the program. -/
import Derived.Test.YtdaihpkjnigjgaaTfK
namespace Go.Proofs.Ytdaihpkjnigjgaa
open Go.RowKit
set_option maxHeartbeats 4000000
set_option maxRecDepth 100000
set_option linter.unusedVariables false
set_option linter.unusedSimpArgs false
def awE (B : Int) (l : List Int) : Int := if tfB B l = true then (if sfB B l = true then 0 else 5) else 1
def awV (B : Int) (l : List Int) : List Int := if sfB B l = true then alL B l l.length else []
theorem i_AllowedMoves (B : Int) (a : Option Addr) (n cap : Nat) (l : List Int) (w : World) (hs : Sl w a n l) :
    Calls Try.prog 26 #[.agg #[.int .i64 B, .slice a n cap]] w (LstC w (awV B l) (awE B l)) := by
  have HS := Lib.hid hs
  have HL := Lib.hid hs.1
  have hn := hs.2.1
  clear hs
  cases hv : tfB B l
  · have HE : Hid (awE B l = 1) := Lib.hid (by unfold awE; rw [hv]; rfl)
    have HV : Hid (awV B l = []) := Lib.hid (by unfold awV; rw [sfB_bad hv]; rfl)
    go_enter Try.func26, Try.ntmps26
    go_wp2_with (go_at_call 29; refine (i_IsTraffic _ _ _ _ _ _ (sl_later HS.out (show Later w _ from (by repeat (first | (with_reducible exact Later.refl _) | (with_reducible exact Hid.out (by assumption)) | (with_reducible refine Later.alloc ?_ _) | (with_reducible refine Later.setCell ?_ (by simp; omega) _) | (with_reducible refine Later.setCell ?_ (by simp) _) | (with_reducible refine Later.drewN ?_ _) | (with_reducible refine Later.drew ?_) | (with_reducible refine Later.trans ?_ (Hid.out (by assumption)))))))).mono ?_; rintro e w1 ⟨rfl, hb⟩; rw [hv]; have H1 := Lib.hid hb; clear hb)
    exact bodyPost_ret (v := .tuple #[.slice none 0 0, .int .i64 1]) (by simp [results, Try.results26, go_sem, *]) rfl ⟨.slice none 0 0, by rw [HE.out], by rw [HV.out]; exact tf_none _ _, (by repeat (first | (with_reducible exact Later.refl _) | (with_reducible exact Hid.out (by assumption)) | (with_reducible refine Later.alloc ?_ _) | (with_reducible refine Later.setCell ?_ (by simp; omega) _) | (with_reducible refine Later.setCell ?_ (by simp) _) | (with_reducible refine Later.drewN ?_ _) | (with_reducible refine Later.drew ?_) | (with_reducible refine Later.trans ?_ (Hid.out (by assumption)))))⟩
  · obtain ⟨_, _, n1, n2, _⟩ := (tfB_iff B l).1 hv
    rw [HL.out] at n1 n2
    cases hf : sfB B l
    · have HE : Hid (awE B l = 5) := Lib.hid (by unfold awE; rw [hv, hf]; rfl)
      have HV : Hid (awV B l = []) := Lib.hid (by unfold awV; rw [hf]; rfl)
      go_enter Try.func26, Try.ntmps26
      go_wp2_with fail
      refine (i_IsTraffic _ _ _ _ _ _ (sl_later HS.out (show Later w _ from (by repeat (first | (with_reducible exact Later.refl _) | (with_reducible exact Hid.out (by assumption)) | (with_reducible refine Later.alloc ?_ _) | (with_reducible refine Later.setCell ?_ (by simp; omega) _) | (with_reducible refine Later.setCell ?_ (by simp) _) | (with_reducible refine Later.drewN ?_ _) | (with_reducible refine Later.drew ?_) | (with_reducible refine Later.trans ?_ (Hid.out (by assumption)))))))).mono ?_
      rintro e w1 ⟨rfl, hl⟩
      rw [hv]
      obtain ⟨H1, hcc, hff, hzz⟩ := later_facts hl; clear hl
      simp only [World.size_alloc] at hzz hcc hff
      have q0 : w1.cell? ⟨w.heap.size, 0, none⟩ = some (.int .i64 B) := by rw [hcc _ _ (by omega)]; simp
      have q1 : w1.cell? ⟨w.heap.size, 1, none⟩ = some (.slice a n cap) := by rw [hcc _ _ (by omega)]; simp
      clear hcc hff
      go_wp2_with (go_at_call 31; refine (i_IsSafeTraffic _ _ _ _ _ _ (sl_later HS.out (show Later w _ from (by repeat (first | (with_reducible exact Later.refl _) | (with_reducible exact Hid.out (by assumption)) | (with_reducible refine Later.alloc ?_ _) | (with_reducible refine Later.setCell ?_ (by simp; omega) _) | (with_reducible refine Later.setCell ?_ (by simp) _) | (with_reducible refine Later.drewN ?_ _) | (with_reducible refine Later.drew ?_) | (with_reducible refine Later.trans ?_ (Hid.out (by assumption)))))))).mono ?_; rintro e w2 ⟨rfl, hb⟩; rw [hf]; have H2 := Lib.hid hb; clear hb)
      exact bodyPost_ret (v := .tuple #[.slice none 0 0, .int .i64 5]) (by simp [results, Try.results26, go_sem, *]) rfl ⟨.slice none 0 0, by rw [HE.out], by rw [HV.out]; exact tf_none _ _, (by repeat (first | (with_reducible exact Later.refl _) | (with_reducible exact Hid.out (by assumption)) | (with_reducible refine Later.alloc ?_ _) | (with_reducible refine Later.setCell ?_ (by simp; omega) _) | (with_reducible refine Later.setCell ?_ (by simp) _) | (with_reducible refine Later.drewN ?_ _) | (with_reducible refine Later.drew ?_) | (with_reducible refine Later.trans ?_ (Hid.out (by assumption)))))⟩
    · have HE : Hid (awE B l = 0) := Lib.hid (by unfold awE; rw [hv, hf]; rfl)
      have HV : Hid (awV B l = alL B l l.length) := Lib.hid (by unfold awV; rw [hf]; rfl)
      go_enter Try.func26, Try.ntmps26
      go_wp2_with fail
      refine (i_IsTraffic _ _ _ _ _ _ (sl_later HS.out (show Later w _ from (by repeat (first | (with_reducible exact Later.refl _) | (with_reducible exact Hid.out (by assumption)) | (with_reducible refine Later.alloc ?_ _) | (with_reducible refine Later.setCell ?_ (by simp; omega) _) | (with_reducible refine Later.setCell ?_ (by simp) _) | (with_reducible refine Later.drewN ?_ _) | (with_reducible refine Later.drew ?_) | (with_reducible refine Later.trans ?_ (Hid.out (by assumption)))))))).mono ?_
      rintro e w1 ⟨rfl, hl⟩
      rw [hv]
      obtain ⟨H1, hcc, hff, hzz⟩ := later_facts hl; clear hl
      simp only [World.size_alloc] at hzz hcc hff
      have q0 : w1.cell? ⟨w.heap.size, 0, none⟩ = some (.int .i64 B) := by rw [hcc _ _ (by omega)]; simp
      have q1 : w1.cell? ⟨w.heap.size, 1, none⟩ = some (.slice a n cap) := by rw [hcc _ _ (by omega)]; simp
      clear hcc hff
      go_wp2_with fail
      refine (i_IsSafeTraffic _ _ _ _ _ _ (sl_later HS.out (show Later w _ from (by repeat (first | (with_reducible exact Later.refl _) | (with_reducible exact Hid.out (by assumption)) | (with_reducible refine Later.alloc ?_ _) | (with_reducible refine Later.setCell ?_ (by simp; omega) _) | (with_reducible refine Later.setCell ?_ (by simp) _) | (with_reducible refine Later.drewN ?_ _) | (with_reducible refine Later.drew ?_) | (with_reducible refine Later.trans ?_ (Hid.out (by assumption)))))))).mono ?_
      rintro e w2 ⟨rfl, hl⟩
      rw [hf]
      obtain ⟨H2, hcc, hff, hzz2⟩ := later_facts hl; clear hl
      have c0 : w2.cell? ⟨w.heap.size, 0, none⟩ = some (.int .i64 B) := by rw [hcc _ _ (by omega)]; exact q0
      have c1 : w2.cell? ⟨w.heap.size, 1, none⟩ = some (.slice a n cap) := by rw [hcc _ _ (by omega)]; exact q1
      have HG : Hid (Later w w2) := Lib.hid (by repeat (first | (with_reducible exact Later.refl _) | (with_reducible exact Hid.out (by assumption)) | (with_reducible refine Later.alloc ?_ _) | (with_reducible refine Later.setCell ?_ (by simp; omega) _) | (with_reducible refine Later.setCell ?_ (by simp) _) | (with_reducible refine Later.drewN ?_ _) | (with_reducible refine Later.drew ?_) | (with_reducible refine Later.trans ?_ (Hid.out (by assumption)))))
      have hz : w.heap.size + 1 ≤ w2.heap.size := by omega
      clear hcc hff q0 q1 H1 H2
      go_wp2_with fail
      go_loopw [4, 16] (fun v i wr => ∃ k : Nat, k ≤ n ∧ i = .int .i64 k ∧ wr.cell? ⟨w.heap.size, 0, none⟩ = some (.int .i64 B) ∧ wr.cell? ⟨w.heap.size, 1, none⟩ = some (.slice a n cap) ∧ Own wr (w.heap.size + 1) v (alL B l k) ∧ Later w wr ∧ w.heap.size + 1 ≤ wr.heap.size) (fun _ i _ => n - (intOf i).toNat)
      case atStart => exact ⟨0, by omega, rfl, c0, c1, tf_none _ _, HG.out, hz⟩
      case round =>
        clear c0 c1 HG hz
        obtain ⟨k, hk, rfl, c0, c1, ho, hg, hz⟩ := hrel
        have HO := Lib.hid ho; have HG := Lib.hid hg
        clear ho hg
        by_cases hlt : k < n
        · have HM := Lib.hid (alL_succ B l k)
          have hlk := alL_len B l k
          go_wp2_with fail
          refine (i_behindMove _ _ _ _ _ _ _ (sl_later HS.out HG.out) hlt hv).mono ?_
          rintro e w3 ⟨v, rfl, ho, hl⟩
          obtain ⟨H3, hcc, hff, hzz3⟩ := later_facts hl; clear hl
          have d0 : w3.cell? ⟨w.heap.size, 0, none⟩ = some (.int .i64 B) := by rw [hcc _ _ (by omega)]; exact c0
          have d1 : w3.cell? ⟨w.heap.size, 1, none⟩ = some (.slice a n cap) := by rw [hcc _ _ (by omega)]; exact c1
          obtain ⟨a2, c2, rfl, hs2, _⟩ := ho.sl
          have HS2 := Lib.hid hs2
          have HO3 := Lib.hid (tf_lat HO.out H3.out)
          have HG3 := Lib.hid (HG.out.trans H3.out)
          clear hcc hff ho hs2 c0 c1 HO HG H3
          go_wp2_with fail
          refine (i_IsSafeTraffic _ _ _ _ _ _ HS2.out).mono ?_
          rintro e w4 ⟨rfl, hl⟩
          obtain ⟨H4, hcc, hff, hzz4⟩ := later_facts hl; clear hl
          have c0 : w4.cell? ⟨w.heap.size, 0, none⟩ = some (.int .i64 B) := by rw [hcc _ _ (by omega)]; exact d0
          have c1 : w4.cell? ⟨w.heap.size, 1, none⟩ = some (.slice a n cap) := by rw [hcc _ _ (by omega)]; exact d1
          have HO4 := Lib.hid (tf_lat HO3.out H4.out)
          have HG4 := Lib.hid (HG3.out.trans H4.out)
          have hz4 : w.heap.size + 1 ≤ w4.heap.size := by omega
          clear hcc hff d0 d1 HO3 HG3 H4
          cases hm : sfB B (mvL B l k)
          · have HA : Hid (alL B l (k + 1) = alL B l k) := Lib.hid (by rw [HM.out, hm]; simp)
            go_wp2_with fail
            go_roundw
            case rel => exact ⟨k + 1, by omega, by go_num, c0, c1, by rw [HA.out]; exact HO4.out, HG4.out, hz4⟩
            case measure => simp [intOf]; omega
          · have HA : Hid (alL B l (k + 1) = alL B l k ++ [(k : Int)]) := Lib.hid (by rw [HM.out, hm]; simp)
            go_wp2_with (at_builtin; go_must (refine app1 rfl _ _ rfl (w.heap.size + 1) _ _ _ _ _ HO4.out rfl rfl ⟨by omega, by omega⟩ (by omega) hz4 ?_; intro v' w5 ho hg; have b0 := hg.cell c0 (fun e => by have := (HO4.out.lt _ e.symm).1; simp at this; omega); have b1 := hg.cell c1 (fun e => by have := (HO4.out.lt _ e.symm).1; simp at this; omega); have HG5 := Lib.hid (Below.grown HG4.out hg HG4.out.size (fun q e => by have := (HO4.out.lt q e).1; omega)); have hz5 := Nat.le_trans hz4 hg.size; have HO5 := Lib.hid ho; clear ho hg))
            go_roundw
            case rel => exact ⟨k + 1, by omega, by go_num, b0, b1, by rw [HA.out]; exact HO5.out, HG5.out, hz5⟩
            case measure => simp [intOf]; omega
        · obtain rfl : k = n := by omega
          obtain ⟨a2, c2, hvv, _, _⟩ := HO.out.sl
          subst hvv
          go_wp2_with fail
          exact bodyPost_ret (v := .tuple #[.slice a2 (alL B l k).length c2, .int .i64 0]) (by simp [results, Try.results26, go_sem, *]) rfl ⟨_, by rw [HE.out], by rw [HV.out, HL.out]; exact tf_mono HO.out (by omega), HG.out⟩
def mwE (B : Int) (l ts : List Int) : Int := if tfB B l = true then (if ts.length ≤ 200 then (if ts.all (hasT l) = true then 0 else 2) else 3) else 1
theorem all_take {f : Int → Bool} {ts : List Int} (k : Nat) (hk : k < ts.length) : (ts.take (k + 1)).all f = ((ts.take k).all f && f (gx ts k)) := by
  rw [List.take_succ_eq_append_getElem hk, gx_of ts k hk, List.all_append]; simp
theorem all_no {f : Int → Bool} {ts : List Int} (k : Nat) (hk : k < ts.length) (h : f (gx ts k) = false) : ts.all f = false := by
  rw [Bool.eq_false_iff]; intro g; rw [List.all_eq_true] at g; rw [g _ (gx_mem ts k hk)] at h; cases h
theorem i_movesError (B : Int) (a : Option Addr) (n cap : Nat) (l : List Int) (ta : Option Addr) (tn tc : Nat) (ts : List Int) (w : World) (hs : Sl w a n l) (ht : Sl w ta tn ts) :
    Calls Try.prog 103 #[.agg #[.int .i64 B, .slice a n cap], .slice ta tn tc] w fun e w' => e = .returned (.int .i64 (mwE B l ts)) ∧ Later w w' := by
  have HS := Lib.hid hs
  have HT := Lib.hid ht
  have HL := Lib.hid hs.1
  have HTL := Lib.hid ht.1
  have hn := hs.2.1
  have htn := ht.2.1
  clear hs ht
  cases hv : tfB B l
  · have HE : Hid (mwE B l ts = 1) := Lib.hid (by unfold mwE; rw [hv]; rfl)
    go_enter Try.func103, Try.ntmps103
    go_wp2_with (go_at_call 29; refine (i_IsTraffic _ _ _ _ _ _ (sl_later HS.out (show Later w _ from (by repeat (first | (with_reducible exact Later.refl _) | (with_reducible exact Hid.out (by assumption)) | (with_reducible refine Later.alloc ?_ _) | (with_reducible refine Later.setCell ?_ (by simp; omega) _) | (with_reducible refine Later.setCell ?_ (by simp) _) | (with_reducible refine Later.drewN ?_ _) | (with_reducible refine Later.drew ?_) | (with_reducible refine Later.trans ?_ (Hid.out (by assumption)))))))).mono ?_; rintro e w1 ⟨rfl, hb⟩; rw [hv]; have H1 := Lib.hid hb; clear hb)
    go_ret
    exact ⟨ret_i64 (by rw [HE.out]), (by repeat (first | (with_reducible exact Later.refl _) | (with_reducible exact Hid.out (by assumption)) | (with_reducible refine Later.alloc ?_ _) | (with_reducible refine Later.setCell ?_ (by simp; omega) _) | (with_reducible refine Later.setCell ?_ (by simp) _) | (with_reducible refine Later.drewN ?_ _) | (with_reducible refine Later.drew ?_) | (with_reducible refine Later.trans ?_ (Hid.out (by assumption)))))⟩
  · by_cases h2 : tn ≤ 200
    · go_enter Try.func103, Try.ntmps103
      go_wp2_with fail
      refine (i_IsTraffic _ _ _ _ _ _ (sl_later HS.out (show Later w _ from (by repeat (first | (with_reducible exact Later.refl _) | (with_reducible exact Hid.out (by assumption)) | (with_reducible refine Later.alloc ?_ _) | (with_reducible refine Later.setCell ?_ (by simp; omega) _) | (with_reducible refine Later.setCell ?_ (by simp) _) | (with_reducible refine Later.drewN ?_ _) | (with_reducible refine Later.drew ?_) | (with_reducible refine Later.trans ?_ (Hid.out (by assumption)))))))).mono ?_
      rintro e w1 ⟨rfl, hl⟩
      rw [hv]
      obtain ⟨H1, hcc, hff, hzz⟩ := later_facts hl; clear hl
      simp only [World.size_alloc] at hzz hcc hff
      have q0 : w1.cell? ⟨w.heap.size, 0, none⟩ = some (.int .i64 B) := by rw [hcc _ _ (by omega)]; simp
      have q1 : w1.cell? ⟨w.heap.size, 1, none⟩ = some (.slice a n cap) := by rw [hcc _ _ (by omega)]; simp
      have HG : Hid (Later w w1) := Lib.hid (by repeat (first | (with_reducible exact Later.refl _) | (with_reducible exact Hid.out (by assumption)) | (with_reducible refine Later.alloc ?_ _) | (with_reducible refine Later.setCell ?_ (by simp; omega) _) | (with_reducible refine Later.setCell ?_ (by simp) _) | (with_reducible refine Later.drewN ?_ _) | (with_reducible refine Later.drew ?_) | (with_reducible refine Later.trans ?_ (Hid.out (by assumption)))))
      clear hcc hff H1
      go_wp2_with fail
      go_loopw [15] (fun i wr => ∃ k : Nat, k ≤ tn ∧ i = .int .i64 k ∧ wr.cell? ⟨w.heap.size, 0, none⟩ = some (.int .i64 B) ∧ wr.cell? ⟨w.heap.size, 1, none⟩ = some (.slice a n cap) ∧ (ts.take k).all (hasT l) = true ∧ Later w wr) (fun i _ => tn - (intOf i).toNat)
      case atStart => exact ⟨0, by omega, rfl, q0, q1, rfl, HG.out⟩
      case round =>
        clear q0 q1 HG
        obtain ⟨k, hk, rfl, q0, q1, hall, hg⟩ := hrel
        have HA := Lib.hid hall; have HG := Lib.hid hg
        clear hall hg
        by_cases hlt : k < tn
        · obtain ⟨b, off, rfl, hc⟩ := (sl_later HT.out HG.out).at k hlt
          have HK := Lib.hid (all_take (f := hasT l) k (by rw [HTL.out]; exact hlt))
          have hb0 := cell_lt q0
          cases hh : hasT l (gx ts k)
          · have HE : Hid (mwE B l ts = 2) := Lib.hid (by unfold mwE; rw [hv, if_pos rfl, if_pos (by rw [HTL.out]; exact h2), all_no k (by rw [HTL.out]; exact hlt) hh]; rfl)
            go_wp2_with (go_at_call 128; refine (i_hasTrain _ _ _ _ _ _ _ HL.out hn).mono ?_; rintro e w2 ⟨rfl, hb⟩; rw [hh]; have H2 := Lib.hid hb; clear hb)
            go_ret
            exact ⟨ret_i64 (by rw [HE.out]), (by repeat (first | (with_reducible exact Later.refl _) | (with_reducible exact Hid.out (by assumption)) | (with_reducible refine Later.alloc ?_ _) | (with_reducible refine Later.setCell ?_ (by simp; omega) _) | (with_reducible refine Later.setCell ?_ (by simp) _) | (with_reducible refine Later.drewN ?_ _) | (with_reducible refine Later.drew ?_) | (with_reducible refine Later.trans ?_ (Hid.out (by assumption)))))⟩
          · go_wp2_with (go_at_call 128; refine (i_hasTrain _ _ _ _ _ _ _ HL.out hn).mono ?_; rintro e w2 ⟨rfl, hb⟩; rw [hh]; have d0 := (Below.cell (p := ⟨w.heap.size, 0, none⟩) hb hb0).trans q0; have d1 := (Below.cell (p := ⟨w.heap.size, 1, none⟩) hb hb0).trans q1; have H2 := Lib.hid hb; clear hb)
            go_roundw
            case rel => exact ⟨k + 1, by omega, by go_num, d0, d1, by rw [HK.out, HA.out, hh]; rfl, (by repeat (first | (with_reducible exact Later.refl _) | (with_reducible exact Hid.out (by assumption)) | (with_reducible refine Later.alloc ?_ _) | (with_reducible refine Later.setCell ?_ (by simp; omega) _) | (with_reducible refine Later.setCell ?_ (by simp) _) | (with_reducible refine Later.drewN ?_ _) | (with_reducible refine Later.drew ?_) | (with_reducible refine Later.trans ?_ (Hid.out (by assumption)))))⟩
            case measure => simp [intOf]; omega
        · obtain rfl : k = tn := by omega
          have HE : Hid (mwE B l ts = 0) := Lib.hid (by
            have := HA.out
            rw [List.take_of_length_le (by rw [HTL.out]; exact Nat.le_refl _)] at this
            unfold mwE; rw [hv, if_pos rfl, if_pos (by rw [HTL.out]; exact h2), this]; rfl)
          go_wp2_with fail
          go_ret
          exact ⟨ret_i64 (by rw [HE.out]), HG.out⟩
    · have HE : Hid (mwE B l ts = 3) := Lib.hid (by unfold mwE; rw [hv, if_pos rfl, if_neg (by rw [HTL.out]; exact h2)])
      go_enter Try.func103, Try.ntmps103
      go_wp2_with (go_at_call 29; refine (i_IsTraffic _ _ _ _ _ _ (sl_later HS.out (show Later w _ from (by repeat (first | (with_reducible exact Later.refl _) | (with_reducible exact Hid.out (by assumption)) | (with_reducible refine Later.alloc ?_ _) | (with_reducible refine Later.setCell ?_ (by simp; omega) _) | (with_reducible refine Later.setCell ?_ (by simp) _) | (with_reducible refine Later.drewN ?_ _) | (with_reducible refine Later.drew ?_) | (with_reducible refine Later.trans ?_ (Hid.out (by assumption)))))))).mono ?_; rintro e w1 ⟨rfl, hb⟩; rw [hv]; have H1 := Lib.hid hb; clear hb)
      go_ret
      exact ⟨ret_i64 (by rw [HE.out]), (by repeat (first | (with_reducible exact Later.refl _) | (with_reducible exact Hid.out (by assumption)) | (with_reducible refine Later.alloc ?_ _) | (with_reducible refine Later.setCell ?_ (by simp; omega) _) | (with_reducible refine Later.setCell ?_ (by simp) _) | (with_reducible refine Later.drewN ?_ _) | (with_reducible refine Later.drew ?_) | (with_reducible refine Later.trans ?_ (Hid.out (by assumption)))))⟩
def rvB (B : Int) (l ts : List Int) : Int := if rnE B l ts = 0 then B else 0
def rvV (B : Int) (l ts : List Int) : List Int := if rnE B l ts = 0 then rnL B l ts ts.length else []
theorem rnE_mv {B : Int} {l ts : List Int} (h : mwE B l ts ≠ 0) : rnE B l ts = mwE B l ts := by
  unfold mwE at h ⊢; unfold rnE
  cases hv : tfB B l
  · rfl
  · by_cases h2 : ts.length ≤ 200
    · cases h3 : ts.all (hasT l)
      · simp [h2]
      · simp [hv, h2, h3] at h
    · simp [h2]
theorem mwE_ok {B : Int} {l ts : List Int} (h : mwE B l ts = 0) : tfB B l = true ∧ ts.length ≤ 200 ∧ ts.all (hasT l) = true := by
  unfold mwE at h
  cases hv : tfB B l
  · rw [hv] at h; simp at h
  · by_cases h2 : ts.length ≤ 200
    · cases h3 : ts.all (hasT l)
      · rw [hv, if_pos rfl, if_pos h2, h3] at h; simp at h
      · exact ⟨rfl, h2, rfl⟩
    · rw [hv, if_pos rfl, if_neg h2] at h; simp at h
theorem rnE_5 {B : Int} {l ts : List Int} (h : mwE B l ts = 0) (hs : rnS B l ts ts.length = false) : rnE B l ts = 5 := by
  obtain ⟨a, b, c⟩ := mwE_ok h
  unfold rnE; rw [a, if_pos rfl, if_pos b, c, if_pos rfl, hs]; rfl
theorem rnE_0 {B : Int} {l ts : List Int} (h : mwE B l ts = 0) (hs : rnS B l ts ts.length = true) : rnE B l ts = 0 := by
  obtain ⟨a, b, c⟩ := mwE_ok h
  unfold rnE; rw [a, if_pos rfl, if_pos b, c, if_pos rfl, hs]; rfl
theorem rv_bad {B : Int} {l ts : List Int} (h : rnE B l ts ≠ 0) : rvB B l ts = 0 ∧ rvV B l ts = [] := ⟨by unfold rvB; rw [if_neg h], by unfold rvV; rw [if_neg h]⟩
theorem i_RunMoves (B : Int) (a : Option Addr) (n cap : Nat) (l : List Int) (ta : Option Addr) (tn tc : Nat) (ts : List Int) (w : World) (hs : Sl w a n l) (ht : Sl w ta tn ts) :
    Calls Try.prog 43 #[.agg #[.int .i64 B, .slice a n cap], .slice ta tn tc] w (NewTC w (rvB B l ts) (rvV B l ts) (rnE B l ts)) := by
  have HS := Lib.hid hs
  have HT := Lib.hid ht
  have HL := Lib.hid hs.1
  have HTL := Lib.hid ht.1
  have htn := ht.2.1
  clear hs ht
  by_cases h0 : mwE B l ts = 0
  · obtain ⟨hv, h2, hall⟩ := mwE_ok h0
    obtain ⟨_, _, n1, n2, _⟩ := (tfB_iff B l).1 hv
    rw [HL.out] at n1 n2
    have H5 : Hid (∀ j, j ≤ tn → sfB B (rnL B l ts j) = false → rnE B l ts = 5 ∧ rvB B l ts = 0 ∧ rvV B l ts = []) := Lib.hid (fun j hj hf => by
      have e := rnE_5 h0 (rnS_no j (by rw [HTL.out]; exact hj) hf)
      exact ⟨e, rv_bad (by rw [e]; decide)⟩)
    have H0 : Hid (rnS B l ts tn = true → rnE B l ts = 0 ∧ rvB B l ts = B ∧ rvV B l ts = rnL B l ts tn) := Lib.hid (fun hs => by
      have e := rnE_0 h0 (by rw [HTL.out]; exact hs)
      exact ⟨e, by unfold rvB; rw [if_pos e], by unfold rvV; rw [if_pos e, HTL.out]⟩)
    have HM := Lib.hid h0
    have HA := Lib.hid hall
    rw [HTL.out] at h2
    clear h0 hall
    go_enter Try.func43, Try.ntmps43
    go_wp2_with fail
    refine (i_movesError _ _ _ _ _ _ _ _ _ _ (sl_later HS.out (show Later w _ from (by repeat (first | (with_reducible exact Later.refl _) | (with_reducible exact Hid.out (by assumption)) | (with_reducible refine Later.alloc ?_ _) | (with_reducible refine Later.setCell ?_ (by simp; omega) _) | (with_reducible refine Later.setCell ?_ (by simp) _) | (with_reducible refine Later.drewN ?_ _) | (with_reducible refine Later.drew ?_) | (with_reducible refine Later.trans ?_ (Hid.out (by assumption))))))) (sl_later HT.out (show Later w _ from (by repeat (first | (with_reducible exact Later.refl _) | (with_reducible exact Hid.out (by assumption)) | (with_reducible refine Later.alloc ?_ _) | (with_reducible refine Later.setCell ?_ (by simp; omega) _) | (with_reducible refine Later.setCell ?_ (by simp) _) | (with_reducible refine Later.drewN ?_ _) | (with_reducible refine Later.drew ?_) | (with_reducible refine Later.trans ?_ (Hid.out (by assumption)))))))).mono ?_
    rintro e w1 ⟨rfl, hl⟩
    rw [HM.out]
    obtain ⟨H1, hcc, hff, hzz⟩ := later_facts hl; clear hl
    simp only [World.size_alloc] at hzz hcc hff
    have q0 : w1.cell? ⟨w.heap.size, 0, none⟩ = some (.int .i64 B) := by rw [hcc _ _ (by omega)]; simp
    have q1 : w1.cell? ⟨w.heap.size, 1, none⟩ = some (.slice a n cap) := by rw [hcc _ _ (by omega)]; simp
    have r0 : w1.cell? ⟨w.heap.size + 1, 0, none⟩ = some (.int .i64 0) := by rw [hcc _ _ (by omega)]; simp
    have r1 : w1.cell? ⟨w.heap.size + 1, 1, none⟩ = some (.slice none 0 0) := by rw [hcc _ _ (by omega)]; simp
    have r2 : w1.frozen? ⟨w.heap.size + 1, 0, none⟩ = false := by rw [hff _ _ (by omega)]; simp
    have r3 : w1.frozen? ⟨w.heap.size + 1, 1, none⟩ = false := by rw [hff _ _ (by omega)]; simp
    have HG1 : Hid (Later w w1) := Lib.hid (by repeat (first | (with_reducible exact Later.refl _) | (with_reducible exact Hid.out (by assumption)) | (with_reducible refine Later.alloc ?_ _) | (with_reducible refine Later.setCell ?_ (by simp; omega) _) | (with_reducible refine Later.setCell ?_ (by simp) _) | (with_reducible refine Later.drewN ?_ _) | (with_reducible refine Later.drew ?_) | (with_reducible refine Later.trans ?_ (Hid.out (by assumption)))))
    clear hcc hff H1
    go_wp2_with fail
    refine (i_IsSafeTraffic _ _ _ _ _ _ (sl_later HS.out HG1.out)).mono ?_
    rintro e w2 ⟨rfl, hl⟩
    obtain ⟨H2, hcc, hff, hzz2⟩ := later_facts hl; clear hl
    have s0 : w2.cell? ⟨w.heap.size, 0, none⟩ = some (.int .i64 B) := by rw [hcc _ _ (by omega)]; exact q0
    have s1 : w2.cell? ⟨w.heap.size, 1, none⟩ = some (.slice a n cap) := by rw [hcc _ _ (by omega)]; exact q1
    have d0 : w2.cell? ⟨w.heap.size + 1, 0, none⟩ = some (.int .i64 0) := by rw [hcc _ _ (by omega)]; exact r0
    have d1 : w2.cell? ⟨w.heap.size + 1, 1, none⟩ = some (.slice none 0 0) := by rw [hcc _ _ (by omega)]; exact r1
    have d2 : w2.frozen? ⟨w.heap.size + 1, 0, none⟩ = false := by rw [hff _ _ (by omega)]; exact r2
    have d3 : w2.frozen? ⟨w.heap.size + 1, 1, none⟩ = false := by rw [hff _ _ (by omega)]; exact r3
    have HG2 : Hid (Later w w2) := Lib.hid (HG1.out.trans H2.out)
    clear hcc hff q0 q1 r0 r1 r2 r3 H2 HG1
    cases hf : sfB B l
    · obtain ⟨e1, e2, e3⟩ := H5.out 0 (by omega) hf
      have E1 := Lib.hid e1; have E2 := Lib.hid e2; have E3 := Lib.hid e3
      clear e1 e2 e3
      go_wp2_with fail
      exact bodyPost_ret (v := .tuple #[.agg #[.int .i64 0, .slice none 0 0], .int .i64 5]) (by simp [results, Try.results43, go_sem, *]) rfl ⟨.slice none 0 0, by rw [E1.out, E2.out], by rw [E3.out]; exact tf_none _ _, put_res (by omega) HG2.out⟩
    · have HSF : Hid (rnS B l ts 0 = true) := Lib.hid ((rnS_iff B l ts 0).2 (fun j hj => (show j = 0 by omega) ▸ hf))
      go_wp2_with fail
      refine (i_copyOf _ _ _ _ _ _ (sl_later HS.out HG2.out) n1 (by omega)).mono ?_
      rintro e w3 ⟨p, g, rfl, hb, hl⟩
      obtain ⟨H3, hcc, hff, hzz3⟩ := later_facts hl; clear hl
      have r0 : w3.cell? ⟨w.heap.size + 1, 0, none⟩ = some (.int .i64 0) := by rw [hcc _ _ (by omega)]; exact d0
      have r1 : w3.cell? ⟨w.heap.size + 1, 1, none⟩ = some (.slice none 0 0) := by rw [hcc _ _ (by omega)]; exact d1
      have r2 : w3.frozen? ⟨w.heap.size + 1, 0, none⟩ = false := by rw [hff _ _ (by omega)]; exact d2
      have r3 : w3.frozen? ⟨w.heap.size + 1, 1, none⟩ = false := by rw [hff _ _ (by omega)]; exact d3
      have HG3 : Hid (Later w w3) := Lib.hid (HG2.out.trans H3.out)
      have HB3 := Lib.hid (TBox.mono hb (show w.heap.size + 2 ≤ w2.heap.size by omega))
      have hgb := (HB3.out.2.2.2.2.2.1.lt g rfl).1
      clear hcc hff hb s0 s1 d0 d1 d2 d3 H3 HG2
      go_wp2_with fail
      go_loopw [25] (fun i wr => ∃ k : Nat, k ≤ tn ∧ i = .int .i64 k ∧ wr.cell? ⟨w.heap.size + 1, 0, none⟩ = some (.int .i64 0) ∧ wr.cell? ⟨w.heap.size + 1, 1, none⟩ = some (.slice none 0 0) ∧ wr.frozen? ⟨w.heap.size + 1, 0, none⟩ = false ∧ wr.frozen? ⟨w.heap.size + 1, 1, none⟩ = false ∧ TBox wr (w.heap.size + 2) p g n B (rnL B l ts k) ∧ rnS B l ts k = true ∧ Later w wr) (fun i _ => tn - (intOf i).toNat)
      case atStart => exact ⟨0, by omega, rfl, r0, r1, r2, r3, HB3.out, HSF.out, HG3.out⟩
      case round =>
        clear r0 r1 r2 r3 HB3 HSF HG3
        obtain ⟨k, hk, rfl, r0, r1, r2, r3, hb, hsf, hg⟩ := hrel
        have HB := Lib.hid hb; have HSF := Lib.hid hsf; have HG := Lib.hid hg
        clear hb hsf hg
        by_cases hlt : k < tn
        · obtain ⟨b, off, rfl, hc⟩ := (sl_later HT.out HG.out).at k hlt
          have hh : hasT l (gx ts k) = true := List.all_eq_true.1 HA.out _ (gx_mem ts k (by rw [HTL.out]; exact hlt))
          obtain ⟨k1, k2⟩ := (hasT_iff l _).1 hh
          rw [HL.out] at k2
          obtain ⟨m, hm⟩ := Int.eq_ofNat_of_zero_le k1
          have hmn : m < n := by omega
          have HR : Hid (rnL B l ts (k + 1) = mvL B (rnL B l ts k) m) := Lib.hid (by show mvL B _ (gx ts k).toNat = _; rw [hm]; rfl)
          rw [hm] at hc
          clear k1 k2 hh hm
          go_wp2_with fail
          refine (i_advance _ _ _ _ _ _ _ _ HB.out hmn (rnL_tf ts hv k)).mono ?_
          rintro e w4 ⟨rfl, hb4, hg4⟩
          have d0 := hg4.cell r0 (by simp; omega)
          have d1 := hg4.cell r1 (by simp; omega)
          have hlt1 := cell_lt r0
          have d2 : w4.frozen? ⟨w.heap.size + 1, 0, none⟩ = false := by rw [World.frozen?_of_block (w := wr) (hg4.block (w.heap.size + 1) hlt1 (by simp; omega))]; exact r2
          have d3 : w4.frozen? ⟨w.heap.size + 1, 1, none⟩ = false := by rw [World.frozen?_of_block (w := wr) (hg4.block (w.heap.size + 1) hlt1 (by simp; omega))]; exact r3
          have HG4 : Hid (Later w w4) := Lib.hid (Below.grown HG.out hg4 HG.out.size (fun q e => by cases e; omega))
          rw [← HR.out] at hb4
          have HB4 := Lib.hid hb4
          have c0 := hb4.2.2.2.1
          have c1 := hb4.2.2.2.2.1
          obtain ⟨a5, c5, e5, hs5, _⟩ := hb4.2.2.2.2.2.1.sl
          have HS5 := Lib.hid hs5
          have hz4 := cell_lt d0
          have hl5 := hb4.2.2.2.2.2.2
          rw [hl5] at HS5
          cases e5
          clear hb4 hg4 r0 r1 r2 r3 HB HG hs5 hl5
          go_wp2_with fail
          refine (i_IsSafeTraffic _ _ _ _ _ _ HS5.out).mono ?_
          rintro e w5 ⟨rfl, hl⟩
          obtain ⟨H6, hcc, hff, hzz6⟩ := later_facts hl; clear hl
          have r0 : w5.cell? ⟨w.heap.size + 1, 0, none⟩ = some (.int .i64 0) := by rw [hcc _ _ (by omega)]; exact d0
          have r1 : w5.cell? ⟨w.heap.size + 1, 1, none⟩ = some (.slice none 0 0) := by rw [hcc _ _ (by omega)]; exact d1
          have r2 : w5.frozen? ⟨w.heap.size + 1, 0, none⟩ = false := by rw [hff _ _ (by omega)]; exact d2
          have r3 : w5.frozen? ⟨w.heap.size + 1, 1, none⟩ = false := by rw [hff _ _ (by omega)]; exact d3
          have HB6 := Lib.hid (HB4.out.later H6.out)
          have HG6 := Lib.hid (HG4.out.trans H6.out)
          clear hcc hff d0 d1 d2 d3 HB4 HG4 H6 c0 c1
          cases hf6 : sfB B (rnL B l ts (k + 1))
          · obtain ⟨e1, e2, e3⟩ := H5.out (k + 1) (by omega) hf6
            have E1 := Lib.hid e1; have E2 := Lib.hid e2; have E3 := Lib.hid e3
            clear e1 e2 e3
            go_wp2_with fail
            exact bodyPost_ret (v := .tuple #[.agg #[.int .i64 0, .slice none 0 0], .int .i64 5]) (by simp [results, Try.results43, go_sem, *]) rfl ⟨.slice none 0 0, by rw [E1.out, E2.out], by rw [E3.out]; exact tf_none _ _, put_res (by omega) HG6.out⟩
          · have HS6 : Hid (rnS B l ts (k + 1) = true) := Lib.hid ((rnS_iff B l ts (k + 1)).2 (fun j hj => by
              by_cases e : j = k + 1
              · rw [e]; exact hf6
              · exact (rnS_iff B l ts k).1 HSF.out j (by omega)))
            go_wp2_with fail
            go_roundw
            case rel => exact ⟨k + 1, by omega, by go_num, r0, r1, r2, r3, HB6.out, HS6.out, HG6.out⟩
            case measure => simp [intOf]; omega
        · obtain rfl : k = tn := by omega
          obtain ⟨e1, e2, e3⟩ := H0.out HSF.out
          have E1 := Lib.hid e1; have E2 := Lib.hid e2; have E3 := Lib.hid e3
          have c0 := HB.out.2.2.2.1
          have c1 := HB.out.2.2.2.2.1
          have HO := Lib.hid HB.out.2.2.2.2.2.1
          clear e1 e2 e3
          go_wp2_with fail
          exact bodyPost_ret (v := .tuple #[.agg #[.int .i64 B, .slice (some ⟨g, 0, none⟩) n n], .int .i64 0]) (by simp [results, Try.results43, go_sem, *]) rfl ⟨_, by rw [E1.out, E2.out], by rw [E3.out]; exact tf_mono (own_res HO.out (by omega)) (by omega), put_res (by omega) HG.out⟩
  · have hE := rnE_mv h0
    obtain ⟨e2, e3⟩ := rv_bad (by rw [hE]; exact h0)
    have E2 := Lib.hid e2; have E3 := Lib.hid e3
    have e0 : (mwE B l ts != 0) = true := by simpa using h0
    obtain ⟨c, hc⟩ : ∃ c, c = mwE B l ts := ⟨_, rfl⟩
    have HC := Lib.hid hc
    have HE := Lib.hid hE
    rw [← hc] at e0
    clear h0 hc e2 e3 hE
    go_enter Try.func43, Try.ntmps43
    go_wp2_with fail
    refine (i_movesError _ _ _ _ _ _ _ _ _ _ (sl_later HS.out (show Later w _ from (by repeat (first | (with_reducible exact Later.refl _) | (with_reducible exact Hid.out (by assumption)) | (with_reducible refine Later.alloc ?_ _) | (with_reducible refine Later.setCell ?_ (by simp; omega) _) | (with_reducible refine Later.setCell ?_ (by simp) _) | (with_reducible refine Later.drewN ?_ _) | (with_reducible refine Later.drew ?_) | (with_reducible refine Later.trans ?_ (Hid.out (by assumption))))))) (sl_later HT.out (show Later w _ from (by repeat (first | (with_reducible exact Later.refl _) | (with_reducible exact Hid.out (by assumption)) | (with_reducible refine Later.alloc ?_ _) | (with_reducible refine Later.setCell ?_ (by simp; omega) _) | (with_reducible refine Later.setCell ?_ (by simp) _) | (with_reducible refine Later.drewN ?_ _) | (with_reducible refine Later.drew ?_) | (with_reducible refine Later.trans ?_ (Hid.out (by assumption)))))))).mono ?_
    rintro e w1 ⟨rfl, hl⟩
    rw [← HC.out]
    obtain ⟨H1, hcc, hff, hzz⟩ := later_facts hl; clear hl
    simp only [World.size_alloc] at hzz hcc hff
    have r0 : w1.cell? ⟨w.heap.size + 1, 0, none⟩ = some (.int .i64 0) := by rw [hcc _ _ (by omega)]; simp
    have r1 : w1.cell? ⟨w.heap.size + 1, 1, none⟩ = some (.slice none 0 0) := by rw [hcc _ _ (by omega)]; simp
    have r2 : w1.frozen? ⟨w.heap.size + 1, 0, none⟩ = false := by rw [hff _ _ (by omega)]; simp
    have r3 : w1.frozen? ⟨w.heap.size + 1, 1, none⟩ = false := by rw [hff _ _ (by omega)]; simp
    have H2 : Hid (Later w w1) := Lib.hid (by repeat (first | (with_reducible exact Later.refl _) | (with_reducible exact Hid.out (by assumption)) | (with_reducible refine Later.alloc ?_ _) | (with_reducible refine Later.setCell ?_ (by simp; omega) _) | (with_reducible refine Later.setCell ?_ (by simp) _) | (with_reducible refine Later.drewN ?_ _) | (with_reducible refine Later.drew ?_) | (with_reducible refine Later.trans ?_ (Hid.out (by assumption)))))
    clear hcc hff
    go_wp2_with fail
    exact bodyPost_ret (v := .tuple #[.agg #[.int .i64 0, .slice none 0 0], .int .i64 c]) (by simp [results, Try.results43, go_sem, *]) rfl ⟨.slice none 0 0, by rw [E2.out, HE.out, HC.out], by rw [E3.out]; exact tf_none _ _, put_res (by omega) H2.out⟩
end Go.Proofs.Ytdaihpkjnigjgaa
