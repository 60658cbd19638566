/- Contracts of chapter 10: the model's loads and moves. -/
import Derived.Test.YtdaihpkjnigjgaaTfU
namespace Go.Proofs.Ytdaihpkjnigjgaa
open Go.RowKit
set_option maxHeartbeats 4000000
set_option maxRecDepth 100000
set_option linter.unusedVariables false
set_option linter.unusedSimpArgs false
def ldQK (B : Int) (l : List Int) (k : Nat) : List Int := (nm k).map fun b => (cn B l b : Int)
theorem ldQK_succ (B : Int) (l : List Int) (k : Nat) : ldQK B l (k + 1) = ldQK B l k ++ [(cn B l k : Int)] := by unfold ldQK; rw [nm_succ, List.map_append]; rfl
theorem ldQK_len (B : Int) (l : List Int) (k : Nat) : (ldQK B l k).length = k := by simp [ldQK, nm_len]
theorem s_l10Loads (B : Int) (a : Option Addr) (n cap : Nat) (l : List Int) (w : World) (hs : Sl w a n l) (hv : tfB B l = true) :
    Calls Try.prog 99 #[.agg #[.int .i64 B, .slice a n cap]] w (NewL w (ldL B l)) := by
  have HS := Lib.hid hs
  have HL := Lib.hid hs.1
  have hn := hs.2.1
  clear hs
  obtain ⟨b1, b2, n1, n2, _⟩ := (tfB_iff B l).1 hv
  rw [HL.out] at n1 n2
  obtain ⟨bn, rfl⟩ := Int.eq_ofNat_of_zero_le (show 0 ≤ B by omega)
  have HV : Hid (ldL bn l = ldQK bn l bn) := Lib.hid rfl
  obtain ⟨W0, hW0⟩ : ∃ W0, W0 = w.alloc (.cells #[.int .i64 bn, .slice a n cap] 26) := ⟨_, rfl⟩
  have A0 : ((w.alloc (.cells #[.int .i64 bn, .slice a n cap] 26)).alloc (.cells #[] 2)).cell? ⟨w.heap.size, 0, none⟩ = some (.int .i64 bn) := by rw [(show Later (w.alloc _) _ from (Later.refl _).alloc _).cell (p := ⟨w.heap.size, 0, none⟩) (by simp)]; simp
  have A1 : ((w.alloc (.cells #[.int .i64 bn, .slice a n cap] 26)).alloc (.cells #[] 2)).cell? ⟨w.heap.size, 1, none⟩ = some (.slice a n cap) := by rw [(show Later (w.alloc _) _ from (Later.refl _).alloc _).cell (p := ⟨w.heap.size, 1, none⟩) (by simp)]; simp
  have AO : Hid (Own ((w.alloc (.cells #[.int .i64 bn, .slice a n cap] 26)).alloc (.cells #[] 2)) (w.heap.size + 1) (.slice (some ⟨(w.alloc (.cells #[.int .i64 bn, .slice a n cap] 26)).heap.size, 0, none⟩) 0 0) []) := Lib.hid (own_new _ _ (by simp))
  have AG : Hid (Later w ((w.alloc (.cells #[.int .i64 bn, .slice a n cap] 26)).alloc (.cells #[] 2))) := Lib.hid (((Later.refl w).alloc _).alloc _)
  clear hW0
  go_enter Try.func99, Try.ntmps99
  go_wp2_with fail
  go_loopw [3, 4] (fun v i wr => ∃ k : Nat, k ≤ bn ∧ i = .int .i64 k ∧ wr.cell? ⟨w.heap.size, 0, none⟩ = some (.int .i64 bn) ∧ wr.cell? ⟨w.heap.size, 1, none⟩ = some (.slice a n cap) ∧ Own wr (w.heap.size + 1) v (ldQK bn l k) ∧ Later w wr ∧ w.heap.size + 1 ≤ wr.heap.size) (fun _ i _ => bn - (intOf i).toNat)
  case atStart => exact ⟨0, by omega, rfl, A0, A1, by have := AO.out; simpa [ldQK, nm] using this, AG.out, by simp⟩
  case round =>
    clear A0 A1 AO AG
    obtain ⟨k, hk, rfl, q0, q1, ho, hg, hz⟩ := hrel
    have HG := Lib.hid hg; have HO := Lib.hid ho
    clear hg ho
    by_cases hlt : k < bn
    · have HN := Lib.hid (ldQK_succ bn l k)
      have hlk := ldQK_len bn l k
      have hcl := cn_le bn l k
      rw [HL.out] at hcl
      obtain ⟨c, hc⟩ : ∃ c : Int, c = (cn bn l k : Int) := ⟨_, rfl⟩
      have hc4 : -9223372036854775808 ≤ c ∧ c ≤ 9223372036854775807 := by omega
      have HC4 : Hid (InR c) := Lib.hid hc4
      have HC := Lib.hid hc
      rw [← hc] at HN
      clear hc hcl hc4
      go_wp2_with fail
      refine (s_l10Count _ _ _ _ _ _ _ (sl_later HS.out HG.out) hv).mono ?_
      rintro e w3 ⟨rfl, hl⟩
      rw [← HC.out]
      obtain ⟨H3, hcc, hff, hzz⟩ := later_facts hl; clear hl
      have d0 : w3.cell? ⟨w.heap.size, 0, none⟩ = some (.int .i64 bn) := by rw [hcc _ _ (by omega)]; exact q0
      have d1 : w3.cell? ⟨w.heap.size, 1, none⟩ = some (.slice a n cap) := by rw [hcc _ _ (by omega)]; exact q1
      have HO3 := Lib.hid (tf_lat HO.out H3.out)
      have HG3 := Lib.hid (HG.out.trans H3.out)
      have hz3 : w.heap.size + 1 ≤ w3.heap.size := by omega
      clear hcc hff q0 q1 HO HG H3
      go_wp2_with (at_builtin; go_must (refine app1 rfl _ _ rfl (w.heap.size + 1) _ _ _ _ _ HO3.out rfl rfl HC4.out (by omega) hz3 ?_; intro v' w5 ho hg; have c0 := hg.cell d0 (fun e => by have := (HO3.out.lt _ e.symm).1; simp at this; omega); have c1 := hg.cell d1 (fun e => by have := (HO3.out.lt _ e.symm).1; simp at this; omega); have HG5 := Lib.hid (Below.grown HG3.out hg HG3.out.size (fun q e => by have := (HO3.out.lt q e).1; omega)); have hz5 := Nat.le_trans hz3 hg.size; have HO5 := Lib.hid ho; clear ho hg))
      go_roundw
      case rel => exact ⟨k + 1, by omega, by go_num, c0, c1, by rw [HN.out]; exact HO5.out, HG5.out, hz5⟩
      case measure => simp [intOf]; omega
    · obtain rfl : k = bn := by omega
      obtain ⟨a2, c2, hvv, _, _⟩ := HO.out.sl
      subst hvv
      go_wp2_with fail
      go_ret
      exact ⟨_, rfl, by rw [HV.out]; exact tf_mono HO.out (by omega), HG.out⟩
theorem s_UsesOfBlocks (B : Int) (a : Option Addr) (n cap : Nat) (l : List Int) (w : World) (hs : Sl w a n l) :
    Calls Try.prog 39 #[.agg #[.int .i64 B, .slice a n cap]] w (LstC w (usV B l) (usE B l)) := by
  have HS := Lib.hid hs
  clear hs
  cases hv : tfB B l
  · have HE : Hid (usE B l = 1) := Lib.hid (by unfold usE; rw [hv]; rfl)
    have HV : Hid (usV B l = []) := Lib.hid (by unfold usV; rw [hv]; rfl)
    go_enter Try.func39, Try.ntmps39
    go_wp2_with (go_at_call 30; refine (s_IsTraffic _ _ _ _ _ _ (sl_later HS.out (show Later w _ from (by repeat (first | (with_reducible exact Later.refl _) | (with_reducible exact Hid.out (by assumption)) | (with_reducible refine Later.alloc ?_ _) | (with_reducible refine Later.setCell ?_ (by simp; omega) _) | (with_reducible refine Later.setCell ?_ (by simp) _) | (with_reducible refine Later.drewN ?_ _) | (with_reducible refine Later.drew ?_) | (with_reducible refine Later.trans ?_ (Hid.out (by assumption)))))))).mono ?_; rintro e w1 ⟨rfl, hb⟩; rw [hv]; have H1 := Lib.hid hb; clear hb)
    exact bodyPost_ret (v := .tuple #[.slice none 0 0, .int .i64 1]) (by simp [results, Try.results39, go_sem, *]) rfl ⟨.slice none 0 0, by rw [HE.out], by rw [HV.out]; exact tf_none _ _, (by repeat (first | (with_reducible exact Later.refl _) | (with_reducible exact Hid.out (by assumption)) | (with_reducible refine Later.alloc ?_ _) | (with_reducible refine Later.setCell ?_ (by simp; omega) _) | (with_reducible refine Later.setCell ?_ (by simp) _) | (with_reducible refine Later.drewN ?_ _) | (with_reducible refine Later.drew ?_) | (with_reducible refine Later.trans ?_ (Hid.out (by assumption)))))⟩
  · have HE : Hid (usE B l = 0) := Lib.hid (by unfold usE; rw [hv]; rfl)
    have HV : Hid (usV B l = ldL B l) := Lib.hid (by unfold usV; rw [hv]; rfl)
    go_enter Try.func39, Try.ntmps39
    go_wp2_with fail
    refine (s_IsTraffic _ _ _ _ _ _ (sl_later HS.out (show Later w _ from (by repeat (first | (with_reducible exact Later.refl _) | (with_reducible exact Hid.out (by assumption)) | (with_reducible refine Later.alloc ?_ _) | (with_reducible refine Later.setCell ?_ (by simp; omega) _) | (with_reducible refine Later.setCell ?_ (by simp) _) | (with_reducible refine Later.drewN ?_ _) | (with_reducible refine Later.drew ?_) | (with_reducible refine Later.trans ?_ (Hid.out (by assumption)))))))).mono ?_
    rintro e w1 ⟨rfl, hl⟩
    rw [hv]
    obtain ⟨H1, hcc, hff, hzz⟩ := later_facts hl; clear hl
    simp only [World.size_alloc] at hzz hcc hff
    have q0 : w1.cell? ⟨w.heap.size, 0, none⟩ = some (.int .i64 B) := by rw [hcc _ _ (by omega)]; simp
    have q1 : w1.cell? ⟨w.heap.size, 1, none⟩ = some (.slice a n cap) := by rw [hcc _ _ (by omega)]; simp
    clear hcc hff
    go_wp2_with fail
    refine (s_l10Loads _ _ _ _ _ _ (sl_later HS.out (show Later w _ from (by repeat (first | (with_reducible exact Later.refl _) | (with_reducible exact Hid.out (by assumption)) | (with_reducible refine Later.alloc ?_ _) | (with_reducible refine Later.setCell ?_ (by simp; omega) _) | (with_reducible refine Later.setCell ?_ (by simp) _) | (with_reducible refine Later.drewN ?_ _) | (with_reducible refine Later.drew ?_) | (with_reducible refine Later.trans ?_ (Hid.out (by assumption))))))) hv).mono ?_
    rintro e w2 ⟨v, rfl, ho, hl⟩
    have HO := Lib.hid (tf_mono (b2 := w.heap.size) ho (by omega))
    have H2 := Lib.hid hl
    clear ho hl
    go_wp2_with fail
    exact bodyPost_ret (v := .tuple #[v, .int .i64 0]) (by simp [results, Try.results39, go_sem, *]) rfl ⟨_, by rw [HE.out], by rw [HV.out]; exact HO.out, (by repeat (first | (with_reducible exact Later.refl _) | (with_reducible exact Hid.out (by assumption)) | (with_reducible refine Later.alloc ?_ _) | (with_reducible refine Later.setCell ?_ (by simp; omega) _) | (with_reducible refine Later.setCell ?_ (by simp) _) | (with_reducible refine Later.drewN ?_ _) | (with_reducible refine Later.drew ?_) | (with_reducible refine Later.trans ?_ (Hid.out (by assumption)))))⟩
theorem s_l10Move (B : Int) (a : Option Addr) (n cap : Nat) (l : List Int) (t : Nat) (w : World) (hs : Sl w a n l) (ht : t < n) (hv : tfB B l = true) :
    Calls Try.prog 97 #[.agg #[.int .i64 B, .slice a n cap], .int .i64 t] w (NewT w B (mvL B l t)) := by
  obtain ⟨b, off, rfl, _⟩ := hs.at t ht
  have HS := Lib.hid hs
  have HL := Lib.hid hs.1
  obtain ⟨b1, b2, n1, n2, hp⟩ := (tfB_iff B l).1 hv
  rw [hs.1] at n1 n2
  obtain ⟨p1, p2⟩ := plB_at hp t (by rw [HL.out]; exact ht)
  have m1 : 0 ≤ (gx l t + 1) % (3 * B) := Int.emod_nonneg _ (by omega)
  have m2 : (gx l t + 1) % (3 * B) < 3 * B := Int.emod_lt_of_pos _ (by omega)
  have z1 : ¬ 3 * B = 0 := by omega
  have z2 : ¬ B = 0 := by omega
  have z3 : (gx l t + 1).tmod (3 * B) = (gx l t + 1) % (3 * B) := Int.tmod_eq_emod_of_nonneg (by omega)
  clear hs hp
  go_enter Try.func97, Try.ntmps97
  go_wp2_with fail
  refine (s_Own _ _ _ _ _ (sl_later HS.out (show Later w _ from (by repeat (first | (with_reducible exact Later.refl _) | (with_reducible exact Hid.out (by assumption)) | (with_reducible refine Later.alloc ?_ _) | (with_reducible refine Later.setCell ?_ (by simp; omega) _) | (with_reducible refine Later.setCell ?_ (by simp) _) | (with_reducible refine Later.drewN ?_ _) | (with_reducible refine Later.drew ?_) | (with_reducible refine Later.trans ?_ (Hid.out (by assumption))))))) (by omega) (fun h => by cases h)).mono ?_
  rintro e w1 ⟨v, rfl, ho, hl⟩
  obtain ⟨H1, hcc, hff, hzz⟩ := later_facts hl; clear hl
  simp only [World.size_alloc] at hzz hcc hff ho
  have q0 : w1.cell? ⟨w.heap.size, 0, none⟩ = some (.int .i64 B) := by rw [hcc _ _ (by omega)]; simp
  have r0 : w1.cell? ⟨w.heap.size + 1, 0, none⟩ = some (.int .i64 0) := by rw [hcc _ _ (by omega)]; simp
  have r1 : w1.cell? ⟨w.heap.size + 1, 1, none⟩ = some (.slice none 0 0) := by rw [hcc _ _ (by omega)]; simp
  have r2 : w1.frozen? ⟨w.heap.size + 1, 0, none⟩ = false := by rw [hff _ _ (by omega)]; simp
  have r3 : w1.frozen? ⟨w.heap.size + 1, 1, none⟩ = false := by rw [hff _ _ (by omega)]; simp
  have HG1 : Hid (Later w w1) := Lib.hid (by repeat (first | (with_reducible exact Later.refl _) | (with_reducible exact Hid.out (by assumption)) | (with_reducible refine Later.alloc ?_ _) | (with_reducible refine Later.setCell ?_ (by simp; omega) _) | (with_reducible refine Later.setCell ?_ (by simp) _) | (with_reducible refine Later.drewN ?_ _) | (with_reducible refine Later.drew ?_) | (with_reducible refine Later.trans ?_ (Hid.out (by assumption)))))
  obtain ⟨g, c, rfl⟩ : ∃ g c, v = .slice (some ⟨g, 0, none⟩) n c := by
    rcases ho.1.2 with ⟨e, h0⟩ | ⟨g, c, _, e, _⟩
    · rw [HL.out] at h0; omega
    · exact ⟨g, c, by rw [e, HL.out]⟩
  have hgb : w.heap.size + 2 ≤ g := (ho.lt g rfl).1
  obtain ⟨y1, y2⟩ := own_at ho HL.out t ht
  obtain ⟨o1, o2⟩ := own_put (show Own w1.drew (w.heap.size + 1 + 1) (.slice (some ⟨g, 0, none⟩) n c) l from tf_lat ho ((Later.refl w1).drew)) HL.out t ((gx l t + 1) % (3 * B)) ⟨by omega, by omega⟩
  have hg2 : w1.grownBy (w1.drew.setCell ⟨g, t, none⟩ (.int .i64 ((gx l t + 1) % (3 * B)))) (some g) := grown_trans (b := w1.drew) ⟨rfl, rfl, rfl, Nat.le_refl _, fun _ _ _ => rfl⟩ o2
  obtain ⟨w2, hw2⟩ : ∃ w2, w2 = w1.drew.setCell ⟨g, t, none⟩ (.int .i64 ((gx l t + 1) % (3 * B))) := ⟨_, rfl⟩
  have HW2 := Lib.hid hw2
  have s0 : w2.cell? ⟨w.heap.size, 0, none⟩ = some (.int .i64 B) := by rw [hw2]; exact hg2.cell q0 (by simp; omega)
  have d0 : w2.cell? ⟨w.heap.size + 1, 0, none⟩ = some (.int .i64 0) := by rw [hw2]; exact hg2.cell r0 (by simp; omega)
  have d1 : w2.cell? ⟨w.heap.size + 1, 1, none⟩ = some (.slice none 0 0) := by rw [hw2]; exact hg2.cell r1 (by simp; omega)
  have d2 : w2.frozen? ⟨w.heap.size + 1, 0, none⟩ = false := by rw [hw2, World.frozen?_of_block (w := w1) (hg2.block (w.heap.size + 1) (by omega) (by simp; omega))]; exact r2
  have d3 : w2.frozen? ⟨w.heap.size + 1, 1, none⟩ = false := by rw [hw2, World.frozen?_of_block (w := w1) (hg2.block (w.heap.size + 1) (by omega) (by simp; omega))]; exact r3
  have HG2 : Hid (Later w w2) := Lib.hid (by rw [hw2]; exact Below.grown HG1.out hg2 HG1.out.size (fun q e => by cases e; omega))
  have HO2 : Hid (Own w2 (w.heap.size + 2) (.slice (some ⟨g, 0, none⟩) n c) (mvL B l t)) := Lib.hid (by rw [hw2]; exact o1)
  clear hcc hff ho hw2 hg2 o1 o2 r0 r1 r2 r3
  have z4 : IntKind.i64.wrap (gx l t + 1) = gx l t + 1 := IntWalk.i64_in _ (by omega)
  have z5 : IntKind.i64.wrap ((gx l t + 1) % (3 * B)) = (gx l t + 1) % (3 * B) := IntWalk.i64_in _ (by omega)
  have z6 : IntKind.i64.wrap (3 * B) = 3 * B := IntWalk.i64_in _ (by omega)
  go_wp2_with fail
  go_still_tail 11, (by kernel_rfl)
  change wpList _ _ _ _ _ (World.drew _)
  refine wpList_step fun K hK => ?_
  go_simp
  refine hK _ _ ?_
  clear hK K
  refine wpList_step fun K hK => ?_
  go_simp
  refine hK _ _ ?_
  clear hK K
  rw [show (World.setCell w1 ⟨g, t, none⟩ (.int .i64 ((gx l t + 1) % (3 * B)))).drew = w2 from by rw [HW2.out]; first | rfl | simp]
  clear y1 y2 q0
  go_wp2_with fail
  exact bodyPost_ret (v := .agg #[.int .i64 B, .slice (some ⟨g, 0, none⟩) n c]) (by simp [results, Try.results97, go_sem, *]) rfl ⟨_, rfl, tf_mono (own_res HO2.out (by omega)) (by omega), put_res (by omega) HG2.out⟩
theorem s_MovedTrain (B : Int) (a : Option Addr) (n cap : Nat) (l : List Int) (t : Int) (w : World) (hs : Sl w a n l) :
    Calls Try.prog 34 #[.agg #[.int .i64 B, .slice a n cap], .int .i64 t] w (NewTC w (mtB B l t) (mtV B l t) (thE B l t)) := by
  have HS := Lib.hid hs
  have HL := Lib.hid hs.1
  clear hs
  by_cases h0 : thE B l t = 0
  · obtain ⟨hv, hk⟩ := thE_ok h0
    obtain ⟨k1, k2⟩ := (hasT_iff l t).1 hk
    rw [HL.out] at k2
    obtain ⟨tn, rfl⟩ := Int.eq_ofNat_of_zero_le k1
    have ht : tn < n := by omega
    have HV : Hid (mtV B l tn = mvL B l tn) := Lib.hid (by unfold mtV; rw [if_pos h0]; rfl)
    have HB : Hid (mtB B l tn = B) := Lib.hid (by unfold mtB; rw [if_pos h0])
    have HE := Lib.hid h0
    clear h0
    go_enter Try.func34, Try.ntmps34
    go_wp2_with fail
    refine (s_l10Code _ _ _ _ _ _ _ (sl_later HS.out (show Later w _ from (by repeat (first | (with_reducible exact Later.refl _) | (with_reducible exact Hid.out (by assumption)) | (with_reducible refine Later.alloc ?_ _) | (with_reducible refine Later.setCell ?_ (by simp; omega) _) | (with_reducible refine Later.setCell ?_ (by simp) _) | (with_reducible refine Later.drewN ?_ _) | (with_reducible refine Later.drew ?_) | (with_reducible refine Later.trans ?_ (Hid.out (by assumption)))))))).mono ?_
    rintro e w1 ⟨rfl, hl⟩
    rw [HE.out]
    obtain ⟨H1, hcc, hff, hzz⟩ := later_facts hl; clear hl
    simp only [World.size_alloc] at hzz hcc hff
    have q0 : w1.cell? ⟨w.heap.size, 0, none⟩ = some (.int .i64 B) := by rw [hcc _ _ (by omega)]; simp
    have q1 : w1.cell? ⟨w.heap.size, 1, none⟩ = some (.slice a n cap) := by rw [hcc _ _ (by omega)]; simp
    have r0 : w1.cell? ⟨w.heap.size + 1, 0, none⟩ = some (.int .i64 0) := by rw [hcc _ _ (by omega)]; simp
    have r1 : w1.cell? ⟨w.heap.size + 1, 1, none⟩ = some (.slice none 0 0) := by rw [hcc _ _ (by omega)]; simp
    have r2 : w1.frozen? ⟨w.heap.size + 1, 0, none⟩ = false := by rw [hff _ _ (by omega)]; simp
    have r3 : w1.frozen? ⟨w.heap.size + 1, 1, none⟩ = false := by rw [hff _ _ (by omega)]; simp
    clear hcc hff
    go_wp2_with fail
    refine (s_l10Move _ _ _ _ _ _ _ (sl_later HS.out (show Later w _ from (by repeat (first | (with_reducible exact Later.refl _) | (with_reducible exact Hid.out (by assumption)) | (with_reducible refine Later.alloc ?_ _) | (with_reducible refine Later.setCell ?_ (by simp; omega) _) | (with_reducible refine Later.setCell ?_ (by simp) _) | (with_reducible refine Later.drewN ?_ _) | (with_reducible refine Later.drew ?_) | (with_reducible refine Later.trans ?_ (Hid.out (by assumption))))))) ht hv).mono ?_
    rintro e w2 ⟨v, rfl, ho, hl⟩
    obtain ⟨H2, hcc, hff, hzz2⟩ := later_facts hl; clear hl
    have d0 : w2.cell? ⟨w.heap.size + 1, 0, none⟩ = some (.int .i64 0) := by rw [hcc _ _ (by omega)]; exact r0
    have d1 : w2.cell? ⟨w.heap.size + 1, 1, none⟩ = some (.slice none 0 0) := by rw [hcc _ _ (by omega)]; exact r1
    have d2 : w2.frozen? ⟨w.heap.size + 1, 0, none⟩ = false := by rw [hff _ _ (by omega)]; exact r2
    have d3 : w2.frozen? ⟨w.heap.size + 1, 1, none⟩ = false := by rw [hff _ _ (by omega)]; exact r3
    obtain ⟨a2, c2, rfl, _, _⟩ := ho.sl
    have HO := Lib.hid ho
    have H3 : Hid (Later w w2) := Lib.hid (by repeat (first | (with_reducible exact Later.refl _) | (with_reducible exact Hid.out (by assumption)) | (with_reducible refine Later.alloc ?_ _) | (with_reducible refine Later.setCell ?_ (by simp; omega) _) | (with_reducible refine Later.setCell ?_ (by simp) _) | (with_reducible refine Later.drewN ?_ _) | (with_reducible refine Later.drew ?_) | (with_reducible refine Later.trans ?_ (Hid.out (by assumption)))))
    clear hcc hff ho q0 q1 r0 r1 r2 r3
    go_wp2_with fail
    exact bodyPost_ret (v := .tuple #[.agg #[.int .i64 B, .slice a2 (mvL B l tn).length c2], .int .i64 0]) (by simp [results, Try.results34, go_sem, *]) rfl ⟨_, by rw [HB.out, HE.out], by rw [HV.out]; exact tf_mono (own_res HO.out (by omega)) (by omega), put_res (by omega) H3.out⟩
  · have HV : Hid (mtV B l t = []) := Lib.hid (by unfold mtV; rw [if_neg h0])
    have HB : Hid (mtB B l t = 0) := Lib.hid (by unfold mtB; rw [if_neg h0])
    have e0 : (thE B l t != 0) = true := by simpa using h0
    obtain ⟨c, hc⟩ : ∃ c, c = thE B l t := ⟨_, rfl⟩
    have HC := Lib.hid hc
    rw [← hc] at e0
    clear h0 hc
    go_enter Try.func34, Try.ntmps34
    go_wp2_with fail
    refine (s_l10Code _ _ _ _ _ _ _ (sl_later HS.out (show Later w _ from (by repeat (first | (with_reducible exact Later.refl _) | (with_reducible exact Hid.out (by assumption)) | (with_reducible refine Later.alloc ?_ _) | (with_reducible refine Later.setCell ?_ (by simp; omega) _) | (with_reducible refine Later.setCell ?_ (by simp) _) | (with_reducible refine Later.drewN ?_ _) | (with_reducible refine Later.drew ?_) | (with_reducible refine Later.trans ?_ (Hid.out (by assumption)))))))).mono ?_
    rintro e w1 ⟨rfl, hl⟩
    rw [← HC.out]
    obtain ⟨H1, hcc, hff, hzz⟩ := later_facts hl; clear hl
    simp only [World.size_alloc] at hzz hcc hff
    have r0 : w1.cell? ⟨w.heap.size + 1, 0, none⟩ = some (.int .i64 0) := by rw [hcc _ _ (by omega)]; simp
    have r1 : w1.cell? ⟨w.heap.size + 1, 1, none⟩ = some (.slice none 0 0) := by rw [hcc _ _ (by omega)]; simp
    have r2 : w1.frozen? ⟨w.heap.size + 1, 0, none⟩ = false := by rw [hff _ _ (by omega)]; simp
    have r3 : w1.frozen? ⟨w.heap.size + 1, 1, none⟩ = false := by rw [hff _ _ (by omega)]; simp
    have H2 : Hid (Later w w1) := Lib.hid (by repeat (first | (with_reducible exact Later.refl _) | (with_reducible exact Hid.out (by assumption)) | (with_reducible refine Later.alloc ?_ _) | (with_reducible refine Later.setCell ?_ (by simp; omega) _) | (with_reducible refine Later.setCell ?_ (by simp) _) | (with_reducible refine Later.drewN ?_ _) | (with_reducible refine Later.drew ?_) | (with_reducible refine Later.trans ?_ (Hid.out (by assumption)))))
    clear hcc hff
    go_wp2_with fail
    exact bodyPost_ret (v := .tuple #[.agg #[.int .i64 0, .slice none 0 0], .int .i64 c]) (by simp [results, Try.results34, go_sem, *]) rfl ⟨.slice none 0 0, by rw [HB.out, HC.out], by rw [HV.out]; exact tf_none _ _, put_res (by omega) H2.out⟩
theorem s_l10Allowed (B : Int) (a : Option Addr) (n cap : Nat) (l : List Int) (w : World) (hs : Sl w a n l) (hv : tfB B l = true) :
    Calls Try.prog 89 #[.agg #[.int .i64 B, .slice a n cap]] w (NewL w (alL B l l.length)) := by
  have HS := Lib.hid hs
  have HL := Lib.hid hs.1
  have hn := hs.2.1
  clear hs
  obtain ⟨b1, b2, n1, n2, _⟩ := (tfB_iff B l).1 hv
  rw [HL.out] at n1 n2
  have A0 : ((w.alloc (.cells #[.int .i64 B, .slice a n cap] 26)).alloc (.cells #[] 2)).cell? ⟨w.heap.size, 0, none⟩ = some (.int .i64 B) := by rw [(show Later (w.alloc _) _ from (Later.refl _).alloc _).cell (p := ⟨w.heap.size, 0, none⟩) (by simp)]; simp
  have A1 : ((w.alloc (.cells #[.int .i64 B, .slice a n cap] 26)).alloc (.cells #[] 2)).cell? ⟨w.heap.size, 1, none⟩ = some (.slice a n cap) := by rw [(show Later (w.alloc _) _ from (Later.refl _).alloc _).cell (p := ⟨w.heap.size, 1, none⟩) (by simp)]; simp
  have AO : Hid (Own ((w.alloc (.cells #[.int .i64 B, .slice a n cap] 26)).alloc (.cells #[] 2)) (w.heap.size + 1) (.slice (some ⟨(w.alloc (.cells #[.int .i64 B, .slice a n cap] 26)).heap.size, 0, none⟩) 0 0) []) := Lib.hid (own_new _ _ (by simp))
  have AG : Hid (Later w ((w.alloc (.cells #[.int .i64 B, .slice a n cap] 26)).alloc (.cells #[] 2))) := Lib.hid (((Later.refl w).alloc _).alloc _)
  go_enter Try.func89, Try.ntmps89
  go_wp2_with fail
  go_loopw [3, 4] (fun v i wr => ∃ k : Nat, k ≤ n ∧ i = .int .i64 k ∧ wr.cell? ⟨w.heap.size, 0, none⟩ = some (.int .i64 B) ∧ wr.cell? ⟨w.heap.size, 1, none⟩ = some (.slice a n cap) ∧ Own wr (w.heap.size + 1) v (alL B l k) ∧ Later w wr ∧ w.heap.size + 1 ≤ wr.heap.size) (fun _ i _ => n - (intOf i).toNat)
  case atStart => exact ⟨0, by omega, rfl, A0, A1, by have := AO.out; simpa [alL, nm] using this, AG.out, by simp⟩
  case round =>
    clear A0 A1 AO AG
    obtain ⟨k, hk, rfl, c0, c1, ho, hg, hz⟩ := hrel
    have HO := Lib.hid ho; have HG := Lib.hid hg
    clear ho hg
    by_cases hlt : k < n
    · have HM := Lib.hid (alL_succ B l k)
      have hlk := alL_len B l k
      go_wp2_with fail
      refine (s_l10Move _ _ _ _ _ _ _ (sl_later HS.out HG.out) hlt hv).mono ?_
      rintro e w3 ⟨v, rfl, ho, hl⟩
      obtain ⟨H3, hcc, hff, hzz3⟩ := later_facts hl; clear hl
      have d0 : w3.cell? ⟨w.heap.size, 0, none⟩ = some (.int .i64 B) := by rw [hcc _ _ (by omega)]; exact c0
      have d1 : w3.cell? ⟨w.heap.size, 1, none⟩ = some (.slice a n cap) := by rw [hcc _ _ (by omega)]; exact c1
      obtain ⟨a2, c2, rfl, hs2, _⟩ := ho.sl
      have HS2 := Lib.hid hs2
      have HO3 := Lib.hid (tf_lat HO.out H3.out)
      have HG3 := Lib.hid (HG.out.trans H3.out)
      clear hcc hff ho hs2 c0 c1 HO HG H3
      go_wp2_with fail
      refine (s_IsSafeTraffic _ _ _ _ _ _ HS2.out).mono ?_
      rintro e w4 ⟨rfl, hl⟩
      obtain ⟨H4, hcc, hff, hzz4⟩ := later_facts hl; clear hl
      have c0 : w4.cell? ⟨w.heap.size, 0, none⟩ = some (.int .i64 B) := by rw [hcc _ _ (by omega)]; exact d0
      have c1 : w4.cell? ⟨w.heap.size, 1, none⟩ = some (.slice a n cap) := by rw [hcc _ _ (by omega)]; exact d1
      have HO4 := Lib.hid (tf_lat HO3.out H4.out)
      have HG4 := Lib.hid (HG3.out.trans H4.out)
      have hz4 : w.heap.size + 1 ≤ w4.heap.size := by omega
      clear hcc hff d0 d1 HO3 HG3 H4
      cases hm : sfB B (mvL B l k)
      · have HA : Hid (alL B l (k + 1) = alL B l k) := Lib.hid (by rw [HM.out, hm]; simp)
        go_wp2_with fail
        go_roundw
        case rel => exact ⟨k + 1, by omega, by go_num, c0, c1, by rw [HA.out]; exact HO4.out, HG4.out, hz4⟩
        case measure => simp [intOf]; omega
      · have HA : Hid (alL B l (k + 1) = alL B l k ++ [(k : Int)]) := Lib.hid (by rw [HM.out, hm]; simp)
        go_wp2_with (at_builtin; go_must (refine app1 rfl _ _ rfl (w.heap.size + 1) _ _ _ _ _ HO4.out rfl rfl ⟨by omega, by omega⟩ (by omega) hz4 ?_; intro v' w5 ho hg; have b0 := hg.cell c0 (fun e => by have := (HO4.out.lt _ e.symm).1; simp at this; omega); have b1 := hg.cell c1 (fun e => by have := (HO4.out.lt _ e.symm).1; simp at this; omega); have HG5 := Lib.hid (Below.grown HG4.out hg HG4.out.size (fun q e => by have := (HO4.out.lt q e).1; omega)); have hz5 := Nat.le_trans hz4 hg.size; have HO5 := Lib.hid ho; clear ho hg))
        go_roundw
        case rel => exact ⟨k + 1, by omega, by go_num, b0, b1, by rw [HA.out]; exact HO5.out, HG5.out, hz5⟩
        case measure => simp [intOf]; omega
    · obtain rfl : k = n := by omega
      obtain ⟨a2, c2, hvv, _, _⟩ := HO.out.sl
      subst hvv
      go_wp2_with fail
      go_ret
      exact ⟨_, rfl, by rw [HL.out]; exact tf_mono HO.out (by omega), HG.out⟩
theorem s_AllowedMoves (B : Int) (a : Option Addr) (n cap : Nat) (l : List Int) (w : World) (hs : Sl w a n l) :
    Calls Try.prog 27 #[.agg #[.int .i64 B, .slice a n cap]] w (LstC w (awV B l) (awE B l)) := by
  have HS := Lib.hid hs
  clear hs
  cases hv : tfB B l
  · have HE : Hid (awE B l = 1) := Lib.hid (by unfold awE; rw [hv]; rfl)
    have HV : Hid (awV B l = []) := Lib.hid (by unfold awV; rw [sfB_bad hv]; rfl)
    go_enter Try.func27, Try.ntmps27
    go_wp2_with (go_at_call 30; refine (s_IsTraffic _ _ _ _ _ _ (sl_later HS.out (show Later w _ from (by repeat (first | (with_reducible exact Later.refl _) | (with_reducible exact Hid.out (by assumption)) | (with_reducible refine Later.alloc ?_ _) | (with_reducible refine Later.setCell ?_ (by simp; omega) _) | (with_reducible refine Later.setCell ?_ (by simp) _) | (with_reducible refine Later.drewN ?_ _) | (with_reducible refine Later.drew ?_) | (with_reducible refine Later.trans ?_ (Hid.out (by assumption)))))))).mono ?_; rintro e w1 ⟨rfl, hb⟩; rw [hv]; have H1 := Lib.hid hb; clear hb)
    exact bodyPost_ret (v := .tuple #[.slice none 0 0, .int .i64 1]) (by simp [results, Try.results27, go_sem, *]) rfl ⟨.slice none 0 0, by rw [HE.out], by rw [HV.out]; exact tf_none _ _, (by repeat (first | (with_reducible exact Later.refl _) | (with_reducible exact Hid.out (by assumption)) | (with_reducible refine Later.alloc ?_ _) | (with_reducible refine Later.setCell ?_ (by simp; omega) _) | (with_reducible refine Later.setCell ?_ (by simp) _) | (with_reducible refine Later.drewN ?_ _) | (with_reducible refine Later.drew ?_) | (with_reducible refine Later.trans ?_ (Hid.out (by assumption)))))⟩
  · go_enter Try.func27, Try.ntmps27
    go_wp2_with fail
    refine (s_IsTraffic _ _ _ _ _ _ (sl_later HS.out (show Later w _ from (by repeat (first | (with_reducible exact Later.refl _) | (with_reducible exact Hid.out (by assumption)) | (with_reducible refine Later.alloc ?_ _) | (with_reducible refine Later.setCell ?_ (by simp; omega) _) | (with_reducible refine Later.setCell ?_ (by simp) _) | (with_reducible refine Later.drewN ?_ _) | (with_reducible refine Later.drew ?_) | (with_reducible refine Later.trans ?_ (Hid.out (by assumption)))))))).mono ?_
    rintro e w1 ⟨rfl, hl⟩
    rw [hv]
    obtain ⟨H1, hcc, hff, hzz⟩ := later_facts hl; clear hl
    simp only [World.size_alloc] at hzz hcc hff
    have q0 : w1.cell? ⟨w.heap.size, 0, none⟩ = some (.int .i64 B) := by rw [hcc _ _ (by omega)]; simp
    have q1 : w1.cell? ⟨w.heap.size, 1, none⟩ = some (.slice a n cap) := by rw [hcc _ _ (by omega)]; simp
    clear hcc hff
    go_wp2_with fail
    refine (s_IsSafeTraffic _ _ _ _ _ _ (sl_later HS.out (show Later w _ from (by repeat (first | (with_reducible exact Later.refl _) | (with_reducible exact Hid.out (by assumption)) | (with_reducible refine Later.alloc ?_ _) | (with_reducible refine Later.setCell ?_ (by simp; omega) _) | (with_reducible refine Later.setCell ?_ (by simp) _) | (with_reducible refine Later.drewN ?_ _) | (with_reducible refine Later.drew ?_) | (with_reducible refine Later.trans ?_ (Hid.out (by assumption)))))))).mono ?_
    rintro e w2 ⟨rfl, hl⟩
    obtain ⟨H2, hcc, hff, hzz2⟩ := later_facts hl; clear hl
    have c0 : w2.cell? ⟨w.heap.size, 0, none⟩ = some (.int .i64 B) := by rw [hcc _ _ (by omega)]; exact q0
    have c1 : w2.cell? ⟨w.heap.size, 1, none⟩ = some (.slice a n cap) := by rw [hcc _ _ (by omega)]; exact q1
    clear hcc hff q0 q1
    cases hf : sfB B l
    · have HE : Hid (awE B l = 5) := Lib.hid (by unfold awE; rw [hv, hf]; rfl)
      have HV : Hid (awV B l = []) := Lib.hid (by unfold awV; rw [hf]; rfl)
      go_wp2_with fail
      exact bodyPost_ret (v := .tuple #[.slice none 0 0, .int .i64 5]) (by simp [results, Try.results27, go_sem, *]) rfl ⟨.slice none 0 0, by rw [HE.out], by rw [HV.out]; exact tf_none _ _, (by repeat (first | (with_reducible exact Later.refl _) | (with_reducible exact Hid.out (by assumption)) | (with_reducible refine Later.alloc ?_ _) | (with_reducible refine Later.setCell ?_ (by simp; omega) _) | (with_reducible refine Later.setCell ?_ (by simp) _) | (with_reducible refine Later.drewN ?_ _) | (with_reducible refine Later.drew ?_) | (with_reducible refine Later.trans ?_ (Hid.out (by assumption)))))⟩
    · have HE : Hid (awE B l = 0) := Lib.hid (by unfold awE; rw [hv, hf]; rfl)
      have HV : Hid (awV B l = alL B l l.length) := Lib.hid (by unfold awV; rw [hf]; rfl)
      go_wp2_with fail
      refine (s_l10Allowed _ _ _ _ _ _ (sl_later HS.out (show Later w _ from (by repeat (first | (with_reducible exact Later.refl _) | (with_reducible exact Hid.out (by assumption)) | (with_reducible refine Later.alloc ?_ _) | (with_reducible refine Later.setCell ?_ (by simp; omega) _) | (with_reducible refine Later.setCell ?_ (by simp) _) | (with_reducible refine Later.drewN ?_ _) | (with_reducible refine Later.drew ?_) | (with_reducible refine Later.trans ?_ (Hid.out (by assumption))))))) hv).mono ?_
      rintro e w3 ⟨v, rfl, ho, hl⟩
      have HO := Lib.hid (tf_mono (b2 := w.heap.size) ho (by omega))
      have H3 := Lib.hid hl
      clear ho hl
      go_wp2_with fail
      exact bodyPost_ret (v := .tuple #[v, .int .i64 0]) (by simp [results, Try.results27, go_sem, *]) rfl ⟨_, by rw [HE.out], by rw [HV.out]; exact HO.out, (by repeat (first | (with_reducible exact Later.refl _) | (with_reducible exact Hid.out (by assumption)) | (with_reducible refine Later.alloc ?_ _) | (with_reducible refine Later.setCell ?_ (by simp; omega) _) | (with_reducible refine Later.setCell ?_ (by simp) _) | (with_reducible refine Later.drewN ?_ _) | (with_reducible refine Later.drew ?_) | (with_reducible refine Later.trans ?_ (Hid.out (by assumption)))))⟩
end Go.Proofs.Ytdaihpkjnigjgaa
