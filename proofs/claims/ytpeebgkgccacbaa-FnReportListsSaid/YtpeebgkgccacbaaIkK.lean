/- Contracts of chapter 11: blocks by a report, permitted moves, of the program. -/
import Derived.Test.YtpeebgkgccacbaaIkJ
namespace Go.Proofs.Ytpeebgkgccacbaa
open Go.RowKit
set_option maxHeartbeats 4000000
set_option maxRecDepth 100000
set_option linter.unusedVariables false
set_option linter.unusedSimpArgs false
theorem i_isClearBy (a1 : Option Addr) (n1 c1 : Nat) (l1 : List Int) (a2 : Option Addr) (n2 c2 : Nat) (l2 : List Int) (b : Nat) (w : World) (hs1 : Sl w a1 n1 l1) (hs2 : Sl w a2 n2 l2) (h1 : b < n1) (h2 : b < n2) (v : Bool) (hv : clP l1 l2 b = v) :
    Calls Try.prog 23 #[.agg #[.slice a1 n1 c1, .slice a2 n2 c2], .int .i64 (b : Int)] w fun e w' => e = .returned (.bool v) ∧ Later w w' := by
  obtain ⟨x1, o1, rfl, q1⟩ := hs1.at b h1
  obtain ⟨x2, o2, rfl, q2⟩ := hs2.at b h2
  have g1 := cell_lt q1; have g2 := cell_lt q2
  have m1 := hs1.2.1; have m2 := hs2.2.1
  have k1 : (0 : Int) ≤ b := by omega
  have k2 : (b : Int) < n1 := by omega
  have k3 : (b : Int) < n2 := by omega
  have ev : (gx l1 b == 0 && gx l2 b == 0) = v := by rw [← hv]; unfold clP; rw [Int.toNat_natCast]
  clear hs1 hs2 hv
  cases e1 : (gx l1 b == 0)
  · have HV : Hid (v = false) := Lib.hid (by rw [← ev, e1]; rfl)
    clear ev
    go_enter Try.func23, Try.ntmps23
    go_wp2_with fail
    go_ret
    exact ⟨ret_b (by rw [HV.out]), (by repeat (first | (with_reducible exact Later.refl _) | (with_reducible exact Hid.out (by assumption)) | (with_reducible refine Later.alloc ?_ _) | (with_reducible refine Later.setCell ?_ (by simp; omega) _) | (with_reducible refine Later.setCell ?_ (by simp) _) | (with_reducible refine Later.drewN ?_ _) | (with_reducible refine Later.drew ?_) | (with_reducible refine Later.trans ?_ (Hid.out (by assumption)))))⟩
  · cases e2 : (gx l2 b == 0)
    · have HV : Hid (v = false) := Lib.hid (by rw [← ev, e1, e2]; rfl)
      clear ev
      go_enter Try.func23, Try.ntmps23
      go_wp2_with fail
      go_ret
      exact ⟨ret_b (by rw [HV.out]), (by repeat (first | (with_reducible exact Later.refl _) | (with_reducible exact Hid.out (by assumption)) | (with_reducible refine Later.alloc ?_ _) | (with_reducible refine Later.setCell ?_ (by simp; omega) _) | (with_reducible refine Later.setCell ?_ (by simp) _) | (with_reducible refine Later.drewN ?_ _) | (with_reducible refine Later.drew ?_) | (with_reducible refine Later.trans ?_ (Hid.out (by assumption)))))⟩
    · have HV : Hid (v = true) := Lib.hid (by rw [← ev, e1, e2]; rfl)
      clear ev
      go_enter Try.func23, Try.ntmps23
      go_wp2_with fail
      go_ret
      exact ⟨ret_b (by rw [HV.out]), (by repeat (first | (with_reducible exact Later.refl _) | (with_reducible exact Hid.out (by assumption)) | (with_reducible refine Later.alloc ?_ _) | (with_reducible refine Later.setCell ?_ (by simp; omega) _) | (with_reducible refine Later.setCell ?_ (by simp) _) | (with_reducible refine Later.drewN ?_ _) | (with_reducible refine Later.drew ?_) | (with_reducible refine Later.trans ?_ (Hid.out (by assumption)))))⟩
theorem i_isDiscrepant (a1 : Option Addr) (n1 c1 : Nat) (l1 : List Int) (a2 : Option Addr) (n2 c2 : Nat) (l2 : List Int) (b : Nat) (w : World) (hs1 : Sl w a1 n1 l1) (hs2 : Sl w a2 n2 l2) (h1 : b < n1) (h2 : b < n2) (v : Bool) (hv : dsP l1 l2 b = v) :
    Calls Try.prog 25 #[.agg #[.slice a1 n1 c1, .slice a2 n2 c2], .int .i64 (b : Int)] w fun e w' => e = .returned (.bool v) ∧ Later w w' := by
  obtain ⟨x1, o1, rfl, q1⟩ := hs1.at b h1
  obtain ⟨x2, o2, rfl, q2⟩ := hs2.at b h2
  have g1 := cell_lt q1; have g2 := cell_lt q2
  have z1 : x1 ≠ w.heap.size := by omega
  have z2 : x2 ≠ w.heap.size := by omega
  have m1 := hs1.2.1; have m2 := hs2.2.1
  have k1 : (0 : Int) ≤ b := by omega
  have k2 : (b : Int) < n1 := by omega
  have k3 : (b : Int) < n2 := by omega
  have ev : (gx l1 b != gx l2 b) = v := by rw [← hv]; unfold dsP; rw [Int.toNat_natCast]
  clear hs1 hs2 hv
  generalize gx l1 b = u1 at q1 ev
  generalize gx l2 b = u2 at q2 ev
  have HV := Lib.hid ev
  clear ev
  go_enter Try.func25, Try.ntmps25
  go_wp2_with fail
  have KS : Hid (∀ W', Later w W' → W'.cell? ⟨x1, o1 + b, none⟩ = some (.int .i64 u1) ∧ W'.cell? ⟨x2, o2 + b, none⟩ = some (.int .i64 u2)) := Lib.hid (fun W' h => ⟨by rw [h.cell (p := ⟨x1, o1 + b, none⟩) g1]; exact q1, by rw [h.cell (p := ⟨x2, o2 + b, none⟩) g2]; exact q2⟩)
  go_quiet (fail)
  go_wp2_with fail
  go_ret
  exact ⟨ret_b (by rw [← HV.out]), (by repeat (first | (with_reducible exact Later.refl _) | (with_reducible exact Hid.out (by assumption)) | (with_reducible refine Later.alloc ?_ _) | (with_reducible refine Later.setCell ?_ (by simp; omega) _) | (with_reducible refine Later.setCell ?_ (by simp) _) | (with_reducible refine Later.drewN ?_ _) | (with_reducible refine Later.drew ?_) | (with_reducible refine Later.trans ?_ (Hid.out (by assumption)))))⟩
/-- the blocks by a report -/
def byV (p : List Int → List Int → Int → Bool) (B : Int) (n1 n2 : Nat) (l1 l2 : List Int) : List Int := if rpE B n1 n2 l1 l2 = 0 then ckL (p l1 l2) B.toNat else []
theorem rpE_ok {B : Int} {n1 n2 : Nat} {l1 l2 : List Int} (h : rpE B n1 n2 l1 l2 = 0) : 2 ≤ B ∧ B ≤ 8 ∧ (n1 : Int) = B ∧ (n2 : Int) = B ∧ rpA l1 n1 = true ∧ rpA l2 n2 = true := by
  cases hb : nbB B
  · rw [rpE_1 hb] at h; simp at h
  · cases hr : (rpB B n1 l1 && rpB B n2 l2)
    · rw [rpE_2 hb hr] at h; simp at h
    · obtain ⟨b1, b2⟩ := (nbB_iff B).1 hb
      simp only [Bool.and_eq_true] at hr
      obtain ⟨r1, r2⟩ := hr
      obtain ⟨x1, y1⟩ := (rpB_iff _ _ _).1 r1
      obtain ⟨x2, y2⟩ := (rpB_iff _ _ _).1 r2
      exact ⟨b1, b2, x1, x2, y1, y2⟩
theorem i_blocksBy_clP (B : Int) (a1 : Option Addr) (n1 c1 : Nat) (l1 : List Int) (a2 : Option Addr) (n2 c2 : Nat) (l2 : List Int) (w : World) (hs1 : Sl w a1 n1 l1) (hs2 : Sl w a2 n2 l2) :
    Calls Try.prog 22 #[.int .i64 B, .agg #[.slice a1 n1 c1, .slice a2 n2 c2], .func (.func 23) #[] #[]] w (LstC w (byV clP B n1 n2 l1 l2) (rpE B n1 n2 l1 l2)) := by
  have HS := Lib.hid hs1; have HT := Lib.hid hs2
  clear hs1 hs2
  by_cases h0 : rpE B n1 n2 l1 l2 = 0
  · obtain ⟨b1, b2, e1, e2, _, _⟩ := rpE_ok h0
    have HV : Hid (byV clP B n1 n2 l1 l2 = ckL (clP l1 l2) B.toNat) := Lib.hid (by unfold byV; rw [if_pos h0])
    have HE := Lib.hid h0
    obtain ⟨bn, rfl⟩ := Int.eq_ofNat_of_zero_le (show 0 ≤ B by omega)
    have hb8 : bn ≤ 8 := by omega
    have E1 : Hid (n1 = bn) := Lib.hid (by omega)
    have E2 : Hid (n2 = bn) := Lib.hid (by omega)
    clear h0 e1 e2
    go_enter Try.func22, Try.ntmps22
    go_wp2_with fail
    refine (i_reportError _ _ _ _ _ _ _ _ _ _ (sl_later HS.out (show Later w _ from (by repeat (first | (with_reducible exact Later.refl _) | (with_reducible exact Hid.out (by assumption)) | (with_reducible refine Later.alloc ?_ _) | (with_reducible refine Later.setCell ?_ (by simp; omega) _) | (with_reducible refine Later.setCell ?_ (by simp) _) | (with_reducible refine Later.drewN ?_ _) | (with_reducible refine Later.drew ?_) | (with_reducible refine Later.trans ?_ (Hid.out (by assumption))))))) (sl_later HT.out (show Later w _ from (by repeat (first | (with_reducible exact Later.refl _) | (with_reducible exact Hid.out (by assumption)) | (with_reducible refine Later.alloc ?_ _) | (with_reducible refine Later.setCell ?_ (by simp; omega) _) | (with_reducible refine Later.setCell ?_ (by simp) _) | (with_reducible refine Later.drewN ?_ _) | (with_reducible refine Later.drew ?_) | (with_reducible refine Later.trans ?_ (Hid.out (by assumption)))))))).mono ?_
    rintro e w1 ⟨rfl, hb⟩
    rw [HE.out]
    obtain ⟨H1, hcc, hff, hzz⟩ := later_facts hb; clear hb
    simp only [World.size_alloc] at hzz hcc hff
    have q0 : w1.cell? ⟨w.heap.size, 0, none⟩ = some (.slice a1 n1 c1) := by rw [hcc _ _ (by omega)]; simp
    have q1 : w1.cell? ⟨w.heap.size, 1, none⟩ = some (.slice a2 n2 c2) := by rw [hcc _ _ (by omega)]; simp
    have HG1 : Hid (Later w w1) := Lib.hid (by repeat (first | (with_reducible exact Later.refl _) | (with_reducible exact Hid.out (by assumption)) | (with_reducible refine Later.alloc ?_ _) | (with_reducible refine Later.setCell ?_ (by simp; omega) _) | (with_reducible refine Later.setCell ?_ (by simp) _) | (with_reducible refine Later.drewN ?_ _) | (with_reducible refine Later.drew ?_) | (with_reducible refine Later.trans ?_ (Hid.out (by assumption)))))
    clear hcc hff H1
    go_wp2_with fail
    go_loopw [9, 18] (fun v i wr => ∃ k : Nat, k ≤ bn ∧ i = .int .i64 k ∧ wr.cell? ⟨w.heap.size, 0, none⟩ = some (.slice a1 n1 c1) ∧ wr.cell? ⟨w.heap.size, 1, none⟩ = some (.slice a2 n2 c2) ∧ Own wr (w.heap.size + 1) v (ckL (clP l1 l2) k) ∧ Later w wr ∧ w.heap.size + 1 ≤ wr.heap.size) (fun _ i _ => bn - (intOf i).toNat)
    case atStart => exact ⟨0, by omega, rfl, q0, q1, tf_none _ _, HG1.out, hzz⟩
    case round =>
      clear q0 q1 HG1 hzz
      obtain ⟨k, hk, rfl, q0, q1, ho, hg, hz⟩ := hrel
      have HG := Lib.hid hg; have HO := Lib.hid ho
      clear hg ho
      by_cases hlt : k < bn
      · have HN := Lib.hid (ckL_succ (clP l1 l2) k)
        have hlen := ckL_len (clP l1 l2) k
        have hl9 : (ckL (clP l1 l2) k).length ≤ 1000000000 := by omega
        obtain ⟨L, hL⟩ : ∃ L, L = ckL (clP l1 l2) k := ⟨_, rfl⟩
        rw [← hL] at HN hl9 HO
        clear hL hlen
        have HKR : Hid (InR (k : Int)) := Lib.hid ⟨by omega, by omega⟩
        cases hp : clP l1 l2 (k : Int)
        · have HQ : Hid (ckL (clP l1 l2) (k + 1) = L) := Lib.hid (by rw [HN.out, hp]; simp)
          have HP := Lib.hid hp
          clear hp HN
          go_wp2_with fail
          refine (i_isClearBy a1 n1 c1 l1 a2 n2 c2 l2 k _ (sl_later HS.out (show Later w _ from (by repeat (first | (with_reducible exact Later.refl _) | (with_reducible exact Hid.out (by assumption)) | (with_reducible refine Later.alloc ?_ _) | (with_reducible refine Later.setCell ?_ (by simp; omega) _) | (with_reducible refine Later.setCell ?_ (by simp) _) | (with_reducible refine Later.drewN ?_ _) | (with_reducible refine Later.drew ?_) | (with_reducible refine Later.trans ?_ (Hid.out (by assumption))))))) (sl_later HT.out (show Later w _ from (by repeat (first | (with_reducible exact Later.refl _) | (with_reducible exact Hid.out (by assumption)) | (with_reducible refine Later.alloc ?_ _) | (with_reducible refine Later.setCell ?_ (by simp; omega) _) | (with_reducible refine Later.setCell ?_ (by simp) _) | (with_reducible refine Later.drewN ?_ _) | (with_reducible refine Later.drew ?_) | (with_reducible refine Later.trans ?_ (Hid.out (by assumption))))))) (by rw [E1.out]; exact hlt) (by rw [E2.out]; exact hlt) _ HP.out).mono ?_
          rintro e w3 ⟨rfl, hl⟩
          obtain ⟨H3, hcc, hff, hzz⟩ := later_facts hl; clear hl
          have d0 : w3.cell? ⟨w.heap.size, 0, none⟩ = some (.slice a1 n1 c1) := by rw [hcc _ _ (by omega)]; exact q0
          have d1 : w3.cell? ⟨w.heap.size, 1, none⟩ = some (.slice a2 n2 c2) := by rw [hcc _ _ (by omega)]; exact q1
          have HO3 := Lib.hid (tf_lat HO.out H3.out)
          have HG3 := Lib.hid (HG.out.trans H3.out)
          have hz3 : w.heap.size + 1 ≤ w3.heap.size := by omega
          clear hcc hff q0 q1 HO HG H3
          go_wp2_with fail
          go_roundw
          case rel => exact ⟨k + 1, by omega, by go_num, d0, d1, by rw [HQ.out]; exact HO3.out, HG3.out, hz3⟩
          case measure => simp [intOf]; omega
        · have HQ : Hid (ckL (clP l1 l2) (k + 1) = L ++ [(k : Int)]) := Lib.hid (by rw [HN.out, hp]; simp)
          have HP := Lib.hid hp
          clear hp HN
          go_wp2_with fail
          refine (i_isClearBy a1 n1 c1 l1 a2 n2 c2 l2 k _ (sl_later HS.out (show Later w _ from (by repeat (first | (with_reducible exact Later.refl _) | (with_reducible exact Hid.out (by assumption)) | (with_reducible refine Later.alloc ?_ _) | (with_reducible refine Later.setCell ?_ (by simp; omega) _) | (with_reducible refine Later.setCell ?_ (by simp) _) | (with_reducible refine Later.drewN ?_ _) | (with_reducible refine Later.drew ?_) | (with_reducible refine Later.trans ?_ (Hid.out (by assumption))))))) (sl_later HT.out (show Later w _ from (by repeat (first | (with_reducible exact Later.refl _) | (with_reducible exact Hid.out (by assumption)) | (with_reducible refine Later.alloc ?_ _) | (with_reducible refine Later.setCell ?_ (by simp; omega) _) | (with_reducible refine Later.setCell ?_ (by simp) _) | (with_reducible refine Later.drewN ?_ _) | (with_reducible refine Later.drew ?_) | (with_reducible refine Later.trans ?_ (Hid.out (by assumption))))))) (by rw [E1.out]; exact hlt) (by rw [E2.out]; exact hlt) _ HP.out).mono ?_
          rintro e w3 ⟨rfl, hl⟩
          obtain ⟨H3, hcc, hff, hzz⟩ := later_facts hl; clear hl
          have d0 : w3.cell? ⟨w.heap.size, 0, none⟩ = some (.slice a1 n1 c1) := by rw [hcc _ _ (by omega)]; exact q0
          have d1 : w3.cell? ⟨w.heap.size, 1, none⟩ = some (.slice a2 n2 c2) := by rw [hcc _ _ (by omega)]; exact q1
          have HO3 := Lib.hid (tf_lat HO.out H3.out)
          have HG3 := Lib.hid (HG.out.trans H3.out)
          have hz3 : w.heap.size + 1 ≤ w3.heap.size := by omega
          clear hcc hff q0 q1 HO HG H3
          go_wp2_with (at_builtin; go_must (refine app1 rfl _ _ rfl (w.heap.size + 1) _ _ _ _ _ HO3.out rfl rfl HKR.out hl9 hz3 ?_; intro v' w5 ho hg; have c0 := hg.cell d0 (fun e => by have := (HO3.out.lt _ e.symm).1; simp at this; omega); have c1 := hg.cell d1 (fun e => by have := (HO3.out.lt _ e.symm).1; simp at this; omega); have HG5 := Lib.hid (Below.grown HG3.out hg HG3.out.size (fun q e => by have := (HO3.out.lt q e).1; omega)); have hz5 := Nat.le_trans hz3 hg.size; have HO5 := Lib.hid ho; clear ho hg))
          go_roundw
          case rel => exact ⟨k + 1, by omega, by go_num, c0, c1, by rw [HQ.out]; exact HO5.out, HG5.out, hz5⟩
          case measure => simp [intOf]; omega
      · obtain rfl : k = bn := by omega
        have HO6 := Lib.hid (tf_mono (b2 := w.heap.size) HO.out (by omega))
        obtain ⟨a', c', hv, _, _⟩ := HO.out.sl
        generalize (ckL (clP l1 l2) k).length = m at hv
        subst hv
        go_wp2_with fail
        refine bodyPost_ret (v := .tuple #[.slice a' m c', .int .i64 0]) (by simp [results, Try.results22, go_sem, *]) rfl ⟨_, by rw [HE.out], by rw [HV.out]; simpa using HO6.out, HG.out⟩
  · have HV : Hid (byV clP B n1 n2 l1 l2 = []) := Lib.hid (by unfold byV; rw [if_neg h0])
    have e0 : (rpE B n1 n2 l1 l2 != 0) = true := by simpa using h0
    obtain ⟨c, hc⟩ : ∃ c, c = rpE B n1 n2 l1 l2 := ⟨_, rfl⟩
    have HC := Lib.hid hc
    rw [← hc] at e0
    clear h0 hc
    go_enter Try.func22, Try.ntmps22
    go_wp2_with (go_at_call 32; refine (i_reportError _ _ _ _ _ _ _ _ _ _ (sl_later HS.out (show Later w _ from (by repeat (first | (with_reducible exact Later.refl _) | (with_reducible exact Hid.out (by assumption)) | (with_reducible refine Later.alloc ?_ _) | (with_reducible refine Later.setCell ?_ (by simp; omega) _) | (with_reducible refine Later.setCell ?_ (by simp) _) | (with_reducible refine Later.drewN ?_ _) | (with_reducible refine Later.drew ?_) | (with_reducible refine Later.trans ?_ (Hid.out (by assumption))))))) (sl_later HT.out (show Later w _ from (by repeat (first | (with_reducible exact Later.refl _) | (with_reducible exact Hid.out (by assumption)) | (with_reducible refine Later.alloc ?_ _) | (with_reducible refine Later.setCell ?_ (by simp; omega) _) | (with_reducible refine Later.setCell ?_ (by simp) _) | (with_reducible refine Later.drewN ?_ _) | (with_reducible refine Later.drew ?_) | (with_reducible refine Later.trans ?_ (Hid.out (by assumption)))))))).mono ?_; rintro e w1 ⟨rfl, hb⟩; rw [← HC.out]; have H1 := Lib.hid hb; clear hb)
    refine bodyPost_ret (v := .tuple #[.slice none 0 0, .int .i64 c]) (by simp [results, Try.results22, go_sem, *]) rfl ⟨.slice none 0 0, by rw [HC.out], by rw [HV.out]; exact tf_none _ _, (by repeat (first | (with_reducible exact Later.refl _) | (with_reducible exact Hid.out (by assumption)) | (with_reducible refine Later.alloc ?_ _) | (with_reducible refine Later.setCell ?_ (by simp; omega) _) | (with_reducible refine Later.setCell ?_ (by simp) _) | (with_reducible refine Later.drewN ?_ _) | (with_reducible refine Later.drew ?_) | (with_reducible refine Later.trans ?_ (Hid.out (by assumption)))))⟩
theorem i_blocksBy_dsP (B : Int) (a1 : Option Addr) (n1 c1 : Nat) (l1 : List Int) (a2 : Option Addr) (n2 c2 : Nat) (l2 : List Int) (w : World) (hs1 : Sl w a1 n1 l1) (hs2 : Sl w a2 n2 l2) :
    Calls Try.prog 22 #[.int .i64 B, .agg #[.slice a1 n1 c1, .slice a2 n2 c2], .func (.func 25) #[] #[]] w (LstC w (byV dsP B n1 n2 l1 l2) (rpE B n1 n2 l1 l2)) := by
  have HS := Lib.hid hs1; have HT := Lib.hid hs2
  clear hs1 hs2
  by_cases h0 : rpE B n1 n2 l1 l2 = 0
  · obtain ⟨b1, b2, e1, e2, _, _⟩ := rpE_ok h0
    have HV : Hid (byV dsP B n1 n2 l1 l2 = ckL (dsP l1 l2) B.toNat) := Lib.hid (by unfold byV; rw [if_pos h0])
    have HE := Lib.hid h0
    obtain ⟨bn, rfl⟩ := Int.eq_ofNat_of_zero_le (show 0 ≤ B by omega)
    have hb8 : bn ≤ 8 := by omega
    have E1 : Hid (n1 = bn) := Lib.hid (by omega)
    have E2 : Hid (n2 = bn) := Lib.hid (by omega)
    clear h0 e1 e2
    go_enter Try.func22, Try.ntmps22
    go_wp2_with fail
    refine (i_reportError _ _ _ _ _ _ _ _ _ _ (sl_later HS.out (show Later w _ from (by repeat (first | (with_reducible exact Later.refl _) | (with_reducible exact Hid.out (by assumption)) | (with_reducible refine Later.alloc ?_ _) | (with_reducible refine Later.setCell ?_ (by simp; omega) _) | (with_reducible refine Later.setCell ?_ (by simp) _) | (with_reducible refine Later.drewN ?_ _) | (with_reducible refine Later.drew ?_) | (with_reducible refine Later.trans ?_ (Hid.out (by assumption))))))) (sl_later HT.out (show Later w _ from (by repeat (first | (with_reducible exact Later.refl _) | (with_reducible exact Hid.out (by assumption)) | (with_reducible refine Later.alloc ?_ _) | (with_reducible refine Later.setCell ?_ (by simp; omega) _) | (with_reducible refine Later.setCell ?_ (by simp) _) | (with_reducible refine Later.drewN ?_ _) | (with_reducible refine Later.drew ?_) | (with_reducible refine Later.trans ?_ (Hid.out (by assumption)))))))).mono ?_
    rintro e w1 ⟨rfl, hb⟩
    rw [HE.out]
    obtain ⟨H1, hcc, hff, hzz⟩ := later_facts hb; clear hb
    simp only [World.size_alloc] at hzz hcc hff
    have q0 : w1.cell? ⟨w.heap.size, 0, none⟩ = some (.slice a1 n1 c1) := by rw [hcc _ _ (by omega)]; simp
    have q1 : w1.cell? ⟨w.heap.size, 1, none⟩ = some (.slice a2 n2 c2) := by rw [hcc _ _ (by omega)]; simp
    have HG1 : Hid (Later w w1) := Lib.hid (by repeat (first | (with_reducible exact Later.refl _) | (with_reducible exact Hid.out (by assumption)) | (with_reducible refine Later.alloc ?_ _) | (with_reducible refine Later.setCell ?_ (by simp; omega) _) | (with_reducible refine Later.setCell ?_ (by simp) _) | (with_reducible refine Later.drewN ?_ _) | (with_reducible refine Later.drew ?_) | (with_reducible refine Later.trans ?_ (Hid.out (by assumption)))))
    clear hcc hff H1
    go_wp2_with fail
    go_loopw [9, 18] (fun v i wr => ∃ k : Nat, k ≤ bn ∧ i = .int .i64 k ∧ wr.cell? ⟨w.heap.size, 0, none⟩ = some (.slice a1 n1 c1) ∧ wr.cell? ⟨w.heap.size, 1, none⟩ = some (.slice a2 n2 c2) ∧ Own wr (w.heap.size + 1) v (ckL (dsP l1 l2) k) ∧ Later w wr ∧ w.heap.size + 1 ≤ wr.heap.size) (fun _ i _ => bn - (intOf i).toNat)
    case atStart => exact ⟨0, by omega, rfl, q0, q1, tf_none _ _, HG1.out, hzz⟩
    case round =>
      clear q0 q1 HG1 hzz
      obtain ⟨k, hk, rfl, q0, q1, ho, hg, hz⟩ := hrel
      have HG := Lib.hid hg; have HO := Lib.hid ho
      clear hg ho
      by_cases hlt : k < bn
      · have HN := Lib.hid (ckL_succ (dsP l1 l2) k)
        have hlen := ckL_len (dsP l1 l2) k
        have hl9 : (ckL (dsP l1 l2) k).length ≤ 1000000000 := by omega
        obtain ⟨L, hL⟩ : ∃ L, L = ckL (dsP l1 l2) k := ⟨_, rfl⟩
        rw [← hL] at HN hl9 HO
        clear hL hlen
        have HKR : Hid (InR (k : Int)) := Lib.hid ⟨by omega, by omega⟩
        cases hp : dsP l1 l2 (k : Int)
        · have HQ : Hid (ckL (dsP l1 l2) (k + 1) = L) := Lib.hid (by rw [HN.out, hp]; simp)
          have HP := Lib.hid hp
          clear hp HN
          go_wp2_with fail
          refine (i_isDiscrepant a1 n1 c1 l1 a2 n2 c2 l2 k _ (sl_later HS.out (show Later w _ from (by repeat (first | (with_reducible exact Later.refl _) | (with_reducible exact Hid.out (by assumption)) | (with_reducible refine Later.alloc ?_ _) | (with_reducible refine Later.setCell ?_ (by simp; omega) _) | (with_reducible refine Later.setCell ?_ (by simp) _) | (with_reducible refine Later.drewN ?_ _) | (with_reducible refine Later.drew ?_) | (with_reducible refine Later.trans ?_ (Hid.out (by assumption))))))) (sl_later HT.out (show Later w _ from (by repeat (first | (with_reducible exact Later.refl _) | (with_reducible exact Hid.out (by assumption)) | (with_reducible refine Later.alloc ?_ _) | (with_reducible refine Later.setCell ?_ (by simp; omega) _) | (with_reducible refine Later.setCell ?_ (by simp) _) | (with_reducible refine Later.drewN ?_ _) | (with_reducible refine Later.drew ?_) | (with_reducible refine Later.trans ?_ (Hid.out (by assumption))))))) (by rw [E1.out]; exact hlt) (by rw [E2.out]; exact hlt) _ HP.out).mono ?_
          rintro e w3 ⟨rfl, hl⟩
          obtain ⟨H3, hcc, hff, hzz⟩ := later_facts hl; clear hl
          have d0 : w3.cell? ⟨w.heap.size, 0, none⟩ = some (.slice a1 n1 c1) := by rw [hcc _ _ (by omega)]; exact q0
          have d1 : w3.cell? ⟨w.heap.size, 1, none⟩ = some (.slice a2 n2 c2) := by rw [hcc _ _ (by omega)]; exact q1
          have HO3 := Lib.hid (tf_lat HO.out H3.out)
          have HG3 := Lib.hid (HG.out.trans H3.out)
          have hz3 : w.heap.size + 1 ≤ w3.heap.size := by omega
          clear hcc hff q0 q1 HO HG H3
          go_wp2_with fail
          go_roundw
          case rel => exact ⟨k + 1, by omega, by go_num, d0, d1, by rw [HQ.out]; exact HO3.out, HG3.out, hz3⟩
          case measure => simp [intOf]; omega
        · have HQ : Hid (ckL (dsP l1 l2) (k + 1) = L ++ [(k : Int)]) := Lib.hid (by rw [HN.out, hp]; simp)
          have HP := Lib.hid hp
          clear hp HN
          go_wp2_with fail
          refine (i_isDiscrepant a1 n1 c1 l1 a2 n2 c2 l2 k _ (sl_later HS.out (show Later w _ from (by repeat (first | (with_reducible exact Later.refl _) | (with_reducible exact Hid.out (by assumption)) | (with_reducible refine Later.alloc ?_ _) | (with_reducible refine Later.setCell ?_ (by simp; omega) _) | (with_reducible refine Later.setCell ?_ (by simp) _) | (with_reducible refine Later.drewN ?_ _) | (with_reducible refine Later.drew ?_) | (with_reducible refine Later.trans ?_ (Hid.out (by assumption))))))) (sl_later HT.out (show Later w _ from (by repeat (first | (with_reducible exact Later.refl _) | (with_reducible exact Hid.out (by assumption)) | (with_reducible refine Later.alloc ?_ _) | (with_reducible refine Later.setCell ?_ (by simp; omega) _) | (with_reducible refine Later.setCell ?_ (by simp) _) | (with_reducible refine Later.drewN ?_ _) | (with_reducible refine Later.drew ?_) | (with_reducible refine Later.trans ?_ (Hid.out (by assumption))))))) (by rw [E1.out]; exact hlt) (by rw [E2.out]; exact hlt) _ HP.out).mono ?_
          rintro e w3 ⟨rfl, hl⟩
          obtain ⟨H3, hcc, hff, hzz⟩ := later_facts hl; clear hl
          have d0 : w3.cell? ⟨w.heap.size, 0, none⟩ = some (.slice a1 n1 c1) := by rw [hcc _ _ (by omega)]; exact q0
          have d1 : w3.cell? ⟨w.heap.size, 1, none⟩ = some (.slice a2 n2 c2) := by rw [hcc _ _ (by omega)]; exact q1
          have HO3 := Lib.hid (tf_lat HO.out H3.out)
          have HG3 := Lib.hid (HG.out.trans H3.out)
          have hz3 : w.heap.size + 1 ≤ w3.heap.size := by omega
          clear hcc hff q0 q1 HO HG H3
          go_wp2_with (at_builtin; go_must (refine app1 rfl _ _ rfl (w.heap.size + 1) _ _ _ _ _ HO3.out rfl rfl HKR.out hl9 hz3 ?_; intro v' w5 ho hg; have c0 := hg.cell d0 (fun e => by have := (HO3.out.lt _ e.symm).1; simp at this; omega); have c1 := hg.cell d1 (fun e => by have := (HO3.out.lt _ e.symm).1; simp at this; omega); have HG5 := Lib.hid (Below.grown HG3.out hg HG3.out.size (fun q e => by have := (HO3.out.lt q e).1; omega)); have hz5 := Nat.le_trans hz3 hg.size; have HO5 := Lib.hid ho; clear ho hg))
          go_roundw
          case rel => exact ⟨k + 1, by omega, by go_num, c0, c1, by rw [HQ.out]; exact HO5.out, HG5.out, hz5⟩
          case measure => simp [intOf]; omega
      · obtain rfl : k = bn := by omega
        have HO6 := Lib.hid (tf_mono (b2 := w.heap.size) HO.out (by omega))
        obtain ⟨a', c', hv, _, _⟩ := HO.out.sl
        generalize (ckL (dsP l1 l2) k).length = m at hv
        subst hv
        go_wp2_with fail
        refine bodyPost_ret (v := .tuple #[.slice a' m c', .int .i64 0]) (by simp [results, Try.results22, go_sem, *]) rfl ⟨_, by rw [HE.out], by rw [HV.out]; simpa using HO6.out, HG.out⟩
  · have HV : Hid (byV dsP B n1 n2 l1 l2 = []) := Lib.hid (by unfold byV; rw [if_neg h0])
    have e0 : (rpE B n1 n2 l1 l2 != 0) = true := by simpa using h0
    obtain ⟨c, hc⟩ : ∃ c, c = rpE B n1 n2 l1 l2 := ⟨_, rfl⟩
    have HC := Lib.hid hc
    rw [← hc] at e0
    clear h0 hc
    go_enter Try.func22, Try.ntmps22
    go_wp2_with (go_at_call 32; refine (i_reportError _ _ _ _ _ _ _ _ _ _ (sl_later HS.out (show Later w _ from (by repeat (first | (with_reducible exact Later.refl _) | (with_reducible exact Hid.out (by assumption)) | (with_reducible refine Later.alloc ?_ _) | (with_reducible refine Later.setCell ?_ (by simp; omega) _) | (with_reducible refine Later.setCell ?_ (by simp) _) | (with_reducible refine Later.drewN ?_ _) | (with_reducible refine Later.drew ?_) | (with_reducible refine Later.trans ?_ (Hid.out (by assumption))))))) (sl_later HT.out (show Later w _ from (by repeat (first | (with_reducible exact Later.refl _) | (with_reducible exact Hid.out (by assumption)) | (with_reducible refine Later.alloc ?_ _) | (with_reducible refine Later.setCell ?_ (by simp; omega) _) | (with_reducible refine Later.setCell ?_ (by simp) _) | (with_reducible refine Later.drewN ?_ _) | (with_reducible refine Later.drew ?_) | (with_reducible refine Later.trans ?_ (Hid.out (by assumption)))))))).mono ?_; rintro e w1 ⟨rfl, hb⟩; rw [← HC.out]; have H1 := Lib.hid hb; clear hb)
    refine bodyPost_ret (v := .tuple #[.slice none 0 0, .int .i64 c]) (by simp [results, Try.results22, go_sem, *]) rfl ⟨.slice none 0 0, by rw [HC.out], by rw [HV.out]; exact tf_none _ _, (by repeat (first | (with_reducible exact Later.refl _) | (with_reducible exact Hid.out (by assumption)) | (with_reducible refine Later.alloc ?_ _) | (with_reducible refine Later.setCell ?_ (by simp; omega) _) | (with_reducible refine Later.setCell ?_ (by simp) _) | (with_reducible refine Later.drewN ?_ _) | (with_reducible refine Later.drew ?_) | (with_reducible refine Later.trans ?_ (Hid.out (by assumption)))))⟩
theorem i_ClearBlocks (B : Int) (a1 : Option Addr) (n1 c1 : Nat) (l1 : List Int) (a2 : Option Addr) (n2 c2 : Nat) (l2 : List Int) (w : World) (hs1 : Sl w a1 n1 l1) (hs2 : Sl w a2 n2 l2) :
    Calls Try.prog 7 #[.int .i64 B, .agg #[.slice a1 n1 c1, .slice a2 n2 c2]] w (LstC w (byV clP B n1 n2 l1 l2) (rpE B n1 n2 l1 l2)) := by
  have HS := Lib.hid hs1; have HT := Lib.hid hs2
  clear hs1 hs2
  go_enter Try.func7, Try.ntmps7
  go_wp2_with fail
  refine (i_blocksBy_clP B a1 n1 c1 l1 a2 n2 c2 l2 _ (sl_later HS.out (show Later w _ from (by repeat (first | (with_reducible exact Later.refl _) | (with_reducible exact Hid.out (by assumption)) | (with_reducible refine Later.alloc ?_ _) | (with_reducible refine Later.setCell ?_ (by simp; omega) _) | (with_reducible refine Later.setCell ?_ (by simp) _) | (with_reducible refine Later.drewN ?_ _) | (with_reducible refine Later.drew ?_) | (with_reducible refine Later.trans ?_ (Hid.out (by assumption))))))) (sl_later HT.out (show Later w _ from (by repeat (first | (with_reducible exact Later.refl _) | (with_reducible exact Hid.out (by assumption)) | (with_reducible refine Later.alloc ?_ _) | (with_reducible refine Later.setCell ?_ (by simp; omega) _) | (with_reducible refine Later.setCell ?_ (by simp) _) | (with_reducible refine Later.drewN ?_ _) | (with_reducible refine Later.drew ?_) | (with_reducible refine Later.trans ?_ (Hid.out (by assumption))))))) ).mono ?_
  rintro e w1 ⟨v, rfl, ho, hb⟩
  have HB : Hid (Later w w1) := Lib.hid (((Later.refl w).alloc _).trans hb)
  have HO := Lib.hid (tf_mono (b2 := w.heap.size) ho (by simp))
  obtain ⟨a', c', hv, _, _⟩ := ho.sl
  generalize (byV clP B n1 n2 l1 l2).length = m at hv
  subst hv
  obtain ⟨c, hc⟩ : ∃ c, c = rpE B n1 n2 l1 l2 := ⟨_, rfl⟩
  have HC := Lib.hid hc
  rw [← hc]
  clear hc
  clear ho hb
  go_wp2_with fail
  refine bodyPost_ret (v := .tuple #[.slice a' m c', .int .i64 c]) (by simp [results, Try.results7, go_sem, *]) rfl ⟨_, by rw [HC.out], HO.out, HB.out⟩
theorem i_Discrepancies (B : Int) (a1 : Option Addr) (n1 c1 : Nat) (l1 : List Int) (a2 : Option Addr) (n2 c2 : Nat) (l2 : List Int) (w : World) (hs1 : Sl w a1 n1 l1) (hs2 : Sl w a2 n2 l2) :
    Calls Try.prog 9 #[.int .i64 B, .agg #[.slice a1 n1 c1, .slice a2 n2 c2]] w (LstC w (byV dsP B n1 n2 l1 l2) (rpE B n1 n2 l1 l2)) := by
  have HS := Lib.hid hs1; have HT := Lib.hid hs2
  clear hs1 hs2
  go_enter Try.func9, Try.ntmps9
  go_wp2_with fail
  refine (i_blocksBy_dsP B a1 n1 c1 l1 a2 n2 c2 l2 _ (sl_later HS.out (show Later w _ from (by repeat (first | (with_reducible exact Later.refl _) | (with_reducible exact Hid.out (by assumption)) | (with_reducible refine Later.alloc ?_ _) | (with_reducible refine Later.setCell ?_ (by simp; omega) _) | (with_reducible refine Later.setCell ?_ (by simp) _) | (with_reducible refine Later.drewN ?_ _) | (with_reducible refine Later.drew ?_) | (with_reducible refine Later.trans ?_ (Hid.out (by assumption))))))) (sl_later HT.out (show Later w _ from (by repeat (first | (with_reducible exact Later.refl _) | (with_reducible exact Hid.out (by assumption)) | (with_reducible refine Later.alloc ?_ _) | (with_reducible refine Later.setCell ?_ (by simp; omega) _) | (with_reducible refine Later.setCell ?_ (by simp) _) | (with_reducible refine Later.drewN ?_ _) | (with_reducible refine Later.drew ?_) | (with_reducible refine Later.trans ?_ (Hid.out (by assumption))))))) ).mono ?_
  rintro e w1 ⟨v, rfl, ho, hb⟩
  have HB : Hid (Later w w1) := Lib.hid (((Later.refl w).alloc _).trans hb)
  have HO := Lib.hid (tf_mono (b2 := w.heap.size) ho (by simp))
  obtain ⟨a', c', hv, _, _⟩ := ho.sl
  generalize (byV dsP B n1 n2 l1 l2).length = m at hv
  subst hv
  obtain ⟨c, hc⟩ : ∃ c, c = rpE B n1 n2 l1 l2 := ⟨_, rfl⟩
  have HC := Lib.hid hc
  rw [← hc]
  clear hc
  clear ho hb
  go_wp2_with fail
  refine bodyPost_ret (v := .tuple #[.slice a' m c', .int .i64 c]) (by simp [results, Try.results9, go_sem, *]) rfl ⟨_, by rw [HC.out], HO.out, HB.out⟩
end Go.Proofs.Ytpeebgkgccacbaa
