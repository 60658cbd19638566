/- Contracts of chapter 11: permitted moves, of the program. -/
import Derived.Test.YtpeebgkgccacbaaIkK
namespace Go.Proofs.Ytpeebgkgccacbaa
open Go.RowKit
set_option maxHeartbeats 4000000
set_option maxRecDepth 100000
set_option linter.unusedVariables false
set_option linter.unusedSimpArgs false
theorem i_isPermitted (B : Int) (a : Option Addr) (n cap : Nat) (l : List Int) (a1 : Option Addr) (n1 c1 : Nat) (l1 : List Int) (a2 : Option Addr) (n2 c2 : Nat) (l2 : List Int) (t : Nat) (w : World) (hs : Sl w a n l) (hs1 : Sl w a1 n1 l1) (hs2 : Sl w a2 n2 l2) (ht : t < n) (hv : tfB B l = true) (h1 : (n1 : Int) = B) (h2 : (n2 : Int) = B) (v : Bool) (hp : pmP B l l1 l2 t = v) :
    Calls Try.prog 33 #[.agg #[.int .i64 B, .slice a n cap], .agg #[.slice a1 n1 c1, .slice a2 n2 c2], .int .i64 (t : Int)] w fun e w' => e = .returned (.bool v) ∧ Later w w' := by
  obtain ⟨b1, b2, _, _, hpl⟩ := (tfB_iff B l).1 hv
  obtain ⟨p1, p2⟩ := plB_at hpl t (by rw [hs.1]; exact ht)
  obtain ⟨b, off, rfl, hc⟩ := hs.at t ht
  have hcb := cell_lt hc
  have hn := hs.2.1
  have k1 : (0 : Int) ≤ t := by omega
  have k2 : (t : Int) < n := by omega
  have HS := Lib.hid hs1; have HT := Lib.hid hs2
  have HP : Hid ((gx l t % 3 != 1 || clP l1 l2 (nxB B (gx l t))) = v) := Lib.hid (by rw [← hp]; unfold pmP; rw [Int.toNat_natCast])
  clear hs hs1 hs2 hp hpl hv
  obtain ⟨p, hpe⟩ : ∃ p, p = gx l t := ⟨_, rfl⟩
  rw [← hpe] at hc HP p1 p2
  clear hpe
  have hz1 : b ≠ w.heap.size := by omega
  by_cases h3 : p % 3 = 1
  · have r0 : 0 ≤ (p / 3 + 1) % B := Int.emod_nonneg _ (by omega)
    have r1 : (p / 3 + 1) % B < B := Int.emod_lt_of_pos _ (by omega)
    obtain ⟨x, hx⟩ := Int.eq_ofNat_of_zero_le r0
    have e3 : (p % 3 != 1) = false := by simp [h3]
    have HQ : Hid (clP l1 l2 (x : Int) = v) := Lib.hid (by rw [← hx, ← HP.out, h3]; rfl)
    have HX := Lib.hid hx
    have hx1 : x < n1 := by omega
    have hx2 : x < n2 := by omega
    clear hx HP
    have HI := Lib.hid h3
    clear h3
    have hq0 : 0 ≤ p / 3 ∧ p / 3 < B := by omega
    obtain ⟨q0, q1⟩ := hq0
    go_enter Try.func33, Try.ntmps33
    go_wp2_with (go_at_call 44; refine (i_partsOfPlace _ _ (by omega) (by omega)).mono ?_; rintro e w' ⟨rfl, rfl⟩)
    refine into (fun W => Later w W ∧ W.cell? ⟨w.heap.size, 0, none⟩ = some (.int .i64 B) ∧ W.cell? ⟨w.heap.size + 1, 0, none⟩ = some (.slice a1 n1 c1) ∧ W.cell? ⟨w.heap.size + 1, 1, none⟩ = some (.slice a2 n2 c2)) ⟨(by repeat (first | (with_reducible exact Later.refl _) | (with_reducible exact Hid.out (by assumption)) | (with_reducible refine Later.alloc ?_ _) | (with_reducible refine Later.setCell ?_ (by simp; omega) _) | (with_reducible refine Later.setCell ?_ (by simp) _) | (with_reducible refine Later.drewN ?_ _) | (with_reducible refine Later.drew ?_) | (with_reducible refine Later.trans ?_ (Hid.out (by assumption))))), by simp, by simp, by simp⟩ ?_
    rintro W0 ⟨hl, e0, e1, e2⟩
    have HL0 := Lib.hid hl
    have KX : Hid (∀ W', Later W0 W' → W'.cell? ⟨w.heap.size, 0, none⟩ = some (.int .i64 B) ∧ W'.cell? ⟨w.heap.size + 1, 0, none⟩ = some (.slice a1 n1 c1) ∧ W'.cell? ⟨w.heap.size + 1, 1, none⟩ = some (.slice a2 n2 c2)) := Lib.hid (fun W' h => ⟨by rw [h.cell (p := ⟨w.heap.size, 0, none⟩) (cell_lt e0)]; exact e0, by rw [h.cell (p := ⟨w.heap.size + 1, 0, none⟩) (cell_lt e1)]; exact e1, by rw [h.cell (p := ⟨w.heap.size + 1, 1, none⟩) (cell_lt e2)]; exact e2⟩)
    clear hl
    go_region_held3 (fun w' => w'.cell? ⟨w.heap.size, 0, none⟩ = some (.int .i64 B) ∧ w'.cell? ⟨w.heap.size + 1, 0, none⟩ = some (.slice a1 n1 c1) ∧ w'.cell? ⟨w.heap.size + 1, 1, none⟩ = some (.slice a2 n2 c2)) (exact KX.out _ (by repeat (first | (with_reducible exact Later.refl _) | (with_reducible exact Hid.out (by assumption)) | (with_reducible refine Later.alloc ?_ _) | (with_reducible refine Later.setCell ?_ (by simp; omega) _) | (with_reducible refine Later.setCell ?_ (by simp) _) | (with_reducible refine Later.drewN ?_ _) | (with_reducible refine Later.drew ?_) | (with_reducible refine Later.trans ?_ (Hid.out (by assumption))))))
      (first
        | (go_at_call 45; refine (i_nextBlock _ _ _ b1 b2 q0 q1).mono ?_; rw [HX.out]; rintro e w' ⟨rfl, rfl⟩)
        | (go_at_call 23; refine (i_isClearBy a1 n1 c1 l1 a2 n2 c2 l2 x _ (sl_later HS.out (show Later w _ from (by repeat (first | (with_reducible exact Later.refl _) | (with_reducible exact Hid.out (by assumption)) | (with_reducible refine Later.alloc ?_ _) | (with_reducible refine Later.setCell ?_ (by simp; omega) _) | (with_reducible refine Later.setCell ?_ (by simp) _) | (with_reducible refine Later.drewN ?_ _) | (with_reducible refine Later.drew ?_) | (with_reducible refine Later.trans ?_ (Hid.out (by assumption))))))) (sl_later HT.out (show Later w _ from (by repeat (first | (with_reducible exact Later.refl _) | (with_reducible exact Hid.out (by assumption)) | (with_reducible refine Later.alloc ?_ _) | (with_reducible refine Later.setCell ?_ (by simp; omega) _) | (with_reducible refine Later.setCell ?_ (by simp) _) | (with_reducible refine Later.drewN ?_ _) | (with_reducible refine Later.drew ?_) | (with_reducible refine Later.trans ?_ (Hid.out (by assumption))))))) hx1 hx2 _ HQ.out).mono ?_; rintro e w3 ⟨rfl, hb3⟩; have H3 := Lib.hid hb3; clear hb3))
    all_goals
      go_wp2_with fail
      go_ret
      exact ⟨rfl, (by repeat (first | (with_reducible exact Later.refl _) | (with_reducible exact Hid.out (by assumption)) | (with_reducible refine Later.alloc ?_ _) | (with_reducible refine Later.setCell ?_ (by simp; omega) _) | (with_reducible refine Later.setCell ?_ (by simp) _) | (with_reducible refine Later.drewN ?_ _) | (with_reducible refine Later.drew ?_) | (with_reducible refine Later.trans ?_ (Hid.out (by assumption)))))⟩
  · have e3 : (p % 3 != 1) = true := by simp [h3]
    have HV : Hid (v = true) := Lib.hid (by rw [← HP.out, e3]; rfl)
    have HI := Lib.hid h3
    clear h3
    go_enter Try.func33, Try.ntmps33
    go_wp2_with (go_at_call 44; refine (i_partsOfPlace _ _ (by omega) (by omega)).mono ?_; rintro e w' ⟨rfl, rfl⟩)
    first
    | go_region_with (fail)
    | fail "region"
    all_goals
      go_wp2_with fail
      go_ret
      exact ⟨ret_b (by rw [HV.out]), (by repeat (first | (with_reducible exact Later.refl _) | (with_reducible exact Hid.out (by assumption)) | (with_reducible refine Later.alloc ?_ _) | (with_reducible refine Later.setCell ?_ (by simp; omega) _) | (with_reducible refine Later.setCell ?_ (by simp) _) | (with_reducible refine Later.drewN ?_ _) | (with_reducible refine Later.drew ?_) | (with_reducible refine Later.trans ?_ (Hid.out (by assumption)))))⟩
def pmE (B : Int) (l : List Int) (n1 n2 : Nat) (l1 l2 : List Int) : Int := if tfB B l = true then rpE B n1 n2 l1 l2 else 1
def pmV (B : Int) (l : List Int) (n1 n2 : Nat) (l1 l2 : List Int) : List Int := if pmE B l n1 n2 l1 l2 = 0 then ckL (pmP B l l1 l2) l.length else []
theorem pmE_1 {B : Int} {l : List Int} {n1 n2 : Nat} {l1 l2 : List Int} (h : tfB B l = false) : pmE B l n1 n2 l1 l2 = 1 := by unfold pmE; rw [h]; rfl
theorem pmE_r {B : Int} {l : List Int} {n1 n2 : Nat} {l1 l2 : List Int} (h : tfB B l = true) : pmE B l n1 n2 l1 l2 = rpE B n1 n2 l1 l2 := by unfold pmE; rw [h]; rfl
theorem pmV_no {B : Int} {l : List Int} {n1 n2 : Nat} {l1 l2 : List Int} (h : pmE B l n1 n2 l1 l2 ≠ 0) : pmV B l n1 n2 l1 l2 = [] := by unfold pmV; rw [if_neg h]
theorem i_PermittedMoves (B : Int) (a : Option Addr) (n cap : Nat) (l : List Int) (a1 : Option Addr) (n1 c1 : Nat) (l1 : List Int) (a2 : Option Addr) (n2 c2 : Nat) (l2 : List Int) (w : World) (hs : Sl w a n l) (hs1 : Sl w a1 n1 l1) (hs2 : Sl w a2 n2 l2) :
    Calls Try.prog 12 #[.agg #[.int .i64 B, .slice a n cap], .agg #[.slice a1 n1 c1, .slice a2 n2 c2]] w (LstC w (pmV B l n1 n2 l1 l2) (pmE B l n1 n2 l1 l2)) := by
  have HR := Lib.hid hs
  have HL := Lib.hid hs.1
  have HS := Lib.hid hs1; have HT := Lib.hid hs2
  clear hs hs1 hs2
  cases hv : tfB B l
  · have HE : Hid (pmE B l n1 n2 l1 l2 = 1) := Lib.hid (pmE_1 hv)
    have HV : Hid (pmV B l n1 n2 l1 l2 = []) := Lib.hid (pmV_no (by rw [pmE_1 hv]; decide))
    go_enter Try.func12, Try.ntmps12
    go_wp2_with (go_at_call 31; refine (i_IsTraffic _ _ _ _ _ _ (sl_later HR.out (show Later w _ from (by repeat (first | (with_reducible exact Later.refl _) | (with_reducible exact Hid.out (by assumption)) | (with_reducible refine Later.alloc ?_ _) | (with_reducible refine Later.setCell ?_ (by simp; omega) _) | (with_reducible refine Later.setCell ?_ (by simp) _) | (with_reducible refine Later.drewN ?_ _) | (with_reducible refine Later.drew ?_) | (with_reducible refine Later.trans ?_ (Hid.out (by assumption)))))))).mono ?_; rintro e w1 ⟨rfl, hb⟩; rw [hv]; have H1 := Lib.hid hb; clear hb)
    refine bodyPost_ret (v := .tuple #[.slice none 0 0, .int .i64 1]) (by simp [results, Try.results12, go_sem, *]) rfl ⟨.slice none 0 0, by rw [HE.out], by rw [HV.out]; exact tf_none _ _, (by repeat (first | (with_reducible exact Later.refl _) | (with_reducible exact Hid.out (by assumption)) | (with_reducible refine Later.alloc ?_ _) | (with_reducible refine Later.setCell ?_ (by simp; omega) _) | (with_reducible refine Later.setCell ?_ (by simp) _) | (with_reducible refine Later.drewN ?_ _) | (with_reducible refine Later.drew ?_) | (with_reducible refine Later.trans ?_ (Hid.out (by assumption)))))⟩
  · have HEr := Lib.hid (pmE_r (n1 := n1) (n2 := n2) (l1 := l1) (l2 := l2) hv)
    have b1 := ((tfB_iff B l).1 hv).1
    have b2 := ((tfB_iff B l).1 hv).2.1
    have n8 := ((tfB_iff B l).1 hv).2.2.2.1
    rw [HL.out] at n8
    go_enter Try.func12, Try.ntmps12
    go_wp2_with fail
    refine (i_IsTraffic _ _ _ _ _ _ (sl_later HR.out (show Later w _ from (by repeat (first | (with_reducible exact Later.refl _) | (with_reducible exact Hid.out (by assumption)) | (with_reducible refine Later.alloc ?_ _) | (with_reducible refine Later.setCell ?_ (by simp; omega) _) | (with_reducible refine Later.setCell ?_ (by simp) _) | (with_reducible refine Later.drewN ?_ _) | (with_reducible refine Later.drew ?_) | (with_reducible refine Later.trans ?_ (Hid.out (by assumption)))))))).mono ?_
    rintro e w1 ⟨rfl, hb⟩
    rw [hv]
    obtain ⟨H1, hcc, hff, hzz⟩ := later_facts hb; clear hb
    simp only [World.size_alloc] at hzz hcc hff
    have q0 : w1.cell? ⟨w.heap.size, 0, none⟩ = some (.int .i64 B) := by rw [hcc _ _ (by omega)]; simp
    have q1 : w1.cell? ⟨w.heap.size, 1, none⟩ = some (.slice a n cap) := by rw [hcc _ _ (by omega)]; simp
    have q2 : w1.cell? ⟨w.heap.size + 1, 0, none⟩ = some (.slice a1 n1 c1) := by rw [hcc _ _ (by omega)]; simp
    have q3 : w1.cell? ⟨w.heap.size + 1, 1, none⟩ = some (.slice a2 n2 c2) := by rw [hcc _ _ (by omega)]; simp
    have HG1 : Hid (Later w w1) := Lib.hid (by repeat (first | (with_reducible exact Later.refl _) | (with_reducible exact Hid.out (by assumption)) | (with_reducible refine Later.alloc ?_ _) | (with_reducible refine Later.setCell ?_ (by simp; omega) _) | (with_reducible refine Later.setCell ?_ (by simp) _) | (with_reducible refine Later.drewN ?_ _) | (with_reducible refine Later.drew ?_) | (with_reducible refine Later.trans ?_ (Hid.out (by assumption)))))
    clear hcc hff H1
    by_cases h0 : rpE B n1 n2 l1 l2 = 0
    · obtain ⟨_, _, e1, e2, _, _⟩ := rpE_ok h0
      have HE : Hid (pmE B l n1 n2 l1 l2 = 0) := Lib.hid (by rw [HEr.out, h0])
      have HV : Hid (pmV B l n1 n2 l1 l2 = ckL (pmP B l l1 l2) n) := Lib.hid (by unfold pmV; rw [if_pos HE.out, HL.out])
      have HE0 := Lib.hid h0
      have E1 := Lib.hid e1; have E2 := Lib.hid e2
      clear h0 e1 e2
      go_wp2_with fail
      refine (i_reportError _ _ _ _ _ _ _ _ _ _ (sl_later HS.out HG1.out) (sl_later HT.out HG1.out)).mono ?_
      rintro e w2 ⟨rfl, hb⟩
      rw [HE0.out]
      obtain ⟨H2, hcc, hff, hzz2⟩ := later_facts hb; clear hb
      have r0 : w2.cell? ⟨w.heap.size, 0, none⟩ = some (.int .i64 B) := by rw [hcc _ _ (by omega)]; exact q0
      have r1 : w2.cell? ⟨w.heap.size, 1, none⟩ = some (.slice a n cap) := by rw [hcc _ _ (by omega)]; exact q1
      have r2 : w2.cell? ⟨w.heap.size + 1, 0, none⟩ = some (.slice a1 n1 c1) := by rw [hcc _ _ (by omega)]; exact q2
      have r3 : w2.cell? ⟨w.heap.size + 1, 1, none⟩ = some (.slice a2 n2 c2) := by rw [hcc _ _ (by omega)]; exact q3
      have HG2 : Hid (Later w w2) := Lib.hid (HG1.out.trans H2.out)
      have hz2 : w.heap.size + 1 + 1 ≤ w2.heap.size := by omega
      clear hcc hff H2 HG1 q0 q1 q2 q3
      go_wp2_with fail
      go_loopw [7, 23] (fun v i wr => ∃ k : Nat, k ≤ n ∧ i = .int .i64 k ∧ wr.cell? ⟨w.heap.size, 0, none⟩ = some (.int .i64 B) ∧ wr.cell? ⟨w.heap.size, 1, none⟩ = some (.slice a n cap) ∧ wr.cell? ⟨w.heap.size + 1, 0, none⟩ = some (.slice a1 n1 c1) ∧ wr.cell? ⟨w.heap.size + 1, 1, none⟩ = some (.slice a2 n2 c2) ∧ Own wr (w.heap.size + 1 + 1) v (ckL (pmP B l l1 l2) k) ∧ Later w wr ∧ w.heap.size + 1 + 1 ≤ wr.heap.size) (fun _ i _ => n - (intOf i).toNat)
      case atStart => exact ⟨0, by omega, rfl, r0, r1, r2, r3, tf_none _ _, HG2.out, hz2⟩
      case round =>
        clear r0 r1 r2 r3 HG2 hz2 hzz hzz2
        obtain ⟨k, hk, rfl, q0, q1, q2, q3, ho, hg, hz⟩ := hrel
        have HG := Lib.hid hg; have HO := Lib.hid ho
        clear hg ho
        by_cases hlt : k < n
        · have HN := Lib.hid (ckL_succ (pmP B l l1 l2) k)
          have hlen := ckL_len (pmP B l l1 l2) k
          have hl9 : (ckL (pmP B l l1 l2) k).length ≤ 1000000000 := by omega
          obtain ⟨L, hL⟩ : ∃ L, L = ckL (pmP B l l1 l2) k := ⟨_, rfl⟩
          rw [← hL] at HN hl9 HO
          clear hL hlen
          have HKR : Hid (InR (k : Int)) := Lib.hid ⟨by omega, by omega⟩
          cases hp : pmP B l l1 l2 (k : Int)
          · have HQ : Hid (ckL (pmP B l l1 l2) (k + 1) = L) := Lib.hid (by rw [HN.out, hp]; simp)
            have HP := Lib.hid hp
            clear hp HN
            go_wp2_with fail
            refine (i_isPermitted B a n cap l a1 n1 c1 l1 a2 n2 c2 l2 k _ (sl_later HR.out (show Later w _ from (by repeat (first | (with_reducible exact Later.refl _) | (with_reducible exact Hid.out (by assumption)) | (with_reducible refine Later.alloc ?_ _) | (with_reducible refine Later.setCell ?_ (by simp; omega) _) | (with_reducible refine Later.setCell ?_ (by simp) _) | (with_reducible refine Later.drewN ?_ _) | (with_reducible refine Later.drew ?_) | (with_reducible refine Later.trans ?_ (Hid.out (by assumption))))))) (sl_later HS.out (show Later w _ from (by repeat (first | (with_reducible exact Later.refl _) | (with_reducible exact Hid.out (by assumption)) | (with_reducible refine Later.alloc ?_ _) | (with_reducible refine Later.setCell ?_ (by simp; omega) _) | (with_reducible refine Later.setCell ?_ (by simp) _) | (with_reducible refine Later.drewN ?_ _) | (with_reducible refine Later.drew ?_) | (with_reducible refine Later.trans ?_ (Hid.out (by assumption))))))) (sl_later HT.out (show Later w _ from (by repeat (first | (with_reducible exact Later.refl _) | (with_reducible exact Hid.out (by assumption)) | (with_reducible refine Later.alloc ?_ _) | (with_reducible refine Later.setCell ?_ (by simp; omega) _) | (with_reducible refine Later.setCell ?_ (by simp) _) | (with_reducible refine Later.drewN ?_ _) | (with_reducible refine Later.drew ?_) | (with_reducible refine Later.trans ?_ (Hid.out (by assumption))))))) hlt hv E1.out E2.out _ HP.out).mono ?_
            rintro e w3 ⟨rfl, hl⟩
            obtain ⟨H3, hcc, hff, hzz⟩ := later_facts hl; clear hl
            have d0 : w3.cell? ⟨w.heap.size, 0, none⟩ = some (.int .i64 B) := by rw [hcc _ _ (by omega)]; exact q0
            have d1 : w3.cell? ⟨w.heap.size, 1, none⟩ = some (.slice a n cap) := by rw [hcc _ _ (by omega)]; exact q1
            have d2 : w3.cell? ⟨w.heap.size + 1, 0, none⟩ = some (.slice a1 n1 c1) := by rw [hcc _ _ (by omega)]; exact q2
            have d3 : w3.cell? ⟨w.heap.size + 1, 1, none⟩ = some (.slice a2 n2 c2) := by rw [hcc _ _ (by omega)]; exact q3
            have HO3 := Lib.hid (tf_lat HO.out H3.out)
            have HG3 := Lib.hid (HG.out.trans H3.out)
            have hz3 : w.heap.size + 1 + 1 ≤ w3.heap.size := by omega
            clear hcc hff q0 q1 q2 q3 HO HG H3
            go_wp2_with fail
            go_roundw
            case rel => exact ⟨k + 1, by omega, by go_num, d0, d1, d2, d3, by rw [HQ.out]; exact HO3.out, HG3.out, hz3⟩
            case measure => simp [intOf]; omega
          · have HQ : Hid (ckL (pmP B l l1 l2) (k + 1) = L ++ [(k : Int)]) := Lib.hid (by rw [HN.out, hp]; simp)
            have HP := Lib.hid hp
            clear hp HN
            go_wp2_with fail
            refine (i_isPermitted B a n cap l a1 n1 c1 l1 a2 n2 c2 l2 k _ (sl_later HR.out (show Later w _ from (by repeat (first | (with_reducible exact Later.refl _) | (with_reducible exact Hid.out (by assumption)) | (with_reducible refine Later.alloc ?_ _) | (with_reducible refine Later.setCell ?_ (by simp; omega) _) | (with_reducible refine Later.setCell ?_ (by simp) _) | (with_reducible refine Later.drewN ?_ _) | (with_reducible refine Later.drew ?_) | (with_reducible refine Later.trans ?_ (Hid.out (by assumption))))))) (sl_later HS.out (show Later w _ from (by repeat (first | (with_reducible exact Later.refl _) | (with_reducible exact Hid.out (by assumption)) | (with_reducible refine Later.alloc ?_ _) | (with_reducible refine Later.setCell ?_ (by simp; omega) _) | (with_reducible refine Later.setCell ?_ (by simp) _) | (with_reducible refine Later.drewN ?_ _) | (with_reducible refine Later.drew ?_) | (with_reducible refine Later.trans ?_ (Hid.out (by assumption))))))) (sl_later HT.out (show Later w _ from (by repeat (first | (with_reducible exact Later.refl _) | (with_reducible exact Hid.out (by assumption)) | (with_reducible refine Later.alloc ?_ _) | (with_reducible refine Later.setCell ?_ (by simp; omega) _) | (with_reducible refine Later.setCell ?_ (by simp) _) | (with_reducible refine Later.drewN ?_ _) | (with_reducible refine Later.drew ?_) | (with_reducible refine Later.trans ?_ (Hid.out (by assumption))))))) hlt hv E1.out E2.out _ HP.out).mono ?_
            rintro e w3 ⟨rfl, hl⟩
            obtain ⟨H3, hcc, hff, hzz⟩ := later_facts hl; clear hl
            have d0 : w3.cell? ⟨w.heap.size, 0, none⟩ = some (.int .i64 B) := by rw [hcc _ _ (by omega)]; exact q0
            have d1 : w3.cell? ⟨w.heap.size, 1, none⟩ = some (.slice a n cap) := by rw [hcc _ _ (by omega)]; exact q1
            have d2 : w3.cell? ⟨w.heap.size + 1, 0, none⟩ = some (.slice a1 n1 c1) := by rw [hcc _ _ (by omega)]; exact q2
            have d3 : w3.cell? ⟨w.heap.size + 1, 1, none⟩ = some (.slice a2 n2 c2) := by rw [hcc _ _ (by omega)]; exact q3
            have HO3 := Lib.hid (tf_lat HO.out H3.out)
            have HG3 := Lib.hid (HG.out.trans H3.out)
            have hz3 : w.heap.size + 1 + 1 ≤ w3.heap.size := by omega
            clear hcc hff q0 q1 q2 q3 HO HG H3
            go_wp2_with (at_builtin; go_must (refine app1 rfl _ _ rfl (w.heap.size + 1 + 1) _ _ _ _ _ HO3.out rfl rfl HKR.out hl9 hz3 ?_; intro v' w5 ho hg; have c0 := hg.cell d0 (fun e => by have := (HO3.out.lt _ e.symm).1; simp at this; omega); have c1 := hg.cell d1 (fun e => by have := (HO3.out.lt _ e.symm).1; simp at this; omega); have c2 := hg.cell d2 (fun e => by have := (HO3.out.lt _ e.symm).1; simp at this; omega); have c3 := hg.cell d3 (fun e => by have := (HO3.out.lt _ e.symm).1; simp at this; omega); have HG5 := Lib.hid (Below.grown HG3.out hg HG3.out.size (fun q e => by have := (HO3.out.lt q e).1; omega)); have hz5 := Nat.le_trans hz3 hg.size; have HO5 := Lib.hid ho; clear ho hg))
            go_roundw
            case rel => exact ⟨k + 1, by omega, by go_num, c0, c1, c2, c3, by rw [HQ.out]; exact HO5.out, HG5.out, hz5⟩
            case measure => simp [intOf]; omega
        · obtain rfl : k = n := by omega
          have HO6 := Lib.hid (tf_mono (b2 := w.heap.size) HO.out (by omega))
          obtain ⟨a', c', hv', _, _⟩ := HO.out.sl
          generalize (ckL (pmP B l l1 l2) k).length = m at hv'
          subst hv'
          go_wp2_with fail
          refine bodyPost_ret (v := .tuple #[.slice a' m c', .int .i64 0]) (by simp [results, Try.results12, go_sem, *]) rfl ⟨_, by rw [HE.out], by rw [HV.out]; exact HO6.out, HG.out⟩
    · have HV : Hid (pmV B l n1 n2 l1 l2 = []) := Lib.hid (pmV_no (by rw [HEr.out]; exact h0))
      have e0 : (rpE B n1 n2 l1 l2 != 0) = true := by simpa using h0
      obtain ⟨c, hc⟩ : ∃ c, c = rpE B n1 n2 l1 l2 := ⟨_, rfl⟩
      have HC := Lib.hid hc
      rw [← hc] at e0
      clear h0 hc
      go_wp2_with (go_at_call 32; refine (i_reportError _ _ _ _ _ _ _ _ _ _ (sl_later HS.out HG1.out) (sl_later HT.out HG1.out)).mono ?_; rintro e w2 ⟨rfl, hb⟩; rw [← HC.out]; have H2 := Lib.hid hb; clear hb)
      refine bodyPost_ret (v := .tuple #[.slice none 0 0, .int .i64 c]) (by simp [results, Try.results12, go_sem, *]) rfl ⟨.slice none 0 0, by rw [HEr.out, HC.out], by rw [HV.out]; exact tf_none _ _, (by repeat (first | (with_reducible exact Later.refl _) | (with_reducible exact Hid.out (by assumption)) | (with_reducible refine Later.alloc ?_ _) | (with_reducible refine Later.setCell ?_ (by simp; omega) _) | (with_reducible refine Later.setCell ?_ (by simp) _) | (with_reducible refine Later.drewN ?_ _) | (with_reducible refine Later.drew ?_) | (with_reducible refine Later.trans ?_ (Hid.out (by assumption)))))⟩
end Go.Proofs.Ytpeebgkgccacbaa
