/- Contracts of chapter 11: permitted moves, of the model. -/
import Derived.Test.YtpeebgkgccacbaaIkT
import Derived.Test.YtpeebgkgccacbaaTfV
namespace Go.Proofs.Ytpeebgkgccacbaa
open Go.RowKit
set_option maxHeartbeats 4000000
set_option maxRecDepth 100000
set_option linter.unusedVariables false
set_option linter.unusedSimpArgs false
theorem s_l11Permits (B : Int) (a : Option Addr) (n cap : Nat) (l : List Int) (a1 : Option Addr) (n1 c1 : Nat) (l1 : List Int) (a2 : Option Addr) (n2 c2 : Nat) (l2 : List Int) (t : Nat) (w : World) (hs : Sl w a n l) (hs1 : Sl w a1 n1 l1) (hs2 : Sl w a2 n2 l2) (ht : t < n) (hv : tfB B l = true) (h1 : (n1 : Int) = B) (h2 : (n2 : Int) = B) (r1 : rpA l1 n1 = true) (r2 : rpA l2 n2 = true) (v : Bool) (hp : pmP B l l1 l2 t = v) :
    Calls Try.prog 35 #[.agg #[.int .i64 B, .slice a n cap], .agg #[.slice a1 n1 c1, .slice a2 n2 c2], .int .i64 (t : Int)] w fun e w' => e = .returned (.bool v) ∧ Later w w' := by
  obtain ⟨b1, b2, _, _, hpl⟩ := (tfB_iff B l).1 hv
  obtain ⟨p1, p2⟩ := plB_at hpl t (by rw [hs.1]; exact ht)
  obtain ⟨b, off, rfl, hc⟩ := hs.at t ht
  have hcb := cell_lt hc
  have hn := hs.2.1
  have k1 : (0 : Int) ≤ t := by omega
  have k2 : (t : Int) < n := by omega
  have HP : Hid ((gx l t % 3 != 1 || clP l1 l2 (nxB B (gx l t))) = v) := Lib.hid (by rw [← hp]; unfold pmP; rw [Int.toNat_natCast])
  clear hs hp hpl hv
  obtain ⟨p, hpe⟩ : ∃ p, p = gx l t := ⟨_, rfl⟩
  rw [← hpe] at hc HP p1 p2
  clear hpe
  have r0 : 0 ≤ (p / 3 + 1) % B := Int.emod_nonneg _ (by omega)
  have r1' : (p / 3 + 1) % B < B := Int.emod_lt_of_pos _ (by omega)
  obtain ⟨x, hx⟩ := Int.eq_ofNat_of_zero_le r0
  have HX : Hid (nxB B p = (x : Int)) := Lib.hid hx
  have hx1 : x < n1 := by omega
  have hx2 : x < n2 := by omega
  have q1 : IntKind.i64.wrap (p.tdiv 3) = p / 3 := by rw [Int.tdiv_eq_ediv_of_nonneg p1, IntWalk.i64_in _ (by omega)]
  have q2 : IntKind.i64.wrap (p / 3 + 1) = p / 3 + 1 := IntWalk.i64_in _ (by omega)
  have q3 : (p / 3 + 1).tmod B = (x : Int) := by rw [Int.tmod_eq_emod_of_nonneg (by omega), hx]
  have q4 : p.tmod 3 = p % 3 := Int.tmod_eq_emod_of_nonneg p1
  have q5 : ¬ B = 0 := by omega
  have j1 : (0 : Int) ≤ x := by omega
  have j2 : (x : Int) < n1 := by omega
  have j3 : (x : Int) < n2 := by omega
  obtain ⟨y1, o1, rfl, d1⟩ := hs1.at x hx1
  obtain ⟨y2, o2, rfl, d2⟩ := hs2.at x hx2
  have v1 := rp_at r1 hx1; have v2 := rp_at r2 hx2
  have HC : Hid (clP l1 l2 (x : Int) = (gx l1 x + gx l2 x == 0)) := Lib.hid (by rw [← clP_sm (n := n1) r1 (by rw [show n1 = n2 by omega]; exact r2) hx1]; unfold smP; rw [Int.toNat_natCast])
  have g1 := cell_lt d1; have g2 := cell_lt d2
  obtain ⟨u1, hu1⟩ : ∃ u, u = gx l1 x := ⟨_, rfl⟩
  obtain ⟨u2, hu2⟩ : ∃ u, u = gx l2 x := ⟨_, rfl⟩
  rw [← hu1, ← hu2] at HC
  rw [← hu1] at d1 v1
  rw [← hu2] at d2 v2
  have hw2 : IntKind.i64.wrap (u1 + u2) = u1 + u2 := IntWalk.i64_in _ (by omega)
  obtain ⟨sm, hsm⟩ : ∃ x, u1 + u2 = x := ⟨_, rfl⟩
  have hw3 : IntKind.i64.wrap (u1 + u2) = sm := hw2.trans hsm
  rw [hsm] at HC
  clear hu1 hu2 v1 v2 hw2 hsm r1 r2 hs1 hs2 hx
  have z1 : b ≠ w.heap.size := by omega
  have z2 : b ≠ w.heap.size + 1 := by omega
  by_cases h3 : p % 3 = 1
  · have e3 : (p % 3 != 1) = false := by simp [h3]
    have HQ : Hid ((sm == 0) = v) := Lib.hid (by rw [← HC.out, ← HX.out, ← HP.out, h3]; rfl)
    clear h3 HP HC
    go_enter Try.func35, Try.ntmps35
    go_wp2_with fail
    go_quiet (fail)
    go_wp2_with fail
    go_quiet (fail)
    go_wp2_with fail
    go_ret
    exact ⟨ret_b (by rw [← HQ.out]), (by repeat (first | (with_reducible exact Later.refl _) | (with_reducible exact Hid.out (by assumption)) | (with_reducible refine Later.alloc ?_ _) | (with_reducible refine Later.setCell ?_ (by simp; omega) _) | (with_reducible refine Later.setCell ?_ (by simp) _) | (with_reducible refine Later.drewN ?_ _) | (with_reducible refine Later.drew ?_) | (with_reducible refine Later.trans ?_ (Hid.out (by assumption)))))⟩
  · have e3 : (p % 3 != 1) = true := by simp [h3]
    have HV : Hid (v = true) := Lib.hid (by rw [← HP.out, e3]; rfl)
    clear h3 HP HC
    go_enter Try.func35, Try.ntmps35
    go_wp2_with fail
    go_quiet (fail)
    go_wp2_with fail
    go_quiet (fail)
    go_wp2_with fail
    go_ret
    exact ⟨ret_b (by rw [HV.out]), (by repeat (first | (with_reducible exact Later.refl _) | (with_reducible exact Hid.out (by assumption)) | (with_reducible refine Later.alloc ?_ _) | (with_reducible refine Later.setCell ?_ (by simp; omega) _) | (with_reducible refine Later.setCell ?_ (by simp) _) | (with_reducible refine Later.drewN ?_ _) | (with_reducible refine Later.drew ?_) | (with_reducible refine Later.trans ?_ (Hid.out (by assumption)))))⟩
theorem rpE_tf {B : Int} {l : List Int} {n1 n2 : Nat} {l1 l2 : List Int} (h : tfB B l = true) : nbB B = true := nbB_ok ((tfB_iff B l).1 h).1 ((tfB_iff B l).1 h).2.1
theorem s_PermittedMoves (B : Int) (a : Option Addr) (n cap : Nat) (l : List Int) (a1 : Option Addr) (n1 c1 : Nat) (l1 : List Int) (a2 : Option Addr) (n2 c2 : Nat) (l2 : List Int) (w : World) (hs : Sl w a n l) (hs1 : Sl w a1 n1 l1) (hs2 : Sl w a2 n2 l2) :
    Calls Try.prog 13 #[.agg #[.int .i64 B, .slice a n cap], .agg #[.slice a1 n1 c1, .slice a2 n2 c2]] w (LstC w (pmV B l n1 n2 l1 l2) (pmE B l n1 n2 l1 l2)) := by
  have HR := Lib.hid hs
  have HL := Lib.hid hs.1
  have HS := Lib.hid hs1; have HT := Lib.hid hs2
  clear hs hs1 hs2
  cases hv : tfB B l
  · have HE : Hid (pmE B l n1 n2 l1 l2 = 1) := Lib.hid (pmE_1 hv)
    have HV : Hid (pmV B l n1 n2 l1 l2 = []) := Lib.hid (pmV_no (by rw [pmE_1 hv]; decide))
    go_enter Try.func13, Try.ntmps13
    go_wp2_with (go_at_call 27; refine (s_IsTraffic _ _ _ _ _ _ (sl_later HR.out (show Later w _ from (by repeat (first | (with_reducible exact Later.refl _) | (with_reducible exact Hid.out (by assumption)) | (with_reducible refine Later.alloc ?_ _) | (with_reducible refine Later.setCell ?_ (by simp; omega) _) | (with_reducible refine Later.setCell ?_ (by simp) _) | (with_reducible refine Later.drewN ?_ _) | (with_reducible refine Later.drew ?_) | (with_reducible refine Later.trans ?_ (Hid.out (by assumption)))))))).mono ?_; rintro e w1 ⟨rfl, hb⟩; rw [hv]; have H1 := Lib.hid hb; clear hb)
    refine bodyPost_ret (v := .tuple #[.slice none 0 0, .int .i64 1]) (by simp [results, Try.results13, go_sem, *]) rfl ⟨.slice none 0 0, by rw [HE.out], by rw [HV.out]; exact tf_none _ _, (by repeat (first | (with_reducible exact Later.refl _) | (with_reducible exact Hid.out (by assumption)) | (with_reducible refine Later.alloc ?_ _) | (with_reducible refine Later.setCell ?_ (by simp; omega) _) | (with_reducible refine Later.setCell ?_ (by simp) _) | (with_reducible refine Later.drewN ?_ _) | (with_reducible refine Later.drew ?_) | (with_reducible refine Later.trans ?_ (Hid.out (by assumption)))))⟩
  · have HEr := Lib.hid (pmE_r (n1 := n1) (n2 := n2) (l1 := l1) (l2 := l2) hv)
    have hnb := rpE_tf (n1 := n1) (n2 := n2) (l1 := l1) (l2 := l2) hv
    have b1 := ((tfB_iff B l).1 hv).1
    have b2 := ((tfB_iff B l).1 hv).2.1
    have n8 := ((tfB_iff B l).1 hv).2.2.2.1
    rw [HL.out] at n8
    cases hr : (rpB B n1 l1 && rpB B n2 l2)
    · have HE : Hid (pmE B l n1 n2 l1 l2 = 2) := Lib.hid (by rw [HEr.out, rpE_2 hnb hr])
      have HV : Hid (pmV B l n1 n2 l1 l2 = []) := Lib.hid (pmV_no (by rw [HE.out]; decide))
      have HRR := Lib.hid hr
      clear hr hnb
      go_enter Try.func13, Try.ntmps13
      go_wp2_with fail
      refine (s_IsTraffic _ _ _ _ _ _ (sl_later HR.out (show Later w _ from (by repeat (first | (with_reducible exact Later.refl _) | (with_reducible exact Hid.out (by assumption)) | (with_reducible refine Later.alloc ?_ _) | (with_reducible refine Later.setCell ?_ (by simp; omega) _) | (with_reducible refine Later.setCell ?_ (by simp) _) | (with_reducible refine Later.drewN ?_ _) | (with_reducible refine Later.drew ?_) | (with_reducible refine Later.trans ?_ (Hid.out (by assumption)))))))).mono ?_
      rintro e w1 ⟨rfl, hb⟩
      rw [hv]
      obtain ⟨H1, hcc, hff, hzz⟩ := later_facts hb; clear hb
      simp only [World.size_alloc] at hzz hcc hff
      have q0 : w1.cell? ⟨w.heap.size, 0, none⟩ = some (.int .i64 B) := by rw [hcc _ _ (by omega)]; simp
      have q1 : w1.cell? ⟨w.heap.size, 1, none⟩ = some (.slice a n cap) := by rw [hcc _ _ (by omega)]; simp
      have q2 : w1.cell? ⟨w.heap.size + 1, 0, none⟩ = some (.slice a1 n1 c1) := by rw [hcc _ _ (by omega)]; simp
      have q3 : w1.cell? ⟨w.heap.size + 1, 1, none⟩ = some (.slice a2 n2 c2) := by rw [hcc _ _ (by omega)]; simp
      have HG1 : Hid (Later w w1) := Lib.hid (by repeat (first | (with_reducible exact Later.refl _) | (with_reducible exact Hid.out (by assumption)) | (with_reducible refine Later.alloc ?_ _) | (with_reducible refine Later.setCell ?_ (by simp; omega) _) | (with_reducible refine Later.setCell ?_ (by simp) _) | (with_reducible refine Later.drewN ?_ _) | (with_reducible refine Later.drew ?_) | (with_reducible refine Later.trans ?_ (Hid.out (by assumption)))))
      clear hcc hff H1
      go_wp2_with (go_at_call 34; refine (s_l11Is _ _ _ _ _ _ _ _ _ _ (sl_later HS.out HG1.out) (sl_later HT.out HG1.out)).mono ?_; rw [HRR.out]; rintro e w2 ⟨rfl, hb⟩; have H2 := Lib.hid hb; clear hb)
      refine bodyPost_ret (v := .tuple #[.slice none 0 0, .int .i64 2]) (by simp [results, Try.results13, go_sem, *]) rfl ⟨.slice none 0 0, by rw [HE.out], by rw [HV.out]; exact tf_none _ _, (by repeat (first | (with_reducible exact Later.refl _) | (with_reducible exact Hid.out (by assumption)) | (with_reducible refine Later.alloc ?_ _) | (with_reducible refine Later.setCell ?_ (by simp; omega) _) | (with_reducible refine Later.setCell ?_ (by simp) _) | (with_reducible refine Later.drewN ?_ _) | (with_reducible refine Later.drew ?_) | (with_reducible refine Later.trans ?_ (Hid.out (by assumption)))))⟩
    · have h0 := rpE_0 hnb hr
      obtain ⟨_, _, e1, e2, r1, r2⟩ := rpE_ok h0
      have HE : Hid (pmE B l n1 n2 l1 l2 = 0) := Lib.hid (by rw [HEr.out, h0])
      have HV : Hid (pmV B l n1 n2 l1 l2 = ckL (pmP B l l1 l2) n) := Lib.hid (by unfold pmV; rw [if_pos HE.out, HL.out])
      have HRR := Lib.hid hr
      have E1 := Lib.hid e1; have E2 := Lib.hid e2; have RA1 := Lib.hid r1; have RA2 := Lib.hid r2
      clear h0 e1 e2 r1 r2 hr hnb
      go_enter Try.func13, Try.ntmps13
      go_wp2_with fail
      refine (s_IsTraffic _ _ _ _ _ _ (sl_later HR.out (show Later w _ from (by repeat (first | (with_reducible exact Later.refl _) | (with_reducible exact Hid.out (by assumption)) | (with_reducible refine Later.alloc ?_ _) | (with_reducible refine Later.setCell ?_ (by simp; omega) _) | (with_reducible refine Later.setCell ?_ (by simp) _) | (with_reducible refine Later.drewN ?_ _) | (with_reducible refine Later.drew ?_) | (with_reducible refine Later.trans ?_ (Hid.out (by assumption)))))))).mono ?_
      rintro e w1 ⟨rfl, hb⟩
      rw [hv]
      obtain ⟨H1, hcc, hff, hzz⟩ := later_facts hb; clear hb
      simp only [World.size_alloc] at hzz hcc hff
      have q0 : w1.cell? ⟨w.heap.size, 0, none⟩ = some (.int .i64 B) := by rw [hcc _ _ (by omega)]; simp
      have q1 : w1.cell? ⟨w.heap.size, 1, none⟩ = some (.slice a n cap) := by rw [hcc _ _ (by omega)]; simp
      have q2 : w1.cell? ⟨w.heap.size + 1, 0, none⟩ = some (.slice a1 n1 c1) := by rw [hcc _ _ (by omega)]; simp
      have q3 : w1.cell? ⟨w.heap.size + 1, 1, none⟩ = some (.slice a2 n2 c2) := by rw [hcc _ _ (by omega)]; simp
      have HG1 : Hid (Later w w1) := Lib.hid (by repeat (first | (with_reducible exact Later.refl _) | (with_reducible exact Hid.out (by assumption)) | (with_reducible refine Later.alloc ?_ _) | (with_reducible refine Later.setCell ?_ (by simp; omega) _) | (with_reducible refine Later.setCell ?_ (by simp) _) | (with_reducible refine Later.drewN ?_ _) | (with_reducible refine Later.drew ?_) | (with_reducible refine Later.trans ?_ (Hid.out (by assumption)))))
      clear hcc hff H1
      go_wp2_with fail
      refine (s_l11Is _ _ _ _ _ _ _ _ _ _ (sl_later HS.out HG1.out) (sl_later HT.out HG1.out)).mono ?_
      rw [HRR.out]
      rintro e w2 ⟨rfl, hb⟩
      obtain ⟨H2, hcc, hff, hzz2⟩ := later_facts hb; clear hb
      have r0 : w2.cell? ⟨w.heap.size, 0, none⟩ = some (.int .i64 B) := by rw [hcc _ _ (by omega)]; exact q0
      have r1 : w2.cell? ⟨w.heap.size, 1, none⟩ = some (.slice a n cap) := by rw [hcc _ _ (by omega)]; exact q1
      have r2 : w2.cell? ⟨w.heap.size + 1, 0, none⟩ = some (.slice a1 n1 c1) := by rw [hcc _ _ (by omega)]; exact q2
      have r3 : w2.cell? ⟨w.heap.size + 1, 1, none⟩ = some (.slice a2 n2 c2) := by rw [hcc _ _ (by omega)]; exact q3
      have HG2 : Hid (Later w w2) := Lib.hid (HG1.out.trans H2.out)
      have hz2 : w.heap.size + 1 + 1 ≤ w2.heap.size := by omega
      have O2 : Hid (Own (w2.alloc (.cells #[] 2)) (w.heap.size + 1 + 1) (.slice (some ⟨w2.heap.size, 0, none⟩) 0 0) (ckL (pmP B l l1 l2) 0)) := Lib.hid (own_new _ _ hz2)
      have KA := Lib.hid (keep2 r0 r1); have KB := Lib.hid (keep2 r2 r3)
      clear hcc hff H2 HG1 q0 q1 q2 q3
      go_wp2_with fail
      go_loopw [6, 7] (fun v i wr => ∃ k : Nat, k ≤ n ∧ i = .int .i64 k ∧ wr.cell? ⟨w.heap.size, 0, none⟩ = some (.int .i64 B) ∧ wr.cell? ⟨w.heap.size, 1, none⟩ = some (.slice a n cap) ∧ wr.cell? ⟨w.heap.size + 1, 0, none⟩ = some (.slice a1 n1 c1) ∧ wr.cell? ⟨w.heap.size + 1, 1, none⟩ = some (.slice a2 n2 c2) ∧ Own wr (w.heap.size + 1 + 1) v (ckL (pmP B l l1 l2) k) ∧ Later w wr ∧ w.heap.size + 1 + 1 ≤ wr.heap.size) (fun _ i _ => n - (intOf i).toNat)
      case atStart => exact ⟨0, by omega, rfl, (KA.out _ ((Later.refl _).alloc _)).1, (KA.out _ ((Later.refl _).alloc _)).2, (KB.out _ ((Later.refl _).alloc _)).1, (KB.out _ ((Later.refl _).alloc _)).2, O2.out, HG2.out.alloc _, by rw [World.size_alloc]; omega⟩
      case round =>
        clear r0 r1 r2 r3 HG2 hz2 hzz hzz2 O2 KA KB
        obtain ⟨k, hk, rfl, q0, q1, q2, q3, ho, hg, hz⟩ := hrel
        have HG := Lib.hid hg; have HO := Lib.hid ho
        clear hg ho
        by_cases hlt : k < n
        · have HN := Lib.hid (ckL_succ (pmP B l l1 l2) k)
          have hlen := ckL_len (pmP B l l1 l2) k
          have hl9 : (ckL (pmP B l l1 l2) k).length ≤ 1000000000 := by omega
          obtain ⟨L, hL⟩ : ∃ L, L = ckL (pmP B l l1 l2) k := ⟨_, rfl⟩
          rw [← hL] at HN hl9 HO
          clear hL hlen
          have HKR : Hid (InR (k : Int)) := Lib.hid ⟨by omega, by omega⟩
          obtain ⟨bp, hp⟩ : ∃ bp, pmP B l l1 l2 (k : Int) = bp := ⟨_, rfl⟩
          have HQ : Hid (ckL (pmP B l l1 l2) (k + 1) = L ++ (if bp = true then [(k : Int)] else [])) := Lib.hid (by rw [HN.out, hp])
          have HP := Lib.hid hp
          clear hp HN
          go_wp2_with fail
          refine (s_l11Permits B a n cap l a1 n1 c1 l1 a2 n2 c2 l2 k _ (sl_later HR.out (show Later w _ from (by repeat (first | (with_reducible exact Later.refl _) | (with_reducible exact Hid.out (by assumption)) | (with_reducible refine Later.alloc ?_ _) | (with_reducible refine Later.setCell ?_ (by simp; omega) _) | (with_reducible refine Later.setCell ?_ (by simp) _) | (with_reducible refine Later.drewN ?_ _) | (with_reducible refine Later.drew ?_) | (with_reducible refine Later.trans ?_ (Hid.out (by assumption))))))) (sl_later HS.out (show Later w _ from (by repeat (first | (with_reducible exact Later.refl _) | (with_reducible exact Hid.out (by assumption)) | (with_reducible refine Later.alloc ?_ _) | (with_reducible refine Later.setCell ?_ (by simp; omega) _) | (with_reducible refine Later.setCell ?_ (by simp) _) | (with_reducible refine Later.drewN ?_ _) | (with_reducible refine Later.drew ?_) | (with_reducible refine Later.trans ?_ (Hid.out (by assumption))))))) (sl_later HT.out (show Later w _ from (by repeat (first | (with_reducible exact Later.refl _) | (with_reducible exact Hid.out (by assumption)) | (with_reducible refine Later.alloc ?_ _) | (with_reducible refine Later.setCell ?_ (by simp; omega) _) | (with_reducible refine Later.setCell ?_ (by simp) _) | (with_reducible refine Later.drewN ?_ _) | (with_reducible refine Later.drew ?_) | (with_reducible refine Later.trans ?_ (Hid.out (by assumption))))))) hlt hv E1.out E2.out RA1.out RA2.out _ HP.out).mono ?_
          rintro e w3 ⟨rfl, hl⟩
          obtain ⟨H3, hcc, hff, hzz⟩ := later_facts hl; clear hl
          have d0 : w3.cell? ⟨w.heap.size, 0, none⟩ = some (.int .i64 B) := by rw [hcc _ _ (by omega)]; exact q0
          have d1 : w3.cell? ⟨w.heap.size, 1, none⟩ = some (.slice a n cap) := by rw [hcc _ _ (by omega)]; exact q1
          have d2 : w3.cell? ⟨w.heap.size + 1, 0, none⟩ = some (.slice a1 n1 c1) := by rw [hcc _ _ (by omega)]; exact q2
          have d3 : w3.cell? ⟨w.heap.size + 1, 1, none⟩ = some (.slice a2 n2 c2) := by rw [hcc _ _ (by omega)]; exact q3
          have HO3 := Lib.hid (tf_lat HO.out H3.out)
          have HG3 := Lib.hid (HG.out.trans H3.out)
          have hz3 : w.heap.size + 1 + 1 ≤ w3.heap.size := by omega
          clear hcc hff q0 q1 q2 q3 HO HG H3
          cases bp
          · go_wp2_with fail
            go_roundw
            case rel => exact ⟨k + 1, by omega, by go_num, d0, d1, d2, d3, by rw [HQ.out]; simpa using HO3.out, HG3.out, hz3⟩
            case measure => simp [intOf]; omega
          · go_wp2_with (at_builtin; go_must (refine app1 rfl _ _ rfl (w.heap.size + 1 + 1) _ _ _ _ _ HO3.out rfl rfl HKR.out hl9 hz3 ?_; intro v' w5 ho hg; have c0 := hg.cell d0 (fun e => by have := (HO3.out.lt _ e.symm).1; simp at this; omega); have c1 := hg.cell d1 (fun e => by have := (HO3.out.lt _ e.symm).1; simp at this; omega); have c2 := hg.cell d2 (fun e => by have := (HO3.out.lt _ e.symm).1; simp at this; omega); have c3 := hg.cell d3 (fun e => by have := (HO3.out.lt _ e.symm).1; simp at this; omega); have HG5 := Lib.hid (Below.grown HG3.out hg HG3.out.size (fun q e => by have := (HO3.out.lt q e).1; omega)); have hz5 := Nat.le_trans hz3 hg.size; have HO5 := Lib.hid ho; clear ho hg))
            go_roundw
            case rel => exact ⟨k + 1, by omega, by go_num, c0, c1, c2, c3, by rw [HQ.out]; simpa using HO5.out, HG5.out, hz5⟩
            case measure => simp [intOf]; omega
        · obtain rfl : k = n := by omega
          have HO6 := Lib.hid (tf_mono (b2 := w.heap.size) HO.out (by omega))
          obtain ⟨a', c', hv', _, _⟩ := HO.out.sl
          generalize (ckL (pmP B l l1 l2) k).length = m at hv'
          subst hv'
          go_wp2_with fail
          refine bodyPost_ret (v := .tuple #[.slice a' m c', .int .i64 0]) (by simp [results, Try.results13, go_sem, *]) rfl ⟨_, by rw [HE.out], by rw [HV.out]; exact HO6.out, HG.out⟩
end Go.Proofs.Ytpeebgkgccacbaa
