/- Contracts of chapter 6: the energy that is needed: the model's functions. -/
import Derived.Test.YtnmlkigpiaekjaaEnU
namespace Go.Proofs.Ytnmlkigpiaekjaa
open Go.RowKit
set_option maxHeartbeats 4000000
set_option linter.unusedVariables false
set_option linter.unusedSimpArgs false
set_option maxRecDepth 100000 in
theorem s_Needed (a : Option Addr) (n cap : Nat) (L : List Sg) (f c : Nat) (w : World) (hs : Sgs w a n L) (hn : 0 < n) (hf : f ≤ 1000) (hc : c ≤ 24) (hok : okB L L.length = true) :
    Calls Try.prog 41 #[.agg #[.slice a n cap], .int .i64 (f : Int), .int .i64 (c : Int)] w fun e w' => e = .returned (.int .i64 (ndN (runS L f c) c)) ∧ Later w w' := by
  obtain ⟨R, hR⟩ : ∃ R, R = runS L f c := ⟨_, rfl⟩
  have hRl : R.length = c := by rw [hR, runS_len]
  have hokR : okB R R.length = true := by rw [hR]; exact runS_okB L f c hok (by rw [hs.1]; exact hn)
  have HAT : Hid (∀ j, j < c → sx L ((f + j) % n) = sx R j) := Lib.hid (fun j hj => by rw [hR, runS_at L f c j hj, hs.1])
  rw [← hR]
  have HS := Lib.hid hs; have HRL := Lib.hid hRl; have HOK := Lib.hid hokR
  clear hs hR hRl hokR hok
  go_enter Try.func41, Try.ntmps41
  go_wp2_with fail
  go_loopw [7, 8, 9] (fun t s i wr => ∃ j : Nat, j ≤ c ∧ i = .int .i64 ((f + j : Nat) : Int) ∧ t = .int .i64 (ndN R j) ∧ s = .int .i64 (clL R j) ∧ wr.cell? ⟨w.heap.size, 0, none⟩ = some (.slice a n cap) ∧ Later w wr) (fun _ _ i _ => (f + c) - (intOf i).toNat)
  case atStart => exact ⟨0, by omega, rfl, rfl, by rw [clL_0], by simp, (by repeat (first | (with_reducible exact Later.refl _) | (with_reducible exact Hid.out (by assumption)) | (with_reducible refine Later.alloc ?_ _) | (with_reducible refine Later.setCell ?_ (by simp; omega) _) | (with_reducible refine Later.setCell ?_ (by simp) _) | (with_reducible refine Later.drewN ?_ _) | (with_reducible refine Later.drew ?_) | (with_reducible refine Later.trans ?_ (Hid.out (by assumption)))))⟩
  case round =>
    obtain ⟨j, hj, rfl, rfl, rfl, hc1, hlw⟩ := hrel
    have HW := Lib.hid hlw
    have hz1 := sg_cell_lt hc1
    clear hlw
    by_cases hlt : j < c
    · have hseg : sgB (sx R j) = true := okB_at R R.length j (Nat.le_refl _) (by rw [HRL.out]; exact hlt) HOK.out
      obtain ⟨d1, d2, d3⟩ := cl_bd R HOK.out j (by rw [HRL.out]; exact hj)
      obtain ⟨d4, d5, d6⟩ := cl_bd R HOK.out (j + 1) (by rw [HRL.out]; exact hlt)
      obtain ⟨d7, d8⟩ := ndN_bd R HOK.out j (by rw [HRL.out]; exact hj)
      have q1 : clL R j + chL (sx R j) = clL R (j + 1) := by rw [clL_succ R j (by rw [HRL.out]; exact hlt)]
      obtain ⟨x, hx⟩ : ∃ x, x = clL R (j + 1) := ⟨_, rfl⟩
      rw [← hx] at q1 d4
      have hx0 : -300000000000 ≤ x := by omega
      have hx2 : x ≤ 300000000000 := by omega
      have HN : Hid (ndN R (j + 1) = max (ndN R j) (-x)) := Lib.hid (by rw [hx]; exact ndN_succ R j)
      have HX := Lib.hid hx
      have HWR : Hid (IntKind.i64.wrap (clL R j + chL (sx R j)) = x) := Lib.hid (by rw [q1]; exact IntWalk.i64_in _ ⟨by omega, by omega⟩)
      have hfd : ∀ w : World, (Instr.field 28 (.agg #[.int .i64 (chL (sx R j)), .int .i64 (chH (sx R j))]) 0).run Try.prog w = .ok (.int .i64 (chL (sx R j))) w := fun _ => by kernel_rfl
      clear d1 d2 d3 d4 d5 d6 d8 hx
      go_wp2_with fail
      refine (s_l06Segment a n cap (f + j) L _ (HS.out.later (by repeat (first | (with_reducible exact Later.refl _) | (with_reducible exact Hid.out (by assumption)) | (with_reducible refine Later.alloc ?_ _) | (with_reducible refine Later.setCell ?_ (by simp; omega) _) | (with_reducible refine Later.setCell ?_ (by simp) _) | (with_reducible refine Later.drewN ?_ _) | (with_reducible refine Later.drew ?_) | (with_reducible refine Later.trans ?_ (Hid.out (by assumption)))))) hn).mono ?_
      rw [HAT.out j hlt]
      rintro e w2 ⟨rfl, hb2⟩
      have W2 : Hid (Later w w2) := Lib.hid (Later.trans (by repeat (first | (with_reducible exact Later.refl _) | (with_reducible exact Hid.out (by assumption)) | (with_reducible refine Later.alloc ?_ _) | (with_reducible refine Later.setCell ?_ (by simp; omega) _) | (with_reducible refine Later.setCell ?_ (by simp) _) | (with_reducible refine Later.drewN ?_ _) | (with_reducible refine Later.drew ?_) | (with_reducible refine Later.trans ?_ (Hid.out (by assumption))))) hb2)
      have hc2 : w2.cell? ⟨w.heap.size, 0, none⟩ = some (.slice a n cap) := (hb2.cell (p := ⟨w.heap.size, 0, none⟩) hz1).trans hc1
      clear hb2
      go_wp2_with fail
      refine (s_Change (sx R j) _ hseg).mono ?_
      rintro e w3 ⟨rfl, hb3⟩
      have W3 : Hid (Later w w3) := Lib.hid (Later.trans (by repeat (first | (with_reducible exact Later.refl _) | (with_reducible exact Hid.out (by assumption)) | (with_reducible refine Later.alloc ?_ _) | (with_reducible refine Later.setCell ?_ (by simp; omega) _) | (with_reducible refine Later.setCell ?_ (by simp) _) | (with_reducible refine Later.drewN ?_ _) | (with_reducible refine Later.drew ?_) | (with_reducible refine Later.trans ?_ (Hid.out (by assumption))))) hb3)
      have hz2 := sg_cell_lt hc2
      have hc3 : w3.cell? ⟨w.heap.size, 0, none⟩ = some (.slice a n cap) := (hb3.cell (p := ⟨w.heap.size, 0, none⟩) hz2).trans hc2
      clear hb3 hc2 hc1
      have hwr := HWR.out
      go_wp2_with fail
      go_roundw
      case rel =>
        refine ⟨j + 1, by omega, by go_num, ?_, by rw [HX.out], hc3, W3.out⟩
        rw [HN.out]
        congr 1
        split <;> omega
      case measure => simp [intOf]; omega
    · obtain rfl : j = c := by omega
      go_wp2_with fail
      go_ret
      exact ⟨rfl, HW.out⟩
theorem s_EnergyNeeded (s : Option Addr) (n cap : Nat) (L : List Sg) (f c : Int) (w : World) (hs : Sgs w s n L) :
    Calls Try.prog 18 #[.agg #[.slice s n cap], .int .i64 f, .int .i64 c] w fun e w' => e = .returned (.tuple #[.int .i64 (enV L f c), .int .i64 (enE L f c)]) ∧ Later w w' := by
  have HS := Lib.hid hs
  have HL := Lib.hid hs.1
  have hnm := hs.2.1
  clear hs
  cases hv : layB L
  · have E0 : sgE L f c = 1 := by unfold sgE; rw [hv]; rfl
    have E1 : Hid (enE L f c = 1) := Lib.hid (by unfold enE; rw [E0]; rfl)
    have E2 : Hid (enV L f c = 0) := Lib.hid (by unfold enV; rw [E1.out]; rfl)
    clear E0
    go_enter Try.func18, Try.ntmps18
    go_wp2_with fail
    refine (s_IsLayout s n cap L _ (HS.out.later (by repeat (first | (with_reducible exact Later.refl _) | (with_reducible exact Hid.out (by assumption)) | (with_reducible refine Later.alloc ?_ _) | (with_reducible refine Later.setCell ?_ (by simp; omega) _) | (with_reducible refine Later.setCell ?_ (by simp) _) | (with_reducible refine Later.drewN ?_ _) | (with_reducible refine Later.drew ?_) | (with_reducible refine Later.trans ?_ (Hid.out (by assumption))))))).mono ?_
    rw [hv]
    rintro e w1 ⟨rfl, hb⟩
    have H1 := Lib.hid hb
    clear hb
    go_wp2_with fail
    go_ret2
    exact ⟨ret_2i E2.out.symm E1.out.symm, (by repeat (first | (with_reducible exact Later.refl _) | (with_reducible exact Hid.out (by assumption)) | (with_reducible refine Later.alloc ?_ _) | (with_reducible refine Later.setCell ?_ (by simp; omega) _) | (with_reducible refine Later.setCell ?_ (by simp) _) | (with_reducible refine Later.drewN ?_ _) | (with_reducible refine Later.drew ?_) | (with_reducible refine Later.trans ?_ (Hid.out (by assumption)))))⟩
  · by_cases hr : 0 ≤ f ∧ f < (n : Int) ∧ 0 ≤ c ∧ c ≤ 24
    · obtain ⟨f', rfl⟩ : ∃ f' : Nat, f = (f' : Int) := ⟨f.toNat, by omega⟩
      obtain ⟨c', rfl⟩ : ∃ c' : Nat, c = (c' : Int) := ⟨c.toNat, by omega⟩
      have E0 : sgE L (f' : Int) (c' : Int) = 0 := by unfold sgE; rw [hv, if_pos rfl, HL.out, if_pos hr]
      have HFE : Hid (enE L (f' : Int) (c' : Int) = if ndN (runS L f' c') c' ≤ 10000000000 then 0 else 3) := Lib.hid (by unfold enE; rw [if_pos E0]; simp)
      have HFV : Hid (enV L (f' : Int) (c' : Int) = if ndN (runS L f' c') c' ≤ 10000000000 then ndN (runS L f' c') c' else 0) := Lib.hid (by unfold enV; rw [HFE.out]; simp)
      have hv' := (layB_iff L).1 hv
      have h24 : n ≤ 24 := by have := HL.out; omega
      have hn0 : 0 < n := by have := HL.out; omega
      have HOK := Lib.hid hv'.2.2.1
      have HB : Hid (((decide (0 ≤ (f' : Int)) && decide ((f' : Int) ≤ (n : Int) - 1)) && (decide (0 ≤ (c' : Int)) && decide ((c' : Int) ≤ 24))) = true) := Lib.hid (by simp; omega)
      have hf2 : f' ≤ 1000 := by omega
      have hc2 : c' ≤ 24 := by omega
      clear E0 hv' hr
      go_enter Try.func18, Try.ntmps18
      go_wp2_with fail
      refine (s_IsLayout s n cap L _ (HS.out.later (by repeat (first | (with_reducible exact Later.refl _) | (with_reducible exact Hid.out (by assumption)) | (with_reducible refine Later.alloc ?_ _) | (with_reducible refine Later.setCell ?_ (by simp; omega) _) | (with_reducible refine Later.setCell ?_ (by simp) _) | (with_reducible refine Later.drewN ?_ _) | (with_reducible refine Later.drew ?_) | (with_reducible refine Later.trans ?_ (Hid.out (by assumption))))))).mono ?_
      rw [hv]
      rintro e w1 ⟨rfl, hb⟩
      have H1 : Hid (Later w w1) := Lib.hid (Later.trans (by repeat (first | (with_reducible exact Later.refl _) | (with_reducible exact Hid.out (by assumption)) | (with_reducible refine Later.alloc ?_ _) | (with_reducible refine Later.setCell ?_ (by simp; omega) _) | (with_reducible refine Later.setCell ?_ (by simp) _) | (with_reducible refine Later.drewN ?_ _) | (with_reducible refine Later.drew ?_) | (with_reducible refine Later.trans ?_ (Hid.out (by assumption))))) hb)
      have hc1 : w1.cell? ⟨w.heap.size, 0, none⟩ = some (.slice s n cap) := by rw [hb.cell (p := ⟨w.heap.size, 0, none⟩) (by simp)]; simp
      have hz1 := sg_cell_lt hc1
      clear hb
      go_wp2_with fail
      refine (s_Range s n cap f' c' true _ hnm HB.out).mono ?_
      rintro e w2 ⟨rfl, hb⟩
      have H2 : Hid (Later w w2) := Lib.hid (Later.trans (by repeat (first | (with_reducible exact Later.refl _) | (with_reducible exact Hid.out (by assumption)) | (with_reducible refine Later.alloc ?_ _) | (with_reducible refine Later.setCell ?_ (by simp; omega) _) | (with_reducible refine Later.setCell ?_ (by simp) _) | (with_reducible refine Later.drewN ?_ _) | (with_reducible refine Later.drew ?_) | (with_reducible refine Later.trans ?_ (Hid.out (by assumption))))) hb)
      have hc3 : w2.cell? ⟨w.heap.size, 0, none⟩ = some (.slice s n cap) := (hb.cell (p := ⟨w.heap.size, 0, none⟩) hz1).trans hc1
      clear hb
      go_wp2_with fail
      refine (s_Needed s n cap L f' c' _ (HS.out.later (by repeat (first | (with_reducible exact Later.refl _) | (with_reducible exact Hid.out (by assumption)) | (with_reducible refine Later.alloc ?_ _) | (with_reducible refine Later.setCell ?_ (by simp; omega) _) | (with_reducible refine Later.setCell ?_ (by simp) _) | (with_reducible refine Later.drewN ?_ _) | (with_reducible refine Later.drew ?_) | (with_reducible refine Later.trans ?_ (Hid.out (by assumption)))))) hn0 hf2 hc2 HOK.out).mono ?_
      obtain ⟨N, hN⟩ : ∃ N, N = ndN (runS L f' c') c' := ⟨_, rfl⟩
      rw [← hN]
      rw [← hN] at HFE HFV
      clear hN
      rintro e w4 ⟨rfl, hb⟩
      have H4 : Hid (Later w w4) := Lib.hid (Later.trans (by repeat (first | (with_reducible exact Later.refl _) | (with_reducible exact Hid.out (by assumption)) | (with_reducible refine Later.alloc ?_ _) | (with_reducible refine Later.setCell ?_ (by simp; omega) _) | (with_reducible refine Later.setCell ?_ (by simp) _) | (with_reducible refine Later.drewN ?_ _) | (with_reducible refine Later.drew ?_) | (with_reducible refine Later.trans ?_ (Hid.out (by assumption))))) hb)
      clear hb
      by_cases hbig : N ≤ 10000000000
      · have E1 : Hid (enE L (f' : Int) (c' : Int) = 0) := Lib.hid (by rw [HFE.out, if_pos hbig])
        have E2 : Hid (enV L (f' : Int) (c' : Int) = N) := Lib.hid (by rw [HFV.out, if_pos hbig])
        go_wp2_with fail
        go_ret2
        exact ⟨ret_2i E2.out.symm E1.out.symm, H4.out⟩
      · have E1 : Hid (enE L (f' : Int) (c' : Int) = 3) := Lib.hid (by rw [HFE.out, if_neg hbig])
        have E2 : Hid (enV L (f' : Int) (c' : Int) = 0) := Lib.hid (by rw [HFV.out, if_neg hbig])
        go_wp2_with fail
        go_ret2
        exact ⟨ret_2i E2.out.symm E1.out.symm, H4.out⟩
    · have E0 : sgE L f c = 2 := by unfold sgE; rw [hv, if_pos rfl, HL.out, if_neg hr]
      have E1 : Hid (enE L f c = 2) := Lib.hid (by unfold enE; rw [E0]; rfl)
      have E2 : Hid (enV L f c = 0) := Lib.hid (by unfold enV; rw [E1.out]; rfl)
      have HB : Hid (((decide (0 ≤ f) && decide (f ≤ (n : Int) - 1)) && (decide (0 ≤ c) && decide (c ≤ 24))) = false) := Lib.hid (by rw [Bool.eq_false_iff]; simp; omega)
      clear E0 hr
      go_enter Try.func18, Try.ntmps18
      go_wp2_with fail
      refine (s_IsLayout s n cap L _ (HS.out.later (by repeat (first | (with_reducible exact Later.refl _) | (with_reducible exact Hid.out (by assumption)) | (with_reducible refine Later.alloc ?_ _) | (with_reducible refine Later.setCell ?_ (by simp; omega) _) | (with_reducible refine Later.setCell ?_ (by simp) _) | (with_reducible refine Later.drewN ?_ _) | (with_reducible refine Later.drew ?_) | (with_reducible refine Later.trans ?_ (Hid.out (by assumption))))))).mono ?_
      rw [hv]
      rintro e w1 ⟨rfl, hb⟩
      have H1 : Hid (Later w w1) := Lib.hid (Later.trans (by repeat (first | (with_reducible exact Later.refl _) | (with_reducible exact Hid.out (by assumption)) | (with_reducible refine Later.alloc ?_ _) | (with_reducible refine Later.setCell ?_ (by simp; omega) _) | (with_reducible refine Later.setCell ?_ (by simp) _) | (with_reducible refine Later.drewN ?_ _) | (with_reducible refine Later.drew ?_) | (with_reducible refine Later.trans ?_ (Hid.out (by assumption))))) hb)
      have hc1 : w1.cell? ⟨w.heap.size, 0, none⟩ = some (.slice s n cap) := by rw [hb.cell (p := ⟨w.heap.size, 0, none⟩) (by simp)]; simp
      clear hb
      go_wp2_with fail
      refine (s_Range s n cap f c false _ hnm HB.out).mono ?_
      rintro e w2 ⟨rfl, hb⟩
      have H2 := Lib.hid hb
      clear hb
      go_wp2_with fail
      go_ret2
      exact ⟨ret_2i E2.out.symm E1.out.symm, (by repeat (first | (with_reducible exact Later.refl _) | (with_reducible exact Hid.out (by assumption)) | (with_reducible refine Later.alloc ?_ _) | (with_reducible refine Later.setCell ?_ (by simp; omega) _) | (with_reducible refine Later.setCell ?_ (by simp) _) | (with_reducible refine Later.drewN ?_ _) | (with_reducible refine Later.drew ?_) | (with_reducible refine Later.trans ?_ (Hid.out (by assumption)))))⟩
end Go.Proofs.Ytnmlkigpiaekjaa
