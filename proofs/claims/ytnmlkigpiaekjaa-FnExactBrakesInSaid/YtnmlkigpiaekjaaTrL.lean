/- Contracts of chapter 9: the brakes of a run, of the program. -/
import Derived.Test.YtnmlkigpiaekjaaTrK
import Derived.Test.YtnmlkigpiaekjaaEnR
import Derived.Test.YtnmlkigpiaekjaaSgO
import Derived.Test.YtnmlkigpiaekjaaTrR
import Derived.Deep.RegionHeld3
namespace Go.Proofs.Ytnmlkigpiaekjaa
open Go.RowKit
set_option maxHeartbeats 4000000
set_option linter.unusedVariables false
set_option linter.unusedSimpArgs false
theorem sgE_24 {L : List Sg} {f c : Int} (h : sgE L f c = 0) : L.length ≤ 24 := by
  have hv := (sgE_ok h).1
  exact ((layB_iff L).1 hv).2.1
theorem set_falses : setL (fun _ => false) = List.replicate 24 (.bool false) := by rfl
theorem set_one (t : Nat → Bool) : ∀ v ∈ setL t, v.oneCell' = true := fun v hv => by
  simp only [setL, List.mem_map] at hv
  obtain ⟨j, _, rfl⟩ := hv
  rfl
set_option maxRecDepth 100000 in
theorem i_BrakesIn (a : Option Addr) (n cap : Nat) (L : List Sg) (f c : Int) (w : World) (hs : Sgs w a n L) :
    Calls Try.prog 32 #[.agg #[.slice a n cap], .int .i64 f, .int .i64 c] w fun e w' => ∃ v, e = .returned (.tuple #[v, .int .i64 (biE L f c)]) ∧ Own w' w.heap.size v (biV L f c) ∧ Later w w' := by
  have HS := Lib.hid hs
  have HL := Lib.hid hs.1
  have HG := fun W (h : Sgs W a n L) => i_segmentsAlong a n cap L f c W h
  unfold GivesS at HG
  clear hs
  by_cases h0 : sgE L f c = 0
  · have h24 := sgE_24 h0
    obtain ⟨hv, f', c', rfl, rfl, hf, hc⟩ := sgE_ok h0
    have hR : sgV L (f' : Int) (c' : Int) = runS L f' c' := by unfold sgV; rw [if_pos h0]; rfl
    rw [h0, hR] at HG
    have hRl := runS_len L f' c'
    rw [HL.out] at h24 hf
    by_cases hcn : n < c'
    · have E1 : Hid (biE L (f' : Int) (c' : Int) = 2) := Lib.hid (by unfold biE; rw [if_neg (fun h => h h0), HL.out, if_pos (by omega)])
      have E2 : Hid (biV L (f' : Int) (c' : Int) = []) := Lib.hid (by unfold biV; rw [E1.out]; rfl)
      clear h0 hv hR
      generalize hRR : runS L f' c' = R at *
      clear hRR
      go_enter Try.func32, Try.ntmps32
      go_wp2_with (go_at_call 43; refine (HG _ (HS.out.later (by repeat (first | (with_reducible exact Later.refl _) | (with_reducible exact Hid.out (by assumption)) | (with_reducible refine Later.alloc ?_ _) | (with_reducible refine Later.setCell ?_ (by simp; omega) _) | (with_reducible refine Later.setCell ?_ (by simp) _) | (with_reducible refine Later.drewN ?_ _) | (with_reducible refine Later.drew ?_) | (with_reducible refine Later.trans ?_ (Hid.out (by assumption))))))).mono ?_; rintro e w1 ⟨v, rfl, ho, hb⟩; obtain ⟨ra, rc, rfl, _, hrs, _⟩ := ho.sgs; rw [hRl] at hrs ⊢; have H1 := Lib.hid hb; have hc1 : w1.cell? ⟨w.heap.size, 0, none⟩ = some (.slice a n cap) := (by rw [hb.cell (p := ⟨w.heap.size, 0, none⟩) (by simp)]; simp); clear hb ho hrs)
      go_ret2
      exact ⟨.slice none 0 0, by rw [E1.out]; rfl, by rw [E2.out]; exact own_none0 _ _, (by repeat (first | (with_reducible exact Later.refl _) | (with_reducible exact Hid.out (by assumption)) | (with_reducible refine Later.alloc ?_ _) | (with_reducible refine Later.setCell ?_ (by simp; omega) _) | (with_reducible refine Later.setCell ?_ (by simp) _) | (with_reducible refine Later.drewN ?_ _) | (with_reducible refine Later.drew ?_) | (with_reducible refine Later.trans ?_ (Hid.out (by assumption)))))⟩
    · have hcn : c' ≤ n := by omega
      have E1 : Hid (biE L (f' : Int) (c' : Int) = 0) := Lib.hid (by unfold biE; rw [if_neg (fun h => h h0), HL.out, if_neg (by omega)])
      have E2 : Hid (biV L (f' : Int) (c' : Int) = lsK (bsK L f' c') 24) := Lib.hid (by unfold biV; rw [if_pos E1.out]; rfl)
      have hcn2 : ¬ n < c' := by omega
      clear h0 hv hR
      go_enter Try.func32, Try.ntmps32
      go_upto_region 8 with (go_at_call 43; refine (HG _ (HS.out.later (by repeat (first | (with_reducible exact Later.refl _) | (with_reducible exact Hid.out (by assumption)) | (with_reducible refine Later.alloc ?_ _) | (with_reducible refine Later.setCell ?_ (by simp; omega) _) | (with_reducible refine Later.setCell ?_ (by simp) _) | (with_reducible refine Later.drewN ?_ _) | (with_reducible refine Later.drew ?_) | (with_reducible refine Later.trans ?_ (Hid.out (by assumption))))))).mono ?_; rintro e w1 ⟨v, rfl, ho, hb⟩; obtain ⟨ra, rc, rfl, _, hrs, _⟩ := ho.sgs; rw [hRl] at hrs ⊢; have RS := Lib.hid hrs; have H1 := Lib.hid hb; have hc1 : w1.cell? ⟨w.heap.size, 0, none⟩ = some (.slice a n cap) := (by rw [hb.cell (p := ⟨w.heap.size, 0, none⟩) (by simp)]; simp); clear hb ho hrs)
      have hc2 := H1.out
      refine into (fun W => Fr w1.heap.size (setL (bsK L f' 0)) W ∧ Later w1 W) ⟨fr_alloc (l := setL (fun _ => false)) (Later.refl _), (by repeat (first | (with_reducible exact Later.refl _) | (with_reducible exact Hid.out (by assumption)) | (with_reducible refine Later.alloc ?_ _) | (with_reducible refine Later.setCell ?_ (by simp; omega) _) | (with_reducible refine Later.setCell ?_ (by simp) _) | (with_reducible refine Later.drewN ?_ _) | (with_reducible refine Later.drew ?_) | (with_reducible refine Later.trans ?_ (Hid.out (by assumption)))))⟩ ?_
      intro W1 hW1
      have hW1' := Lib.hid hW1
      have hz1 : w.heap.size < w1.heap.size := sg_cell_lt hc1
      clear hc2 hW1
      go_loopw [31] (fun i wr => ∃ k : Nat, k ≤ c' ∧ i = .int .i64 k ∧ Fr w1.heap.size (setL (bsK L f' k)) wr ∧ Later w1 wr) (fun i _ => c' - (intOf i).toNat)
      case atStart => exact ⟨0, by omega, rfl, hW1'.out.1, hW1'.out.2⟩
      case round =>
        clear hW1'
        obtain ⟨k, hk, rfl, hfr, hlw⟩ := hrel
        have HF := Lib.hid hfr; have HW := Lib.hid hlw; have HFz := Lib.hid hfr.lt
        have hzr := hlw.size
        have hcr : wr.cell? ⟨w.heap.size, 0, none⟩ = some (.slice a n cap) := (hlw.cell (p := ⟨w.heap.size, 0, none⟩) hz1).trans hc1
        clear hfr hlw
        by_cases hlt : k < c'
        · obtain ⟨r, hr⟩ : ∃ r, r = (f' + k) % n := ⟨_, rfl⟩
          have hrn : r < n := by rw [hr]; exact Nat.mod_lt _ (by omega)
          have HI := fun W => i_indexAlong a n cap f' k r W (by omega) h24 (by omega) (by omega) hr
          have hx := runS_at L f' c' k hlt
          rw [HL.out, ← hr] at hx
          have HT : Hid (setL (bsK L f' (k + 1)) = setL (if (sx L r).k = 3 then updB (bsK L f' k) r else bsK L f' k)) := Lib.hid (by
            congr 1
            show (if (sx L ((f' + k) % L.length)).k = 3 then updB (bsK L f' k) ((f' + k) % L.length) else bsK L f' k) = _
            rw [HL.out, ← hr])
          have HX := fun W => i_with (bsK L f' k) r (sx L r) W (by omega)
          rw [← HT.out] at HX
          obtain ⟨b, off, rfl, hb, hcc⟩ := (RS.out.later HW.out).at k hlt
          rw [hx] at hcc
          obtain ⟨d0, d1, d2, d3, d4, d5, d6⟩ := hcc
          generalize sx L r = x at *
          have hT1 := set_one (bsK L f' (k + 1))
          have hTl := setL_len (bsK L f' (k + 1))
          have hAl := setL_len (bsK L f' k)
          generalize hT : setL (bsK L f' (k + 1)) = T at *
          generalize hA : setL (bsK L f' k) = A at *
          have HTT := Lib.hid hT
          clear hT hA hr hx HT
          have hu := Try.underlying104
          have hiA : (Try.prog.info? 104).map (·.size) = some A.length := by rw [hAl]; exact set_info
          have hiT : (Try.prog.info? 104).map (·.size) = some T.length := by rw [hTl]; exact set_info
          go_upto_region 10 with (fail)
          refine into (fun W => Fr w1.heap.size A W ∧ Fr wr.heap.size [.int .i64 x.k, .int .i64 x.l, .int .i64 x.r, .int .i64 x.a, .int .i64 x.b, .int .i64 x.c, .int .i64 x.d] W ∧ W.cell? ⟨w.heap.size, 0, none⟩ = some (.slice a n cap) ∧ Later w1 W) ⟨fr_later HF.out (by repeat (first | (with_reducible exact Later.refl _) | (with_reducible exact Hid.out (by assumption)) | (with_reducible refine Later.alloc ?_ _) | (with_reducible refine Later.setCell ?_ (by simp; omega) _) | (with_reducible refine Later.setCell ?_ (by simp) _) | (with_reducible refine Later.drewN ?_ _) | (with_reducible refine Later.drew ?_) | (with_reducible refine Later.trans ?_ (Hid.out (by assumption))))), fr_alloc (l := [.int .i64 x.k, .int .i64 x.l, .int .i64 x.r, .int .i64 x.a, .int .i64 x.b, .int .i64 x.c, .int .i64 x.d]) (Later.refl _), ?_, HW.out.trans (by repeat (first | (with_reducible exact Later.refl _) | (with_reducible exact Hid.out (by assumption)) | (with_reducible refine Later.alloc ?_ _) | (with_reducible refine Later.setCell ?_ (by simp; omega) _) | (with_reducible refine Later.setCell ?_ (by simp) _) | (with_reducible refine Later.drewN ?_ _) | (with_reducible refine Later.drew ?_) | (with_reducible refine Later.trans ?_ (Hid.out (by assumption)))))⟩ ?_
          · exact (((Later.refl wr).alloc _).cell (p := ⟨w.heap.size, 0, none⟩) (by simp; omega)).trans hcr
          rintro W2 ⟨fA, fx, hc2, hW2⟩
          have FA := Lib.hid fA; have FX := Lib.hid fx; have HW2 := Lib.hid hW2
          have hzA := fA.lt
          clear d0 d1 d2 d3 d4 d5 d6 hcr fA fx hW2 HF HW
          have hzw : w1.heap.size < wr.heap.size := HFz.out
          refine wp_region_noPanic ?_
          refine wpTill_start 7 (fun w' => Fr w1.heap.size A w' ∧ Fr wr.heap.size [.int .i64 x.k, .int .i64 x.l, .int .i64 x.r, .int .i64 x.a, .int .i64 x.b, .int .i64 x.c, .int .i64 x.d] w' ∧ w'.cell? ⟨w.heap.size, 0, none⟩ = some (.slice a n cap)) (by kernel_rfl) ?_
          refine wpTill_take (i := 0) rfl rfl (by kernel_rfl) (by kernel_rfl) (by kernel_rfl) (by kernel_rfl) (by kernel_rfl) (fun _ _ _ h => h.elim) (yieldsIf_load_mid rfl _ _ rfl w1.heap.size 0 rfl A _ (fun w' h => fr_range h.1) hu rfl hiA) ⟨fr_later FA.out (by repeat (first | (with_reducible exact Later.refl _) | (with_reducible exact Hid.out (by assumption)) | (with_reducible refine Later.alloc ?_ _) | (with_reducible refine Later.setCell ?_ (by simp; omega) _) | (with_reducible refine Later.setCell ?_ (by simp) _) | (with_reducible refine Later.drewN ?_ _) | (with_reducible refine Later.drew ?_) | (with_reducible refine Later.trans ?_ (Hid.out (by assumption))))), fr_later FX.out (by repeat (first | (with_reducible exact Later.refl _) | (with_reducible exact Hid.out (by assumption)) | (with_reducible refine Later.alloc ?_ _) | (with_reducible refine Later.setCell ?_ (by simp; omega) _) | (with_reducible refine Later.setCell ?_ (by simp) _) | (with_reducible refine Later.drewN ?_ _) | (with_reducible refine Later.drew ?_) | (with_reducible refine Later.trans ?_ (Hid.out (by assumption))))), hc2⟩ ?_
          refine wpTill_take (i := 1) (v := .agg #[.slice a n cap]) rfl rfl (by kernel_rfl) (by kernel_rfl) (by kernel_rfl) (by kernel_rfl) (by kernel_rfl) (fun _ _ _ h => h.elim) (.inl ⟨rfl, fun w' h => by
            obtain ⟨g0, g1, g2, g3, g4, g5, g6, _⟩ := Fr.o7 h.2.1; have g7 := h.2.2; clear h; simp [execOp, Act.eval, Act.put, go_sem, *]⟩) ⟨fr_later FA.out (by repeat (first | (with_reducible exact Later.refl _) | (with_reducible exact Hid.out (by assumption)) | (with_reducible refine Later.alloc ?_ _) | (with_reducible refine Later.setCell ?_ (by simp; omega) _) | (with_reducible refine Later.setCell ?_ (by simp) _) | (with_reducible refine Later.drewN ?_ _) | (with_reducible refine Later.drew ?_) | (with_reducible refine Later.trans ?_ (Hid.out (by assumption))))), fr_later FX.out (by repeat (first | (with_reducible exact Later.refl _) | (with_reducible exact Hid.out (by assumption)) | (with_reducible refine Later.alloc ?_ _) | (with_reducible refine Later.setCell ?_ (by simp; omega) _) | (with_reducible refine Later.setCell ?_ (by simp) _) | (with_reducible refine Later.drewN ?_ _) | (with_reducible refine Later.drew ?_) | (with_reducible refine Later.trans ?_ (Hid.out (by assumption))))), hc2⟩ ?_
          refine wpTill_take (i := 2) (v := .int .i64 f') rfl rfl (by kernel_rfl) (by kernel_rfl) (by kernel_rfl) (by kernel_rfl) (by kernel_rfl) (fun _ _ _ h => h.elim) (.inl ⟨rfl, fun w' h => by
            obtain ⟨g0, g1, g2, g3, g4, g5, g6, _⟩ := Fr.o7 h.2.1; have g7 := h.2.2; clear h; simp [execOp, Act.eval, Act.put, go_sem, *]⟩) ⟨fr_later FA.out (by repeat (first | (with_reducible exact Later.refl _) | (with_reducible exact Hid.out (by assumption)) | (with_reducible refine Later.alloc ?_ _) | (with_reducible refine Later.setCell ?_ (by simp; omega) _) | (with_reducible refine Later.setCell ?_ (by simp) _) | (with_reducible refine Later.drewN ?_ _) | (with_reducible refine Later.drew ?_) | (with_reducible refine Later.trans ?_ (Hid.out (by assumption))))), fr_later FX.out (by repeat (first | (with_reducible exact Later.refl _) | (with_reducible exact Hid.out (by assumption)) | (with_reducible refine Later.alloc ?_ _) | (with_reducible refine Later.setCell ?_ (by simp; omega) _) | (with_reducible refine Later.setCell ?_ (by simp) _) | (with_reducible refine Later.drewN ?_ _) | (with_reducible refine Later.drew ?_) | (with_reducible refine Later.trans ?_ (Hid.out (by assumption))))), hc2⟩ ?_
          refine wpTill_take (i := 3) (v := .int .i64 k) rfl rfl (by kernel_rfl) (by kernel_rfl) (by kernel_rfl) (by kernel_rfl) (by kernel_rfl) (fun _ _ _ h => h.elim) (.inl ⟨rfl, fun w' h => by
            obtain ⟨g0, g1, g2, g3, g4, g5, g6, _⟩ := Fr.o7 h.2.1; have g7 := h.2.2; clear h; simp [execOp, Act.eval, Act.put, go_sem, *]⟩) ⟨fr_later FA.out (by repeat (first | (with_reducible exact Later.refl _) | (with_reducible exact Hid.out (by assumption)) | (with_reducible refine Later.alloc ?_ _) | (with_reducible refine Later.setCell ?_ (by simp; omega) _) | (with_reducible refine Later.setCell ?_ (by simp) _) | (with_reducible refine Later.drewN ?_ _) | (with_reducible refine Later.drew ?_) | (with_reducible refine Later.trans ?_ (Hid.out (by assumption))))), fr_later FX.out (by repeat (first | (with_reducible exact Later.refl _) | (with_reducible exact Hid.out (by assumption)) | (with_reducible refine Later.alloc ?_ _) | (with_reducible refine Later.setCell ?_ (by simp; omega) _) | (with_reducible refine Later.setCell ?_ (by simp) _) | (with_reducible refine Later.drewN ?_ _) | (with_reducible refine Later.drew ?_) | (with_reducible refine Later.trans ?_ (Hid.out (by assumption))))), hc2⟩ ?_
          refine wpTill_take (i := 5) (v := .agg #[.int .i64 x.k, .int .i64 x.l, .int .i64 x.r, .int .i64 x.a, .int .i64 x.b, .int .i64 x.c, .int .i64 x.d]) rfl rfl (by kernel_rfl) (by kernel_rfl) (by kernel_rfl) (by kernel_rfl) (by kernel_rfl) (fun _ _ _ h => h.elim) (.inl ⟨rfl, fun w' h => by
            obtain ⟨g0, g1, g2, g3, g4, g5, g6, _⟩ := Fr.o7 h.2.1; have g7 := h.2.2; clear h; simp [execOp, Act.eval, Act.put, go_sem, *]⟩) ⟨fr_later FA.out (by repeat (first | (with_reducible exact Later.refl _) | (with_reducible exact Hid.out (by assumption)) | (with_reducible refine Later.alloc ?_ _) | (with_reducible refine Later.setCell ?_ (by simp; omega) _) | (with_reducible refine Later.setCell ?_ (by simp) _) | (with_reducible refine Later.drewN ?_ _) | (with_reducible refine Later.drew ?_) | (with_reducible refine Later.trans ?_ (Hid.out (by assumption))))), fr_later FX.out (by repeat (first | (with_reducible exact Later.refl _) | (with_reducible exact Hid.out (by assumption)) | (with_reducible refine Later.alloc ?_ _) | (with_reducible refine Later.setCell ?_ (by simp; omega) _) | (with_reducible refine Later.setCell ?_ (by simp) _) | (with_reducible refine Later.drewN ?_ _) | (with_reducible refine Later.drew ?_) | (with_reducible refine Later.trans ?_ (Hid.out (by assumption))))), hc2⟩ ?_
          refine wpTill_one (i := 4) (by kernel_rfl) rfl rfl fun K hK => ?_
          go_simp
          go_at_call 68
          refine (HI _).mono ?_
          rintro e w7 ⟨rfl, hb⟩
          have H7 := Lib.hid hb
          clear hb
          refine hK _ _ (fun _ => ⟨fr_later FA.out (by repeat (first | (with_reducible exact Later.refl _) | (with_reducible exact Hid.out (by assumption)) | (with_reducible refine Later.alloc ?_ _) | (with_reducible refine Later.setCell ?_ (by simp; omega) _) | (with_reducible refine Later.setCell ?_ (by simp) _) | (with_reducible refine Later.drewN ?_ _) | (with_reducible refine Later.drew ?_) | (with_reducible refine Later.trans ?_ (Hid.out (by assumption))))), fr_later FX.out (by repeat (first | (with_reducible exact Later.refl _) | (with_reducible exact Hid.out (by assumption)) | (with_reducible refine Later.alloc ?_ _) | (with_reducible refine Later.setCell ?_ (by simp; omega) _) | (with_reducible refine Later.setCell ?_ (by simp) _) | (with_reducible refine Later.drewN ?_ _) | (with_reducible refine Later.drew ?_) | (with_reducible refine Later.trans ?_ (Hid.out (by assumption))))), (Later.cell (show Later W2 _ from (by repeat (first | (with_reducible exact Later.refl _) | (with_reducible exact Hid.out (by assumption)) | (with_reducible refine Later.alloc ?_ _) | (with_reducible refine Later.setCell ?_ (by simp; omega) _) | (with_reducible refine Later.setCell ?_ (by simp) _) | (with_reducible refine Later.drewN ?_ _) | (with_reducible refine Later.drew ?_) | (with_reducible refine Later.trans ?_ (Hid.out (by assumption)))))) (p := ⟨w.heap.size, 0, none⟩) (show w.heap.size < W2.heap.size by omega)).trans hc2⟩) ?_
          clear hK K
          refine wpTill_one (i := 6) (by kernel_rfl) rfl rfl fun K hK => ?_
          go_simp
          go_at_call 67
          refine (HX _).mono ?_
          rintro e w8 ⟨rfl, hb⟩
          have H8 := Lib.hid hb
          clear hb
          refine hK _ _ (fun _ => ⟨fr_later FA.out (by repeat (first | (with_reducible exact Later.refl _) | (with_reducible exact Hid.out (by assumption)) | (with_reducible refine Later.alloc ?_ _) | (with_reducible refine Later.setCell ?_ (by simp; omega) _) | (with_reducible refine Later.setCell ?_ (by simp) _) | (with_reducible refine Later.drewN ?_ _) | (with_reducible refine Later.drew ?_) | (with_reducible refine Later.trans ?_ (Hid.out (by assumption))))), fr_later FX.out (by repeat (first | (with_reducible exact Later.refl _) | (with_reducible exact Hid.out (by assumption)) | (with_reducible refine Later.alloc ?_ _) | (with_reducible refine Later.setCell ?_ (by simp; omega) _) | (with_reducible refine Later.setCell ?_ (by simp) _) | (with_reducible refine Later.drewN ?_ _) | (with_reducible refine Later.drew ?_) | (with_reducible refine Later.trans ?_ (Hid.out (by assumption))))), (Later.cell (show Later W2 _ from (by repeat (first | (with_reducible exact Later.refl _) | (with_reducible exact Hid.out (by assumption)) | (with_reducible refine Later.alloc ?_ _) | (with_reducible refine Later.setCell ?_ (by simp; omega) _) | (with_reducible refine Later.setCell ?_ (by simp) _) | (with_reducible refine Later.drewN ?_ _) | (with_reducible refine Later.drew ?_) | (with_reducible refine Later.trans ?_ (Hid.out (by assumption)))))) (p := ⟨w.heap.size, 0, none⟩) (show w.heap.size < W2.heap.size by omega)).trans hc2⟩) ?_
          clear hK K
          have hL8 : Later w1 w8 := HW2.out.trans (by repeat (first | (with_reducible exact Later.refl _) | (with_reducible exact Hid.out (by assumption)) | (with_reducible refine Later.alloc ?_ _) | (with_reducible refine Later.setCell ?_ (by simp; omega) _) | (with_reducible refine Later.setCell ?_ (by simp) _) | (with_reducible refine Later.drewN ?_ _) | (with_reducible refine Later.drew ?_) | (with_reducible refine Later.trans ?_ (Hid.out (by assumption)))))
          have hF8 : Fr w1.heap.size A w8 := fr_later FA.out (by repeat (first | (with_reducible exact Later.refl _) | (with_reducible exact Hid.out (by assumption)) | (with_reducible refine Later.alloc ?_ _) | (with_reducible refine Later.setCell ?_ (by simp; omega) _) | (with_reducible refine Later.setCell ?_ (by simp) _) | (with_reducible refine Later.drewN ?_ _) | (with_reducible refine Later.drew ?_) | (with_reducible refine Later.trans ?_ (Hid.out (by assumption)))))
          refine wpTill_one (i := 7) (by kernel_rfl) rfl rfl fun K hK => ?_
          refine wp_store_mid _ _ _ rfl w1.heap.size 0 T.toArray rfl rfl (fr_there hF8 (by rw [List.size_toArray, hAl, hTl])) (by rw [List.size_toArray]; exact hiT) (all_oneCell_toArray hT1) ?_
          refine hK _ _ (fun h => by first | cases h | exact absurd h (by decide)) ?_
          clear hK K
          refine wpTill_end (by kernel_rfl) ?_
          refine NoPanic.normal ?_
          go_wp2_with fail
          go_roundw
          case rel => exact ⟨k + 1, by omega, by go_num, by rw [HTT.out]; exact fr_stored hF8 (by rw [hAl, hTl]), later_setCells hL8 (Nat.le_refl _) _ _⟩
          case measure => simp [intOf]; omega
        · obtain rfl : k = c' := by omega
          have hAl := setL_len (bsK L f' k)
          have hfr := HF.out
          have hLs := fun W => i_list (bsK L f' k) W
          generalize hA : setL (bsK L f' k) = A at *
          clear hA
          have hiA : (Try.prog.info? 104).map (·.size) = some A.length := by rw [hAl]; exact set_info
          have HFR := Lib.hid hfr
          clear hfr
          go_wp2_with (first | (go_at_call 69; refine (hLs _).mono ?_; rintro e w9 ⟨v, rfl, ho, hb⟩; have O9 := Lib.hid ho; have H9 := Lib.hid hb; clear ho hb) | (refine wpList_load_mid rfl _ _ rfl w1.heap.size 0 (by rfl) A _ (fr_range HFR.out) Try.underlying104 rfl hiA ?_))
          go_ret2
          exact ⟨_, by rw [E1.out]; rfl, by rw [E2.out]; exact Own.mono O9.out (by omega), (by repeat (first | (with_reducible exact Later.refl _) | (with_reducible exact Hid.out (by assumption)) | (with_reducible refine Later.alloc ?_ _) | (with_reducible refine Later.setCell ?_ (by simp; omega) _) | (with_reducible refine Later.setCell ?_ (by simp) _) | (with_reducible refine Later.drewN ?_ _) | (with_reducible refine Later.drew ?_) | (with_reducible refine Later.trans ?_ (Hid.out (by assumption)))))⟩
  · have E1 : Hid (biE L f c = sgE L f c) := Lib.hid (by unfold biE; rw [if_pos h0])
    have E2 : Hid (biV L f c = []) := Lib.hid (by unfold biV; rw [E1.out, if_neg h0])
    have hne : (sgE L f c != 0) = true := by simpa using h0
    generalize sgE L f c = z at *
    generalize sgV L f c = R at *
    clear h0
    go_enter Try.func32, Try.ntmps32
    go_wp2_with (go_at_call 43; refine (HG _ (HS.out.later (by repeat (first | (with_reducible exact Later.refl _) | (with_reducible exact Hid.out (by assumption)) | (with_reducible refine Later.alloc ?_ _) | (with_reducible refine Later.setCell ?_ (by simp; omega) _) | (with_reducible refine Later.setCell ?_ (by simp) _) | (with_reducible refine Later.drewN ?_ _) | (with_reducible refine Later.drew ?_) | (with_reducible refine Later.trans ?_ (Hid.out (by assumption))))))).mono ?_; rintro e w1 ⟨v, rfl, ho, hb⟩; have H1 := Lib.hid hb; clear hb ho)
    go_ret2
    exact ⟨.slice none 0 0, by rw [E1.out]; rfl, by rw [E2.out]; exact own_none0 _ _, (by repeat (first | (with_reducible exact Later.refl _) | (with_reducible exact Hid.out (by assumption)) | (with_reducible refine Later.alloc ?_ _) | (with_reducible refine Later.setCell ?_ (by simp; omega) _) | (with_reducible refine Later.setCell ?_ (by simp) _) | (with_reducible refine Later.drewN ?_ _) | (with_reducible refine Later.drew ?_) | (with_reducible refine Later.trans ?_ (Hid.out (by assumption)))))⟩
end Go.Proofs.Ytnmlkigpiaekjaa
