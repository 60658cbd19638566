/- Contracts of chapter 5: sensors that are covered or passed: the program's functions. -/
import Derived.Test.YtehinlecppbjeaaOcJ
namespace Go.Proofs.Ytehinlecppbjeaa
open Go.RowKit
set_option maxHeartbeats 4000000
set_option linter.unusedVariables false
set_option linter.unusedSimpArgs false
theorem onI_inR (S : List Int) (a b : Int) (k : Nat) (hk : k ≤ 1000000) : ∀ x ∈ onI S a b k, InR x := fun x hx => by have := onI_mem S a b k x hx; exact ⟨by omega, by omega⟩
set_option maxRecDepth 100000 in
theorem i_SensorsCovered (a : Option Addr) (n cap : Nat) (L : List Sg) (A : Option Addr) (m capF : Nat) (F : List Int) (p q : Int) (w : World) (hs : Sgs w a n L) (hf : Sl w A m F) (hp : InR p) :
    Calls Try.prog 45 #[.agg #[.slice a n cap], .slice A m capF, .int .i64 p, .int .i64 q] w (GivesC w (cvV L F p q) (cvE L F p q)) := by
  have HS := Lib.hid hs
  have HF := Lib.hid hf
  have HP := Lib.hid hp
  have HM := Lib.hid hf.1
  clear hs hf hp
  cases hv : senB L F
  · have HT : Hid (cvV L F p q = [] ∧ cvE L F p q = 1) := Lib.hid (by
      have : cvE L F p q = 1 := by unfold cvE; rw [hv]; simp
      unfold cvV; rw [this]; simp)
    have HE : Hid (tsV L F = 0 ∧ tsE L F = 1) := Lib.hid (by unfold tsV tsE; rw [hv]; simp)
    go_enter Try.func45, Try.ntmps45
    go_wp2_with (go_at_call 97; refine (i_trackOfSensors a n cap L A m capF F _ (HS.out.later (by repeat (first | (with_reducible exact Later.refl _) | (with_reducible exact Hid.out (by assumption)) | (with_reducible refine Later.alloc ?_ _) | (with_reducible refine Later.setCell ?_ (by simp; omega) _) | (with_reducible refine Later.setCell ?_ (by simp) _) | (with_reducible refine Later.drewN ?_ _) | (with_reducible refine Later.drew ?_) | (with_reducible refine Later.trans ?_ (Hid.out (by assumption)))))) (sl_lat HF.out (by repeat (first | (with_reducible exact Later.refl _) | (with_reducible exact Hid.out (by assumption)) | (with_reducible refine Later.alloc ?_ _) | (with_reducible refine Later.setCell ?_ (by simp; omega) _) | (with_reducible refine Later.setCell ?_ (by simp) _) | (with_reducible refine Later.drewN ?_ _) | (with_reducible refine Later.drew ?_) | (with_reducible refine Later.trans ?_ (Hid.out (by assumption))))))).mono ?_; rw [HE.out.1, HE.out.2]; rintro e w1 ⟨rfl, hb⟩; have H1 := Lib.hid hb; clear hb)
    go_ret2
    exact ⟨.slice none 0 0, by rw [HT.out.2]; rfl, by rw [HT.out.1]; exact own_none _ _, (by repeat (first | (with_reducible exact Later.refl _) | (with_reducible exact Hid.out (by assumption)) | (with_reducible refine Later.alloc ?_ _) | (with_reducible refine Later.setCell ?_ (by simp; omega) _) | (with_reducible refine Later.setCell ?_ (by simp) _) | (with_reducible refine Later.drewN ?_ _) | (with_reducible refine Later.drew ?_) | (with_reducible refine Later.trans ?_ (Hid.out (by assumption)))))⟩
  obtain ⟨hl, h32, hr⟩ := (senB_iff L F).1 hv
  obtain ⟨t1, t2⟩ := tot_bd hl
  have HE : Hid (tsV L F = totL L ∧ tsE L F = 0) := Lib.hid (by unfold tsV tsE; rw [hv]; simp)
  have HO : ∀ (w0 : World) (T : TypeId), Hid (Sl (w0.alloc (.cells #[.int .i64 p] T)) (some ⟨w0.heap.size, 0, none⟩) 1 [p]) := fun w0 T => Lib.hid (sl_one w0 T p HP.out)
  have HO := Lib.hid HO
  rw [HM.out] at h32
  cases hc : trsB (totL L) q [p]
  · have HT : Hid (cvV L F p q = [] ∧ cvE L F p q = 2) := Lib.hid (by
      have : cvE L F p q = 2 := by unfold cvE trE; rw [hv, hl, hc]; simp
      unfold cvV; rw [this]; simp)
    go_enter Try.func45, Try.ntmps45
    go_wp2_with (first
      | (go_at_call 97; refine (i_trackOfSensors a n cap L A m capF F _ (HS.out.later (by repeat (first | (with_reducible exact Later.refl _) | (with_reducible exact Hid.out (by assumption)) | (with_reducible refine Later.alloc ?_ _) | (with_reducible refine Later.setCell ?_ (by simp; omega) _) | (with_reducible refine Later.setCell ?_ (by simp) _) | (with_reducible refine Later.drewN ?_ _) | (with_reducible refine Later.drew ?_) | (with_reducible refine Later.trans ?_ (Hid.out (by assumption)))))) (sl_lat HF.out (by repeat (first | (with_reducible exact Later.refl _) | (with_reducible exact Hid.out (by assumption)) | (with_reducible refine Later.alloc ?_ _) | (with_reducible refine Later.setCell ?_ (by simp; omega) _) | (with_reducible refine Later.setCell ?_ (by simp) _) | (with_reducible refine Later.drewN ?_ _) | (with_reducible refine Later.drew ?_) | (with_reducible refine Later.trans ?_ (Hid.out (by assumption))))))).mono ?_; rw [HE.out.1, HE.out.2]; rintro e w1 ⟨rfl, hb⟩; have H1 := Lib.hid hb; clear hb)
      | (go_at_call 75; refine (i_areTrains (totL L) q _ 1 1 [p] _ (HO.out _ _).out).mono ?_; rw [hc]; rintro e w' ⟨rfl, rfl⟩))
    go_ret2
    exact ⟨.slice none 0 0, by rw [HT.out.2]; rfl, by rw [HT.out.1]; exact own_none _ _, (by repeat (first | (with_reducible exact Later.refl _) | (with_reducible exact Hid.out (by assumption)) | (with_reducible refine Later.alloc ?_ _) | (with_reducible refine Later.setCell ?_ (by simp; omega) _) | (with_reducible refine Later.setCell ?_ (by simp) _) | (with_reducible refine Later.drewN ?_ _) | (with_reducible refine Later.drew ?_) | (with_reducible refine Later.trans ?_ (Hid.out (by assumption)))))⟩
  · have hx := hc
    rw [trsB_one, Bool.and_eq_true, isN_iff, isP_iff] at hx
    obtain ⟨⟨q1, q2, q3⟩, p1, p2⟩ := hx
    have HT : Hid (cvV L F p q = onI F 0 (rearK (totL L) p q + q - 1 - totL L) m ++ onI F (rearK (totL L) p q) (min (rearK (totL L) p q + q - 1) (totL L - 1)) m ∧ cvE L F p q = 0) := Lib.hid (by
      have e : cvE L F p q = 0 := by unfold cvE trE; rw [hv, hl, hc]; simp
      refine ⟨?_, e⟩
      unfold cvV; rw [if_pos e, ← HM.out, cv_parts hr ⟨p1, p2⟩ ⟨q1, q3⟩])
    obtain ⟨r1, r2⟩ : 0 ≤ rearK (totL L) p q ∧ rearK (totL L) p q < totL L := mod_rng _ _ (by omega)
    generalize hr : rearK (totL L) p q = r at r1 r2 HT
    have HR := Lib.hid hr
    clear hr
    go_enter Try.func45, Try.ntmps45
    go_upto_region 7 with (first
      | (go_at_call 97; refine (i_trackOfSensors a n cap L A m capF F _ (HS.out.later (by repeat (first | (with_reducible exact Later.refl _) | (with_reducible exact Hid.out (by assumption)) | (with_reducible refine Later.alloc ?_ _) | (with_reducible refine Later.setCell ?_ (by simp; omega) _) | (with_reducible refine Later.setCell ?_ (by simp) _) | (with_reducible refine Later.drewN ?_ _) | (with_reducible refine Later.drew ?_) | (with_reducible refine Later.trans ?_ (Hid.out (by assumption)))))) (sl_lat HF.out (by repeat (first | (with_reducible exact Later.refl _) | (with_reducible exact Hid.out (by assumption)) | (with_reducible refine Later.alloc ?_ _) | (with_reducible refine Later.setCell ?_ (by simp; omega) _) | (with_reducible refine Later.setCell ?_ (by simp) _) | (with_reducible refine Later.drewN ?_ _) | (with_reducible refine Later.drew ?_) | (with_reducible refine Later.trans ?_ (Hid.out (by assumption))))))).mono ?_; rw [HE.out.1, HE.out.2]; rintro e w1 ⟨rfl, hb⟩; have H1 := Lib.hid hb; clear hb)
      | (go_at_call 75; refine (i_areTrains (totL L) q _ 1 1 [p] _ (HO.out _ _).out).mono ?_; rw [hc]; rintro e w' ⟨rfl, rfl⟩)
      | (go_at_call 102; refine (i_coveredParts (totL L) p q _ (by omega) t2 p1 p2 q1 q3).mono ?_; rw [HR.out]; rintro e w2 ⟨rfl, hb⟩; have H2 := Lib.hid hb; clear hb))
    have HD0 : Hid (∀ x y : Nat, x = y → x = y) := Lib.hid (fun _ _ h => h)
    have L2 : Hid (Later w w2) := Lib.hid (by repeat (first | (with_reducible exact Later.refl _) | (with_reducible exact Hid.out (by assumption)) | (with_reducible refine Later.alloc ?_ _) | (with_reducible refine Later.setCell ?_ (by simp; omega) _) | (with_reducible refine Later.setCell ?_ (by simp) _) | (with_reducible refine Later.drewN ?_ _) | (with_reducible refine Later.drew ?_) | (with_reducible refine Later.trans ?_ (Hid.out (by assumption)))))
    obtain ⟨z1, hz1⟩ : ∃ z1, z1 = min (r + q - 1) (totL L - 1) := ⟨_, rfl⟩
    obtain ⟨z2, hz2⟩ : ∃ z2, z2 = r + q - 1 - totL L := ⟨_, rfl⟩
    rw [← hz1, ← hz2] at HT ⊢
    obtain ⟨B, hB⟩ : ∃ B, B = w2.heap.size := ⟨_, rfl⟩
    have HBB := Lib.hid hB
    refine into (fun W => W.cell? ⟨B, 0, none⟩ = some (.int .i64 r) ∧ W.cell? ⟨B, 1, none⟩ = some (.int .i64 z1) ∧ W.cell? ⟨B + 1, 0, none⟩ = some (.int .i64 0) ∧ W.cell? ⟨B + 1, 1, none⟩ = some (.int .i64 z2) ∧ Later w W) (by subst hB; exact ⟨by simp, by simp, by rw [show w2.heap.size + 1 = (w2.alloc (.cells #[.int .i64 r, .int .i64 z1] 91)).heap.size by simp, cell_of_row _ _ 0 _ _ (0, 0) (heap_alloc_new _ _)]; rfl, by rw [show w2.heap.size + 1 = (w2.alloc (.cells #[.int .i64 r, .int .i64 z1] 91)).heap.size by simp, cell_of_row _ _ 1 _ _ (0, 0) (heap_alloc_new _ _)]; rfl, (by repeat (first | (with_reducible exact Later.refl _) | (with_reducible exact Hid.out (by assumption)) | (with_reducible refine Later.alloc ?_ _) | (with_reducible refine Later.setCell ?_ (by simp; omega) _) | (with_reducible refine Later.setCell ?_ (by simp) _) | (with_reducible refine Later.drewN ?_ _) | (with_reducible refine Later.drew ?_) | (with_reducible refine Later.trans ?_ (Hid.out (by assumption)))))⟩) ?_
    rw [← hB]
    rintro W ⟨c0, c1, c2, c3, hW⟩
    have HW := Lib.hid hW
    have b0 := cell_lt c0
    have b1 := cell_lt c2
    have K := Lib.hid (show W.cell? ⟨B, 0, none⟩ = some (.int .i64 r) ∧ W.cell? ⟨B, 1, none⟩ = some (.int .i64 z1) ∧ W.cell? ⟨B + 1, 0, none⟩ = some (.int .i64 0) ∧ W.cell? ⟨B + 1, 1, none⟩ = some (.int .i64 z2) from ⟨c0, c1, c2, c3⟩)
    have KL : Hid (∀ W', Later W W' → W'.cell? ⟨B, 0, none⟩ = some (.int .i64 r) ∧ W'.cell? ⟨B, 1, none⟩ = some (.int .i64 z1) ∧ W'.cell? ⟨B + 1, 0, none⟩ = some (.int .i64 0) ∧ W'.cell? ⟨B + 1, 1, none⟩ = some (.int .i64 z2)) := Lib.hid (fun W' k => ⟨by rw [k.cell (p := ⟨B, 0, none⟩) b0]; exact K.out.1, by rw [k.cell (p := ⟨B, 1, none⟩) b0]; exact K.out.2.1, by rw [k.cell (p := ⟨B + 1, 0, none⟩) b1]; exact K.out.2.2.1, by rw [k.cell (p := ⟨B + 1, 1, none⟩) b1]; exact K.out.2.2.2⟩)
    clear hW hB hz1 hz2 HD0
    go_region_held3 (fun w' => w'.cell? ⟨B, 0, none⟩ = some (.int .i64 r) ∧ w'.cell? ⟨B, 1, none⟩ = some (.int .i64 z1) ∧ w'.cell? ⟨B + 1, 0, none⟩ = some (.int .i64 0) ∧ w'.cell? ⟨B + 1, 1, none⟩ = some (.int .i64 z2)) (exact KL.out _ (by repeat (first | (with_reducible exact Later.refl _) | (with_reducible exact Hid.out (by assumption)) | (with_reducible refine Later.alloc ?_ _) | (with_reducible refine Later.setCell ?_ (by simp; omega) _) | (with_reducible refine Later.setCell ?_ (by simp) _) | (with_reducible refine Later.drewN ?_ _) | (with_reducible refine Later.drew ?_) | (with_reducible refine Later.trans ?_ (Hid.out (by assumption))))))
      (first
        | (go_at_call 100; refine (i_sensorsOn A m capF F _ _ _ (sl_lat HF.out (by repeat (first | (with_reducible exact Later.refl _) | (with_reducible exact Hid.out (by assumption)) | (with_reducible refine Later.alloc ?_ _) | (with_reducible refine Later.setCell ?_ (by simp; omega) _) | (with_reducible refine Later.setCell ?_ (by simp) _) | (with_reducible refine Later.drewN ?_ _) | (with_reducible refine Later.drew ?_) | (with_reducible refine Later.trans ?_ (Hid.out (by assumption)))))) (by omega)).mono ?_; rintro e wa ⟨va, rfl, ho, hb⟩; have HA := Lib.hid hb; have RA := Lib.hid ho.rd; obtain ⟨sa, ka, rfl, _, _⟩ := ho.rd; clear hb ho)
        | (go_at_call 99; refine (i_joined_at _ _ _ _ _ _ (Rd.later (Hid.out (by assumption)) (by repeat (first | (with_reducible exact Later.refl _) | (with_reducible exact Hid.out (by assumption)) | (with_reducible refine Later.alloc ?_ _) | (with_reducible refine Later.setCell ?_ (by simp; omega) _) | (with_reducible refine Later.setCell ?_ (by simp) _) | (with_reducible refine Later.drewN ?_ _) | (with_reducible refine Later.drew ?_) | (with_reducible refine Later.trans ?_ (Hid.out (by assumption)))))) (Rd.later (Hid.out (by assumption)) (by repeat (first | (with_reducible exact Later.refl _) | (with_reducible exact Hid.out (by assumption)) | (with_reducible refine Later.alloc ?_ _) | (with_reducible refine Later.setCell ?_ (by simp; omega) _) | (with_reducible refine Later.setCell ?_ (by simp) _) | (with_reducible refine Later.drewN ?_ _) | (with_reducible refine Later.drew ?_) | (with_reducible refine Later.trans ?_ (Hid.out (by assumption)))))) (Nat.le_trans (onI_len _ _ _ _) (by omega)) (Nat.le_trans (onI_len _ _ _ _) (by omega))).mono ?_; rintro e wj ⟨vj, rfl, ho, hb⟩; have HJ := Lib.hid hb; have OJ := Lib.hid ho; clear hb ho))
    all_goals
      have HB : Hid (Later w wj) := Lib.hid (by repeat (first | (with_reducible exact Later.refl _) | (with_reducible exact Hid.out (by assumption)) | (with_reducible refine Later.alloc ?_ _) | (with_reducible refine Later.setCell ?_ (by simp; omega) _) | (with_reducible refine Later.setCell ?_ (by simp) _) | (with_reducible refine Later.drewN ?_ _) | (with_reducible refine Later.drew ?_) | (with_reducible refine Later.trans ?_ (Hid.out (by assumption)))))
      go_wp2_with fail
      go_ret2
      exact ⟨vj, by rw [HT.out.2]; rfl, by rw [HT.out.1]; exact OJ.out.mono (show Later w _ from (by repeat (first | (with_reducible exact Later.refl _) | (with_reducible exact Hid.out (by assumption)) | (with_reducible refine Later.alloc ?_ _) | (with_reducible refine Later.setCell ?_ (by simp; omega) _) | (with_reducible refine Later.setCell ?_ (by simp) _) | (with_reducible refine Later.drewN ?_ _) | (with_reducible refine Later.drew ?_) | (with_reducible refine Later.trans ?_ (Hid.out (by assumption)))))).size, HB.out⟩
set_option maxRecDepth 100000 in
theorem i_SensorsPassed (a : Option Addr) (n cap : Nat) (L : List Sg) (A : Option Addr) (m capF : Nat) (F : List Int) (p q : Int) (w : World) (hs : Sgs w a n L) (hf : Sl w A m F) :
    Calls Try.prog 42 #[.agg #[.slice a n cap], .slice A m capF, .int .i64 p, .int .i64 q] w (GivesC w (psV L F p q) (psE L F p q)) := by
  have HS := Lib.hid hs
  have HF := Lib.hid hf
  have HM := Lib.hid hf.1
  clear hs hf
  cases hv : senB L F
  · have HT : Hid (psV L F p q = [] ∧ psE L F p q = 1) := Lib.hid (by
      have : psE L F p q = 1 := by unfold psE; rw [hv]; simp
      unfold psV; rw [this]; simp)
    have HE : Hid (tsV L F = 0 ∧ tsE L F = 1) := Lib.hid (by unfold tsV tsE; rw [hv]; simp)
    go_enter Try.func42, Try.ntmps42
    go_wp2_with (go_at_call 97; refine (i_trackOfSensors a n cap L A m capF F _ (HS.out.later (by repeat (first | (with_reducible exact Later.refl _) | (with_reducible exact Hid.out (by assumption)) | (with_reducible refine Later.alloc ?_ _) | (with_reducible refine Later.setCell ?_ (by simp; omega) _) | (with_reducible refine Later.setCell ?_ (by simp) _) | (with_reducible refine Later.drewN ?_ _) | (with_reducible refine Later.drew ?_) | (with_reducible refine Later.trans ?_ (Hid.out (by assumption)))))) (sl_lat HF.out (by repeat (first | (with_reducible exact Later.refl _) | (with_reducible exact Hid.out (by assumption)) | (with_reducible refine Later.alloc ?_ _) | (with_reducible refine Later.setCell ?_ (by simp; omega) _) | (with_reducible refine Later.setCell ?_ (by simp) _) | (with_reducible refine Later.drewN ?_ _) | (with_reducible refine Later.drew ?_) | (with_reducible refine Later.trans ?_ (Hid.out (by assumption))))))).mono ?_; rw [HE.out.1, HE.out.2]; rintro e w1 ⟨rfl, hb⟩; have H1 := Lib.hid hb; clear hb)
    go_ret2
    exact ⟨.slice none 0 0, by rw [HT.out.2]; rfl, by rw [HT.out.1]; exact own_none _ _, (by repeat (first | (with_reducible exact Later.refl _) | (with_reducible exact Hid.out (by assumption)) | (with_reducible refine Later.alloc ?_ _) | (with_reducible refine Later.setCell ?_ (by simp; omega) _) | (with_reducible refine Later.setCell ?_ (by simp) _) | (with_reducible refine Later.drewN ?_ _) | (with_reducible refine Later.drew ?_) | (with_reducible refine Later.trans ?_ (Hid.out (by assumption)))))⟩
  obtain ⟨hl, h32, hr⟩ := (senB_iff L F).1 hv
  obtain ⟨t1, t2⟩ := tot_bd hl
  have HE : Hid (tsV L F = totL L ∧ tsE L F = 0) := Lib.hid (by unfold tsV tsE; rw [hv]; simp)
  rw [HM.out] at h32
  cases hc : mvB (totL L) p q
  · have HT : Hid (psV L F p q = [] ∧ psE L F p q = 2) := Lib.hid (by
      have : psE L F p q = 2 := by unfold psE mvE; rw [hv, hl, hc]; simp
      unfold psV; rw [this]; simp)
    go_enter Try.func42, Try.ntmps42
    go_wp2_with (first
      | (go_at_call 97; refine (i_trackOfSensors a n cap L A m capF F _ (HS.out.later (by repeat (first | (with_reducible exact Later.refl _) | (with_reducible exact Hid.out (by assumption)) | (with_reducible refine Later.alloc ?_ _) | (with_reducible refine Later.setCell ?_ (by simp; omega) _) | (with_reducible refine Later.setCell ?_ (by simp) _) | (with_reducible refine Later.drewN ?_ _) | (with_reducible refine Later.drew ?_) | (with_reducible refine Later.trans ?_ (Hid.out (by assumption)))))) (sl_lat HF.out (by repeat (first | (with_reducible exact Later.refl _) | (with_reducible exact Hid.out (by assumption)) | (with_reducible refine Later.alloc ?_ _) | (with_reducible refine Later.setCell ?_ (by simp; omega) _) | (with_reducible refine Later.setCell ?_ (by simp) _) | (with_reducible refine Later.drewN ?_ _) | (with_reducible refine Later.drew ?_) | (with_reducible refine Later.trans ?_ (Hid.out (by assumption))))))).mono ?_; rw [HE.out.1, HE.out.2]; rintro e w1 ⟨rfl, hb⟩; have H1 := Lib.hid hb; clear hb)
      | (go_at_call 70; refine (i_isMove (totL L) p q _).mono ?_; rw [hc]; rintro e w' ⟨rfl, rfl⟩))
    go_ret2
    exact ⟨.slice none 0 0, by rw [HT.out.2]; rfl, by rw [HT.out.1]; exact own_none _ _, (by repeat (first | (with_reducible exact Later.refl _) | (with_reducible exact Hid.out (by assumption)) | (with_reducible refine Later.alloc ?_ _) | (with_reducible refine Later.setCell ?_ (by simp; omega) _) | (with_reducible refine Later.setCell ?_ (by simp) _) | (with_reducible refine Later.drewN ?_ _) | (with_reducible refine Later.drew ?_) | (with_reducible refine Later.trans ?_ (Hid.out (by assumption)))))⟩
  · have hx := hc
    rw [mvB_iff] at hx
    obtain ⟨⟨p1, p2⟩, q1, q2⟩ := hx
    have HT : Hid (psV L F p q = onI F (p + 1) (min (p + q) (totL L - 1)) m ++ onI F 0 (p + q - totL L) m ∧ psE L F p q = 0) := Lib.hid (by
      have e : psE L F p q = 0 := by unfold psE mvE; rw [hv, hl, hc]; simp
      refine ⟨?_, e⟩
      unfold psV; rw [if_pos e, ← HM.out]; rfl)
    have he1 : p + 1 + q - 1 = p + q := by omega
    have HE1 := Lib.hid he1
    clear he1
    go_enter Try.func42, Try.ntmps42
    go_upto_region 7 with (first
      | (go_at_call 97; refine (i_trackOfSensors a n cap L A m capF F _ (HS.out.later (by repeat (first | (with_reducible exact Later.refl _) | (with_reducible exact Hid.out (by assumption)) | (with_reducible refine Later.alloc ?_ _) | (with_reducible refine Later.setCell ?_ (by simp; omega) _) | (with_reducible refine Later.setCell ?_ (by simp) _) | (with_reducible refine Later.drewN ?_ _) | (with_reducible refine Later.drew ?_) | (with_reducible refine Later.trans ?_ (Hid.out (by assumption)))))) (sl_lat HF.out (by repeat (first | (with_reducible exact Later.refl _) | (with_reducible exact Hid.out (by assumption)) | (with_reducible refine Later.alloc ?_ _) | (with_reducible refine Later.setCell ?_ (by simp; omega) _) | (with_reducible refine Later.setCell ?_ (by simp) _) | (with_reducible refine Later.drewN ?_ _) | (with_reducible refine Later.drew ?_) | (with_reducible refine Later.trans ?_ (Hid.out (by assumption))))))).mono ?_; rw [HE.out.1, HE.out.2]; rintro e w1 ⟨rfl, hb⟩; have H1 := Lib.hid hb; clear hb)
      | (go_at_call 70; refine (i_isMove (totL L) p q _).mono ?_; rw [hc]; rintro e w' ⟨rfl, rfl⟩)
      | (go_at_call 98; refine (i_partsOf (totL L) (p + 1) q _ (by omega) t2 (by omega) (by omega) q1 q2).mono ?_; rw [HE1.out]; rintro e w2 ⟨rfl, hb⟩; have H2 := Lib.hid hb; clear hb))
    have HD0 : Hid (∀ x y : Nat, x = y → x = y) := Lib.hid (fun _ _ h => h)
    have L2 : Hid (Later w w2) := Lib.hid (by repeat (first | (with_reducible exact Later.refl _) | (with_reducible exact Hid.out (by assumption)) | (with_reducible refine Later.alloc ?_ _) | (with_reducible refine Later.setCell ?_ (by simp; omega) _) | (with_reducible refine Later.setCell ?_ (by simp) _) | (with_reducible refine Later.drewN ?_ _) | (with_reducible refine Later.drew ?_) | (with_reducible refine Later.trans ?_ (Hid.out (by assumption)))))
    obtain ⟨z1, hz1⟩ : ∃ z1, z1 = min (p + q) (totL L - 1) := ⟨_, rfl⟩
    obtain ⟨z2, hz2⟩ : ∃ z2, z2 = p + q - totL L := ⟨_, rfl⟩
    rw [← hz1, ← hz2] at HT ⊢
    obtain ⟨B, hB⟩ : ∃ B, B = w2.heap.size := ⟨_, rfl⟩
    have HBB := Lib.hid hB
    refine into (fun W => W.cell? ⟨B, 0, none⟩ = some (.int .i64 (p + 1)) ∧ W.cell? ⟨B, 1, none⟩ = some (.int .i64 z1) ∧ W.cell? ⟨B + 1, 0, none⟩ = some (.int .i64 0) ∧ W.cell? ⟨B + 1, 1, none⟩ = some (.int .i64 z2) ∧ Later w W) (by subst hB; exact ⟨by simp, by simp, by rw [show w2.heap.size + 1 = (w2.alloc (.cells #[.int .i64 (p + 1), .int .i64 z1] 91)).heap.size by simp, cell_of_row _ _ 0 _ _ (0, 0) (heap_alloc_new _ _)]; rfl, by rw [show w2.heap.size + 1 = (w2.alloc (.cells #[.int .i64 (p + 1), .int .i64 z1] 91)).heap.size by simp, cell_of_row _ _ 1 _ _ (0, 0) (heap_alloc_new _ _)]; rfl, (by repeat (first | (with_reducible exact Later.refl _) | (with_reducible exact Hid.out (by assumption)) | (with_reducible refine Later.alloc ?_ _) | (with_reducible refine Later.setCell ?_ (by simp; omega) _) | (with_reducible refine Later.setCell ?_ (by simp) _) | (with_reducible refine Later.drewN ?_ _) | (with_reducible refine Later.drew ?_) | (with_reducible refine Later.trans ?_ (Hid.out (by assumption)))))⟩) ?_
    rw [← hB]
    rintro W ⟨c0, c1, c2, c3, hW⟩
    have HW := Lib.hid hW
    have b0 := cell_lt c0
    have b1 := cell_lt c2
    have K := Lib.hid (show W.cell? ⟨B, 0, none⟩ = some (.int .i64 (p + 1)) ∧ W.cell? ⟨B, 1, none⟩ = some (.int .i64 z1) ∧ W.cell? ⟨B + 1, 0, none⟩ = some (.int .i64 0) ∧ W.cell? ⟨B + 1, 1, none⟩ = some (.int .i64 z2) from ⟨c0, c1, c2, c3⟩)
    have KL : Hid (∀ W', Later W W' → W'.cell? ⟨B, 0, none⟩ = some (.int .i64 (p + 1)) ∧ W'.cell? ⟨B, 1, none⟩ = some (.int .i64 z1) ∧ W'.cell? ⟨B + 1, 0, none⟩ = some (.int .i64 0) ∧ W'.cell? ⟨B + 1, 1, none⟩ = some (.int .i64 z2)) := Lib.hid (fun W' k => ⟨by rw [k.cell (p := ⟨B, 0, none⟩) b0]; exact K.out.1, by rw [k.cell (p := ⟨B, 1, none⟩) b0]; exact K.out.2.1, by rw [k.cell (p := ⟨B + 1, 0, none⟩) b1]; exact K.out.2.2.1, by rw [k.cell (p := ⟨B + 1, 1, none⟩) b1]; exact K.out.2.2.2⟩)
    clear hW hB hz1 hz2 HD0
    go_region_held3 (fun w' => w'.cell? ⟨B, 0, none⟩ = some (.int .i64 (p + 1)) ∧ w'.cell? ⟨B, 1, none⟩ = some (.int .i64 z1) ∧ w'.cell? ⟨B + 1, 0, none⟩ = some (.int .i64 0) ∧ w'.cell? ⟨B + 1, 1, none⟩ = some (.int .i64 z2)) (exact KL.out _ (by repeat (first | (with_reducible exact Later.refl _) | (with_reducible exact Hid.out (by assumption)) | (with_reducible refine Later.alloc ?_ _) | (with_reducible refine Later.setCell ?_ (by simp; omega) _) | (with_reducible refine Later.setCell ?_ (by simp) _) | (with_reducible refine Later.drewN ?_ _) | (with_reducible refine Later.drew ?_) | (with_reducible refine Later.trans ?_ (Hid.out (by assumption))))))
      (first
        | (go_at_call 100; refine (i_sensorsOn A m capF F _ _ _ (sl_lat HF.out (by repeat (first | (with_reducible exact Later.refl _) | (with_reducible exact Hid.out (by assumption)) | (with_reducible refine Later.alloc ?_ _) | (with_reducible refine Later.setCell ?_ (by simp; omega) _) | (with_reducible refine Later.setCell ?_ (by simp) _) | (with_reducible refine Later.drewN ?_ _) | (with_reducible refine Later.drew ?_) | (with_reducible refine Later.trans ?_ (Hid.out (by assumption)))))) (by omega)).mono ?_; rintro e wa ⟨va, rfl, ho, hb⟩; have HA := Lib.hid hb; have RA := Lib.hid ho.rd; obtain ⟨sa, ka, rfl, _, _⟩ := ho.rd; clear hb ho)
        | (go_at_call 99; refine (i_joined_at _ _ _ _ _ _ (Rd.later (Hid.out (by assumption)) (by repeat (first | (with_reducible exact Later.refl _) | (with_reducible exact Hid.out (by assumption)) | (with_reducible refine Later.alloc ?_ _) | (with_reducible refine Later.setCell ?_ (by simp; omega) _) | (with_reducible refine Later.setCell ?_ (by simp) _) | (with_reducible refine Later.drewN ?_ _) | (with_reducible refine Later.drew ?_) | (with_reducible refine Later.trans ?_ (Hid.out (by assumption)))))) (Rd.later (Hid.out (by assumption)) (by repeat (first | (with_reducible exact Later.refl _) | (with_reducible exact Hid.out (by assumption)) | (with_reducible refine Later.alloc ?_ _) | (with_reducible refine Later.setCell ?_ (by simp; omega) _) | (with_reducible refine Later.setCell ?_ (by simp) _) | (with_reducible refine Later.drewN ?_ _) | (with_reducible refine Later.drew ?_) | (with_reducible refine Later.trans ?_ (Hid.out (by assumption)))))) (Nat.le_trans (onI_len _ _ _ _) (by omega)) (Nat.le_trans (onI_len _ _ _ _) (by omega))).mono ?_; rintro e wj ⟨vj, rfl, ho, hb⟩; have HJ := Lib.hid hb; have OJ := Lib.hid ho; clear hb ho))
    all_goals
      have HB : Hid (Later w wj) := Lib.hid (by repeat (first | (with_reducible exact Later.refl _) | (with_reducible exact Hid.out (by assumption)) | (with_reducible refine Later.alloc ?_ _) | (with_reducible refine Later.setCell ?_ (by simp; omega) _) | (with_reducible refine Later.setCell ?_ (by simp) _) | (with_reducible refine Later.drewN ?_ _) | (with_reducible refine Later.drew ?_) | (with_reducible refine Later.trans ?_ (Hid.out (by assumption)))))
      go_wp2_with fail
      go_ret2
      exact ⟨vj, by rw [HT.out.2]; rfl, by rw [HT.out.1]; exact OJ.out.mono (show Later w _ from (by repeat (first | (with_reducible exact Later.refl _) | (with_reducible exact Hid.out (by assumption)) | (with_reducible refine Later.alloc ?_ _) | (with_reducible refine Later.setCell ?_ (by simp; omega) _) | (with_reducible refine Later.setCell ?_ (by simp) _) | (with_reducible refine Later.drewN ?_ _) | (with_reducible refine Later.drew ?_) | (with_reducible refine Later.trans ?_ (Hid.out (by assumption)))))).size, HB.out⟩
end Go.Proofs.Ytehinlecppbjeaa
