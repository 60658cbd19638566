/- Contracts of chapter 4: the model's functions. -/
import Derived.Test.YtdhoiiejcmnmbaaBkA
import Derived.Test.YtdhoiiejcmnmbaaSg2H
import Derived.Test.YtdhoiiejcmnmbaaSgU
import Derived.Test.YtdhoiiejcmnmbaaSgUT
import Derived.Test.YtdhoiiejcmnmbaaSgV
import Derived.Test.YtdhoiiejcmnmbaaSgW
import Derived.Test.YtdhoiiejcmnmbaaHeld
import Derived.Laws.OwnMore
import Derived.IntWalk
namespace Go.Proofs.Ytdhoiiejcmnmbaa
open Go.RowKit
set_option maxHeartbeats 4000000
set_option linter.unusedVariables false
set_option linter.unusedSimpArgs false
/-- a segment of a valid layout holds by its kind -/
theorem hld_kind {L : List Sg} (hv : layB L = true) (q : Nat) (hq : q < L.length) : (decide ((sx L q).k = 1) || decide ((sx L q).k = 3) || decide ((sx L q).k = 4)) = hldB (sx L q) := by
  unfold hldB
  rw [okB_at L L.length q (Nat.le_refl _) hq ((layB_iff L).1 hv).2.2.1]
  simp
theorem s_holds_at {L : List Sg} (hv : layB L = true) (q : Nat) (hq : q < L.length) (w : World) : Calls Try.prog 134 #[.agg #[.int .i64 (sx L q).k, .int .i64 (sx L q).l, .int .i64 (sx L q).r, .int .i64 (sx L q).a, .int .i64 (sx L q).b, .int .i64 (sx L q).c, .int .i64 (sx L q).d]] w fun e w' => e = .returned (.bool (hldB (sx L q))) ∧ Later w w' := by
  have := s_l03Holds (sx L q) w
  rwa [hld_kind hv q hq] at this
theorem s_RisesL (a : Option Addr) (n cap : Nat) (l : List Int) (m : Int) (w : World) (hs : Sl w a n l) :
    Calls Try.prog 108 #[.slice a n cap, .int .i64 m] w fun e w' => e = .returned (.bool (risB l m)) ∧ Later w w' :=
  (s_Rises a n cap l m w hs).mono fun e w' ⟨he, q, hq⟩ => ⟨he, by rw [hq]; exact (Later.refl _).drewN q⟩
theorem SgAt.later0 {w w' : World} {b o : Nat} {x : Sg} (h : SgAt w b o x) (k : Later w w') : SgAt w' b o x := by
  obtain ⟨h0, h1, h2, h3, h4, h5, h6⟩ := h
  have hb := sg_cell_lt h0
  refine ⟨?_, ?_, ?_, ?_, ?_, ?_, ?_⟩
  · rw [k.cell (p := ⟨b, o, none⟩) hb]; exact h0
  · rw [k.cell (p := ⟨b, o + 1, none⟩) hb]; exact h1
  · rw [k.cell (p := ⟨b, o + 2, none⟩) hb]; exact h2
  · rw [k.cell (p := ⟨b, o + 3, none⟩) hb]; exact h3
  · rw [k.cell (p := ⟨b, o + 4, none⟩) hb]; exact h4
  · rw [k.cell (p := ⟨b, o + 5, none⟩) hb]; exact h5
  · rw [k.cell (p := ⟨b, o + 6, none⟩) hb]; exact h6
/-- a box, an element of a list, a segment: what one round reads -/
def Nine (w : World) (B : Nat) (a : Option Addr) (n cap : Nat) (bF oF : Nat) (v : Int) (b o : Nat) (x : Sg) : Prop :=
  w.cell? ⟨B, 0, none⟩ = some (.slice a n cap) ∧ w.cell? ⟨bF, oF, none⟩ = some (.int .i64 v) ∧ w.cell? ⟨b, o, none⟩ = some (.int .i64 x.k) ∧ w.cell? ⟨b, o + 1, none⟩ = some (.int .i64 x.l) ∧ w.cell? ⟨b, o + 2, none⟩ = some (.int .i64 x.r) ∧ w.cell? ⟨b, o + 3, none⟩ = some (.int .i64 x.a) ∧ w.cell? ⟨b, o + 4, none⟩ = some (.int .i64 x.b) ∧ w.cell? ⟨b, o + 5, none⟩ = some (.int .i64 x.c) ∧ w.cell? ⟨b, o + 6, none⟩ = some (.int .i64 x.d)
theorem Nine.later {w w' : World} {B : Nat} {a : Option Addr} {n cap : Nat} {bF oF : Nat} {v : Int} {b o : Nat} {x : Sg} (h : Nine w B a n cap bF oF v b o x) (k : Later w w') : Nine w' B a n cap bF oF v b o x := by
  obtain ⟨h0, h1, h2⟩ := h
  refine ⟨by rw [k.cell (p := ⟨B, 0, none⟩) (cell_lt h0)]; exact h0, by rw [k.cell (p := ⟨bF, oF, none⟩) (cell_lt h1)]; exact h1, ?_⟩
  exact SgAt.later0 h2 k
set_option maxRecDepth 100000 in
theorem s_l04Blocks (a : Option Addr) (n cap : Nat) (L : List Sg) (A : Option Addr) (m capF : Nat) (F : List Int) (w : World) (hs : Sgs w a n L) (hf : Sl w A m F) (hv : layB L = true) :
    Calls Try.prog 123 #[.agg #[.slice a n cap], .slice A m capF] w fun e w' => e = .returned (.bool (bkC L F)) ∧ Later w w' := by
  have HS := Lib.hid hs; have HL := Lib.hid hs.1
  have HF := Lib.hid hf; have HM := Lib.hid hf.1
  have hn := hs.2.1; have hm := hf.2.1
  have HV := Lib.hid hv
  have h24 := ((layB_iff L).1 hv).2.1
  rw [HL.out] at h24
  clear hs hf hv
  by_cases h28 : 2 ≤ m ∧ m ≤ 8
  · obtain ⟨h2, h8⟩ := h28
    obtain ⟨bF, oF, rfl, hc0⟩ := HF.out.at 0 (by omega)
    have hbF := cell_lt hc0
    rw [Nat.add_zero] at hc0
    cases hr : risB F (n : Int)
    · have HT : Hid (bkC L F = false) := Lib.hid (by rw [bkC_no]; rintro ⟨_, _, e, _⟩; rw [HL.out, hr] at e; cases e)
      go_enter Try.func123, Try.ntmps123
      go_wp2_with (first
        | (go_at_call 69; refine (s_In _ _ _ _).mono ?_; rintro e w' ⟨rfl, rfl⟩)
        | (go_at_call 108; refine (s_RisesL _ m capF F n _ (HF.out.later (by repeat (first | (with_reducible exact Later.refl _) | (with_reducible exact Hid.out (by assumption)) | (with_reducible refine Later.alloc ?_ _) | (with_reducible refine Later.setCell ?_ (by simp; omega) _) | (with_reducible refine Later.setCell ?_ (by simp) _) | (with_reducible refine Later.drewN ?_ _) | (with_reducible refine Later.drew ?_) | (with_reducible refine Later.trans ?_ (Hid.out (by assumption))))))).mono ?_; rw [hr]; rintro e w1 ⟨rfl, hb⟩; have H := Lib.hid hb; clear hb))
      go_ret
      exact ⟨ret_b (by rw [HT.out]), (by repeat (first | (with_reducible exact Later.refl _) | (with_reducible exact Hid.out (by assumption)) | (with_reducible refine Later.alloc ?_ _) | (with_reducible refine Later.setCell ?_ (by simp; omega) _) | (with_reducible refine Later.setCell ?_ (by simp) _) | (with_reducible refine Later.drewN ?_ _) | (with_reducible refine Later.drew ?_) | (with_reducible refine Later.trans ?_ (Hid.out (by assumption)))))⟩
    · have HR := Lib.hid hr
      by_cases h0 : gx F 0 = 0
      · have e0 : (gx F 0 != 0) = false := by simp [h0]
        have HG0 := Lib.hid h0
        clear h0
        go_enter Try.func123, Try.ntmps123
        go_wp2_with (first
          | (go_at_call 69; refine (s_In _ _ _ _).mono ?_; rintro e w' ⟨rfl, rfl⟩)
          | (go_at_call 108; refine (s_RisesL _ m capF F n _ (HF.out.later (by repeat (first | (with_reducible exact Later.refl _) | (with_reducible exact Hid.out (by assumption)) | (with_reducible refine Later.alloc ?_ _) | (with_reducible refine Later.setCell ?_ (by simp; omega) _) | (with_reducible refine Later.setCell ?_ (by simp) _) | (with_reducible refine Later.drewN ?_ _) | (with_reducible refine Later.drew ?_) | (with_reducible refine Later.trans ?_ (Hid.out (by assumption))))))).mono ?_; rintro e w1 ⟨rfl, hb⟩; obtain ⟨H, hcc, hff, hzz⟩ := later_facts hb; clear hb; (try simp at hzz); (try simp only [World.heap_drewN, World.cell?_drewN, World.frozen?_drewN] at hcc hff)))
        have HW1 : Hid (Later w w1) := Lib.hid (Later.trans (by repeat (first | (with_reducible exact Later.refl _) | (with_reducible exact Hid.out (by assumption)) | (with_reducible refine Later.alloc ?_ _) | (with_reducible refine Later.setCell ?_ (by simp; omega) _) | (with_reducible refine Later.setCell ?_ (by simp) _) | (with_reducible refine Later.drewN ?_ _) | (with_reducible refine Later.drew ?_) | (with_reducible refine Later.trans ?_ (Hid.out (by assumption))))) H.out)
        have cb1 : w1.cell? ⟨w.heap.size, 0, none⟩ = some (.slice a n cap) := by rw [hcc _ _ (by simp)]; simp
        have hz1 : w.heap.size < w1.heap.size := by omega
        clear hcc hff hr e0 hc0 H
        go_loopw [5] (fun i wr => ∃ k : Nat, 1 ≤ k ∧ k ≤ m ∧ i = .int .i64 k ∧ okH L F k = true ∧ Later w1 wr) (fun i _ => m - (intOf i).toNat)
        case atStart => exact ⟨1, by omega, by omega, rfl, okH_1 L F, Later.refl _⟩
        case round =>
          obtain ⟨k, hk1, hk, rfl, hok, hlw⟩ := hrel
          have HO := Lib.hid hok; have HLW := Lib.hid hlw
          have HW : Hid (Later w wr) := Lib.hid (HW1.out.trans hlw)
          have cb : wr.cell? ⟨w.heap.size, 0, none⟩ = some (.slice a n cap) := by rw [hlw.cell (p := ⟨w.heap.size, 0, none⟩) hz1]; exact cb1
          clear hok hlw
          by_cases hlt : k < m
          · obtain ⟨q, hq, hqn, hqf⟩ := fst_pred (L := L) HR.out (k := k - 1) (by rw [HM.out]; omega)
            rw [show k - 1 + 1 = k by omega] at hq hqf
            obtain ⟨b', o', hbb, hcF'⟩ := (HF.out.later HW.out).at k hlt
            simp only [Option.some.injEq, Addr.mk.injEq, and_true] at hbb
            obtain ⟨rfl, rfl⟩ := hbb
            rw [hq] at hcF'
            obtain ⟨v, hvq⟩ : ∃ v, v = ((q + 1 : Nat) : Int) := ⟨_, rfl⟩
            rw [← hvq] at hcF'
            obtain ⟨b2, o2, rfl, hb2, hc⟩ := (HS.out.later HW.out).at q (by omega)
            have N9 : Hid (Nine wr w.heap.size (some ⟨b2, o2, none⟩) n cap bF (oF + k) v b2 (o2 + q * 7) (sx L q)) := Lib.hid ⟨cb, hcF', hc⟩
            obtain ⟨c0, c1, c2, c3, c4, c5, c6⟩ := hc
            have HOK : Hid (okH L F (k + 1) = hldB (sx L q)) := Lib.hid (by rw [okH_succ, HO.out, hqf]; simp; intro h; omega)
            have hq1 : IntKind.i64.wrap (v - 1) = (q : Int) := (IntWalk.i64_in _ (by omega)).trans (by omega)
            have hq2 : wrap64 (v - 1) = (q : Int) := (IntWalk.wrap64_in _ (by omega)).trans (by omega)
            have hq3 : (0 : Int) ≤ (q : Int) := by omega
            have hq4 : (q : Int) < (n : Int) := by omega
            have hk3 : (0 : Int) ≤ (k : Int) := by omega
            have hk4 : (k : Int) < (m : Int) := by omega
            have hq5 : q < n := by omega
            clear hq hqf hvq
            cases hh : hldB (sx L q)
            · have HN : Hid (bkC L F = false) := Lib.hid (by
                rw [bkC_no]; rintro ⟨_, _, _, _, e⟩
                have := okH_at L F F.length k e (by rw [HM.out]; omega) (by omega)
                have h2 := HOK.out
                rw [okH_succ, HO.out, this] at h2
                rw [hh] at h2; simp at h2)
              go_wp2_with fail
              go_region_held3 (fun w' => w'.cell? ⟨w.heap.size, 0, none⟩ = some (.slice (some ⟨b2, o2, none⟩) n cap) ∧ w'.cell? ⟨bF, oF + k, none⟩ = some (.int .i64 v) ∧ w'.cell? ⟨b2, o2 + q * 7, none⟩ = some (.int .i64 (sx L q).k) ∧ w'.cell? ⟨b2, o2 + q * 7 + 1, none⟩ = some (.int .i64 (sx L q).l) ∧ w'.cell? ⟨b2, o2 + q * 7 + 2, none⟩ = some (.int .i64 (sx L q).r) ∧ w'.cell? ⟨b2, o2 + q * 7 + 3, none⟩ = some (.int .i64 (sx L q).a) ∧ w'.cell? ⟨b2, o2 + q * 7 + 4, none⟩ = some (.int .i64 (sx L q).b) ∧ w'.cell? ⟨b2, o2 + q * 7 + 5, none⟩ = some (.int .i64 (sx L q).c) ∧ w'.cell? ⟨b2, o2 + q * 7 + 6, none⟩ = some (.int .i64 (sx L q).d)) (exact N9.out.later (by repeat (first | (with_reducible exact Later.refl _) | (with_reducible exact Hid.out (by assumption)) | (with_reducible refine Later.alloc ?_ _) | (with_reducible refine Later.setCell ?_ (by simp; omega) _) | (with_reducible refine Later.setCell ?_ (by simp) _) | (with_reducible refine Later.drewN ?_ _) | (with_reducible refine Later.drew ?_) | (with_reducible refine Later.trans ?_ (Hid.out (by assumption))))))
                (first | (go_at_call 134; refine (s_holds_at HV.out q (by rw [HL.out]; omega) _).mono ?_; rw [hh]; rintro e w1 ⟨rfl, hb1⟩; have H1 := Lib.hid hb1; clear hb1))
              all_goals
                go_wp2
                go_ret
                exact ⟨ret_b (by rw [HN.out]), (by repeat (first | (with_reducible exact Later.refl _) | (with_reducible exact Hid.out (by assumption)) | (with_reducible refine Later.alloc ?_ _) | (with_reducible refine Later.setCell ?_ (by simp; omega) _) | (with_reducible refine Later.setCell ?_ (by simp) _) | (with_reducible refine Later.drewN ?_ _) | (with_reducible refine Later.drew ?_) | (with_reducible refine Later.trans ?_ (Hid.out (by assumption)))))⟩
            · have HN : Hid (okH L F (k + 1) = true) := Lib.hid (by rw [HOK.out, hh])
              go_wp2_with fail
              go_region_held3 (fun w' => w'.cell? ⟨w.heap.size, 0, none⟩ = some (.slice (some ⟨b2, o2, none⟩) n cap) ∧ w'.cell? ⟨bF, oF + k, none⟩ = some (.int .i64 v) ∧ w'.cell? ⟨b2, o2 + q * 7, none⟩ = some (.int .i64 (sx L q).k) ∧ w'.cell? ⟨b2, o2 + q * 7 + 1, none⟩ = some (.int .i64 (sx L q).l) ∧ w'.cell? ⟨b2, o2 + q * 7 + 2, none⟩ = some (.int .i64 (sx L q).r) ∧ w'.cell? ⟨b2, o2 + q * 7 + 3, none⟩ = some (.int .i64 (sx L q).a) ∧ w'.cell? ⟨b2, o2 + q * 7 + 4, none⟩ = some (.int .i64 (sx L q).b) ∧ w'.cell? ⟨b2, o2 + q * 7 + 5, none⟩ = some (.int .i64 (sx L q).c) ∧ w'.cell? ⟨b2, o2 + q * 7 + 6, none⟩ = some (.int .i64 (sx L q).d)) (exact N9.out.later (by repeat (first | (with_reducible exact Later.refl _) | (with_reducible exact Hid.out (by assumption)) | (with_reducible refine Later.alloc ?_ _) | (with_reducible refine Later.setCell ?_ (by simp; omega) _) | (with_reducible refine Later.setCell ?_ (by simp) _) | (with_reducible refine Later.drewN ?_ _) | (with_reducible refine Later.drew ?_) | (with_reducible refine Later.trans ?_ (Hid.out (by assumption))))))
                (first | (go_at_call 134; refine (s_holds_at HV.out q (by rw [HL.out]; omega) _).mono ?_; rw [hh]; rintro e w1 ⟨rfl, hb1⟩; have H1 := Lib.hid hb1; clear hb1))
              all_goals
                go_wp2
                go_roundw
                case rel => exact ⟨k + 1, by omega, by omega, by go_num, HN.out, (by repeat (first | (with_reducible exact Later.refl _) | (with_reducible exact Hid.out (by assumption)) | (with_reducible refine Later.alloc ?_ _) | (with_reducible refine Later.setCell ?_ (by simp; omega) _) | (with_reducible refine Later.setCell ?_ (by simp) _) | (with_reducible refine Later.drewN ?_ _) | (with_reducible refine Later.drew ?_) | (with_reducible refine Later.trans ?_ (Hid.out (by assumption)))))⟩
                case measure => simp [intOf]; omega
          · obtain rfl : k = m := by omega
            have HN : Hid (bkC L F = true) := Lib.hid (by
              rw [bkC_iff, HM.out, HL.out]
              exact ⟨h2, h8, HR.out, HG0.out, HO.out⟩)
            go_wp2
            go_ret
            exact ⟨ret_b (by rw [HN.out]), (by repeat (first | (with_reducible exact Later.refl _) | (with_reducible exact Hid.out (by assumption)) | (with_reducible refine Later.alloc ?_ _) | (with_reducible refine Later.setCell ?_ (by simp; omega) _) | (with_reducible refine Later.setCell ?_ (by simp) _) | (with_reducible refine Later.drewN ?_ _) | (with_reducible refine Later.drew ?_) | (with_reducible refine Later.trans ?_ (Hid.out (by assumption)))))⟩
      · have e0 : (gx F 0 != 0) = true := by simpa using h0
        have HT : Hid (bkC L F = false) := Lib.hid (by rw [bkC_no]; rintro ⟨_, _, _, e, _⟩; exact h0 e)
        clear h0
        go_enter Try.func123, Try.ntmps123
        go_wp2_with (first
          | (go_at_call 69; refine (s_In _ _ _ _).mono ?_; rintro e w' ⟨rfl, rfl⟩)
          | (go_at_call 108; refine (s_RisesL _ m capF F n _ (HF.out.later (by repeat (first | (with_reducible exact Later.refl _) | (with_reducible exact Hid.out (by assumption)) | (with_reducible refine Later.alloc ?_ _) | (with_reducible refine Later.setCell ?_ (by simp; omega) _) | (with_reducible refine Later.setCell ?_ (by simp) _) | (with_reducible refine Later.drewN ?_ _) | (with_reducible refine Later.drew ?_) | (with_reducible refine Later.trans ?_ (Hid.out (by assumption))))))).mono ?_; rintro e w1 ⟨rfl, hb⟩; obtain ⟨H, hcc, hff, hzz⟩ := later_facts hb; clear hb; (try simp at hzz); (try simp only [World.heap_drewN, World.cell?_drewN, World.frozen?_drewN] at hcc hff)))
        go_ret
        exact ⟨ret_b (by rw [HT.out]), (by repeat (first | (with_reducible exact Later.refl _) | (with_reducible exact Hid.out (by assumption)) | (with_reducible refine Later.alloc ?_ _) | (with_reducible refine Later.setCell ?_ (by simp; omega) _) | (with_reducible refine Later.setCell ?_ (by simp) _) | (with_reducible refine Later.drewN ?_ _) | (with_reducible refine Later.drew ?_) | (with_reducible refine Later.trans ?_ (Hid.out (by assumption)))))⟩
  · have HT : Hid (bkC L F = false) := Lib.hid (by rw [bkC_no]; rintro ⟨e1, e2, _⟩; rw [HM.out] at e1 e2; exact h28 ⟨e1, e2⟩)
    have d : (decide (2 ≤ (m : Int)) && decide ((m : Int) ≤ 8)) = false := by
      rw [Bool.and_eq_false_iff]; simp; omega
    clear h28
    go_enter Try.func123, Try.ntmps123
    go_wp2_with (first
      | (go_at_call 69; refine (s_In _ _ _ _).mono ?_; rintro e w' ⟨rfl, rfl⟩))
    go_ret
    exact ⟨ret_b (by rw [HT.out]), (by repeat (first | (with_reducible exact Later.refl _) | (with_reducible exact Hid.out (by assumption)) | (with_reducible refine Later.alloc ?_ _) | (with_reducible refine Later.setCell ?_ (by simp; omega) _) | (with_reducible refine Later.setCell ?_ (by simp) _) | (with_reducible refine Later.drewN ?_ _) | (with_reducible refine Later.drew ?_) | (with_reducible refine Later.trans ?_ (Hid.out (by assumption)))))⟩
end Go.Proofs.Ytdhoiiejcmnmbaa
