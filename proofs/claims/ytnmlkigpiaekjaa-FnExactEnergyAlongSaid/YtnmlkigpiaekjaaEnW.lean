/- Contracts of chapter 6: the energies along a run: the model's function. -/
import Derived.Test.YtnmlkigpiaekjaaEnV
import Derived.Test.YtnmlkigpiaekjaaEnT
import Derived.Test.YtnmlkigpiaekjaaEnA
namespace Go.Proofs.Ytnmlkigpiaekjaa
open Go.RowKit
set_option maxHeartbeats 4000000
set_option linter.unusedVariables false
set_option linter.unusedSimpArgs false
theorem s_EnergyAfter_at (z : Sg) (a b x y : Int) (w : World) (h : sgB z = true) (h2 : enB a b = true) (hx : a + chL z = x) (hy : b + chH z = y) :
    Calls Try.prog 47 #[.agg #[.int .i64 z.k, .int .i64 z.l, .int .i64 z.r, .int .i64 z.a, .int .i64 z.b, .int .i64 z.c, .int .i64 z.d], .agg #[.int .i64 a, .int .i64 b]] w fun e w' => e = .returned (.tuple #[.agg #[.int .i64 (okV (codE x y) x), .int .i64 (okV (codE x y) y)], .int .i64 (codE x y)]) ∧ Later w w' := by
  have e1 : afE z a b = codE x y := by unfold afE; rw [h, h2, hx, hy]; rfl
  have := s_EnergyAfter z a b w
  unfold afL afH at this
  rw [e1, hx, hy] at this
  exact this
/-- an interval in a new box, and its code -/
def GotE (wr : World) (p q c : Int) (s12 s13 : Value) (w' : World) : Prop :=
  ∃ g : Nat, s12 = .pointer (some ⟨g, 0, none⟩) ∧ s13 = .int .i64 c ∧ w'.cell? ⟨g, 0, none⟩ = some (.int .i64 p) ∧ w'.cell? ⟨g, 1, none⟩ = some (.int .i64 q) ∧ Later wr w'
set_option maxRecDepth 100000 in
theorem s_EnergyAlong (s : Option Addr) (n cap : Nat) (L : List Sg) (f c a b : Int) (w : World) (hs : Sgs w s n L) :
    Calls Try.prog 12 #[.agg #[.slice s n cap], .int .i64 f, .int .i64 c, .agg #[.int .i64 a, .int .i64 b]] w (GivesI w (eaN L f c a b) (eaV L f c a b) (eaE L f c a b)) := by
  have HS := Lib.hid hs
  have HL := Lib.hid hs.1
  have hnm := hs.2.1
  clear hs
  cases hv : layB L
  · have T : Hid (eaE L f c a b = 1 ∧ eaN L f c a b = 0 ∧ eaV L f c a b = []) := Lib.hid (by
      have e0 : sgE L f c = 1 := by unfold sgE; rw [hv]; rfl
      cases he : enB a b
      · exact ea_bad1 he
      · have := ea_bad2 (a := a) (b := b) he (by rw [e0]; decide : sgE L f c ≠ 0)
        rw [e0] at this; exact this)
    go_enter Try.func12, Try.ntmps12
    go_wp2_with fail
    refine (s_IsLayout s n cap L _ (HS.out.later (by repeat (first | (with_reducible exact Later.refl _) | (with_reducible exact Hid.out (by assumption)) | (with_reducible refine Later.alloc ?_ _) | (with_reducible refine Later.setCell ?_ (by simp; omega) _) | (with_reducible refine Later.setCell ?_ (by simp) _) | (with_reducible refine Later.drewN ?_ _) | (with_reducible refine Later.drew ?_) | (with_reducible refine Later.trans ?_ (Hid.out (by assumption))))))).mono ?_
    rw [hv]
    rintro e w1 ⟨rfl, hb⟩
    have H1 := Lib.hid hb
    clear hb
    go_wp2_with fail
    go_ret2
    exact ⟨.slice none 0 0, by rw [T.out.1]; rfl, by rw [T.out.2.1, T.out.2.2]; exact ownW_none _ _ _ _, (by repeat (first | (with_reducible exact Later.refl _) | (with_reducible exact Hid.out (by assumption)) | (with_reducible refine Later.alloc ?_ _) | (with_reducible refine Later.setCell ?_ (by simp; omega) _) | (with_reducible refine Later.setCell ?_ (by simp) _) | (with_reducible refine Later.drewN ?_ _) | (with_reducible refine Later.drew ?_) | (with_reducible refine Later.trans ?_ (Hid.out (by assumption)))))⟩
  · cases he : enB a b
    · have T := Lib.hid (ea_bad1 (L := L) (f := f) (c := c) he)
      go_enter Try.func12, Try.ntmps12
      go_upto_region 1 with (fail)
      refine into (fun W => W.cell? ⟨w.heap.size, 0, none⟩ = some (.slice s n cap) ∧ Fr (w.heap.size + 1) [.int .i64 a, .int .i64 b] W ∧ Later w W) ⟨?_, ?_, (by repeat (first | (with_reducible exact Later.refl _) | (with_reducible exact Hid.out (by assumption)) | (with_reducible refine Later.alloc ?_ _) | (with_reducible refine Later.setCell ?_ (by simp; omega) _) | (with_reducible refine Later.setCell ?_ (by simp) _) | (with_reducible refine Later.drewN ?_ _) | (with_reducible refine Later.drew ?_) | (with_reducible refine Later.trans ?_ (Hid.out (by assumption)))))⟩ ?_
      · simp
      · have F2 := fr_alloc (X := w.alloc (.cells #[.slice s n cap] 26)) (l := [.int .i64 a, .int .i64 b]) (T := 28) (Later.refl _)
        rw [World.size_alloc] at F2
        exact F2
      rintro W ⟨hc0, F0, hl⟩
      have HW := Lib.hid hl
      have hz0 := sg_cell_lt hc0
      obtain ⟨f1, f2, f3, f4⟩ := Fr.o2 F0
      have hz1 := F0.lt
      clear hl
      go_wp2_with fail
      refine (s_IsLayout s n cap L _ (HS.out.later (by repeat (first | (with_reducible exact Later.refl _) | (with_reducible exact Hid.out (by assumption)) | (with_reducible refine Later.alloc ?_ _) | (with_reducible refine Later.setCell ?_ (by simp; omega) _) | (with_reducible refine Later.setCell ?_ (by simp) _) | (with_reducible refine Later.drewN ?_ _) | (with_reducible refine Later.drew ?_) | (with_reducible refine Later.trans ?_ (Hid.out (by assumption))))))).mono ?_
      rw [hv]
      rintro e w2 ⟨rfl, hb⟩
      have H2 : Hid (Later w w2) := Lib.hid (Later.trans (by repeat (first | (with_reducible exact Later.refl _) | (with_reducible exact Hid.out (by assumption)) | (with_reducible refine Later.alloc ?_ _) | (with_reducible refine Later.setCell ?_ (by simp; omega) _) | (with_reducible refine Later.setCell ?_ (by simp) _) | (with_reducible refine Later.drewN ?_ _) | (with_reducible refine Later.drew ?_) | (with_reducible refine Later.trans ?_ (Hid.out (by assumption))))) hb)
      have hc1 : w2.cell? ⟨w.heap.size, 0, none⟩ = some (.slice s n cap) := (hb.cell (p := ⟨w.heap.size, 0, none⟩) hz0).trans hc0
      have F1 := fr_later F0 hb
      obtain ⟨f1, f2, f3, f4⟩ := Fr.o2 F1
      have hz2 := sg_cell_lt hc1
      clear hb F0 hc0 hz0 hz1
      go_wp2_with fail
      refine (s_IsEnergy _ _ _).mono ?_
      rw [he]
      rintro e w3 ⟨rfl, hb⟩
      have H3 : Hid (Later w w3) := Lib.hid (Later.trans (by repeat (first | (with_reducible exact Later.refl _) | (with_reducible exact Hid.out (by assumption)) | (with_reducible refine Later.alloc ?_ _) | (with_reducible refine Later.setCell ?_ (by simp; omega) _) | (with_reducible refine Later.setCell ?_ (by simp) _) | (with_reducible refine Later.drewN ?_ _) | (with_reducible refine Later.drew ?_) | (with_reducible refine Later.trans ?_ (Hid.out (by assumption))))) hb)
      have hc3 : w3.cell? ⟨w.heap.size, 0, none⟩ = some (.slice s n cap) := (hb.cell (p := ⟨w.heap.size, 0, none⟩) hz2).trans hc1
      have F3 := Lib.hid (fr_later F1 hb)
      have hz3 := sg_cell_lt hc3
      clear hb F1 hc1 hz2 f1 f2 f3 f4
      go_wp2_with fail
      go_ret2
      exact ⟨.slice none 0 0, by rw [T.out.1]; rfl, by rw [T.out.2.1, T.out.2.2]; exact ownW_none _ _ _ _, (by repeat (first | (with_reducible exact Later.refl _) | (with_reducible exact Hid.out (by assumption)) | (with_reducible refine Later.alloc ?_ _) | (with_reducible refine Later.setCell ?_ (by simp; omega) _) | (with_reducible refine Later.setCell ?_ (by simp) _) | (with_reducible refine Later.drewN ?_ _) | (with_reducible refine Later.drew ?_) | (with_reducible refine Later.trans ?_ (Hid.out (by assumption)))))⟩
    · by_cases hz : sgE L f c = 0
      · obtain ⟨_, f', c', rfl, rfl, hf, hc⟩ := sgE_ok hz
        obtain ⟨R, hR⟩ : ∃ R, R = runS L f' c' := ⟨_, rfl⟩
        have hRl : R.length = c' := by rw [hR, runS_len]
        have hv' := (layB_iff L).1 hv
        have h24 : n ≤ 24 := by have := HL.out; omega
        have hn0 : 0 < n := by have := HL.out; omega
        have hfn : f' < n := by have := HL.out; omega
        have hok : okB R R.length = true := by rw [hR]; exact runS_okB L f' c' hv'.2.2.1 (by omega)
        have HAT : Hid (∀ j, j < c' → sx L ((f' + j) % n) = sx R j) := Lib.hid (fun j hj => by rw [hR, runS_at L f' c' j hj, HL.out])
        have HB : Hid (((decide (0 ≤ (f' : Int)) && decide ((f' : Int) ≤ (n : Int) - 1)) && (decide (0 ≤ (c' : Int)) && decide ((c' : Int) ≤ 24))) = true) := Lib.hid (by simp; omega)
        have HST : Hid (∀ k, k < c' → alE R a b k = 0 → cdK R a b k ≠ 0 → eaE L f' c' a b = cdK R a b k ∧ eaN L f' c' a b = 0 ∧ eaV L f' c' a b = []) := Lib.hid (fun k hk h0 h1 => by
          have e : alE R a b c' = cdK R a b k := fstB_stop _ _ _ h0 hk h1
          rw [hR] at e h1
          have := ea_stop he hz (by rw [e]; exact h1)
          rw [e] at this; rw [hR]; exact this)
        have HFI : Hid (alE R a b c' = 0 → eaE L f' c' a b = 0 ∧ eaN L f' c' a b = c' ∧ eaV L f' c' a b = flF R a b c') := Lib.hid (fun h0 => by rw [hR] at h0 ⊢; exact ea_fin he hz h0)
        have hab := (enB_iff a b).1 he
        have HRL := Lib.hid hRl; have HOK := Lib.hid hok; have HAB := Lib.hid hab; have HEN := Lib.hid he
        clear hR hz hok hRl hab hv' hf
        go_enter Try.func12, Try.ntmps12
        go_upto_region 1 with (fail)
        refine into (fun W => W.cell? ⟨w.heap.size, 0, none⟩ = some (.slice s n cap) ∧ Fr (w.heap.size + 1) [.int .i64 a, .int .i64 b] W ∧ Later w W) ⟨?_, ?_, (by repeat (first | (with_reducible exact Later.refl _) | (with_reducible exact Hid.out (by assumption)) | (with_reducible refine Later.alloc ?_ _) | (with_reducible refine Later.setCell ?_ (by simp; omega) _) | (with_reducible refine Later.setCell ?_ (by simp) _) | (with_reducible refine Later.drewN ?_ _) | (with_reducible refine Later.drew ?_) | (with_reducible refine Later.trans ?_ (Hid.out (by assumption)))))⟩ ?_
        · simp
        · have F2 := fr_alloc (X := w.alloc (.cells #[.slice s n cap] 26)) (l := [.int .i64 a, .int .i64 b]) (T := 28) (Later.refl _)
          rw [World.size_alloc] at F2
          exact F2
        rintro W ⟨hc0, F0, hl⟩
        have HW := Lib.hid hl
        have hz0 := sg_cell_lt hc0
        obtain ⟨f1, f2, f3, f4⟩ := Fr.o2 F0
        have hz1 := F0.lt
        clear hl
        go_wp2_with fail
        refine (s_IsLayout s n cap L _ (HS.out.later (by repeat (first | (with_reducible exact Later.refl _) | (with_reducible exact Hid.out (by assumption)) | (with_reducible refine Later.alloc ?_ _) | (with_reducible refine Later.setCell ?_ (by simp; omega) _) | (with_reducible refine Later.setCell ?_ (by simp) _) | (with_reducible refine Later.drewN ?_ _) | (with_reducible refine Later.drew ?_) | (with_reducible refine Later.trans ?_ (Hid.out (by assumption))))))).mono ?_
        rw [hv]
        rintro e w2 ⟨rfl, hb⟩
        have H2 : Hid (Later w w2) := Lib.hid (Later.trans (by repeat (first | (with_reducible exact Later.refl _) | (with_reducible exact Hid.out (by assumption)) | (with_reducible refine Later.alloc ?_ _) | (with_reducible refine Later.setCell ?_ (by simp; omega) _) | (with_reducible refine Later.setCell ?_ (by simp) _) | (with_reducible refine Later.drewN ?_ _) | (with_reducible refine Later.drew ?_) | (with_reducible refine Later.trans ?_ (Hid.out (by assumption))))) hb)
        have hc1 : w2.cell? ⟨w.heap.size, 0, none⟩ = some (.slice s n cap) := (hb.cell (p := ⟨w.heap.size, 0, none⟩) hz0).trans hc0
        have F1 := fr_later F0 hb
        obtain ⟨f1, f2, f3, f4⟩ := Fr.o2 F1
        have hz2 := sg_cell_lt hc1
        clear hb F0 hc0 hz0 hz1
        go_wp2_with fail
        refine (s_IsEnergy _ _ _).mono ?_
        rw [he]
        rintro e w3 ⟨rfl, hb⟩
        have H3 : Hid (Later w w3) := Lib.hid (Later.trans (by repeat (first | (with_reducible exact Later.refl _) | (with_reducible exact Hid.out (by assumption)) | (with_reducible refine Later.alloc ?_ _) | (with_reducible refine Later.setCell ?_ (by simp; omega) _) | (with_reducible refine Later.setCell ?_ (by simp) _) | (with_reducible refine Later.drewN ?_ _) | (with_reducible refine Later.drew ?_) | (with_reducible refine Later.trans ?_ (Hid.out (by assumption))))) hb)
        have hc3 : w3.cell? ⟨w.heap.size, 0, none⟩ = some (.slice s n cap) := (hb.cell (p := ⟨w.heap.size, 0, none⟩) hz2).trans hc1
        have F3 := Lib.hid (fr_later F1 hb)
        have hz3 := sg_cell_lt hc3
        clear hb F1 hc1 hz2 f1 f2 f3 f4
        go_wp2_with fail
        refine (s_Range s n cap f' c' true _ hnm HB.out).mono ?_
        rintro e w5 ⟨rfl, hb⟩
        have H5 : Hid (Later w w5) := Lib.hid (Later.trans (by repeat (first | (with_reducible exact Later.refl _) | (with_reducible exact Hid.out (by assumption)) | (with_reducible refine Later.alloc ?_ _) | (with_reducible refine Later.setCell ?_ (by simp; omega) _) | (with_reducible refine Later.setCell ?_ (by simp) _) | (with_reducible refine Later.drewN ?_ _) | (with_reducible refine Later.drew ?_) | (with_reducible refine Later.trans ?_ (Hid.out (by assumption))))) hb)
        have hc5 : w5.cell? ⟨w.heap.size, 0, none⟩ = some (.slice s n cap) := (hb.cell (p := ⟨w.heap.size, 0, none⟩) hz3).trans hc3
        have F5 := Lib.hid (fr_later F3.out hb)
        clear hb hc3 hz3 F3
        go_wp2_with fail
        go_loopw [10, 11] (fun v i wr => ∃ k : Nat, k ≤ c' ∧ i = .int .i64 ((f' + k : Nat) : Int) ∧ OwnI wr (w.heap.size + 2) v k (flF R a b k) ∧ alE R a b k = 0 ∧ (∃ lo hi, lo = a + clL R k ∧ hi = b + clH R k ∧ enB lo hi = true ∧ Fr (w.heap.size + 1) [.int .i64 lo, .int .i64 hi] wr) ∧ wr.cell? ⟨w.heap.size, 0, none⟩ = some (.slice s n cap) ∧ Later w wr) (fun _ i _ => (f' + c') - (intOf i).toNat)
        case atStart =>
          have h2 := F5.out.lt
          exact ⟨0, by omega, rfl, ownW_new w5 _ _ _ (by omega), rfl, ⟨a, b, by rw [clL_0, Int.add_zero], by rw [clH_0, Int.add_zero], HEN.out, fr_later F5.out (by repeat (first | (with_reducible exact Later.refl _) | (with_reducible exact Hid.out (by assumption)) | (with_reducible refine Later.alloc ?_ _) | (with_reducible refine Later.setCell ?_ (by simp; omega) _) | (with_reducible refine Later.setCell ?_ (by simp) _) | (with_reducible refine Later.drewN ?_ _) | (with_reducible refine Later.drew ?_) | (with_reducible refine Later.trans ?_ (Hid.out (by assumption)))))⟩, ((show Later w5 _ from (by repeat (first | (with_reducible exact Later.refl _) | (with_reducible exact Hid.out (by assumption)) | (with_reducible refine Later.alloc ?_ _) | (with_reducible refine Later.setCell ?_ (by simp; omega) _) | (with_reducible refine Later.setCell ?_ (by simp) _) | (with_reducible refine Later.drewN ?_ _) | (with_reducible refine Later.drew ?_) | (with_reducible refine Later.trans ?_ (Hid.out (by assumption)))))).cell (p := ⟨w.heap.size, 0, none⟩) (sg_cell_lt hc5)).trans hc5, (by repeat (first | (with_reducible exact Later.refl _) | (with_reducible exact Hid.out (by assumption)) | (with_reducible refine Later.alloc ?_ _) | (with_reducible refine Later.setCell ?_ (by simp; omega) _) | (with_reducible refine Later.setCell ?_ (by simp) _) | (with_reducible refine Later.drewN ?_ _) | (with_reducible refine Later.drew ?_) | (with_reducible refine Later.trans ?_ (Hid.out (by assumption)))))⟩
        case round =>
          clear hc5 F5
          obtain ⟨k, hk, rfl, ho, hal, ⟨lo, hi, hlo, hhi, hen, hF⟩, hc1, hlw⟩ := hrel
          have HO := Lib.hid ho; have HA := Lib.hid hal; have HF := Lib.hid hF; have HW2 := Lib.hid hlw
          have hz1 := sg_cell_lt hc1
          have hz2 := hF.lt
          have hno := ho.1.1
          obtain ⟨f1, f2, f3, f4⟩ := Fr.o2 hF
          clear ho hal hF hlw
          by_cases hlt : k < c'
          · have hseg : sgB (sx R k) = true := okB_at R R.length k (Nat.le_refl _) (by rw [HRL.out]; exact hlt) HOK.out
            obtain ⟨d4, d5, d6⟩ := cl_bd R HOK.out (k + 1) (by rw [HRL.out]; exact hlt)
            obtain ⟨x, hx⟩ : ∃ x, x = a + clL R (k + 1) := ⟨_, rfl⟩
            obtain ⟨y, hy⟩ : ∃ y, y = b + clH R (k + 1) := ⟨_, rfl⟩
            have q1 : lo + chL (sx R k) = x := by rw [hx, hlo, clL_succ R k (by rw [HRL.out]; exact hlt)]; omega
            have q2 : hi + chH (sx R k) = y := by rw [hy, hhi, clH_succ R k (by rw [HRL.out]; exact hlt)]; omega
            obtain ⟨ab1, ab2, ab3⟩ := HAB.out
            have hxy : x ≤ y := by omega
            have hx1 : InR x := ⟨by omega, by omega⟩
            have hy1 : InR y := ⟨by omega, by omega⟩
            have HX := Lib.hid hx; have HY := Lib.hid hy
            have HC : Hid (cdK R a b k = codE x y) := Lib.hid (by unfold cdK; rw [hx, hy])
            clear d4 d5 d6 ab1 ab2 ab3 hx hy hlo hhi
            have HK := Lib.hid (And.intro hc1 (And.intro f1 f2))
            have KL : Hid (∀ w', Later wr w' → w'.cell? ⟨w.heap.size, 0, none⟩ = some (.slice s n cap) ∧ w'.cell? ⟨w.heap.size + 1, 0, none⟩ = some (.int .i64 lo) ∧ w'.cell? ⟨w.heap.size + 1, 1, none⟩ = some (.int .i64 hi)) := Lib.hid (fun w' q => ⟨(q.cell (p := ⟨w.heap.size, 0, none⟩) hz1).trans HK.out.1, (q.cell (p := ⟨w.heap.size + 1, 0, none⟩) hz2).trans HK.out.2.1, (q.cell (p := ⟨w.heap.size + 1, 1, none⟩) hz2).trans HK.out.2.2⟩)
            go_wp2_with fail
            go_cut [12, 13] (GotE wr (okV (codE x y) x) (okV (codE x y) y) (codE x y))
            case first =>
              go_region_held3 (fun w' => w'.cell? ⟨w.heap.size, 0, none⟩ = some (.slice s n cap) ∧ w'.cell? ⟨w.heap.size + 1, 0, none⟩ = some (.int .i64 lo) ∧ w'.cell? ⟨w.heap.size + 1, 1, none⟩ = some (.int .i64 hi)) (exact KL.out _ (by repeat (first | exact Later.refl _ | refine Later.drew ?_ | refine Later.drewN ?_ _ | refine Later.alloc ?_ _ | refine Later.trans ?_ (Hid.out (by assumption)) | refine Later.set_at ?_ ?_ _ _)))
                (first
                  | (go_at_call 48; refine (s_l06Segment s n cap (f' + k) L _ (HS.out.later (by repeat (first | (with_reducible exact Later.refl _) | (with_reducible exact Hid.out (by assumption)) | (with_reducible refine Later.alloc ?_ _) | (with_reducible refine Later.setCell ?_ (by simp; omega) _) | (with_reducible refine Later.setCell ?_ (by simp) _) | (with_reducible refine Later.drewN ?_ _) | (with_reducible refine Later.drew ?_) | (with_reducible refine Later.trans ?_ (Hid.out (by assumption)))))) hn0).mono ?_; rw [HAT.out k hlt]; rintro e w1 ⟨rfl, hb⟩; have H := Lib.hid hb; (first | (have F := fr_alloc hb; obtain ⟨f1, f2, f3, f4⟩ := Fr.o2 F) | (have F := fr_alloc_drew hb; obtain ⟨f1, f2, f3, f4⟩ := Fr.o2 F) | (have F := fr_later (by assumption) hb; obtain ⟨f1, f2, f3, f4⟩ := Fr.o2 F) | skip); clear hb)
                  | (go_at_call 47; refine (s_EnergyAfter_at (sx R k) lo hi x y _ hseg hen q1 q2).mono ?_; rintro e w1 ⟨rfl, hb⟩; have H := Lib.hid hb; (first | (have F := fr_alloc hb; obtain ⟨f1, f2, f3, f4⟩ := Fr.o2 F) | (have F := fr_alloc_drew hb; obtain ⟨f1, f2, f3, f4⟩ := Fr.o2 F) | (have F := fr_later (by assumption) hb; obtain ⟨f1, f2, f3, f4⟩ := Fr.o2 F) | skip); clear hb))
              all_goals
                go_wp2_with fail
                go_meet
                exact ⟨_, rfl, rfl, (by first | (simp; done) | (simp [*]; done) | (simp [go_sem, *]; done)), (by first | (simp; done) | (simp [*]; done) | (simp [go_sem, *]; done)), (by repeat (first | exact Later.refl _ | refine Later.drew ?_ | refine Later.drewN ?_ _ | refine Later.alloc ?_ _ | refine Later.trans ?_ (Hid.out (by assumption)) | refine Later.set_at ?_ ?_ _ _))⟩
            case rest =>
              obtain ⟨g, rfl, rfl, g0, g1, hG⟩ := hcut
              have WC : Hid (Later w wc) := Lib.hid (HW2.out.trans hG)
              have FC := fr_later HF.out hG
              have OC := Lib.hid (HO.out.later hG)
              have cc := (hG.cell (p := ⟨w.heap.size, 0, none⟩) hz1).trans hc1
              have hzc := sg_cell_lt cc
              have hzd := FC.lt
              clear f1 f2 f3 f4 hc1 HK KL HO HF
              obtain ⟨f1, f2, f3, f4⟩ := Fr.o2 FC
              by_cases hcd : codE x y = 0
              · have P1 : okV (codE x y) x = x := by unfold okV; rw [if_pos hcd]
                have P2 : okV (codE x y) y = y := by unfold okV; rw [if_pos hcd]
                rw [P1] at g0
                rw [P2] at g1
                have HCB : (codE x y != 0) = false := by simpa using hcd
                have HN1 : ∀ j, u10.ownBlock = some j → (some (w.heap.size + 1) : Option Nat) ≠ some j := fun j e h => by have := (OC.out.lt j e).1; have := Option.some.inj h; omega
                have O2 : Hid (∀ u v, OwnI ((wc.setCell ⟨w.heap.size + 1, 0, none⟩ u).setCell ⟨w.heap.size + 1, 1, none⟩ v) (w.heap.size + 2) u10 k (flF R a b k)) := Lib.hid (fun u v => (OC.out.kept (grown_set wc _ 0 u) HN1).kept (grown_set _ _ 1 v) HN1)
                have HFC := Lib.hid FC; have HCC := Lib.hid cc
                have HZ := Lib.hid (And.intro hcd (And.intro P1 P2))
                clear P1 P2 hcd FC
                go_wp2_with (at_builtin; go_must (refine appI rfl _ _ rfl (w.heap.size + 2) _ _ _ k (flF R a b k) x y (O2.out _ _) rfl (by first | rfl | (simp only [World.size_setCell]; rfl)) hx1 hy1 (by omega) (by simp; omega) ?_; intro v' w7 ho hg))
                have hcd := HZ.out.1
                have O7 := Lib.hid ho
                have HN2 : u10.ownBlock ≠ some (w.heap.size + 1) := fun e => HN1 _ e rfl
                have F7 := Lib.hid (fr_kept (fr_set (fr_set HFC.out 0 (.int .i64 x)) 1 (.int .i64 y)) hg HN2)
                have C7 : Hid (w7.cell? ⟨w.heap.size, 0, none⟩ = some (.slice s n cap)) := Lib.hid (hg.cell (by rw [World.cell?_setCell_far _ _ _ _ (by simp), World.cell?_setCell_far _ _ _ _ (by simp)]; exact HCC.out) (fun e => by have := (OC.out.lt w.heap.size e.symm).1; omega))
                have W7 : Hid (Later w w7) := Lib.hid (later_kept (Later.setCell (Later.setCell WC.out (by simp) _) (by simp) _) hg (fun j e => by have := (OC.out.lt j e).1; omega))
                have A7 : Hid (alE R a b (k + 1) = 0) := Lib.hid ((fstB_succ _ _ HA.out).trans (HC.out.trans hcd))
                have E7 : Hid (enB x y = true) := Lib.hid (by have := codE_ok x y hcd; rw [enB_iff]; omega)
                clear ho hg hcd f1 f2 f3 f4 g0 g1
                go_roundw
                case rel => exact ⟨k + 1, by omega, by go_num, by rw [flF_succ, ← HX.out, ← HY.out]; exact O7.out, A7.out, ⟨x, y, HX.out, HY.out, E7.out, F7.out⟩, C7.out, W7.out⟩
                case measure => simp [intOf]; omega
              · have T := Lib.hid (HST.out k hlt HA.out (by rw [HC.out]; exact hcd))
                have HCB : (codE x y != 0) = true := by simpa using hcd
                clear hcd
                go_wp2_with fail
                go_ret2
                exact ⟨.slice none 0 0, by rw [T.out.1, HC.out]; rfl, by rw [T.out.2.1, T.out.2.2]; exact ownW_none _ _ _ _, WC.out⟩
          · obtain rfl : k = c' := by omega
            have T := Lib.hid (HFI.out HA.out)
            go_wp2_with fail
            go_ret2
            exact ⟨_, by rw [T.out.1]; rfl, by rw [T.out.2.1, T.out.2.2]; exact HO.out.mono (by omega), HW2.out⟩
      · have T := Lib.hid (ea_bad2 he hz)
        have HB : Hid (((decide (0 ≤ f) && decide (f ≤ (n : Int) - 1)) && (decide (0 ≤ c) && decide (c ≤ 24))) = false) := Lib.hid (by
          rw [Bool.eq_false_iff]; intro h; apply hz; simp at h; unfold sgE; rw [hv, if_pos rfl, HL.out, if_pos (by omega)])
        have E0 : Hid (sgE L f c = 2) := Lib.hid (by
          unfold sgE at hz ⊢
          rw [hv, if_pos rfl] at hz ⊢
          by_cases h : 0 ≤ f ∧ f < (L.length : Int) ∧ 0 ≤ c ∧ c ≤ 24
          · rw [if_pos h] at hz; exact absurd rfl hz
          · rw [if_neg h])
        clear hz
        go_enter Try.func12, Try.ntmps12
        go_upto_region 1 with (fail)
        refine into (fun W => W.cell? ⟨w.heap.size, 0, none⟩ = some (.slice s n cap) ∧ Fr (w.heap.size + 1) [.int .i64 a, .int .i64 b] W ∧ Later w W) ⟨?_, ?_, (by repeat (first | (with_reducible exact Later.refl _) | (with_reducible exact Hid.out (by assumption)) | (with_reducible refine Later.alloc ?_ _) | (with_reducible refine Later.setCell ?_ (by simp; omega) _) | (with_reducible refine Later.setCell ?_ (by simp) _) | (with_reducible refine Later.drewN ?_ _) | (with_reducible refine Later.drew ?_) | (with_reducible refine Later.trans ?_ (Hid.out (by assumption)))))⟩ ?_
        · simp
        · have F2 := fr_alloc (X := w.alloc (.cells #[.slice s n cap] 26)) (l := [.int .i64 a, .int .i64 b]) (T := 28) (Later.refl _)
          rw [World.size_alloc] at F2
          exact F2
        rintro W ⟨hc0, F0, hl⟩
        have HW := Lib.hid hl
        have hz0 := sg_cell_lt hc0
        obtain ⟨f1, f2, f3, f4⟩ := Fr.o2 F0
        have hz1 := F0.lt
        clear hl
        go_wp2_with fail
        refine (s_IsLayout s n cap L _ (HS.out.later (by repeat (first | (with_reducible exact Later.refl _) | (with_reducible exact Hid.out (by assumption)) | (with_reducible refine Later.alloc ?_ _) | (with_reducible refine Later.setCell ?_ (by simp; omega) _) | (with_reducible refine Later.setCell ?_ (by simp) _) | (with_reducible refine Later.drewN ?_ _) | (with_reducible refine Later.drew ?_) | (with_reducible refine Later.trans ?_ (Hid.out (by assumption))))))).mono ?_
        rw [hv]
        rintro e w2 ⟨rfl, hb⟩
        have H2 : Hid (Later w w2) := Lib.hid (Later.trans (by repeat (first | (with_reducible exact Later.refl _) | (with_reducible exact Hid.out (by assumption)) | (with_reducible refine Later.alloc ?_ _) | (with_reducible refine Later.setCell ?_ (by simp; omega) _) | (with_reducible refine Later.setCell ?_ (by simp) _) | (with_reducible refine Later.drewN ?_ _) | (with_reducible refine Later.drew ?_) | (with_reducible refine Later.trans ?_ (Hid.out (by assumption))))) hb)
        have hc1 : w2.cell? ⟨w.heap.size, 0, none⟩ = some (.slice s n cap) := (hb.cell (p := ⟨w.heap.size, 0, none⟩) hz0).trans hc0
        have F1 := fr_later F0 hb
        obtain ⟨f1, f2, f3, f4⟩ := Fr.o2 F1
        have hz2 := sg_cell_lt hc1
        clear hb F0 hc0 hz0 hz1
        go_wp2_with fail
        refine (s_IsEnergy _ _ _).mono ?_
        rw [he]
        rintro e w3 ⟨rfl, hb⟩
        have H3 : Hid (Later w w3) := Lib.hid (Later.trans (by repeat (first | (with_reducible exact Later.refl _) | (with_reducible exact Hid.out (by assumption)) | (with_reducible refine Later.alloc ?_ _) | (with_reducible refine Later.setCell ?_ (by simp; omega) _) | (with_reducible refine Later.setCell ?_ (by simp) _) | (with_reducible refine Later.drewN ?_ _) | (with_reducible refine Later.drew ?_) | (with_reducible refine Later.trans ?_ (Hid.out (by assumption))))) hb)
        have hc3 : w3.cell? ⟨w.heap.size, 0, none⟩ = some (.slice s n cap) := (hb.cell (p := ⟨w.heap.size, 0, none⟩) hz2).trans hc1
        have F3 := Lib.hid (fr_later F1 hb)
        have hz3 := sg_cell_lt hc3
        clear hb F1 hc1 hz2 f1 f2 f3 f4
        go_wp2_with fail
        refine (s_Range s n cap f c false _ hnm HB.out).mono ?_
        rintro e w5 ⟨rfl, hb⟩
        have H5 := Lib.hid hb
        clear hb
        go_wp2_with fail
        go_ret2
        exact ⟨.slice none 0 0, by rw [T.out.1, E0.out]; rfl, by rw [T.out.2.1, T.out.2.2]; exact ownW_none _ _ _ _, (by repeat (first | (with_reducible exact Later.refl _) | (with_reducible exact Hid.out (by assumption)) | (with_reducible refine Later.alloc ?_ _) | (with_reducible refine Later.setCell ?_ (by simp; omega) _) | (with_reducible refine Later.setCell ?_ (by simp) _) | (with_reducible refine Later.drewN ?_ _) | (with_reducible refine Later.drew ?_) | (with_reducible refine Later.trans ?_ (Hid.out (by assumption)))))⟩
end Go.Proofs.Ytnmlkigpiaekjaa
