/- Contracts of chapter 6: the energies along a run, of the program. -/
import Derived.Test.YtnmlkigpiaekjaaEnC
import Derived.Test.YtnmlkigpiaekjaaEnR
import Derived.Test.YtnmlkigpiaekjaaIvx
namespace Go.Proofs.Ytnmlkigpiaekjaa
open Go.RowKit
set_option maxHeartbeats 4000000
set_option linter.unusedVariables false
set_option linter.unusedSimpArgs false
/-- what the energies along a run leave -/
def GivesI (w : World) (n : Nat) (l : List Int) (c : Int) (e : Ending) (w' : World) : Prop :=
  ∃ v, e = .returned (.tuple #[v, .int .i64 c]) ∧ OwnI w' w.heap.size v n l ∧ Later w w'
theorem sgs_kept {w w' : World} {a : Option Addr} {n : Nat} {L : List Sg} {row : Option Nat} (h : Sgs w a n L) (hg : w.grownBy w' row) (hne : ∀ x, a = some x → row ≠ some x.block) : Sgs w' a n L := by
  obtain ⟨h1, h2, h3, h4⟩ := h
  refine ⟨h1, h2, fun k hk => ?_, h4⟩
  obtain ⟨b, off, rfl, hc⟩ := h3 k hk
  exact ⟨b, off, rfl, fun j hj => hg.cell (hc j hj) (fun e => hne _ rfl e.symm)⟩
theorem later_kept {w a b : World} {r : Option Nat} (h : Later w a) (hg : a.grownBy b r) (hr : ∀ k, r = some k → w.heap.size ≤ k) : Later w b := Below.grown h hg h.size hr
theorem ea_bad1 {L : List Sg} {f c a b : Int} (h : enB a b = false) : eaE L f c a b = 1 ∧ eaN L f c a b = 0 ∧ eaV L f c a b = [] := by
  have e : eaE L f c a b = 1 := by unfold eaE; rw [h]; rfl
  exact ⟨e, by unfold eaN; rw [e]; rfl, by unfold eaV; rw [e]; rfl⟩
theorem ea_bad2 {L : List Sg} {f c a b : Int} (h : enB a b = true) (h2 : sgE L f c ≠ 0) : eaE L f c a b = sgE L f c ∧ eaN L f c a b = 0 ∧ eaV L f c a b = [] := by
  have e : eaE L f c a b = sgE L f c := by unfold eaE; rw [h, if_pos rfl, if_neg h2]
  exact ⟨e, by unfold eaN; rw [e, if_neg h2], by unfold eaV; rw [e, if_neg h2]⟩
theorem ea_at {L : List Sg} {f c : Nat} {a b : Int} (h : enB a b = true) (h2 : sgE L (f : Int) (c : Int) = 0) : eaE L f c a b = alE (runS L f c) a b c := by
  unfold eaE; rw [h, if_pos rfl, if_pos h2]; simp
theorem ea_stop {L : List Sg} {f c : Nat} {a b : Int} (h : enB a b = true) (h2 : sgE L (f : Int) (c : Int) = 0) (h3 : alE (runS L f c) a b c ≠ 0) : eaE L f c a b = alE (runS L f c) a b c ∧ eaN L f c a b = 0 ∧ eaV L f c a b = [] := by
  have e := ea_at h h2
  exact ⟨e, by unfold eaN; rw [e, if_neg h3], by unfold eaV; rw [e, if_neg h3]⟩
theorem ea_fin {L : List Sg} {f c : Nat} {a b : Int} (h : enB a b = true) (h2 : sgE L (f : Int) (c : Int) = 0) (h3 : alE (runS L f c) a b c = 0) : eaE L f c a b = 0 ∧ eaN L f c a b = c ∧ eaV L f c a b = flF (runS L f c) a b c := by
  have e := ea_at h h2
  rw [h3] at e
  exact ⟨e, by unfold eaN; rw [e]; rfl, by unfold eaV; rw [e]; rfl⟩
theorem i_energyBehind_ok (x y : Int) (w : World) (h : x ≤ y) (hc : codE x y = 0) :
    Calls Try.prog 45 #[.agg #[.int .i64 x, .int .i64 y]] w fun e w' => e = .returned (.tuple #[.agg #[.int .i64 x, .int .i64 y], .int .i64 0]) ∧ Later w w' := by
  have := i_energyBehind x y w h; rw [hc] at this; exact this
theorem i_energyBehind_bad (x y c : Int) (w : World) (h : x ≤ y) (hc : codE x y = c) (h0 : c ≠ 0) :
    Calls Try.prog 45 #[.agg #[.int .i64 x, .int .i64 y]] w fun e w' => e = .returned (.tuple #[.agg #[.int .i64 0, .int .i64 0], .int .i64 c]) ∧ Later w w' := by
  have := i_energyBehind x y w h
  rw [hc, show okV c x = 0 by unfold okV; rw [if_neg h0], show okV c y = 0 by unfold okV; rw [if_neg h0]] at this; exact this
theorem own_ne {v : Value} {w : World} {base g : Nat} {n : Nat} {l : List Int} (h : OwnI w base v n l) (hg : g < base) : v.ownBlock ≠ some g := fun e => by have := (h.lt g e).1; omega
theorem i_EnergyAlong (s : Option Addr) (n cap : Nat) (L : List Sg) (f c a b : Int) (w : World) (hs : Sgs w s n L) :
    Calls Try.prog 11 #[.agg #[.slice s n cap], .int .i64 f, .int .i64 c, .agg #[.int .i64 a, .int .i64 b]] w (GivesI w (eaN L f c a b) (eaV L f c a b) (eaE L f c a b)) := by
  have HS := Lib.hid hs
  have HL := Lib.hid hs.1
  clear hs
  cases he : enB a b
  · have T := Lib.hid (ea_bad1 (L := L) (f := f) (c := c) he)
    go_enter Try.func11, Try.ntmps11
    go_wp2_with (go_at_call 42; refine (i_IsEnergy _ _ _).mono ?_; rintro e w1 ⟨rfl, hb⟩; obtain ⟨H, hcc, hff, hzz⟩ := later_facts hb; clear hb; (try simp at hzz); (try simp only [World.heap_drewN, World.cell?_drewN, World.frozen?_drewN] at hcc hff); have hz0 : w.heap.size < w1.heap.size := (by omega); (try (have hz1 : w.heap.size + 1 < w1.heap.size := (by omega))); (try (have hz2 : w.heap.size + 1 + 1 < w1.heap.size := (by omega))); (try (have hz3 : w.heap.size + 1 + 1 + 1 < w1.heap.size := (by omega))); (try (have hz4 : w.heap.size + 1 + 1 + 1 + 1 < w1.heap.size := (by omega))))
    go_ret2
    exact ⟨.slice none 0 0, by rw [T.out.1]; rfl, by rw [T.out.2.1, T.out.2.2]; exact ownW_none _ _ _ _, (by repeat (first | (with_reducible exact Later.refl _) | (with_reducible exact Hid.out (by assumption)) | (with_reducible refine Later.alloc ?_ _) | (with_reducible refine Later.setCell ?_ (by simp; omega) _) | (with_reducible refine Later.setCell ?_ (by simp) _) | (with_reducible refine Later.drewN ?_ _) | (with_reducible refine Later.drew ?_) | (with_reducible refine Later.trans ?_ (Hid.out (by assumption)))))⟩
  · by_cases hz : sgE L f c = 0
    · obtain ⟨hv, f', c', rfl, rfl, hf, hc⟩ := sgE_ok hz
      obtain ⟨R, hR⟩ : ∃ R, R = runS L f' c' := ⟨_, rfl⟩
      have hRl : R.length = c' := by rw [hR, runS_len]
      have hok : okB R R.length = true := by rw [hR]; exact runS_okB L f' c' ((layB_iff L).1 hv).2.2.1 (by omega)
      have HSV : Hid (sgV L (f' : Int) (c' : Int) = R) := Lib.hid (by unfold sgV; rw [if_pos hz, hR]; simp)
      have HE := Lib.hid hz
      have HST : Hid (∀ k, k < c' → alE R a b k = 0 → cdK R a b k ≠ 0 → eaE L f' c' a b = cdK R a b k ∧ eaN L f' c' a b = 0 ∧ eaV L f' c' a b = []) := Lib.hid (fun k hk h0 h1 => by
        have e : alE R a b c' = cdK R a b k := fstB_stop _ _ _ h0 hk h1
        rw [hR] at e h1
        have := ea_stop he hz (by rw [e]; exact h1)
        rw [e] at this; rw [hR]; exact this)
      have HFI : Hid (alE R a b c' = 0 → eaE L f' c' a b = 0 ∧ eaN L f' c' a b = c' ∧ eaV L f' c' a b = flF R a b c') := Lib.hid (fun h0 => by rw [hR] at h0 ⊢; exact ea_fin he hz h0)
      have hab := (enB_iff a b).1 he
      have HRL := Lib.hid hRl; have HOK := Lib.hid hok; have HAB := Lib.hid hab
      clear hR hz hok hRl hab hv hf
      go_enter Try.func11, Try.ntmps11
      go_upto_region 1 with (fail)
      refine into (Held [(w.heap.size + 1, 0, .int .i64 a), (w.heap.size + 1, 1, .int .i64 b), (w.heap.size, 0, .slice s n cap)] w) (by first | exact (held_box (held_box (held_start w) w.heap.size [.slice s n cap] _ rfl) (w.heap.size + 1) [.int .i64 a, .int .i64 b] _ (by simp))) ?_
      intro W hW
      obtain ⟨p0, p1, p2, _⟩ := Held.s3 hW
      have HW := Lib.hid (Held.is hW)
      have hz0 := sg_cell_lt p2
      have hz1 := sg_cell_lt p0
      clear hW
      go_wp2_with (go_at_call 42; refine (i_IsEnergy _ _ _).mono ?_; rintro e w1 ⟨rfl, hb⟩; obtain ⟨H, hcc, hff, hzz⟩ := later_facts hb; clear hb; (try simp at hzz); (try simp only [World.heap_drewN, World.cell?_drewN, World.frozen?_drewN] at hcc hff))
      refine (i_segmentsAlong s n cap L f' c' _ (HS.out.later (by repeat (first | (with_reducible exact Later.refl _) | (with_reducible exact Hid.out (by assumption)) | (with_reducible refine Later.alloc ?_ _) | (with_reducible refine Later.setCell ?_ (by simp; omega) _) | (with_reducible refine Later.setCell ?_ (by simp) _) | (with_reducible refine Later.drewN ?_ _) | (with_reducible refine Later.drew ?_) | (with_reducible refine Later.trans ?_ (Hid.out (by assumption))))))).mono ?_
      rw [HE.out, HSV.out]
      rintro e w2 ⟨v, rfl, ho, hb⟩
      obtain ⟨ra, rc, rfl, hrc, hrs, hrb⟩ := ho.sgs
      have hrb2 : ∀ x, ra = some x → x.block < w2.heap.size := fun x e => by subst e; exact (ho.lt x.block rfl).2
      rw [HRL.out] at hrs
      generalize hq : R.length = q
      obtain rfl : q = c' := by rw [← hq]; exact HRL.out
      clear hq
      have RS2 := Lib.hid hrs; have RB := Lib.hid hrb2
      have hq0 : w.heap.size + 1 < w2.heap.size := by have := hb.size; omega
      have hcd : ∀ o, w2.cell? ⟨w.heap.size + 1, o, none⟩ = W.cell? ⟨w.heap.size + 1, o, none⟩ := fun o => (hb.cell (p := ⟨w.heap.size + 1, o, none⟩) (by show w.heap.size + 1 < w1.heap.size; omega)).trans (hcc _ _ hz1)
      have H2 := Lib.hid hb
      clear hb ho hrs hrb hrb2 hrc
      go_wp2_with fail
      refine (i_coasting a b _).mono ?_
      rintro e w3 ⟨g, rfl, hg, hF, hb⟩
      have H3 : Hid (Later w w3) := Lib.hid (Later.trans (by repeat (first | (with_reducible exact Later.refl _) | (with_reducible exact Hid.out (by assumption)) | (with_reducible refine Later.alloc ?_ _) | (with_reducible refine Later.setCell ?_ (by simp; omega) _) | (with_reducible refine Later.setCell ?_ (by simp) _) | (with_reducible refine Later.drewN ?_ _) | (with_reducible refine Later.drew ?_) | (with_reducible refine Later.trans ?_ (Hid.out (by assumption))))) hb)
      have F3 := Lib.hid hF
      have RS3 := Lib.hid (RS2.out.later hb)
      have NG : Hid (∀ x, ra = some x → (some g : Option Nat) ≠ some x.block) := Lib.hid (fun x e h => by have := RB.out x e; have := Option.some.inj h; omega)
      have hgw : w.heap.size ≤ g := by omega
      have HG2 := Lib.hid hg
      clear hb hF hg hcd hcc hff hzz p0 p1 p2 hz0 hz1 hq0
      unfold sumF
      go_wp2_with fail
      go_loopw [13, 35] (fun v i wr => ∃ k : Nat, k ≤ q ∧ i = .int .i64 k ∧ OwnI wr (g + 1) v k (flF R a b k) ∧ alE R a b k = 0 ∧ Fr g [.int .i64 (a + clL R k), .int .i64 (b + clH R k)] wr ∧ Sgs wr ra q R ∧ Later w wr) (fun _ i _ => q - (intOf i).toNat)
      case atStart => exact ⟨0, by omega, rfl, ownW_none _ _ _ _, rfl, by rw [clL_0, clH_0, Int.add_zero, Int.add_zero]; exact F3.out, RS3.out, H3.out⟩
      case round =>
        clear RS2 RS3 F3 H3
        obtain ⟨k, hk, rfl, ho, hal, hF, hrs, hlw⟩ := hrel
        have HO := Lib.hid ho; have HA := Lib.hid hal; have HF := Lib.hid hF; have HRS := Lib.hid hrs; have HW2 := Lib.hid hlw
        have hlt0 := hF.lt
        clear ho hal hF hrs hlw
        by_cases hlt : k < q
        · have hseg : sgB (sx R k) = true := okB_at R R.length k (Nat.le_refl _) (by rw [HRL.out]; exact hlt) HOK.out
          obtain ⟨d1, d2, d3⟩ := cl_bd R HOK.out k (by rw [HRL.out]; exact hk)
          obtain ⟨d4, d5, d6⟩ := cl_bd R HOK.out (k + 1) (by rw [HRL.out]; exact hlt)
          obtain ⟨x, hx⟩ : ∃ x, x = a + clL R (k + 1) := ⟨_, rfl⟩
          obtain ⟨y, hy⟩ : ∃ y, y = b + clH R (k + 1) := ⟨_, rfl⟩
          have q1 : a + clL R k + chL (sx R k) = x := by rw [hx, clL_succ R k (by rw [HRL.out]; exact hlt)]; omega
          have q2 : b + clH R k + chH (sx R k) = y := by rw [hy, clH_succ R k (by rw [HRL.out]; exact hlt)]; omega
          obtain ⟨ab1, ab2, ab3⟩ := HAB.out
          have hxy : x ≤ y := by omega
          have hx1 : InR x := ⟨by omega, by omega⟩
          have hy1 : InR y := ⟨by omega, by omega⟩
          have HX := Lib.hid hx; have HY := Lib.hid hy
          have HC : Hid (cdK R a b k = codE x y) := Lib.hid (by unfold cdK; rw [hx, hy])
          have b1 : -1000000000000 ≤ a + clL R k := by omega
          have b2 : a + clL R k ≤ 1000000000000 := by omega
          have b3 : -1000000000000 ≤ b + clH R k := by omega
          have b4 : b + clH R k ≤ 1000000000000 := by omega
          clear d1 d2 d3 d4 d5 d6 ab1 ab2 ab3 hx hy
          obtain ⟨bb, off, rfl, hb1, hc7⟩ := HRS.out.at k hlt
          obtain ⟨c0, c1, c2, c3, c4, c5, c6⟩ := hc7
          go_wp2_with fail
          refine (i_coasting1 (sx R k) g (a + clL R k) (b + clH R k) _ hseg (fr_later HF.out (by repeat (first | (with_reducible exact Later.refl _) | (with_reducible exact Hid.out (by assumption)) | (with_reducible refine Later.alloc ?_ _) | (with_reducible refine Later.setCell ?_ (by simp; omega) _) | (with_reducible refine Later.setCell ?_ (by simp) _) | (with_reducible refine Later.drewN ?_ _) | (with_reducible refine Later.drew ?_) | (with_reducible refine Later.trans ?_ (Hid.out (by assumption)))))) b1 b2 b3 b4).mono ?_
          rw [q1, q2]
          rintro e w5 ⟨rfl, hF5, hg5⟩
          have F5 := Lib.hid hF5
          have O5 := Lib.hid ((HO.out.later (show Later wr _ from (by repeat (first | (with_reducible exact Later.refl _) | (with_reducible exact Hid.out (by assumption)) | (with_reducible refine Later.alloc ?_ _) | (with_reducible refine Later.setCell ?_ (by simp; omega) _) | (with_reducible refine Later.setCell ?_ (by simp) _) | (with_reducible refine Later.drewN ?_ _) | (with_reducible refine Later.drew ?_) | (with_reducible refine Later.trans ?_ (Hid.out (by assumption))))))).kept hg5 (fun j hj e => own_ne HO.out (Nat.lt_succ_self _) (by rw [hj, e])))
          have S5 := Lib.hid (sgs_kept (HRS.out.later (show Later wr _ from (by repeat (first | (with_reducible exact Later.refl _) | (with_reducible exact Hid.out (by assumption)) | (with_reducible refine Later.alloc ?_ _) | (with_reducible refine Later.setCell ?_ (by simp; omega) _) | (with_reducible refine Later.setCell ?_ (by simp) _) | (with_reducible refine Later.drewN ?_ _) | (with_reducible refine Later.drew ?_) | (with_reducible refine Later.trans ?_ (Hid.out (by assumption))))))) hg5 NG.out)
          have W5 : Hid (Later w w5) := Lib.hid (later_kept (show Later w _ from (by repeat (first | (with_reducible exact Later.refl _) | (with_reducible exact Hid.out (by assumption)) | (with_reducible refine Later.alloc ?_ _) | (with_reducible refine Later.setCell ?_ (by simp; omega) _) | (with_reducible refine Later.setCell ?_ (by simp) _) | (with_reducible refine Later.drewN ?_ _) | (with_reducible refine Later.drew ?_) | (with_reducible refine Later.trans ?_ (Hid.out (by assumption)))))) hg5 (fun j e => by cases e; exact hgw))
          have hg5s := hF5.lt
          clear hF5 hg5 c0 c1 c2 c3 c4 c5 c6 q1 q2 HO HF HRS
          by_cases hcd : codE x y = 0
          · go_wp2_with fail
            refine (i_energyBehind_ok x y _ hxy hcd).mono ?_
            rintro e w6 ⟨rfl, hb6⟩
            have H6 := Lib.hid hb6
            have hz6 := hb6.size
            clear hb6
            go_wp2_with (at_builtin; go_must (refine appI rfl _ _ rfl (g + 1) _ _ _ k (flF R a b k) x y (O5.out.later (by repeat (first | (with_reducible exact Later.refl _) | (with_reducible exact Hid.out (by assumption)) | (with_reducible refine Later.alloc ?_ _) | (with_reducible refine Later.setCell ?_ (by simp; omega) _) | (with_reducible refine Later.setCell ?_ (by simp) _) | (with_reducible refine Later.drewN ?_ _) | (with_reducible refine Later.drew ?_) | (with_reducible refine Later.trans ?_ (Hid.out (by assumption)))))) rfl (by first | rfl | (rw [World.size_alloc]; rfl)) hx1 hy1 (by omega) (by simp; omega) ?_; intro v' w7 ho hg))
            have O7 := Lib.hid ho
            have F7 := Lib.hid (fr_kept (fr_later F5.out (show Later w5 _ from (by repeat (first | (with_reducible exact Later.refl _) | (with_reducible exact Hid.out (by assumption)) | (with_reducible refine Later.alloc ?_ _) | (with_reducible refine Later.setCell ?_ (by simp; omega) _) | (with_reducible refine Later.setCell ?_ (by simp) _) | (with_reducible refine Later.drewN ?_ _) | (with_reducible refine Later.drew ?_) | (with_reducible refine Later.trans ?_ (Hid.out (by assumption))))))) hg (own_ne O5.out (Nat.lt_succ_self g)))
            have S7 := Lib.hid (sgs_kept (S5.out.later (show Later w5 _ from (by repeat (first | (with_reducible exact Later.refl _) | (with_reducible exact Hid.out (by assumption)) | (with_reducible refine Later.alloc ?_ _) | (with_reducible refine Later.setCell ?_ (by simp; omega) _) | (with_reducible refine Later.setCell ?_ (by simp) _) | (with_reducible refine Later.drewN ?_ _) | (with_reducible refine Later.drew ?_) | (with_reducible refine Later.trans ?_ (Hid.out (by assumption))))))) hg (fun z e h => by have h1 := (O5.out.lt z.block h).1; have h2 := RB.out z e; have h3 := HG2.out; omega))
            have W7 : Hid (Later w w7) := Lib.hid (later_kept (show Later w _ from (by repeat (first | (with_reducible exact Later.refl _) | (with_reducible exact Hid.out (by assumption)) | (with_reducible refine Later.alloc ?_ _) | (with_reducible refine Later.setCell ?_ (by simp; omega) _) | (with_reducible refine Later.setCell ?_ (by simp) _) | (with_reducible refine Later.drewN ?_ _) | (with_reducible refine Later.drew ?_) | (with_reducible refine Later.trans ?_ (Hid.out (by assumption)))))) hg (fun j e => by have := (O5.out.lt j e).1; omega))
            have A7 : Hid (alE R a b (k + 1) = 0) := Lib.hid ((fstB_succ _ _ HA.out).trans (HC.out.trans hcd))
            clear ho hg
            go_roundw
            case rel => exact ⟨k + 1, by omega, by go_num, by rw [flF_succ, ← HX.out, ← HY.out]; exact O7.out, A7.out, by rw [← HX.out, ← HY.out]; exact F7.out, S7.out, W7.out⟩
            case measure => simp [intOf]; omega
          · have T := Lib.hid (HST.out k hlt HA.out (by rw [HC.out]; exact hcd))
            have HCB : (codE x y != 0) = true := by simpa using hcd
            go_wp2_with fail
            refine (i_energyBehind_bad x y _ _ hxy rfl hcd).mono ?_
            rintro e w6 ⟨rfl, hb6⟩
            have H6 := Lib.hid hb6
            clear hb6 hcd
            go_wp2_with fail
            go_ret2
            exact ⟨.slice none 0 0, by rw [T.out.1, HC.out]; rfl, by rw [T.out.2.1, T.out.2.2]; exact ownW_none _ _ _ _, (by repeat (first | (with_reducible exact Later.refl _) | (with_reducible exact Hid.out (by assumption)) | (with_reducible refine Later.alloc ?_ _) | (with_reducible refine Later.setCell ?_ (by simp; omega) _) | (with_reducible refine Later.setCell ?_ (by simp) _) | (with_reducible refine Later.drewN ?_ _) | (with_reducible refine Later.drew ?_) | (with_reducible refine Later.trans ?_ (Hid.out (by assumption)))))⟩
        · obtain rfl : k = q := by omega
          have T := Lib.hid (HFI.out HA.out)
          go_wp2_with fail
          go_ret2
          exact ⟨_, by rw [T.out.1]; rfl, by rw [T.out.2.1, T.out.2.2]; exact HO.out.mono (by omega), HW2.out⟩
    · have T := Lib.hid (ea_bad2 he hz)
      have HZ : (sgE L f c != 0) = true := by simpa using hz
      clear hz
      go_enter Try.func11, Try.ntmps11
      go_upto_region 1 with (fail)
      refine into (Held [(w.heap.size + 1, 0, .int .i64 a), (w.heap.size + 1, 1, .int .i64 b), (w.heap.size, 0, .slice s n cap)] w) (by first | exact (held_box (held_box (held_start w) w.heap.size [.slice s n cap] _ rfl) (w.heap.size + 1) [.int .i64 a, .int .i64 b] _ (by simp))) ?_
      intro W hW
      obtain ⟨p0, p1, p2, _⟩ := Held.s3 hW
      have HW := Lib.hid (Held.is hW)
      have hz0 := sg_cell_lt p2
      clear hW
      go_wp2_with (go_at_call 42; refine (i_IsEnergy _ _ _).mono ?_; rintro e w1 ⟨rfl, hb⟩; obtain ⟨H, hcc, hff, hzz⟩ := later_facts hb; clear hb; (try simp at hzz); (try simp only [World.heap_drewN, World.cell?_drewN, World.frozen?_drewN] at hcc hff))
      refine (i_segmentsAlong s n cap L f c _ (HS.out.later (by repeat (first | (with_reducible exact Later.refl _) | (with_reducible exact Hid.out (by assumption)) | (with_reducible refine Later.alloc ?_ _) | (with_reducible refine Later.setCell ?_ (by simp; omega) _) | (with_reducible refine Later.setCell ?_ (by simp) _) | (with_reducible refine Later.drewN ?_ _) | (with_reducible refine Later.drew ?_) | (with_reducible refine Later.trans ?_ (Hid.out (by assumption))))))).mono ?_
      rintro e w2 ⟨v, rfl, ho, hb⟩
      have H2 := Lib.hid hb
      clear hb ho
      go_wp2_with fail
      go_ret2
      exact ⟨.slice none 0 0, by rw [T.out.1]; rfl, by rw [T.out.2.1, T.out.2.2]; exact ownW_none _ _ _ _, (by repeat (first | (with_reducible exact Later.refl _) | (with_reducible exact Hid.out (by assumption)) | (with_reducible refine Later.alloc ?_ _) | (with_reducible refine Later.setCell ?_ (by simp; omega) _) | (with_reducible refine Later.setCell ?_ (by simp) _) | (with_reducible refine Later.drewN ?_ _) | (with_reducible refine Later.drew ?_) | (with_reducible refine Later.trans ?_ (Hid.out (by assumption)))))⟩
end Go.Proofs.Ytnmlkigpiaekjaa
