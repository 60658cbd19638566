/- Drawn layouts with positions: what the laws on positions and heights begin with. -/
import Derived.Test.YtkgjojnngankeaaSgH
import Derived.Deep.RegionHeld3
import Derived.Laws.ResultCell
import Derived.IntWalk
namespace Go.Proofs.Ytkgjojnngankeaa
open Go.RowKit
set_option maxHeartbeats 4000000
set_option linter.unusedVariables false
set_option linter.unusedSimpArgs false
/-- what such a draw leaves -/
def DrawnLP (w : World) (e : Ending) (w' : World) : Prop :=
  ∃ (a : Option Addr) (n cap : Nat) (L : List Sg) (p : Int), e = .returned (.tuple #[.agg #[.slice a n cap], .int .i64 p]) ∧ Sgs w' a n L ∧ n ≤ cap ∧ InR p ∧ (∀ x, a = some x → w.heap.size ≤ x.block) ∧ Below w.heap.size w w'
theorem row_held {w w' : World} {g n b B0 : Nat} {l : List Int} {u : Value} (h : ∀ k, k < n → w.cell? ⟨g, k, none⟩ = some (.int .i64 (gx l k))) (hg : g < w.heap.size) (hc : w.cell? ⟨b, 0, none⟩ = some u) (hb : b < w.heap.size) (K : w.grownBy w' (some B0)) (h1 : g ≠ B0) (h2 : b ≠ B0) :
    w'.cell? ⟨b, 0, none⟩ = some u ∧ (∀ k, k < n → w'.cell? ⟨g, k, none⟩ = some (.int .i64 (gx l k))) :=
  ⟨K.cell hc (fun e => h2 (Option.some.inj e)), fun k hk => K.cell (h k hk) (fun e => h1 (Option.some.inj e))⟩
theorem row_step {w3 X w5 : World} {g n B : Nat} {l : List Int} (h : ∀ k, k < n → w3.cell? ⟨g, k, none⟩ = some (.int .i64 (gx l k))) (hg : g < w3.heap.size) (K : Later w3 X) (gr : X.grownBy w5 (some B)) (hne : g ≠ B) : ∀ k, k < n → w5.cell? ⟨g, k, none⟩ = some (.int .i64 (gx l k)) :=
  fun k hk => gr.cell ((K.cell (p := ⟨g, k, none⟩) hg).trans (h k hk)) (fun e => hne (Option.some.inj e))
theorem drawn_step {w w3 X w5 : World} {b : Nat} {u v : Value} (B3 : Below w.heap.size w w3) (K : Later w3 X) (gr : X.grownBy w5 (some (w.heap.size + 1))) (hc : w3.cell? ⟨w.heap.size, 0, none⟩ = some u) (hf : w3.frozen? ⟨w.heap.size, 0, none⟩ = false) (hd : w3.cell? ⟨b, 0, none⟩ = some v) (hb : b ≠ w.heap.size + 1) (hb2 : b < w3.heap.size) (hw : w.heap.size < w3.heap.size) :
    Hid (Below w.heap.size w w5) ∧ w5.cell? ⟨w.heap.size, 0, none⟩ = some u ∧ w5.frozen? ⟨w.heap.size, 0, none⟩ = false ∧ w5.cell? ⟨b, 0, none⟩ = some v ∧ w3.heap.size ≤ w5.heap.size := by
  have hX := K.size
  refine ⟨Lib.hid ((B3.trans (K.mono B3.size)).grown gr (by omega) (fun k h => by have := Option.some.inj h; omega)), ?_, ?_, ?_, by have := gr.size; omega⟩
  · exact gr.cell ((K.cell (p := ⟨w.heap.size, 0, none⟩) hw).trans hc) (fun e => by have := Option.some.inj e; simp at this)
  · rw [World.frozen?_of_block (w := X) (gr.block w.heap.size (by omega) (fun e => by have := Option.some.inj e; omega)), Below.frozen (p := ⟨w.heap.size, 0, none⟩) K hw]; exact hf
  · exact gr.cell ((K.cell (p := ⟨b, 0, none⟩) hb2).trans hd) (fun e => by have := Option.some.inj e; simp at this; omega)
set_option maxRecDepth 100000 in
theorem s_DrawSegmentAt (a : Option Addr) (len cap : Nat) (w : World) (hs : Bytes w a len) :
    Calls Try.prog 13 #[.slice a len cap] w (DrawnLP w) := by
  have HS := Lib.hid hs
  clear hs
  go_enter Try.func13, Try.ntmps13
  go_wp2_with fail
  refine (s_From a len cap _ (HS.out.later ((Below.refl _ _).alloc (Nat.le_refl _) _))).mono ?_
  rintro e w1 ⟨rfl, src, lt, bel⟩
  rw [World.size_alloc] at src lt bel ⊢
  have hc1 : w1.cell? ⟨w.heap.size, 0, none⟩ = some (.slice none 0 0) := by rw [bel.cell (p := ⟨w.heap.size, 0, none⟩) (Nat.lt_succ_self _)]; simp
  have B1 : Hid (Below w.heap.size w w1) := Lib.hid (((Below.refl _ _).alloc (Nat.le_refl _) _).trans (bel.mono (Nat.le_succ _)))
  have S1 := Lib.hid src
  have hf1 : w1.frozen? ⟨w.heap.size, 0, none⟩ = false := by rw [Below.frozen (p := ⟨w.heap.size, 0, none⟩) bel (Nat.lt_succ_self _)]; simp
  clear src bel
  go_wp2_with fail
  refine (s_Draw (w.heap.size + 1) a len cap _ S1.out).mono ?_
  rintro e w2 ⟨a', n, cap', L, rfl, hl, hcap, h26, hsm, hbl, src, gr⟩
  have S2 := Lib.hid src
  have B2 := Lib.hid (B1.out.grown gr B1.out.size (fun k h => by have := Option.some.inj h; omega))
  have hc2 := gr.cell hc1 (fun e => by have := Option.some.inj e; simp at this)
  have hf2 : w2.frozen? ⟨w.heap.size, 0, none⟩ = false := by rw [World.frozen?_of_block (w := w1) (gr.block w.heap.size (by omega) (fun e => by have := Option.some.inj e; omega))]; exact hf1
  have L2 := Lib.hid hl; have SM := Lib.hid hsm
  have lt2 := gr.size
  have NB : Hid (∀ x, a' = some x → x.block ≠ w.heap.size + 1 ∧ x.block ≠ w.heap.size ∧ w.heap.size ≤ x.block) := Lib.hid (fun x hx => by
    have h1 := hbl x hx
    exact ⟨by omega, by omega, by omega⟩)
  clear hc1 hf1 gr src hl hsm hbl S1
  go_wp2_with fail
  have A3 := Lib.hid (S2.out.alloc (.cells #[.slice a' n cap'] 26))
  refine (s_Next (w.heap.size + 1) a len cap 4 _ A3.out (by omega) (by omega)).mono ?_
  rintro e w3 ⟨c, rfl, x0, x1, x2, src, gr⟩
  have S3 := Lib.hid src
  have z3 := gr.size
  rw [World.size_alloc] at z3
  have B3 : Hid (Below w.heap.size w w3) := Lib.hid ((B2.out.alloc B2.out.size _).grown gr (by rw [World.size_alloc]; omega) (fun k h => by have := Option.some.inj h; omega))
  have hc3 := gr.cell ((World.cell?_alloc_lt w2 (.cells #[.slice a' n cap'] 26) ⟨w.heap.size, 0, none⟩ (by show w.heap.size < w2.heap.size; omega)).trans hc2) (fun e => by have := Option.some.inj e; simp at this)
  have hf3 : w3.frozen? ⟨w.heap.size, 0, none⟩ = false := by
    rw [World.frozen?_of_block (w := w2.alloc (.cells #[.slice a' n cap'] 26)) (gr.block w.heap.size (by rw [World.size_alloc]; omega) (fun e => by have := Option.some.inj e; omega)), World.frozen?_alloc_old _ _ _ (by show w.heap.size ≠ w2.heap.size; omega)]
    exact hf2
  have hd3 : w3.cell? ⟨w2.heap.size, 0, none⟩ = some (.slice a' n cap') := gr.cell (by simp) (fun e => by have := Option.some.inj e; simp at this; omega)
  have L3 := Lib.hid ((L2.out.later ((Later.refl _).alloc (.cells #[.slice a' n cap'] 26))).grown gr (fun x hx e => by have := (NB.out x hx).1; have := Option.some.inj e; omega))
  clear gr src x1 x2 hc2 hf2 A3 S2 L2 B2 B1
  have END : ∀ (W : World) (q : Int), Sgs W a' n L → Below w.heap.size w W → InR q → DrawnLP w (.returned (.tuple #[.agg #[.slice a' n cap'], .int .i64 q])) (W.setCell ⟨w.heap.size, 0, none⟩ (.slice a' n cap')) := by
    intro W q hS hB hq
    refine ⟨a', n, cap', L, q, rfl, ?_, hcap, hq, fun x hx => (NB.out x hx).2.2, hB.setCell (Nat.le_refl _) _⟩
    obtain ⟨h1, h2, h3, h4⟩ := hS
    refine ⟨h1, h2, fun k hk => ?_, h4⟩
    obtain ⟨b, off, e, hcl⟩ := h3 k hk
    have hne := (NB.out _ e).2.1
    refine ⟨b, off, e, fun j hj => ?_⟩
    rw [World.cell?_setCell_other _ _ _ _ (by intro e'; first | (cases e'; exact hne rfl) | (rw [Addr.mk.injEq] at e'; exact hne e'.1.symm) | (rw [Addr.mk.injEq] at e'; exact hne e'.1))]
    exact hcl j hj
  have ED := Lib.hid END
  clear END
  have other : DrawnLP w = DrawnLP w := rfl
  clear other
  have hn1 : w2.heap.size ≠ w.heap.size := by omega
  have hn2 : w.heap.size ≠ w2.heap.size := by omega
  by_cases c0 : c = 0
  · subst c0
    go_wp2_with fail
    refine (s_IsLayout a' n cap' L _ L3.out).mono ?_
    rintro e w4 ⟨rfl, hb⟩
    have S4 := Lib.hid (S3.out.later hb); have L4 := Lib.hid (L3.out.later hb)
    have z4 := hb.size
    have B4 : Hid (Below w.heap.size w w4) := Lib.hid (B3.out.trans (hb.mono B3.out.size))
    have hc4 := (hb.cell (p := ⟨w.heap.size, 0, none⟩) (by show w.heap.size < w3.heap.size; omega)).trans hc3
    have hf4 : w4.frozen? ⟨w.heap.size, 0, none⟩ = false := by rw [Below.frozen (p := ⟨w.heap.size, 0, none⟩) hb (by show w.heap.size < w3.heap.size; omega)]; exact hf3
    have hd4 := (hb.cell (p := ⟨w2.heap.size, 0, none⟩) (by show w2.heap.size < w3.heap.size; omega)).trans hd3
    clear hb hc3 hf3 hd3 S3 L3 B3
    cases hv : layB L
    · clear hv
      go_wp2_with fail
      go_region_held3 (fun w' => w'.cell? ⟨w2.heap.size, 0, none⟩ = some (.slice a' n cap')) (first | assumption | (rw [World.cell?_setCell_other _ _ _ _ (by simp [hn1, hn2])]; assumption) | go_keep)
        (first
          | (go_at_call 41; refine (s_DrawPosition (w.heap.size + 1) a len cap a' n cap' L _ (S4.out.later (by repeat (first | (with_reducible exact Later.refl _) | (with_reducible refine Later.alloc ?_ _) | (with_reducible refine Later.drewN ?_ _) | (with_reducible refine Later.drew ?_) | (with_reducible refine Later.trans ?_ (Hid.out (by assumption)))))) (L4.out.later (by repeat (first | (with_reducible exact Later.refl _) | (with_reducible refine Later.alloc ?_ _) | (with_reducible refine Later.drewN ?_ _) | (with_reducible refine Later.drew ?_) | (with_reducible refine Later.trans ?_ (Hid.out (by assumption)))))) h26 SM.out).mono ?_; rintro e w5 ⟨q, rfl, hq, src, gr⟩; have HQ := Lib.hid hq; have L5 := Lib.hid ((L4.out.later (by repeat (first | (with_reducible exact Later.refl _) | (with_reducible refine Later.alloc ?_ _) | (with_reducible refine Later.drewN ?_ _) | (with_reducible refine Later.drew ?_) | (with_reducible refine Later.trans ?_ (Hid.out (by assumption)))))).grown gr (fun x hx e => by have := (NB.out x hx).1; have := Option.some.inj e; omega)); obtain ⟨B5, hc5, hf5, hd5, z5⟩ := drawn_step B4.out (by repeat (first | (with_reducible exact Later.refl _) | (with_reducible refine Later.alloc ?_ _) | (with_reducible refine Later.drewN ?_ _) | (with_reducible refine Later.drew ?_) | (with_reducible refine Later.trans ?_ (Hid.out (by assumption))))) gr hc4 hf4 hd4 (by omega) (by omega) (by omega); clear src hq gr))
      all_goals
        go_wp2_with fail
        refine bodyPost_ret (v := .tuple #[.agg #[.slice a' n cap'], .int .i64 q]) (by simp [results, Try.results13, go_sem, *]) rfl (ED.out _ _ L5.out B5.out HQ.out)
    · have HV := Lib.hid hv
      have HT : Hid (strs L = sFst L n ∧ 3 ≤ n) := Lib.hid (by
        have h := (layB_iff L).1 hv
        refine ⟨?_, by rw [← L4.out.1]; exact h.1⟩
        unfold strs sFst; rw [hv, L4.out.1]; simp)
      have BD : Hid (∀ k, k < n → 0 ≤ gx (strs L) k ∧ gx (strs L) k ≤ 4800000) := Lib.hid (by
        intro k hk
        obtain ⟨_, h24, ho, _⟩ := (layB_iff L).1 hv
        have hl := L4.out.1
        obtain ⟨_, _, b1, b2⟩ := up_bd L k (by omega) (okB_le L L.length k (by omega) ho)
        have e : gx (strs L) k = upL L k := by rw [HT.out.1]; unfold gx sFst; simp [hk]
        rw [e]; omega)
      clear hv
      go_wp2_with fail
      refine (s_l03Starts a' n cap' L _ L4.out HV.out).mono ?_
      rintro e w5 ⟨v, rfl, ho, hb⟩
      have S5 := Lib.hid (S4.out.later hb); have L5 := Lib.hid (L4.out.later hb)
      have z5 := hb.size
      have B5 : Hid (Below w.heap.size w w5) := Lib.hid (B4.out.trans (hb.mono B4.out.size))
      have hc5 := (hb.cell (p := ⟨w.heap.size, 0, none⟩) (by show w.heap.size < w4.heap.size; omega)).trans hc4
      have hf5 : w5.frozen? ⟨w.heap.size, 0, none⟩ = false := by rw [Below.frozen (p := ⟨w.heap.size, 0, none⟩) hb (by show w.heap.size < w4.heap.size; omega)]; exact hf4
      have hd5 := (hb.cell (p := ⟨w2.heap.size, 0, none⟩) (by show w2.heap.size < w4.heap.size; omega)).trans hd4
      have O5 := Lib.hid ho
      have n3 := HT.out.2
      have HLs : Hid ((strs L).length = n) := Lib.hid (by rw [HT.out.1, sFst_len])
      clear hb hc4 hf4 hd4 S4 L4 B4 ho
      rcases O5.out.1.2 with ⟨_, e⟩ | ⟨g, cap5, cur, rfl, hg, _⟩
      · rw [HLs.out] at e; omega
      rw [HLs.out]
      have hrow : Hid (∀ k, k < n → w5.cell? ⟨g, k, none⟩ = some (.int .i64 (gx (strs L) k))) := Lib.hid (fun k hk => by
        rw [O5.out.1.cellAt k (by rw [HLs.out]; omega), List.getElem?_map, List.getElem?_eq_getElem (by rw [HLs.out]; exact hk), ← gx_of (strs L) k (by rw [HLs.out]; exact hk)]; rfl)
      have hgl := (O5.out.1.lt g rfl).2
      clear O5 HT
      have gB : g ≠ w.heap.size + 1 := by omega
      have g0 : g ≠ w.heap.size := by omega
      have g0' : w.heap.size ≠ g := by omega
      go_wp2_with fail
      go_region_held3 (fun w' => w'.cell? ⟨w2.heap.size, 0, none⟩ = some (.slice a' n cap') ∧ (∀ k, k < n → w'.cell? ⟨g, k, none⟩ = some (.int .i64 (gx (strs L) k))))
        (first | exact ⟨by assumption, by assumption⟩ | exact ⟨hd5, hrow.out⟩ | (exact ⟨by rw [World.cell?_setCell_other _ _ _ _ (by simp [hn1, hn2])]; assumption, fun k hk => by rw [World.cell?_setCell_other _ _ _ _ (by simp [g0, g0'])]; first | exact hr7 k hk | exact hr6 k hk⟩) | go_keep)
        (first
          | (go_at_call 39; (with_reducible refine (s_Next (w.heap.size + 1) a len cap (n : Int) _ (S5.out.later (by repeat (first | (with_reducible exact Later.refl _) | (with_reducible refine Later.alloc ?_ _) | (with_reducible refine Later.drewN ?_ _) | (with_reducible refine Later.drew ?_) | (with_reducible refine Later.trans ?_ (Hid.out (by assumption)))))) (by omega) (by omega)).mono ?_); rintro e w6 ⟨i0, rfl, i1, i2, i3, src, gr⟩; obtain ⟨i, rfl⟩ := Int.eq_ofNat_of_zero_le i1; have hi2 := i2 (by omega); have hi : i < n := (by omega); obtain ⟨bd1, bd2⟩ := BD.out i hi; have S6 := Lib.hid src; have L6 := Lib.hid ((L5.out.later (by repeat (first | (with_reducible exact Later.refl _) | (with_reducible refine Later.alloc ?_ _) | (with_reducible refine Later.drewN ?_ _) | (with_reducible refine Later.drew ?_) | (with_reducible refine Later.trans ?_ (Hid.out (by assumption)))))).grown gr (fun x hx e => by have := (NB.out x hx).1; have := Option.some.inj e; omega)); obtain ⟨B6, hc6, hf6, hd6, z6⟩ := drawn_step B5.out (by repeat (first | (with_reducible exact Later.refl _) | (with_reducible refine Later.alloc ?_ _) | (with_reducible refine Later.drewN ?_ _) | (with_reducible refine Later.drew ?_) | (with_reducible refine Later.trans ?_ (Hid.out (by assumption))))) gr hc5 hf5 hd5 (by omega) (by omega) (by omega); have hr6 := row_step hrow.out hgl (by repeat (first | (with_reducible exact Later.refl _) | (with_reducible refine Later.alloc ?_ _) | (with_reducible refine Later.drewN ?_ _) | (with_reducible refine Later.drew ?_) | (with_reducible refine Later.trans ?_ (Hid.out (by assumption))))) gr gB; clear src i2 i3 gr)
          | (go_at_call 39; refine (s_Next (w.heap.size + 1) a len cap 2 _ (S6.out.later (by repeat (first | (with_reducible exact Later.refl _) | (with_reducible refine Later.alloc ?_ _) | (with_reducible refine Later.drewN ?_ _) | (with_reducible refine Later.drew ?_) | (with_reducible refine Later.trans ?_ (Hid.out (by assumption)))))) (by omega) (by omega)).mono ?_; rintro e w7 ⟨z, rfl, zz1, zz2, zz3, src, gr⟩; have hz2 := zz2 (by omega); have S7 := Lib.hid src; have L7 := Lib.hid ((L6.out.later (by repeat (first | (with_reducible exact Later.refl _) | (with_reducible refine Later.alloc ?_ _) | (with_reducible refine Later.drewN ?_ _) | (with_reducible refine Later.drew ?_) | (with_reducible refine Later.trans ?_ (Hid.out (by assumption)))))).grown gr (fun x hx e => by have := (NB.out x hx).1; have := Option.some.inj e; omega)); obtain ⟨B7, hc7, hf7, hd7, z7⟩ := drawn_step B6.out (by repeat (first | (with_reducible exact Later.refl _) | (with_reducible refine Later.alloc ?_ _) | (with_reducible refine Later.drewN ?_ _) | (with_reducible refine Later.drew ?_) | (with_reducible refine Later.trans ?_ (Hid.out (by assumption))))) gr hc6 hf6 hd6 (by omega) (by omega) (by omega); have hr7 := row_step hr6 (by omega) (by repeat (first | (with_reducible exact Later.refl _) | (with_reducible refine Later.alloc ?_ _) | (with_reducible refine Later.drewN ?_ _) | (with_reducible refine Later.drew ?_) | (with_reducible refine Later.trans ?_ (Hid.out (by assumption))))) gr gB; have e1 : IntKind.i64.wrap (gx (strs L) i - z) = gx (strs L) i - z := IntWalk.i64_in _ (by omega); clear src zz2 zz3 gr))
      all_goals
        go_wp2_with fail
        refine bodyPost_ret (v := .tuple #[.agg #[.slice a' n cap'], .int .i64 (gx (strs L) i - z)]) (by simp [results, Try.results13, go_sem, *]) rfl (ED.out _ _ L7.out B7.out (inR_of (by omega) (by omega)))
  · have e0 : (c == 0) = false := by simpa using c0
    clear c0
    go_wp2_with fail
    go_region_held3 (fun w' => w'.cell? ⟨w2.heap.size, 0, none⟩ = some (.slice a' n cap')) (first | assumption | (rw [World.cell?_setCell_other _ _ _ _ (by simp [hn1, hn2])]; assumption) | go_keep)
      (first
        | (go_at_call 41; refine (s_DrawPosition (w.heap.size + 1) a len cap a' n cap' L _ (S3.out.later (by repeat (first | (with_reducible exact Later.refl _) | (with_reducible refine Later.alloc ?_ _) | (with_reducible refine Later.drewN ?_ _) | (with_reducible refine Later.drew ?_) | (with_reducible refine Later.trans ?_ (Hid.out (by assumption)))))) (L3.out.later (by repeat (first | (with_reducible exact Later.refl _) | (with_reducible refine Later.alloc ?_ _) | (with_reducible refine Later.drewN ?_ _) | (with_reducible refine Later.drew ?_) | (with_reducible refine Later.trans ?_ (Hid.out (by assumption)))))) h26 SM.out).mono ?_; rintro e w5 ⟨q, rfl, hq, src, gr⟩; have HQ := Lib.hid hq; have L5 := Lib.hid ((L3.out.later (by repeat (first | (with_reducible exact Later.refl _) | (with_reducible refine Later.alloc ?_ _) | (with_reducible refine Later.drewN ?_ _) | (with_reducible refine Later.drew ?_) | (with_reducible refine Later.trans ?_ (Hid.out (by assumption)))))).grown gr (fun x hx e => by have := (NB.out x hx).1; have := Option.some.inj e; omega)); obtain ⟨B5, hc5, hf5, hd5, z5⟩ := drawn_step B3.out (by repeat (first | (with_reducible exact Later.refl _) | (with_reducible refine Later.alloc ?_ _) | (with_reducible refine Later.drewN ?_ _) | (with_reducible refine Later.drew ?_) | (with_reducible refine Later.trans ?_ (Hid.out (by assumption))))) gr hc3 hf3 hd3 (by omega) (by omega) (by omega); clear src hq gr))
    all_goals
      go_wp2_with fail
      refine bodyPost_ret (v := .tuple #[.agg #[.slice a' n cap'], .int .i64 q]) (by simp [results, Try.results13, go_sem, *]) rfl (ED.out _ _ L5.out B5.out HQ.out)
theorem s_DrawHeightAt (a : Option Addr) (len cap : Nat) (w : World) (hs : Bytes w a len) :
    Calls Try.prog 18 #[.slice a len cap] w (DrawnLP w) := by
  have HS := Lib.hid hs
  clear hs
  go_enter Try.func18, Try.ntmps18
  go_wp2_with fail
  refine (s_DrawSegmentAt a len cap _ (HS.out.later ((Below.refl _ _).alloc (Nat.le_refl _) _))).mono ?_
  rintro e w1 ⟨a', n, cap', L, p, rfl, hl, hcap, hp, hbl, bel⟩
  rw [World.size_alloc] at hbl bel
  have hc1 : w1.cell? ⟨w.heap.size, 0, none⟩ = some (.slice none 0 0) := by rw [bel.cell (p := ⟨w.heap.size, 0, none⟩) (Nat.lt_succ_self _)]; simp
  have hf1 : w1.frozen? ⟨w.heap.size, 0, none⟩ = false := by rw [Below.frozen (p := ⟨w.heap.size, 0, none⟩) bel (Nat.lt_succ_self _)]; simp
  have B1 : Hid (Below w.heap.size w w1) := Lib.hid (((Below.refl _ _).alloc (Nat.le_refl _) _).trans (bel.mono (Nat.le_succ _)))
  have L1 := Lib.hid hl; have HP := Lib.hid hp; have NB := Lib.hid hbl
  have END : DrawnLP w (.returned (.tuple #[.agg #[.slice a' n cap'], .int .i64 p])) (w1.setCell ⟨w.heap.size, 0, none⟩ (.slice a' n cap')) := by
    refine ⟨a', n, cap', L, p, rfl, ?_, hcap, hp, fun x hx => by have := hbl x hx; omega, B1.out.setCell (Nat.le_refl _) _⟩
    obtain ⟨h1, h2, h3, h4⟩ := hl
    refine ⟨h1, h2, fun k hk => ?_, h4⟩
    obtain ⟨b, off, e, hcl⟩ := h3 k hk
    have hne : b ≠ w.heap.size := by have h : w.heap.size + 1 ≤ b := hbl _ e; omega
    refine ⟨b, off, e, fun j hj => ?_⟩
    rw [World.cell?_setCell_other _ _ _ _ (by intro e'; rw [Addr.mk.injEq] at e'; first | exact hne e'.1.symm | exact hne e'.1)]
    exact hcl j hj
  have ED := Lib.hid END
  clear END bel hl hp hbl
  go_wp2_with fail
  refine bodyPost_ret (v := .tuple #[.agg #[.slice a' n cap'], .int .i64 p]) (by simp [results, Try.results18, go_sem, *]) rfl ED.out
end Go.Proofs.Ytkgjojnngankeaa
