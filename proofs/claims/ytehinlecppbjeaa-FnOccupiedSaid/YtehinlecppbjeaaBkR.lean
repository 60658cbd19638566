/- Contracts of chapter 4: merged blocks, of the program. -/
import Derived.Test.YtehinlecppbjeaaBkL
import Derived.Test.YtehinlecppbjeaaBkT
import Derived.Test.YtehinlecppbjeaaSgO
import Derived.Laws.CopyOwn
import Derived.Deep.RegionLaw
import Derived.Deep.DeepMust
namespace Go.Proofs.Ytehinlecppbjeaa
open Go.RowKit
set_option maxHeartbeats 4000000
set_option linter.unusedVariables false
set_option linter.unusedSimpArgs false
/-- what hands back merged blocks leaves: a list of its own, and a code -/
def Mrgd (w : World) (L : List Sg) (F : List Int) (p : Int) (e : Ending) (w' : World) : Prop :=
  ∃ v, e = .returned (.tuple #[v, .int .i64 (mrgE L F p)]) ∧ Own w' w.heap.size v (mrgV L F p) ∧ Later w w'
theorem mrg_bad {L : List Sg} {F : List Int} {p : Int} (h : fndE L F (isNo p) ≠ 0) : mrgE L F p = fndE L F (isNo p) ∧ mrgV L F p = [] := by
  have e : mrgE L F p = fndE L F (isNo p) := by unfold mrgE; rw [if_neg h]
  exact ⟨e, by unfold mrgV; rw [e, if_neg h]⟩
theorem mrg_state {L : List Sg} {F : List Int} {b : Nat} {m : Nat} (h : fndE L F (isNo (b : Int)) = 0) (hm : F.length = m) (hs : b + 1 = m ∨ m = 2) : mrgE L F b = 5 ∧ mrgV L F b = [] := by
  have e : mrgE L F b = 5 := by unfold mrgE; rw [if_pos h, if_pos (by omega)]
  exact ⟨e, by unfold mrgV; rw [e]; rfl⟩
theorem mrg_ok {L : List Sg} {F : List Int} {b : Nat} {m : Nat} (h : fndE L F (isNo (b : Int)) = 0) (hm : F.length = m) (hs : ¬ (b + 1 = m ∨ m = 2)) : mrgE L F b = 0 ∧ mrgV L F b = F.take (b + 1) ++ F.drop (b + 2) := by
  have e : mrgE L F b = 0 := by unfold mrgE; rw [if_pos h, if_neg (by omega)]
  exact ⟨e, by unfold mrgV; rw [e]; rfl⟩
theorem size_i64 : (Try.prog.info? 2).map (·.size) = some 1 := by kernel_rfl
/-- the cells of a part of a list -/
def ptV (F : List Int) (k c : Nat) : List Value := ((F.drop k).take c).map (Value.int .i64)
theorem ptV_len (F : List Int) (k c : Nat) (h : k + c ≤ F.length) : (ptV F k c).length = c := by unfold ptV; simp; omega
theorem ptV_one (F : List Int) (k c : Nat) : ∀ v ∈ ptV F k c, v.oneCell' = true := by
  intro v hv; unfold ptV at hv; obtain ⟨x, _, rfl⟩ := List.mem_map.1 hv; rfl
theorem ptV_src {w : World} {bF oF m : Nat} {F : List Int} (h : Sl w (some ⟨bF, oF, none⟩) m F) (k c o : Nat) (ho : o = oF + k) : ∀ j v, (ptV F k c)[j]? = some v → w.cell? (Addr.add ⟨bF, o, none⟩ j) = some v := by
  intro j v hv
  subst ho
  unfold ptV at hv
  rw [List.getElem?_map] at hv
  cases hx : ((F.drop k).take c)[j]? with
  | none => rw [hx] at hv; cases hv
  | some x =>
    rw [hx] at hv
    have hv : Value.int .i64 x = v := Option.some.inj hv
    subst hv
    have hj : j < c := by
      by_cases q : j < c
      · exact q
      · rw [List.getElem?_take, if_neg q] at hx; cases hx
    rw [List.getElem?_take, if_pos hj, List.getElem?_drop] at hx
    have hl : k + j < F.length := (List.getElem?_eq_some_iff.1 hx).1
    obtain ⟨b', o', hbb, hc⟩ := h.at (k + j) (by rw [← h.1]; exact hl)
    simp only [Option.some.injEq, Addr.mk.injEq, and_true] at hbb
    obtain ⟨rfl, rfl⟩ := hbb
    rw [Addr.add_lit, show oF + k + j = oF + (k + j) by omega, hc]
    unfold gx
    rw [List.getD_eq_getElem?_getD, hx]; rfl
/-- cells are copied into a row of the call's own -/
theorem copy_splice {w0 w : World} {g o dLen dCap sLen sCap : Nat} {ad : Addr} {cl cs : List Value} (hg : w.heap[g]? = some (.cells cl.toArray 2 (0, 0))) (hn : cs.length = Nat.min sLen dLen)
    (hsrc : ∀ j v, cs[j]? = some v → w.cell? (ad.add j) = some v) (hfit : o + cs.length ≤ cl.length) (h1 : ∀ v ∈ cs, v.oneCell' = true) (hb : Later w0 w) (hgb : w0.heap.size ≤ g) :
    ∃ w', (Builtin.copy_ #[38, 38] 3 #[.slice (some ⟨g, o, none⟩) dLen dCap, .slice (some ad) sLen sCap]).run Try.prog w = .ok (goInt cs.length) w' ∧ Hid (w'.heap[g]? = some (.cells (splice cl o cs).toArray 2 (0, 0))) ∧ Later w0 w' := by
  have h := run_copy_row (P := Try.prog) w 38 38 3 2 g o dLen dCap ad sLen sCap cl.toArray 2 cs Try.underlying38 size_i64 hg hn hsrc (by simpa using hfit) h1
  refine ⟨_, h, Lib.hid ?_, below_setRow hb hgb _⟩
  simpa [splice] using setRow_heap w g _ _ _ _ hg
/-- the cells of a row that was made -/
theorem made_cells {w : World} {base g n : Nat} {T : TypeId} {xs : List Value} (h : w.ownsRow base T 1 (.slice (some ⟨g, 0, none⟩) n n) n xs) : ∃ cl : List Value, w.heap[g]? = some (.cells cl.toArray T (0, 0)) ∧ cl.length = n ∧ n ≤ maxLen ∧ base ≤ g := by
  rcases h.2 with ⟨e, _⟩ | ⟨g', cap, cur, e, hb, hg, hn, hm, hsz, _⟩
  · cases e
  · cases e
    exact ⟨cur.toList, by simpa using hg, by simpa using hsz, hm, hb⟩
/-- a row whose cells are known is a list of the call's own -/
theorem own_of_cells {w : World} {base g n : Nat} {cl : List Value} {l : List Int} (hg : w.heap[g]? = some (.cells cl.toArray 2 (0, 0))) (hb : base ≤ g) (hn : l.length = n) (hm : n ≤ maxLen) (hc : cl = l.map (Value.int .i64)) (hr : ∀ x ∈ l, InR x) : Own w base (.slice (some ⟨g, 0, none⟩) n n) l := by
  subst hn
  subst hc
  exact ⟨⟨by simp, .inr ⟨g, l.length, _, rfl, hb, hg, Nat.le_refl _, hm, by simp, by simp [List.take_of_length_le]⟩⟩, hr⟩
theorem splice_two {cl : List Value} {F : List Int} {m b : Nat} (hl : cl.length = m - 1) (hm : F.length = m) (hb : b + 1 < m) : splice (splice cl 0 (ptV F 0 (b + 1))) (b + 1) (ptV F (b + 2) (m - (b + 2))) = (F.take (b + 1) ++ F.drop (b + 2)).map (Value.int .i64) := by
  have e1 : (ptV F 0 (b + 1)).length = b + 1 := ptV_len F 0 (b + 1) (by omega)
  have e2 : (ptV F (b + 2) (m - (b + 2))).length = m - (b + 2) := ptV_len F _ _ (by omega)
  unfold splice
  rw [e1, e2]
  have h1 : ptV F 0 (b + 1) = (F.take (b + 1)).map (Value.int .i64) := by unfold ptV; simp
  have h2 : ptV F (b + 2) (m - (b + 2)) = (F.drop (b + 2)).map (Value.int .i64) := by
    unfold ptV; rw [List.take_of_length_le (by simp; omega)]
  have e3 : ((F.take (b + 1)).map (Value.int .i64)).length = b + 1 := by simp; omega
  rw [h1, h2, List.map_append]
  simp only [List.take_zero, List.nil_append, Nat.zero_add]
  rw [List.take_append_of_le_length (by omega), List.take_of_length_le (by omega)]
  have h3 : List.drop (b + 1 + (m - (b + 2))) ((F.take (b + 1)).map (Value.int .i64) ++ List.drop (b + 1) cl) = [] := List.drop_eq_nil_of_le (by simp; omega)
  rw [h3, List.append_nil]
set_option maxRecDepth 100000 in
theorem i_MergeBlocks (a : Option Addr) (n cap : Nat) (L : List Sg) (A : Option Addr) (m capF : Nat) (F : List Int) (p : Int) (w : World) (hs : Sgs w a n L) (hf : Sl w A m F) (hcn : n ≤ cap) (hcF : m ≤ capF) :
    Calls Try.prog 64 #[.agg #[.slice a n cap], .slice A m capF, .int .i64 p] w (Mrgd w L F p) := by
  have HC := fun w => i_sectionNumbered a n cap L A m capF F p w
  have HS := Lib.hid hs; have HF := Lib.hid hf
  have HM := Lib.hid hf.1
  have hm := hf.2.1
  unfold scV at HC
  clear hs hf
  by_cases h0 : fndE L F (isNo p) = 0
  · have HE := Lib.hid h0
    obtain ⟨b, rfl, hb, hv, hk, hsec⟩ := isNo_cases h0
    rw [HM.out] at hb
    have hnum : (fndC L F (isNo (b : Int))).n = (b : Int) := by rw [hsec]; rfl
    have h28 : 2 ≤ m ∧ m ≤ 8 := by have := (bkC_iff L F).1 hk; rw [HM.out] at this; omega
    obtain ⟨h2, h8⟩ := h28
    rw [hnum, h0] at HC
    clear hv hk hsec hnum
    by_cases hst : b + 1 = m ∨ m = 2
    · have HT := Lib.hid (mrg_state h0 HM.out hst)
      have hst' : ((b : Int) + 1 = m) ∨ (¬ ((b : Int) + 1 = m) ∧ m = 2) := by omega
      clear hst h0
      rcases hst' with hq | ⟨hq, hq2⟩
      · have e1 : (((b : Int) + 1) == (m : Int)) = true := by simpa using hq
        clear hq
        go_enter Try.func64, Try.ntmps64
        go_wp2_with fail
        refine (HC _ (HS.out.later (by repeat (first | (with_reducible exact Later.refl _) | (with_reducible exact Hid.out (by assumption)) | (with_reducible refine Later.alloc ?_ _) | (with_reducible refine Later.setCell ?_ (by simp; omega) _) | (with_reducible refine Later.setCell ?_ (by simp) _) | (with_reducible refine Later.drewN ?_ _) | (with_reducible refine Later.drew ?_) | (with_reducible refine Later.trans ?_ (Hid.out (by assumption)))))) (HF.out.later (by repeat (first | (with_reducible exact Later.refl _) | (with_reducible exact Hid.out (by assumption)) | (with_reducible refine Later.alloc ?_ _) | (with_reducible refine Later.setCell ?_ (by simp; omega) _) | (with_reducible refine Later.setCell ?_ (by simp) _) | (with_reducible refine Later.drewN ?_ _) | (with_reducible refine Later.drew ?_) | (with_reducible refine Later.trans ?_ (Hid.out (by assumption)))))) hcn hcF).mono ?_
        rintro e w1 ⟨rfl, hb⟩
        have H1 := Lib.hid hb
        clear hb HC
        go_wp2_with fail
        go_ret2
        exact ⟨.slice none 0 0, by rw [HT.out.1]; rfl, by rw [HT.out.2]; exact own_none _ _, (by repeat (first | (with_reducible exact Later.refl _) | (with_reducible exact Hid.out (by assumption)) | (with_reducible refine Later.alloc ?_ _) | (with_reducible refine Later.setCell ?_ (by simp; omega) _) | (with_reducible refine Later.setCell ?_ (by simp) _) | (with_reducible refine Later.drewN ?_ _) | (with_reducible refine Later.drew ?_) | (with_reducible refine Later.trans ?_ (Hid.out (by assumption)))))⟩
      · subst hq2
        obtain rfl : b = 0 := by omega
        clear hq
        go_enter Try.func64, Try.ntmps64
        go_wp2_with fail
        refine (HC _ (HS.out.later (by repeat (first | (with_reducible exact Later.refl _) | (with_reducible exact Hid.out (by assumption)) | (with_reducible refine Later.alloc ?_ _) | (with_reducible refine Later.setCell ?_ (by simp; omega) _) | (with_reducible refine Later.setCell ?_ (by simp) _) | (with_reducible refine Later.drewN ?_ _) | (with_reducible refine Later.drew ?_) | (with_reducible refine Later.trans ?_ (Hid.out (by assumption)))))) (HF.out.later (by repeat (first | (with_reducible exact Later.refl _) | (with_reducible exact Hid.out (by assumption)) | (with_reducible refine Later.alloc ?_ _) | (with_reducible refine Later.setCell ?_ (by simp; omega) _) | (with_reducible refine Later.setCell ?_ (by simp) _) | (with_reducible refine Later.drewN ?_ _) | (with_reducible refine Later.drew ?_) | (with_reducible refine Later.trans ?_ (Hid.out (by assumption)))))) hcn hcF).mono ?_
        rintro e w1 ⟨rfl, hb⟩
        have H1 := Lib.hid hb
        clear hb HC
        go_wp2_with fail
        go_ret2
        exact ⟨.slice none 0 0, by rw [HT.out.1]; rfl, by rw [HT.out.2]; exact own_none _ _, (by repeat (first | (with_reducible exact Later.refl _) | (with_reducible exact Hid.out (by assumption)) | (with_reducible refine Later.alloc ?_ _) | (with_reducible refine Later.setCell ?_ (by simp; omega) _) | (with_reducible refine Later.setCell ?_ (by simp) _) | (with_reducible refine Later.drewN ?_ _) | (with_reducible refine Later.drew ?_) | (with_reducible refine Later.trans ?_ (Hid.out (by assumption)))))⟩
    · have HT := Lib.hid (mrg_ok h0 HM.out hst)
      have e1 : (((b : Int) + 1) == (m : Int)) = false := by simp; omega
      have e2 : ((m : Int) == 2) = false := by simp; omega
      have hb1 : b + 1 < m := by omega
      have hm3 : 3 ≤ m := by omega
      clear hst h0
      obtain ⟨i0, hi, hz0, hz1, hz2⟩ := info_parts info_i64
      have HI := Lib.hid hi; clear hi
      have HZ0 := Lib.hid hz0; clear hz0
      have HZ1 := Lib.hid hz1; clear hz1
      have HZ2 := Lib.hid hz2; clear hz2
      obtain ⟨bF, oF, rfl, _⟩ := HF.out.at 0 (by omega)
      obtain ⟨X1, hX1⟩ : ∃ X1, X1 = ptV F 0 (b + 1) := ⟨_, rfl⟩
      obtain ⟨X2, hX2⟩ : ∃ X2, X2 = ptV F (b + 2) (m - (b + 2)) := ⟨_, rfl⟩
      have HX1 := Lib.hid hX1; have HX2 := Lib.hid hX2
      have l1 : X1.length = b + 1 := by rw [hX1]; exact ptV_len F _ _ (by rw [HM.out]; omega)
      have l2 : X2.length = m - (b + 2) := by rw [hX2]; exact ptV_len F _ _ (by rw [HM.out]; omega)
      have o1 : Hid (∀ v ∈ X1, v.oneCell' = true) := Lib.hid (by rw [hX1]; exact ptV_one _ _ _)
      have o2 : Hid (∀ v ∈ X2, v.oneCell' = true) := Lib.hid (by rw [hX2]; exact ptV_one _ _ _)
      clear hX1 hX2
      go_enter Try.func64, Try.ntmps64
      go_wp2_with fail
      refine (HC _ (HS.out.later (by repeat (first | (with_reducible exact Later.refl _) | (with_reducible exact Hid.out (by assumption)) | (with_reducible refine Later.alloc ?_ _) | (with_reducible refine Later.setCell ?_ (by simp; omega) _) | (with_reducible refine Later.setCell ?_ (by simp) _) | (with_reducible refine Later.drewN ?_ _) | (with_reducible refine Later.drew ?_) | (with_reducible refine Later.trans ?_ (Hid.out (by assumption)))))) (HF.out.later (by repeat (first | (with_reducible exact Later.refl _) | (with_reducible exact Hid.out (by assumption)) | (with_reducible refine Later.alloc ?_ _) | (with_reducible refine Later.setCell ?_ (by simp; omega) _) | (with_reducible refine Later.setCell ?_ (by simp) _) | (with_reducible refine Later.drewN ?_ _) | (with_reducible refine Later.drew ?_) | (with_reducible refine Later.trans ?_ (Hid.out (by assumption)))))) hcn hcF).mono ?_
      rintro e w1 ⟨rfl, hb⟩
      have H1 : Hid (Later w w1) := Lib.hid (Later.trans (by repeat (first | (with_reducible exact Later.refl _) | (with_reducible exact Hid.out (by assumption)) | (with_reducible refine Later.alloc ?_ _) | (with_reducible refine Later.setCell ?_ (by simp; omega) _) | (with_reducible refine Later.setCell ?_ (by simp) _) | (with_reducible refine Later.drewN ?_ _) | (with_reducible refine Later.drew ?_) | (with_reducible refine Later.trans ?_ (Hid.out (by assumption))))) hb)
      have hz := hb.size
      rw [World.size_alloc] at hz
      clear hb HC
      go_wp2_with (at_make; go_must (refine wpList_make_full _ rfl _ _ _ rfl (w.heap.size + 1) 2 i0 (.int .i64 0) 1 Try.underlying38 HI.out HZ0.out HZ1.out _ _ _ _ (m - 1) rfl rfl (by omega) (by omega) (by rw [HZ2.out]; omega) (by unfold maxLen; omega) (by first | omega | (simp; omega)) ?_; intro w2 hown hgrow))
      obtain ⟨cl, hcl, hll, hmx, hbg⟩ := made_cells hown
      rw [World.size_alloc] at hcl hbg
      have HC2 := Lib.hid hcl
      have H2 : Hid (Later w w2) := Lib.hid (Below.grown (show Later w (w1.alloc _) from H1.out.alloc _) hgrow (by have := H1.out.size; rw [World.size_alloc]; omega) (fun j e => by cases e))
      have HLS : Hid ((splice cl 0 X1).length = m - 1) := Lib.hid (by rw [length_splice _ _ _ (by omega)]; exact hll)
      have HSP : Hid (splice (splice cl 0 X1) (b + 1) X2 = (F.take (b + 1) ++ F.drop (b + 2)).map (Value.int .i64)) := Lib.hid (by rw [HX1.out, HX2.out]; exact splice_two hll HM.out hb1)
      have HLL : Hid ((F.take (b + 1) ++ F.drop (b + 2)).length = m - 1) := Lib.hid (by have := HM.out; simp; omega)
      have HIN : Hid (∀ x ∈ F.take (b + 1) ++ F.drop (b + 2), InR x) := Lib.hid (fun x hx => by
        rw [List.mem_append] at hx
        rcases hx with h | h
        · exact HF.out.2.2.2 x (List.mem_of_mem_take h)
        · exact HF.out.2.2.2 x (List.mem_of_mem_drop h))
      have S1 : Hid (∀ W, Later w W → ∀ j v, X1[j]? = some v → W.cell? (Addr.add ⟨bF, oF, none⟩ j) = some v) := Lib.hid (fun W h => by rw [HX1.out]; exact ptV_src (HF.out.later h) 0 (b + 1) oF (by omega))
      have S2 : Hid (∀ W, Later w W → ∀ j v, X2[j]? = some v → W.cell? (Addr.add ⟨bF, oF + (b + 2), none⟩ j) = some v) := Lib.hid (fun W h => by rw [HX2.out]; exact ptV_src (HF.out.later h) (b + 2) _ _ rfl)
      clear hown hgrow hcl hz
      have hw1 := H1.out.size
      go_wp2_with fail
      obtain ⟨w3, hrun, HC3, hb3⟩ := copy_splice (g := w1.heap.size + 1) (o := 0) (dLen := m - 1) (dCap := m - 1) (sLen := b + 1) (sCap := capF) HC2.out (by rw [l1]; exact (Nat.min_eq_left (by omega)).symm) (S1.out _ H2.out) (by omega) o1.out H2.out (by omega)
      rw [hrun]
      have H3 : Hid (Later w w3) := Lib.hid hb3
      clear hrun
      clear hb3
      go_wp2_with fail
      obtain ⟨t, ht⟩ : ∃ t : Nat, t = b + 2 := ⟨_, rfl⟩
      have hk1 : (0 : Int) ≤ (b : Int) + 1 := by omega
      have hk2 : (b : Int) + 1 ≤ ((m - 1 : Nat) : Int) := by omega
      have hk3 : (0 : Int) ≤ (t : Int) := by omega
      have hk4 : (t : Int) ≤ (m : Int) := by omega
      have hk5 : (t : Int) ≤ (capF : Int) := by omega
      have hwr : IntKind.i64.wrap ((b : Int) + 1 + 1) = (t : Int) := (IntWalk.i64_in _ (by omega)).trans (by omega)
      have hk6 : t ≤ m := by omega
      have S2t : Hid (∀ W, Later w W → ∀ j v, X2[j]? = some v → W.cell? (Addr.add ⟨bF, oF + t, none⟩ j) = some v) := Lib.hid (by rw [ht]; exact S2.out)
      have l2t : X2.length = m - t := by omega
      have HTB := Lib.hid ht
      by_cases hl3 : b + 2 < m
      · have hc1 : ¬ m = b + 2 := by omega
        have hc2 : ¬ capF = t := by omega
        clear ht
        obtain ⟨w4, hrun2, HC4, hb4⟩ := copy_splice (w := w3.drew) (g := w1.heap.size + 1) (o := b + 1) (dLen := m - 1 - (b + 1)) (dCap := m - 1 - (b + 1)) (sLen := m - t) (sCap := capF - t) HC3.out (by rw [l2t]; exact (Nat.min_eq_left (by have := HTB.out; omega)).symm) (S2t.out _ (show Later w w3.drew from H3.out.drew)) (by rw [HLS.out, l2]; omega) o2.out (show Later w w3.drew from H3.out.drew) (by omega)
        have H4 := Lib.hid hb4
        clear hb4
        go_region
        all_goals
          go_wp2
          go_ret2
          exact ⟨_, by rw [HT.out.1]; rfl, by rw [HT.out.2]; exact own_of_cells HC4.out (by omega) HLL.out hmx HSP.out HIN.out, H4.out⟩
      · obtain rfl : m = b + 2 := by omega
        have HN : Hid (X2 = []) := Lib.hid (List.eq_nil_of_length_eq_zero (by omega))
        have HSP2 : Hid (splice cl 0 X1 = (F.take (b + 1) ++ F.drop (b + 2)).map (Value.int .i64)) := Lib.hid (by have := HSP.out; rw [HN.out] at this; rw [← this]; simp [splice])
        have hrun2 : ∀ (dp sp : Option Addr) (dC sLen sC : Nat), (Builtin.copy_ #[38, 38] 3 #[.slice dp 0 dC, .slice sp sLen sC]).run Try.prog w3.drew = .ok (goInt 0) w3.drew := fun dp sp dC sLen sC => run_copy_none (P := Try.prog) w3.drew 38 38 3 2 dp sp 0 dC sLen sC Try.underlying38 size_i64 (Nat.min_eq_right (Nat.zero_le _))
        have H4 : Hid (Later w w3.drew) := Lib.hid H3.out.drew
        by_cases hct : capF = t
        all_goals
          clear ht
          go_region
          all_goals
            go_wp2
            go_ret2
            exact ⟨_, by rw [HT.out.1]; rfl, by rw [HT.out.2]; exact own_of_cells (w := w3.drew) HC3.out (by omega) HLL.out hmx HSP2.out HIN.out, H4.out⟩
  · have HT := Lib.hid (mrg_bad h0)
    have e0 : (fndE L F (isNo p) != 0) = true := by simpa using h0
    clear h0
    go_enter Try.func64, Try.ntmps64
    go_wp2_with fail
    refine (HC _ (HS.out.later (by repeat (first | (with_reducible exact Later.refl _) | (with_reducible exact Hid.out (by assumption)) | (with_reducible refine Later.alloc ?_ _) | (with_reducible refine Later.setCell ?_ (by simp; omega) _) | (with_reducible refine Later.setCell ?_ (by simp) _) | (with_reducible refine Later.drewN ?_ _) | (with_reducible refine Later.drew ?_) | (with_reducible refine Later.trans ?_ (Hid.out (by assumption)))))) (HF.out.later (by repeat (first | (with_reducible exact Later.refl _) | (with_reducible exact Hid.out (by assumption)) | (with_reducible refine Later.alloc ?_ _) | (with_reducible refine Later.setCell ?_ (by simp; omega) _) | (with_reducible refine Later.setCell ?_ (by simp) _) | (with_reducible refine Later.drewN ?_ _) | (with_reducible refine Later.drew ?_) | (with_reducible refine Later.trans ?_ (Hid.out (by assumption)))))) hcn hcF).mono ?_
    rintro e w1 ⟨rfl, hb⟩
    have H1 := Lib.hid hb
    clear hb HC
    go_wp2_with fail
    go_ret2
    exact ⟨.slice none 0 0, by rw [HT.out.1]; rfl, by rw [HT.out.2]; exact own_none _ _, (by repeat (first | (with_reducible exact Later.refl _) | (with_reducible exact Hid.out (by assumption)) | (with_reducible refine Later.alloc ?_ _) | (with_reducible refine Later.setCell ?_ (by simp; omega) _) | (with_reducible refine Later.setCell ?_ (by simp) _) | (with_reducible refine Later.drewN ?_ _) | (with_reducible refine Later.drew ?_) | (with_reducible refine Later.trans ?_ (Hid.out (by assumption)))))⟩
end Go.Proofs.Ytehinlecppbjeaa
