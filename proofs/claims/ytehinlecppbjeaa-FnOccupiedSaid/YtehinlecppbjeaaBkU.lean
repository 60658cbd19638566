/- Contracts of chapter 4: merged blocks, of the model. -/
import Derived.Test.YtehinlecppbjeaaBkR
import Derived.Test.YtehinlecppbjeaaApp
namespace Go.Proofs.Ytehinlecppbjeaa
open Go.RowKit
set_option maxHeartbeats 4000000
set_option linter.unusedVariables false
set_option linter.unusedSimpArgs false
theorem sl_take {w : World} {bF oF m : Nat} {F : List Int} (h : Sl w (some ⟨bF, oF, none⟩) m F) (k : Nat) (hk : k ≤ m) : Sl w (some ⟨bF, oF, none⟩) k (F.take k) := by
  obtain ⟨h1, h2, h3, h4⟩ := h
  refine ⟨by rw [List.length_take]; omega, by omega, fun j hj => ?_, fun x hx => h4 x (List.mem_of_mem_take hx)⟩
  rw [gx_take F k j hj]
  exact h3 j (by omega)
theorem gx_drop (F : List Int) (k j : Nat) : gx (F.drop k) j = gx F (k + j) := by
  unfold gx; rw [List.getD_eq_getElem?_getD, List.getD_eq_getElem?_getD, List.getElem?_drop]
theorem sl_drop {w : World} {bF oF m : Nat} {F : List Int} (h : Sl w (some ⟨bF, oF, none⟩) m F) (k : Nat) (hk : k < m) : Sl w (some ⟨bF, oF + k, none⟩) (m - k) (F.drop k) := by
  obtain ⟨h1, h2, h3, h4⟩ := h
  refine ⟨by rw [List.length_drop]; omega, by omega, fun j hj => ?_, fun x hx => h4 x (List.mem_of_mem_drop hx)⟩
  obtain ⟨b, off, e, hc⟩ := h3 (k + j) (by omega)
  simp only [Option.some.injEq, Addr.mk.injEq, and_true] at e
  obtain ⟨rfl, rfl⟩ := e
  exact ⟨bF, oF + k, rfl, by rw [gx_drop, Nat.add_assoc]; exact hc⟩
theorem sl_zero (w : World) (A : Option Addr) : Sl w A 0 [] := ⟨rfl, by omega, fun k hk => absurd hk (by omega), fun x hx => by simp at hx⟩
set_option maxRecDepth 100000 in
theorem s_MergeBlocks (a : Option Addr) (n cap : Nat) (L : List Sg) (A : Option Addr) (m capF : Nat) (F : List Int) (p : Int) (w : World) (hs : Sgs w a n L) (hf : Sl w A m F) (hcF : m ≤ capF) (hp : -9223372036854775808 ≤ p) (hp2 : p ≤ 9223372036854775807) :
    Calls Try.prog 65 #[.agg #[.slice a n cap], .slice A m capF, .int .i64 p] w (Mrgd w L F p) := by
  have HS := Lib.hid hs; have HF := Lib.hid hf
  have HM := Lib.hid hf.1
  have hm := hf.2.1
  clear hs hf
  by_cases h0 : fndE L F (isNo p) = 0
  · have HE := Lib.hid h0
    obtain ⟨b, rfl, hb, hv, hk, hsec⟩ := isNo_cases h0
    rw [HM.out] at hb
    have h28 : 2 ≤ m ∧ m ≤ 8 := by have := (bkC_iff L F).1 hk; rw [HM.out] at this; omega
    obtain ⟨h2, h8⟩ := h28
    clear hv hk hsec
    by_cases hst : b + 1 = m ∨ m = 2
    · have HT := Lib.hid (mrg_state h0 HM.out hst)
      have hst' : ((b : Int) = (m : Int) - 1) ∨ (¬ ((b : Int) = (m : Int) - 1) ∧ m = 2) := by omega
      clear hst h0
      rcases hst' with hq | ⟨hq, hq2⟩
      · have e1 : ((b : Int) == (m : Int) - 1) = true := by simpa using hq
        clear hq
        go_enter Try.func65, Try.ntmps65
        go_wp2_with fail
        refine (s_l04Block a n cap L A m capF F (b : Int) _ (HS.out.later (by repeat (first | (with_reducible exact Later.refl _) | (with_reducible exact Hid.out (by assumption)) | (with_reducible refine Later.alloc ?_ _) | (with_reducible refine Later.setCell ?_ (by simp; omega) _) | (with_reducible refine Later.setCell ?_ (by simp) _) | (with_reducible refine Later.drewN ?_ _) | (with_reducible refine Later.drew ?_) | (with_reducible refine Later.trans ?_ (Hid.out (by assumption)))))) (HF.out.later (by repeat (first | (with_reducible exact Later.refl _) | (with_reducible exact Hid.out (by assumption)) | (with_reducible refine Later.alloc ?_ _) | (with_reducible refine Later.setCell ?_ (by simp; omega) _) | (with_reducible refine Later.setCell ?_ (by simp) _) | (with_reducible refine Later.drewN ?_ _) | (with_reducible refine Later.drew ?_) | (with_reducible refine Later.trans ?_ (Hid.out (by assumption)))))) hp hp2).mono ?_
        rw [HE.out]
        rintro e w1 ⟨rfl, hb⟩
        have H1 := Lib.hid hb
        clear hb
        go_wp2_with fail
        go_ret2
        exact ⟨.slice none 0 0, by rw [HT.out.1]; rfl, by rw [HT.out.2]; exact own_none _ _, (by repeat (first | (with_reducible exact Later.refl _) | (with_reducible exact Hid.out (by assumption)) | (with_reducible refine Later.alloc ?_ _) | (with_reducible refine Later.setCell ?_ (by simp; omega) _) | (with_reducible refine Later.setCell ?_ (by simp) _) | (with_reducible refine Later.drewN ?_ _) | (with_reducible refine Later.drew ?_) | (with_reducible refine Later.trans ?_ (Hid.out (by assumption)))))⟩
      · subst hq2
        obtain rfl : b = 0 := by omega
        clear hq
        go_enter Try.func65, Try.ntmps65
        go_wp2_with fail
        refine (s_l04Block a n cap L A 2 capF F ((0 : Nat) : Int) _ (HS.out.later (by repeat (first | (with_reducible exact Later.refl _) | (with_reducible exact Hid.out (by assumption)) | (with_reducible refine Later.alloc ?_ _) | (with_reducible refine Later.setCell ?_ (by simp; omega) _) | (with_reducible refine Later.setCell ?_ (by simp) _) | (with_reducible refine Later.drewN ?_ _) | (with_reducible refine Later.drew ?_) | (with_reducible refine Later.trans ?_ (Hid.out (by assumption)))))) (HF.out.later (by repeat (first | (with_reducible exact Later.refl _) | (with_reducible exact Hid.out (by assumption)) | (with_reducible refine Later.alloc ?_ _) | (with_reducible refine Later.setCell ?_ (by simp; omega) _) | (with_reducible refine Later.setCell ?_ (by simp) _) | (with_reducible refine Later.drewN ?_ _) | (with_reducible refine Later.drew ?_) | (with_reducible refine Later.trans ?_ (Hid.out (by assumption)))))) hp hp2).mono ?_
        rw [HE.out]
        rintro e w1 ⟨rfl, hb⟩
        have H1 := Lib.hid hb
        clear hb
        go_wp2_with fail
        go_ret2
        exact ⟨.slice none 0 0, by rw [HT.out.1]; rfl, by rw [HT.out.2]; exact own_none _ _, (by repeat (first | (with_reducible exact Later.refl _) | (with_reducible exact Hid.out (by assumption)) | (with_reducible refine Later.alloc ?_ _) | (with_reducible refine Later.setCell ?_ (by simp; omega) _) | (with_reducible refine Later.setCell ?_ (by simp) _) | (with_reducible refine Later.drewN ?_ _) | (with_reducible refine Later.drew ?_) | (with_reducible refine Later.trans ?_ (Hid.out (by assumption)))))⟩
    · have HT := Lib.hid (mrg_ok h0 HM.out hst)
      have e1 : ((b : Int) == (m : Int) - 1) = false := by simp; omega
      have e2 : ((m : Int) == 2) = false := by simp; omega
      have hb1 : b + 1 < m := by omega
      have hm3 : 3 ≤ m := by omega
      clear hst h0
      obtain ⟨bF, oF, rfl, _⟩ := HF.out.at 0 (by omega)
      go_enter Try.func65, Try.ntmps65
      go_wp2_with fail
      refine (s_l04Block a n cap L _ m capF F (b : Int) _ (HS.out.later (by repeat (first | (with_reducible exact Later.refl _) | (with_reducible exact Hid.out (by assumption)) | (with_reducible refine Later.alloc ?_ _) | (with_reducible refine Later.setCell ?_ (by simp; omega) _) | (with_reducible refine Later.setCell ?_ (by simp) _) | (with_reducible refine Later.drewN ?_ _) | (with_reducible refine Later.drew ?_) | (with_reducible refine Later.trans ?_ (Hid.out (by assumption)))))) (HF.out.later (by repeat (first | (with_reducible exact Later.refl _) | (with_reducible exact Hid.out (by assumption)) | (with_reducible refine Later.alloc ?_ _) | (with_reducible refine Later.setCell ?_ (by simp; omega) _) | (with_reducible refine Later.setCell ?_ (by simp) _) | (with_reducible refine Later.drewN ?_ _) | (with_reducible refine Later.drew ?_) | (with_reducible refine Later.trans ?_ (Hid.out (by assumption)))))) hp hp2).mono ?_
      rw [HE.out]
      rintro e w1 ⟨rfl, hb⟩
      have H1 : Hid (Later w w1) := Lib.hid (Later.trans (by repeat (first | (with_reducible exact Later.refl _) | (with_reducible exact Hid.out (by assumption)) | (with_reducible refine Later.alloc ?_ _) | (with_reducible refine Later.setCell ?_ (by simp; omega) _) | (with_reducible refine Later.setCell ?_ (by simp) _) | (with_reducible refine Later.drewN ?_ _) | (with_reducible refine Later.drew ?_) | (with_reducible refine Later.trans ?_ (Hid.out (by assumption))))) hb)
      clear hb
      go_wp2_with fail
      obtain ⟨t, ht⟩ : ∃ t : Nat, t = b + 2 := ⟨_, rfl⟩
      obtain ⟨t1, ht1⟩ : ∃ t : Nat, t = b + 1 := ⟨_, rfl⟩
      have hk1 : (0 : Int) ≤ (t1 : Int) := by omega
      have hk2 : (t1 : Int) ≤ (m : Int) := by omega
      have hk2' : (t1 : Int) ≤ (capF : Int) := by omega
      have hk3 : (0 : Int) ≤ (t : Int) := by omega
      have hk4 : (t : Int) ≤ (m : Int) := by omega
      have hk5 : (t : Int) ≤ (capF : Int) := by omega
      have hk6 : t1 ≤ 8 := by omega
      have hwr : IntKind.i64.wrap ((b : Int) + 2) = (t : Int) := (IntWalk.i64_in _ (by omega)).trans (by omega)
      have hwr1 : IntKind.i64.wrap ((b : Int) + 1) = (t1 : Int) := (IntWalk.i64_in _ (by omega)).trans (by omega)
      have SL1 : Hid (∀ W, Later w W → Sl W (some ⟨bF, oF, none⟩) t1 (F.take t1)) := Lib.hid (fun W h => sl_take (HF.out.later h) t1 (by omega))
      have SL2 : Hid (t < m → ∀ W, Later w W → Sl W (some ⟨bF, oF + t, none⟩) (m - t) (F.drop t)) := Lib.hid (fun ht W h => sl_drop (HF.out.later h) t ht)
      have HLT : Hid ((F.take t1).length = t1) := Lib.hid (by have := HM.out; simp; omega)
      by_cases hl3 : t < m
      · have hc2 : ¬ capF = t := by omega
        have HD : Hid (F.take t1 ++ F.drop t = F.take (b + 1) ++ F.drop (b + 2)) := Lib.hid (by rw [ht, ht1])
        clear ht ht1
        go_region_law (first
          | (refine stepAll rfl (.tmp 30) (.tmp 34) rfl w.heap.size _ (F.take t1) (F.drop t) ⟨bF, oF + t, none⟩ (m - t) (capF - t) O3.out (SL2.out hl3 _ H3.out) (by simp [Act.eval, Act.put]) (by simp [Act.eval, Act.put]) (by rw [HLT.out]; omega) hz3 ?_; intro v' w4 ho4 hg4; have H4 : Hid (Later w w4) := Lib.hid (Below.grown H3.out hg4 hz3 (fun k e => (O3.out.lt k e).1)); have O4 := Lib.hid ho4; clear ho4 hg4)
          | (go_simp; go_at_call 118; refine (s_Own _ t1 capF _ _ (SL1.out _ (show Later w _ from (by repeat (first | (with_reducible exact Later.refl _) | (with_reducible exact Hid.out (by assumption)) | (with_reducible refine Later.alloc ?_ _) | (with_reducible refine Later.setCell ?_ (by simp; omega) _) | (with_reducible refine Later.setCell ?_ (by simp) _) | (with_reducible refine Later.drewN ?_ _) | (with_reducible refine Later.drew ?_) | (with_reducible refine Later.trans ?_ (Hid.out (by assumption))))))) (by omega) (fun h => by cases h)).mono ?_; rintro e w3 ⟨v, rfl, ho, hb3⟩; have H3 : Hid (Later w w3) := Lib.hid (Later.trans (by repeat (first | (with_reducible exact Later.refl _) | (with_reducible exact Hid.out (by assumption)) | (with_reducible refine Later.alloc ?_ _) | (with_reducible refine Later.setCell ?_ (by simp; omega) _) | (with_reducible refine Later.setCell ?_ (by simp) _) | (with_reducible refine Later.drewN ?_ _) | (with_reducible refine Later.drew ?_) | (with_reducible refine Later.trans ?_ (Hid.out (by assumption))))) hb3); have O3 := Lib.hid (ho.mono (Nat.le_trans H1.out.size (Nat.le_refl _))); have hz3 := H3.out.size; clear hb3 ho))
        all_goals
          go_wp2
          go_ret2
          exact ⟨_, by rw [HT.out.1]; rfl, by rw [HT.out.2, ← HD.out]; exact O4.out, H4.out⟩
      · have HD : Hid (F.take t1 ++ [] = F.take (b + 1) ++ F.drop (b + 2)) := Lib.hid (by rw [ht1, List.drop_eq_nil_of_le (by have := HM.out; omega)])
        clear ht ht1
        by_cases hct : capF = t
        · subst hct
          go_region_law (first
            | (refine stepAll rfl (.tmp 30) (.tmp 34) rfl w.heap.size _ (F.take t1) [] ⟨bF, oF, none⟩ 0 0 O3.out (sl_zero _ _) (by simp [Act.eval, Act.put]) (by simp [Act.eval, Act.put]) (by rw [HLT.out]; omega) hz3 ?_; intro v' w4 ho4 hg4; have H4 : Hid (Later w w4) := Lib.hid (Below.grown H3.out hg4 hz3 (fun k e => (O3.out.lt k e).1)); have O4 := Lib.hid ho4; clear ho4 hg4)
            | (go_simp; go_at_call 118; refine (s_Own _ t1 capF _ _ (SL1.out _ (show Later w _ from (by repeat (first | (with_reducible exact Later.refl _) | (with_reducible exact Hid.out (by assumption)) | (with_reducible refine Later.alloc ?_ _) | (with_reducible refine Later.setCell ?_ (by simp; omega) _) | (with_reducible refine Later.setCell ?_ (by simp) _) | (with_reducible refine Later.drewN ?_ _) | (with_reducible refine Later.drew ?_) | (with_reducible refine Later.trans ?_ (Hid.out (by assumption))))))) (by omega) (fun h => by cases h)).mono ?_; rintro e w3 ⟨v, rfl, ho, hb3⟩; have H3 : Hid (Later w w3) := Lib.hid (Later.trans (by repeat (first | (with_reducible exact Later.refl _) | (with_reducible exact Hid.out (by assumption)) | (with_reducible refine Later.alloc ?_ _) | (with_reducible refine Later.setCell ?_ (by simp; omega) _) | (with_reducible refine Later.setCell ?_ (by simp) _) | (with_reducible refine Later.drewN ?_ _) | (with_reducible refine Later.drew ?_) | (with_reducible refine Later.trans ?_ (Hid.out (by assumption))))) hb3); have O3 := Lib.hid (ho.mono (Nat.le_trans H1.out.size (Nat.le_refl _))); have hz3 := H3.out.size; clear hb3 ho))
          all_goals
            go_wp2
            go_ret2
            exact ⟨_, by rw [HT.out.1]; rfl, by rw [HT.out.2, ← HD.out]; exact O4.out, H4.out⟩
        · have hc2 : ¬ capF = t := hct
          go_region_law (first
            | (refine stepAll rfl (.tmp 30) (.tmp 34) rfl w.heap.size _ (F.take t1) [] ⟨bF, oF + t, none⟩ (m - t) (capF - t) O3.out (by rw [show m - t = 0 by omega]; exact sl_zero _ _) (by simp [Act.eval, Act.put]) (by simp [Act.eval, Act.put]) (by rw [HLT.out]; omega) hz3 ?_; intro v' w4 ho4 hg4; have H4 : Hid (Later w w4) := Lib.hid (Below.grown H3.out hg4 hz3 (fun k e => (O3.out.lt k e).1)); have O4 := Lib.hid ho4; clear ho4 hg4)
            | (go_simp; go_at_call 118; refine (s_Own _ t1 capF _ _ (SL1.out _ (show Later w _ from (by repeat (first | (with_reducible exact Later.refl _) | (with_reducible exact Hid.out (by assumption)) | (with_reducible refine Later.alloc ?_ _) | (with_reducible refine Later.setCell ?_ (by simp; omega) _) | (with_reducible refine Later.setCell ?_ (by simp) _) | (with_reducible refine Later.drewN ?_ _) | (with_reducible refine Later.drew ?_) | (with_reducible refine Later.trans ?_ (Hid.out (by assumption))))))) (by omega) (fun h => by cases h)).mono ?_; rintro e w3 ⟨v, rfl, ho, hb3⟩; have H3 : Hid (Later w w3) := Lib.hid (Later.trans (by repeat (first | (with_reducible exact Later.refl _) | (with_reducible exact Hid.out (by assumption)) | (with_reducible refine Later.alloc ?_ _) | (with_reducible refine Later.setCell ?_ (by simp; omega) _) | (with_reducible refine Later.setCell ?_ (by simp) _) | (with_reducible refine Later.drewN ?_ _) | (with_reducible refine Later.drew ?_) | (with_reducible refine Later.trans ?_ (Hid.out (by assumption))))) hb3); have O3 := Lib.hid (ho.mono (Nat.le_trans H1.out.size (Nat.le_refl _))); have hz3 := H3.out.size; clear hb3 ho))
          all_goals
            go_wp2
            go_ret2
            exact ⟨_, by rw [HT.out.1]; rfl, by rw [HT.out.2, ← HD.out]; exact O4.out, H4.out⟩
  · have HT := Lib.hid (mrg_bad h0)
    have e0 : (fndE L F (isNo p) != 0) = true := by simpa using h0
    clear h0
    go_enter Try.func65, Try.ntmps65
    go_wp2_with fail
    refine (s_l04Block a n cap L A m capF F p _ (HS.out.later (by repeat (first | (with_reducible exact Later.refl _) | (with_reducible exact Hid.out (by assumption)) | (with_reducible refine Later.alloc ?_ _) | (with_reducible refine Later.setCell ?_ (by simp; omega) _) | (with_reducible refine Later.setCell ?_ (by simp) _) | (with_reducible refine Later.drewN ?_ _) | (with_reducible refine Later.drew ?_) | (with_reducible refine Later.trans ?_ (Hid.out (by assumption)))))) (HF.out.later (by repeat (first | (with_reducible exact Later.refl _) | (with_reducible exact Hid.out (by assumption)) | (with_reducible refine Later.alloc ?_ _) | (with_reducible refine Later.setCell ?_ (by simp; omega) _) | (with_reducible refine Later.setCell ?_ (by simp) _) | (with_reducible refine Later.drewN ?_ _) | (with_reducible refine Later.drew ?_) | (with_reducible refine Later.trans ?_ (Hid.out (by assumption)))))) hp hp2).mono ?_
    rintro e w1 ⟨rfl, hb⟩
    have H1 := Lib.hid hb
    clear hb
    go_wp2_with fail
    go_ret2
    exact ⟨.slice none 0 0, by rw [HT.out.1]; rfl, by rw [HT.out.2]; exact own_none _ _, (by repeat (first | (with_reducible exact Later.refl _) | (with_reducible exact Hid.out (by assumption)) | (with_reducible refine Later.alloc ?_ _) | (with_reducible refine Later.setCell ?_ (by simp; omega) _) | (with_reducible refine Later.setCell ?_ (by simp) _) | (with_reducible refine Later.drewN ?_ _) | (with_reducible refine Later.drew ?_) | (with_reducible refine Later.trans ?_ (Hid.out (by assumption)))))⟩
end Go.Proofs.Ytehinlecppbjeaa
