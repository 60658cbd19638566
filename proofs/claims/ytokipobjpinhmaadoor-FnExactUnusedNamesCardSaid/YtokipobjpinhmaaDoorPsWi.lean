/- Programs that are written, of the program and of the model. -/
import Derived.Test.YtokipobjpinhmaaDoorPsH
import Derived.Test.YtokipobjpinhmaaDoorPsT
import Derived.Test.YtokipobjpinhmaaDoorPsy
namespace Go.Proofs.YtokipobjpinhmaaDoor
open Go.RowKit Go.Shelf
set_option maxHeartbeats 8000000
set_option maxRecDepth 100000
set_option linter.unusedVariables false
set_option linter.unusedSimpArgs false
theorem i_areNames (a : Option Addr) (n cap : Nat) (W : List (List UInt8)) (w : World) (hs : Sts w a n W) :
    Calls Tryd.prog 88 #[.slice a n cap] w fun e w' => e = .returned (.bool (nmsB W)) ∧ Later w w' := by
  have HS := Lib.hid hs
  have HL := Lib.hid hs.1
  have hn := hs.2.1
  clear hs
  go_enter Tryd.func88, Tryd.ntmps88
  go_wp2_with fail
  go_loopw [7] (fun i wr => ∃ k : Nat, k ≤ n ∧ i = .int .i64 k ∧ Later w wr ∧ Hid (∀ j, j < k → nmB (wx W j) = true)) (fun i _ => n - (intOf i).toNat)
  case atStart => exact ⟨0, by omega, rfl, Later.refl _, Lib.hid (by intro j h; omega)⟩
  case round =>
    obtain ⟨k, hk, rfl, hb, HI⟩ := hrel
    have B3 := Lib.hid hb
    by_cases hlt : k < n
    · obtain ⟨b, off, rfl, c0⟩ := (HS.out.later hb).at k hlt
      have hle := HS.out.len k hlt
      have IN : Hid (∀ W', Calls Tryd.prog 78 #[.string (tx (wx W k))] W' fun e w' => e = .returned (.bool (nmB (wx W k))) ∧ Later W' w') := Lib.hid (fun W' => i_isName (tx (wx W k)) W' hle)
      obtain ⟨y, hy⟩ : ∃ y, y = tx (wx W k) := ⟨_, rfl⟩
      rw [← hy] at c0 IN
      clear hy hb hle
      cases ht : nmB (wx W k)
      · have HB : Hid (nmsB W = false) := Lib.hid (by unfold nmsB; rw [allN_bad W k (by rw [HL.out]; exact hlt) ht]; rfl)
        rw [ht] at IN
        clear ht
        go_wp2_with (go_at_call 78; refine (IN.out _).mono ?_; rintro e w1 ⟨rfl, hb⟩; have H1 := Lib.hid hb; clear hb)
        go_ret
        exact ⟨by rw [HB.out]; rfl, (by repeat (first | (with_reducible exact Later.refl _) | (with_reducible exact Hid.out (by assumption)) | (with_reducible refine Later.alloc ?_ _) | (with_reducible refine Later.setCell ?_ (by simp; omega) _) | (with_reducible refine Later.setCell ?_ (by simp) _) | (with_reducible refine Later.drewN ?_ _) | (with_reducible refine Later.drew ?_) | (with_reducible refine Later.trans ?_ (Hid.out (by assumption)))))⟩
      · have HT := Lib.hid ht
        rw [ht] at IN
        clear ht
        go_wp2_with (go_at_call 78; refine (IN.out _).mono ?_; rintro e w1 ⟨rfl, hb⟩; have H1 := Lib.hid hb; clear hb)
        go_roundw
        case rel =>
          refine ⟨k + 1, by omega, by go_num, (by repeat (first | (with_reducible exact Later.refl _) | (with_reducible exact Hid.out (by assumption)) | (with_reducible refine Later.alloc ?_ _) | (with_reducible refine Later.setCell ?_ (by simp; omega) _) | (with_reducible refine Later.setCell ?_ (by simp) _) | (with_reducible refine Later.drewN ?_ _) | (with_reducible refine Later.drew ?_) | (with_reducible refine Later.trans ?_ (Hid.out (by assumption))))), Lib.hid ?_⟩
          intro q hq
          rcases Nat.lt_or_ge q k with h1 | h1
          · exact HI.out q h1
          · obtain rfl : q = k := by omega
            exact HT.out
        case measure => simp [intOf]; omega
    · obtain rfl : k = n := by omega
      have HF : Hid (nmsB W = decide (k ≤ 20)) := Lib.hid (by unfold nmsB; rw [allN_all W (by rw [HL.out]; exact HI.out), HL.out]; rfl)
      clear hb
      by_cases h20 : k ≤ 20
      · rw [decide_eq_true h20] at HF
        go_wp2_with fail
        all_goals
          go_ret
          exact ⟨by rw [HF.out]; first | rfl | exact ret_b (by simp; omega), B3.out⟩
      · rw [decide_eq_false h20] at HF
        go_wp2_with fail
        all_goals
          go_ret
          exact ⟨by rw [HF.out]; first | rfl | exact ret_b (by simp; omega), B3.out⟩
theorem i_areLines (a : Option Addr) (n cap : Nat) (M : List Lne) (w : World) (hs : Lns w a n M) (ho : Ops w) :
    Calls Tryd.prog 89 #[.slice a n cap] w fun e w' => e = .returned (.bool (lnsB M)) ∧ Later w w' := by
  have HS := Lib.hid hs
  have HL := Lib.hid hs.1
  have HO := Lib.hid ho
  have hn := hs.2.1
  clear hs ho
  go_enter Tryd.func89, Tryd.ntmps89
  go_wp2_with fail
  go_loopw [7] (fun i wr => ∃ k : Nat, k ≤ n ∧ i = .int .i64 k ∧ Later w wr ∧ Hid (∀ j, j < k → lnOk M j = true)) (fun i _ => n - (intOf i).toNat)
  case atStart => exact ⟨0, by omega, rfl, Later.refl _, Lib.hid (by intro j h; omega)⟩
  case round =>
    obtain ⟨k, hk, rfl, hb, HI⟩ := hrel
    have B3 := Lib.hid hb
    by_cases hlt : k < n
    · obtain ⟨b, off, ta, tc, rfl, c0, c1, c2⟩ := (HS.out.later hb).2.2.1 k hlt
      have hle := (HS.out.rng k hlt).1
      have HT2 := Lib.hid c2
      have O3 := Lib.hid (HO.out.later hb)
      have IN : Hid (∀ W', Calls Tryd.prog 78 #[.string (tx (ltx M k))] W' fun e w' => e = .returned (.bool (nmB (ltx M k))) ∧ Later W' w') := Lib.hid (fun W' => i_isName (tx (ltx M k)) W' hle)
      have IE := Lib.hid (fun W' h1 h2 => i_IsExpression ta (lrx M k).length tc (lrx M k) W' h1 h2)
      have HK : Hid (lnOk M k = (nmB (ltx M k) && exB (lrx M k))) := Lib.hid rfl
      obtain ⟨y, hy⟩ : ∃ y, y = tx (ltx M k) := ⟨_, rfl⟩
      obtain ⟨q, hq⟩ : ∃ y, y = (lrx M k).length := ⟨_, rfl⟩
      obtain ⟨t1, ht1⟩ : ∃ b, b = nmB (ltx M k) := ⟨_, rfl⟩
      obtain ⟨t2, ht2⟩ : ∃ b, b = exB (lrx M k) := ⟨_, rfl⟩
      rw [← hy] at c0 IN; rw [← hq] at c1 IE HT2
      rw [← ht1] at IN HK; rw [← ht2] at IE HK
      clear hy hq ht1 ht2 hb hle c2
      cases t1
      · have HB : Hid (lnsB M = false) := Lib.hid (by unfold lnsB; rw [allL_bad M k (by rw [HL.out]; exact hlt) (by rw [HK.out]; rfl)]; rfl)
        go_wp2_with (go_at_call 78; refine (IN.out _).mono ?_; rintro e w1 ⟨rfl, hb⟩; obtain ⟨H1, hcc, hff, hzz⟩ := later_facts hb; clear hb; (try simp at hzz))
        all_goals
          go_ret
          exact ⟨by rw [HB.out]; rfl, (by repeat (first | (with_reducible exact Later.refl _) | (with_reducible exact Hid.out (by assumption)) | (with_reducible refine Later.alloc ?_ _) | (with_reducible refine Later.setCell ?_ (by simp; omega) _) | (with_reducible refine Later.setCell ?_ (by simp) _) | (with_reducible refine Later.drewN ?_ _) | (with_reducible refine Later.drew ?_) | (with_reducible refine Later.trans ?_ (Hid.out (by assumption)))))⟩
      · cases t2
        · have HB : Hid (lnsB M = false) := Lib.hid (by unfold lnsB; rw [allL_bad M k (by rw [HL.out]; exact hlt) (by rw [HK.out]; rfl)]; rfl)
          go_wp2_with (first | (go_at_call 78; refine (IN.out _).mono ?_; rintro e w1 ⟨rfl, hb⟩; obtain ⟨H1, hcc, hff, hzz⟩ := later_facts hb; clear hb; (try simp at hzz)) | (go_at_call 116; refine (IE.out _ (HT2.out.later (by repeat (first | (with_reducible exact Later.refl _) | (with_reducible exact Hid.out (by assumption)) | (with_reducible refine Later.alloc ?_ _) | (with_reducible refine Later.setCell ?_ (by simp; omega) _) | (with_reducible refine Later.setCell ?_ (by simp) _) | (with_reducible refine Later.drewN ?_ _) | (with_reducible refine Later.drew ?_) | (with_reducible refine Later.trans ?_ (Hid.out (by assumption)))))) (O3.out.later (by repeat (first | (with_reducible exact Later.refl _) | (with_reducible exact Hid.out (by assumption)) | (with_reducible refine Later.alloc ?_ _) | (with_reducible refine Later.setCell ?_ (by simp; omega) _) | (with_reducible refine Later.setCell ?_ (by simp) _) | (with_reducible refine Later.drewN ?_ _) | (with_reducible refine Later.drew ?_) | (with_reducible refine Later.trans ?_ (Hid.out (by assumption))))))).mono ?_; rintro e w2 ⟨rfl, hb⟩; have H2 := Lib.hid hb; clear hb))
          all_goals
            go_ret
            exact ⟨by rw [HB.out]; rfl, Later.trans (by repeat (first | (with_reducible exact Later.refl _) | (with_reducible exact Hid.out (by assumption)) | (with_reducible refine Later.alloc ?_ _) | (with_reducible refine Later.setCell ?_ (by simp; omega) _) | (with_reducible refine Later.setCell ?_ (by simp) _) | (with_reducible refine Later.drewN ?_ _) | (with_reducible refine Later.drew ?_) | (with_reducible refine Later.trans ?_ (Hid.out (by assumption))))) H2.out⟩
        · go_wp2_with (first | (go_at_call 78; refine (IN.out _).mono ?_; rintro e w1 ⟨rfl, hb⟩; obtain ⟨H1, hcc, hff, hzz⟩ := later_facts hb; clear hb; (try simp at hzz)) | (go_at_call 116; refine (IE.out _ (HT2.out.later (by repeat (first | (with_reducible exact Later.refl _) | (with_reducible exact Hid.out (by assumption)) | (with_reducible refine Later.alloc ?_ _) | (with_reducible refine Later.setCell ?_ (by simp; omega) _) | (with_reducible refine Later.setCell ?_ (by simp) _) | (with_reducible refine Later.drewN ?_ _) | (with_reducible refine Later.drew ?_) | (with_reducible refine Later.trans ?_ (Hid.out (by assumption)))))) (O3.out.later (by repeat (first | (with_reducible exact Later.refl _) | (with_reducible exact Hid.out (by assumption)) | (with_reducible refine Later.alloc ?_ _) | (with_reducible refine Later.setCell ?_ (by simp; omega) _) | (with_reducible refine Later.setCell ?_ (by simp) _) | (with_reducible refine Later.drewN ?_ _) | (with_reducible refine Later.drew ?_) | (with_reducible refine Later.trans ?_ (Hid.out (by assumption))))))).mono ?_; rintro e w2 ⟨rfl, hb⟩; have H2 := Lib.hid hb; clear hb))
          all_goals
            go_roundw
            case rel =>
              refine ⟨k + 1, by omega, by go_num, Later.trans (by repeat (first | (with_reducible exact Later.refl _) | (with_reducible exact Hid.out (by assumption)) | (with_reducible refine Later.alloc ?_ _) | (with_reducible refine Later.setCell ?_ (by simp; omega) _) | (with_reducible refine Later.setCell ?_ (by simp) _) | (with_reducible refine Later.drewN ?_ _) | (with_reducible refine Later.drew ?_) | (with_reducible refine Later.trans ?_ (Hid.out (by assumption))))) H2.out, Lib.hid ?_⟩
              intro q hq
              rcases Nat.lt_or_ge q k with h1 | h1
              · exact HI.out q h1
              · obtain rfl : q = k := by omega
                exact HK.out
            case measure => simp [intOf]; omega
    · obtain rfl : k = n := by omega
      have HF : Hid (lnsB M = (decide (1 ≤ k) && decide (k ≤ 40))) := Lib.hid (by unfold lnsB; rw [allL_all M (by rw [HL.out]; exact HI.out), HL.out]; rfl)
      clear hb
      rcases (show k = 0 ∨ 40 < k ∨ (1 ≤ k ∧ k ≤ 40) by omega) with h0 | h0 | ⟨h0, h1⟩
      · subst h0
        go_wp2_with fail
        all_goals
          go_ret
          exact ⟨by rw [HF.out]; rfl, B3.out⟩
      · rw [decide_eq_false (show ¬ k ≤ 40 by omega), Bool.and_false] at HF
        have h3 : 0 < k := by omega
        go_wp2_with fail
        all_goals
          go_ret
          exact ⟨by rw [HF.out]; first | rfl | exact ret_b (by simp; omega), B3.out⟩
      · rw [decide_eq_true h0, decide_eq_true h1] at HF
        have h3 : 0 < k := by omega
        go_wp2_with fail
        all_goals
          go_ret
          exact ⟨by rw [HF.out]; first | rfl | exact ret_b (by simp; omega), B3.out⟩
theorem s_Names (a : Option Addr) (n cap : Nat) (W : List (List UInt8)) (low : Nat) (w : World) (hlow : low ≤ 1) (hs : Sts w a n W) :
    Calls Tryd.prog 96 #[.slice a n cap, .int .i64 low] w fun e w' => e = .returned (.bool (nmsB W && decide (low ≤ W.length))) ∧ Later w w' := by
  have HS := Lib.hid hs
  have HL := Lib.hid hs.1
  have hn := hs.2.1
  clear hs
  go_enter Tryd.func96, Tryd.ntmps96
  go_wp2_with fail
  go_loopw [5] (fun i wr => ∃ k : Nat, k ≤ n ∧ i = .int .i64 k ∧ Later w wr ∧ Hid (∀ j, j < k → nmB (wx W j) = true)) (fun i _ => n - (intOf i).toNat)
  case atStart => exact ⟨0, by omega, rfl, Later.refl _, Lib.hid (by intro j h; omega)⟩
  case round =>
    obtain ⟨k, hk, rfl, hb, HI⟩ := hrel
    have B3 := Lib.hid hb
    by_cases hlt : k < n
    · obtain ⟨b, off, rfl, c0⟩ := (HS.out.later hb).at k hlt
      have hle := HS.out.len k hlt
      have IN : Hid (∀ W', Calls Tryd.prog 74 #[.string (tx (wx W k))] W' fun e w' => e = .returned (.bool (nmB (wx W k))) ∧ Later W' w') := Lib.hid (fun W' => s_Name (tx (wx W k)) W' hle)
      obtain ⟨y, hy⟩ : ∃ y, y = tx (wx W k) := ⟨_, rfl⟩
      rw [← hy] at c0 IN
      clear hy hb hle
      cases ht : nmB (wx W k)
      · have HB : Hid (nmsB W = false) := Lib.hid (by unfold nmsB; rw [allN_bad W k (by rw [HL.out]; exact hlt) ht]; rfl)
        rw [ht] at IN
        clear ht
        go_wp2_with (go_at_call 74; refine (IN.out _).mono ?_; rintro e w1 ⟨rfl, hb⟩; have H1 := Lib.hid hb; clear hb)
        go_ret
        exact ⟨by rw [HB.out]; rfl, (by repeat (first | (with_reducible exact Later.refl _) | (with_reducible exact Hid.out (by assumption)) | (with_reducible refine Later.alloc ?_ _) | (with_reducible refine Later.setCell ?_ (by simp; omega) _) | (with_reducible refine Later.setCell ?_ (by simp) _) | (with_reducible refine Later.drewN ?_ _) | (with_reducible refine Later.drew ?_) | (with_reducible refine Later.trans ?_ (Hid.out (by assumption)))))⟩
      · have HT := Lib.hid ht
        rw [ht] at IN
        clear ht
        go_wp2_with (go_at_call 74; refine (IN.out _).mono ?_; rintro e w1 ⟨rfl, hb⟩; have H1 := Lib.hid hb; clear hb)
        go_roundw
        case rel =>
          refine ⟨k + 1, by omega, by go_num, (by repeat (first | (with_reducible exact Later.refl _) | (with_reducible exact Hid.out (by assumption)) | (with_reducible refine Later.alloc ?_ _) | (with_reducible refine Later.setCell ?_ (by simp; omega) _) | (with_reducible refine Later.setCell ?_ (by simp) _) | (with_reducible refine Later.drewN ?_ _) | (with_reducible refine Later.drew ?_) | (with_reducible refine Later.trans ?_ (Hid.out (by assumption))))), Lib.hid ?_⟩
          intro q hq
          rcases Nat.lt_or_ge q k with h1 | h1
          · exact HI.out q h1
          · obtain rfl : q = k := by omega
            exact HT.out
        case measure => simp [intOf]; omega
    · obtain rfl : k = n := by omega
      have HF : Hid (((nmsB W && decide (low ≤ W.length))) = (decide ((low : Int) ≤ (k : Int)) && decide ((k : Int) ≤ 20))) := Lib.hid (by
        unfold nmsB; rw [allN_all W (by rw [HL.out]; exact HI.out), HL.out, Bool.true_and, Bool.and_comm]
        congr 1
        · exact decide_eq_decide.2 (by omega)
        · exact decide_eq_decide.2 (by omega))
      have IR := Lib.hid (fun W' => s_InR (k : Int) (low : Int) 20 W' ⟨by omega, by omega⟩)
      obtain ⟨t, ht⟩ : ∃ t, t = (decide ((low : Int) ≤ (k : Int)) && decide ((k : Int) ≤ 20)) := ⟨_, rfl⟩
      rw [← ht] at HF IR
      clear hb ht
      go_wp2_with (go_at_call 98; refine (IR.out _).mono ?_; rintro e w' ⟨rfl, rfl⟩)
      go_ret
      exact ⟨by rw [HF.out]; rfl, B3.out⟩
end Go.Proofs.YtokipobjpinhmaaDoor
