/- Terms, of the program: names, kinds, terms. -/
import Derived.Test.YtokipobjpinhmaaDoorPsV
import Derived.Test.YtokipobjpinhmaaDoorTkJ
import Derived.Test.YtokipobjpinhmaaDoorHeld
namespace Go.Proofs.YtokipobjpinhmaaDoor
open Go.RowKit Go.Shelf
set_option maxHeartbeats 4000000
set_option maxRecDepth 100000
set_option linter.unusedVariables false
set_option linter.unusedSimpArgs false
theorem i_isTermKind (k : Int) (w : World) : Calls Tryd.prog 143 #[.int .i64 k] w fun e w' => e = .returned (.bool (kndT k)) ∧ w = w' := by
  have HK : Hid (kndT k = (decide (1 ≤ k) && decide (k ≤ 12))) := Lib.hid rfl
  go_enter Tryd.func143, Tryd.ntmps143
  go_wp2_with fail
  all_goals
    go_ret
    exact ⟨ret_b (by rw [HK.out]; first | (simp_all; done) | (simp_all; omega)), rfl⟩
theorem i_isName (s : ByteArray) (w : World) (hs : s.size ≤ 1048576) : Calls Tryd.prog 78 #[.string s] w fun e w' => e = .returned (.bool (nmB s.data.toList)) ∧ Later w w' := by
  have IW := Lib.hid (fun W => i_isWord s W hs)
  have IK := Lib.hid (i_IsKeyword s)
  obtain ⟨l, hl⟩ : ∃ l, l = s.data.toList := ⟨_, rfl⟩
  rw [← hl] at IW IK ⊢
  have HN : Hid (nmB l = (wrdB l && !(kwB l))) := Lib.hid rfl
  rw [HN.out]
  obtain ⟨b1, h1⟩ : ∃ b, b = wrdB l := ⟨_, rfl⟩
  obtain ⟨b2, h2⟩ : ∃ b, b = kwB l := ⟨_, rfl⟩
  rw [← h1] at IW ⊢; rw [← h2] at IK ⊢
  clear h1 h2 hl HN
  cases b1 <;> cases b2
  all_goals
    go_enter Tryd.func78, Tryd.ntmps78
    go_wp2_with (first | (go_at_call 109; refine (IW.out _).mono ?_; rintro e w1 ⟨rfl, hb⟩; have H1 := Lib.hid hb; clear hb) | (go_at_call 110; refine (IK.out _).mono ?_; rintro e w' ⟨rfl, rfl⟩))
    all_goals
      go_ret
      exact ⟨rfl, (by repeat (first | (with_reducible exact Later.refl _) | (with_reducible exact Hid.out (by assumption)) | (with_reducible refine Later.alloc ?_ _) | (with_reducible refine Later.setCell ?_ (by simp; omega) _) | (with_reducible refine Later.setCell ?_ (by simp) _) | (with_reducible refine Later.drewN ?_ _) | (with_reducible refine Later.drew ?_) | (with_reducible refine Later.trans ?_ (Hid.out (by assumption)))))⟩
theorem trm_one (t : List UInt8) (m : Int) : trmB 1 t m = (nmB t && decide (m = 0)) := by
  unfold trmB kndT cntK
  simp
  by_cases h : m = 0
  · simp [h]
  · simp [h]
theorem trm_cnt (k : Int) (t : List UInt8) (m : Int) (h1 : k ≠ 1) (h2 : kndT k = true) (h3 : cntK k = true) : trmB k t m = (decide (t = []) && decide (0 ≤ m) && decide (m ≤ 9999)) := by
  unfold trmB
  rw [h2, h3, if_neg h1]
  cases decide (t = []) <;> cases decide (0 ≤ m) <;> cases decide (m ≤ 9999) <;> rfl
theorem trm_oth (k : Int) (t : List UInt8) (m : Int) (h1 : k ≠ 1) (h2 : kndT k = true) (h3 : cntK k = false) : trmB k t m = (decide (t = []) && decide (m = 0)) := by
  unfold trmB
  rw [h2, h3, if_neg h1]
  by_cases h : m = 0
  · simp [h]
  · simp [h]
theorem trm_none (k : Int) (t : List UInt8) (m : Int) (h2 : kndT k = false) : trmB k t m = false := by
  unfold trmB; rw [h2]; rfl
theorem i_isTerm (k : Int) (t : List UInt8) (m : Int) (w : World) (hk : InR k) (ht : t.length ≤ 1048576) (hm : InR m) (ho : Ops w) : Calls Tryd.prog 141 #[.agg #[.int .i64 k, .string (tx t), .int .i64 m]] w fun e w' => e = .returned (.bool (trmB k t m)) ∧ Later w w' := by
  have K := Lib.hid (i_isTermKind k)
  have N : Hid (∀ W, Calls Tryd.prog 78 #[.string (tx t)] W fun e w' => e = .returned (.bool (nmB t)) ∧ Later W w') := Lib.hid (fun W => i_isName (tx t) W ht)
  have E0 : ((tx t).toList.isEmpty) = decide (t = []) := by
    rw [Lib.toList_data]
    show t.isEmpty = _
    cases t <;> simp
  have hg := ho.lt
  cases hkn : kndT k
  · rw [trm_none k t m hkn]
    rw [hkn] at K
    obtain ⟨s, hs⟩ : ∃ s, s = tx t := ⟨_, rfl⟩
    rw [← hs] at E0 N ⊢
    clear hs hkn ho hk ht hm
    go_enter Tryd.func141, Tryd.ntmps141
    go_wp2_with (go_at_call 143; refine (K.out _).mono ?_; rintro e w' ⟨rfl, rfl⟩)
    all_goals
      go_ret
      exact ⟨rfl, (by repeat (first | (with_reducible exact Later.refl _) | (with_reducible exact Hid.out (by assumption)) | (with_reducible refine Later.alloc ?_ _) | (with_reducible refine Later.setCell ?_ (by simp; omega) _) | (with_reducible refine Later.setCell ?_ (by simp) _) | (with_reducible refine Later.drewN ?_ _) | (with_reducible refine Later.drew ?_) | (with_reducible refine Later.trans ?_ (Hid.out (by assumption)))))⟩
  · by_cases h1 : k = 1
    · subst h1
      rw [trm_one]
      rw [hkn] at K
      obtain ⟨b4, h4⟩ : ∃ b, b = nmB t := ⟨_, rfl⟩
      rw [← h4] at N ⊢
      obtain ⟨s, hs⟩ : ∃ s, s = tx t := ⟨_, rfl⟩
      rw [← hs] at E0 N ⊢
      clear hs hkn ho hk ht h4
      by_cases hz : m = 0
      · have ez : (m == 0) = true := by simpa using hz
        rw [decide_eq_true hz]
        clear hz hm
        cases b4
        all_goals
          go_enter Tryd.func141, Tryd.ntmps141
          go_wp2_with (first | (go_at_call 143; refine (K.out _).mono ?_; rintro e w' ⟨rfl, rfl⟩) | (go_at_call 78; refine (N.out _).mono ?_; rintro e w1 ⟨rfl, hb⟩; obtain ⟨H, hcc, hff, hzz⟩ := later_facts hb; clear hb; (try simp at hzz)))
          all_goals
            go_ret
            exact ⟨rfl, (by repeat (first | (with_reducible exact Later.refl _) | (with_reducible exact Hid.out (by assumption)) | (with_reducible refine Later.alloc ?_ _) | (with_reducible refine Later.setCell ?_ (by simp; omega) _) | (with_reducible refine Later.setCell ?_ (by simp) _) | (with_reducible refine Later.drewN ?_ _) | (with_reducible refine Later.drew ?_) | (with_reducible refine Later.trans ?_ (Hid.out (by assumption)))))⟩
      · have ez : (m == 0) = false := by simpa using hz
        rw [decide_eq_false hz]
        clear hz hm
        cases b4
        all_goals
          go_enter Tryd.func141, Tryd.ntmps141
          go_wp2_with (first | (go_at_call 143; refine (K.out _).mono ?_; rintro e w' ⟨rfl, rfl⟩) | (go_at_call 78; refine (N.out _).mono ?_; rintro e w1 ⟨rfl, hb⟩; obtain ⟨H, hcc, hff, hzz⟩ := later_facts hb; clear hb; (try simp at hzz)))
          all_goals
            go_ret
            exact ⟨rfl, (by repeat (first | (with_reducible exact Later.refl _) | (with_reducible exact Hid.out (by assumption)) | (with_reducible refine Later.alloc ?_ _) | (with_reducible refine Later.setCell ?_ (by simp; omega) _) | (with_reducible refine Later.setCell ?_ (by simp) _) | (with_reducible refine Later.drewN ?_ _) | (with_reducible refine Later.drew ?_) | (with_reducible refine Later.trans ?_ (Hid.out (by assumption)))))⟩
    · obtain ⟨j, hj, hj1, hj2⟩ : ∃ j : Nat, k = j ∧ 1 ≤ j ∧ j ≤ 12 := ⟨k.toNat, by simp [kndT] at hkn; omega, by simp [kndT] at hkn; omega, by simp [kndT] at hkn; omega⟩
      have ec : opN j = cntK k := by rw [hj]; exact opN_cnt j (by omega)
      have c2 := (ho j (by omega)).2.2
      rw [ec] at c2
      have ek : (k == 1) = false := by simpa using h1
      cases hc : cntK k
      · rw [trm_oth k t m h1 hkn hc]
        rw [hkn] at K
        rw [hc] at c2
        obtain ⟨b5, h5⟩ : ∃ b, b = decide (t = []) := ⟨_, rfl⟩
        rw [← h5] at E0 ⊢
        obtain ⟨s, hs⟩ : ∃ s, s = tx t := ⟨_, rfl⟩
        rw [← hs] at E0 N ⊢
        subst hj
        clear hs hkn ho hk ht h5 h1 ec hc
        by_cases hz : m = 0
        · have ez : (m == 0) = true := by simpa using hz
          rw [decide_eq_true hz]
          clear hz hm
          cases b5
          all_goals
            go_enter Tryd.func141, Tryd.ntmps141
            go_wp2_with (first | (go_at_call 143; refine (K.out _).mono ?_; rintro e w' ⟨rfl, rfl⟩))
            all_goals
              go_ret
              exact ⟨rfl, (by repeat (first | (with_reducible exact Later.refl _) | (with_reducible exact Hid.out (by assumption)) | (with_reducible refine Later.alloc ?_ _) | (with_reducible refine Later.setCell ?_ (by simp; omega) _) | (with_reducible refine Later.setCell ?_ (by simp) _) | (with_reducible refine Later.drewN ?_ _) | (with_reducible refine Later.drew ?_) | (with_reducible refine Later.trans ?_ (Hid.out (by assumption)))))⟩
        · have ez : (m == 0) = false := by simpa using hz
          rw [decide_eq_false hz]
          clear hz hm
          cases b5
          all_goals
            go_enter Tryd.func141, Tryd.ntmps141
            go_wp2_with (first | (go_at_call 143; refine (K.out _).mono ?_; rintro e w' ⟨rfl, rfl⟩))
            all_goals
              go_ret
              exact ⟨rfl, (by repeat (first | (with_reducible exact Later.refl _) | (with_reducible exact Hid.out (by assumption)) | (with_reducible refine Later.alloc ?_ _) | (with_reducible refine Later.setCell ?_ (by simp; omega) _) | (with_reducible refine Later.setCell ?_ (by simp) _) | (with_reducible refine Later.drewN ?_ _) | (with_reducible refine Later.drew ?_) | (with_reducible refine Later.trans ?_ (Hid.out (by assumption)))))⟩
      · rw [trm_cnt k t m h1 hkn hc]
        rw [hkn] at K
        rw [hc] at c2
        obtain ⟨b5, h5⟩ : ∃ b, b = decide (t = []) := ⟨_, rfl⟩
        rw [← h5] at E0 ⊢
        obtain ⟨s, hs⟩ : ∃ s, s = tx t := ⟨_, rfl⟩
        rw [← hs] at E0 N ⊢
        subst hj
        clear hs hkn ho hk ht h5 h1 ec hc
        cases b5
        · go_enter Tryd.func141, Tryd.ntmps141
          go_wp2_with (first | (go_at_call 143; refine (K.out _).mono ?_; rintro e w' ⟨rfl, rfl⟩))
          all_goals
            go_ret
            exact ⟨rfl, (by repeat (first | (with_reducible exact Later.refl _) | (with_reducible exact Hid.out (by assumption)) | (with_reducible refine Later.alloc ?_ _) | (with_reducible refine Later.setCell ?_ (by simp; omega) _) | (with_reducible refine Later.setCell ?_ (by simp) _) | (with_reducible refine Later.drewN ?_ _) | (with_reducible refine Later.drew ?_) | (with_reducible refine Later.trans ?_ (Hid.out (by assumption)))))⟩
        · rcases (show m < 0 ∨ 9999 < m ∨ (0 ≤ m ∧ m ≤ 9999) by omega) with h0 | h0 | ⟨h0, h9⟩
          · rw [decide_eq_false (show ¬ 0 ≤ m by omega)]
            go_enter Tryd.func141, Tryd.ntmps141
            go_wp2_with (first | (go_at_call 143; refine (K.out _).mono ?_; rintro e w' ⟨rfl, rfl⟩))
            all_goals
              go_ret
              exact ⟨rfl, (by repeat (first | (with_reducible exact Later.refl _) | (with_reducible exact Hid.out (by assumption)) | (with_reducible refine Later.alloc ?_ _) | (with_reducible refine Later.setCell ?_ (by simp; omega) _) | (with_reducible refine Later.setCell ?_ (by simp) _) | (with_reducible refine Later.drewN ?_ _) | (with_reducible refine Later.drew ?_) | (with_reducible refine Later.trans ?_ (Hid.out (by assumption)))))⟩
          · rw [decide_eq_false (show ¬ m ≤ 9999 by omega), Bool.and_false]
            go_enter Tryd.func141, Tryd.ntmps141
            go_wp2_with (first | (go_at_call 143; refine (K.out _).mono ?_; rintro e w' ⟨rfl, rfl⟩))
            all_goals
              go_ret
              exact ⟨ret_b (by first | rfl | (simp; omega)), (by repeat (first | (with_reducible exact Later.refl _) | (with_reducible exact Hid.out (by assumption)) | (with_reducible refine Later.alloc ?_ _) | (with_reducible refine Later.setCell ?_ (by simp; omega) _) | (with_reducible refine Later.setCell ?_ (by simp) _) | (with_reducible refine Later.drewN ?_ _) | (with_reducible refine Later.drew ?_) | (with_reducible refine Later.trans ?_ (Hid.out (by assumption)))))⟩
          · rw [decide_eq_true h0, decide_eq_true h9]
            go_enter Tryd.func141, Tryd.ntmps141
            go_wp2_with (first | (go_at_call 143; refine (K.out _).mono ?_; rintro e w' ⟨rfl, rfl⟩))
            all_goals
              go_ret
              exact ⟨rfl, (by repeat (first | (with_reducible exact Later.refl _) | (with_reducible exact Hid.out (by assumption)) | (with_reducible refine Later.alloc ?_ _) | (with_reducible refine Later.setCell ?_ (by simp; omega) _) | (with_reducible refine Later.setCell ?_ (by simp) _) | (with_reducible refine Later.drewN ?_ _) | (with_reducible refine Later.drew ?_) | (with_reducible refine Later.trans ?_ (Hid.out (by assumption)))))⟩
end Go.Proofs.YtokipobjpinhmaaDoor
