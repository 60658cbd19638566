/- Terms, of the model: names, kinds, terms. -/
import Derived.Test.YtokipobjpinhmaaDoorPss
import Derived.Test.YtokipobjpinhmaaDoorTkS
namespace Go.Proofs.YtokipobjpinhmaaDoor
open Go.RowKit Go.Shelf
set_option maxHeartbeats 4000000
set_option maxRecDepth 100000
set_option linter.unusedVariables false
set_option linter.unusedSimpArgs false
theorem kwI_neg (l : List UInt8) : decide (kwI l < 0) = !(kwB l) := by
  unfold kwI
  cases h : kwB l <;> simp
theorem s_Name (s : ByteArray) (w : World) (hs : s.size ≤ 1048576) : Calls Tryd.prog 74 #[.string s] w fun e w' => e = .returned (.bool (nmB s.data.toList)) ∧ Later w w' := by
  have W := Lib.hid (fun w => s_Word s w hs)
  have K := Lib.hid (s_Keyword s)
  have hk := kwI_neg s.data.toList
  obtain ⟨l, hl⟩ : ∃ l, l = s.data.toList := ⟨_, rfl⟩
  have hr : -1 ≤ kwI l ∧ kwI l ≤ 17 := by
    unfold kwI
    split
    · have := List.idxOf_le_length (l := kws) (a := l)
      have : kws.length = 17 := rfl
      omega
    · omega
  rw [← hl] at W K hk ⊢
  have HN : Hid (nmB l = (wrdB l && decide (kwI l < 0))) := Lib.hid (by rw [hk]; rfl)
  obtain ⟨x, hx⟩ : ∃ x, x = kwI l := ⟨_, rfl⟩
  rw [← hx] at K hr HN
  clear hx hk hl
  rw [HN.out]
  clear HN
  cases h1 : wrdB l
  · rw [h1] at W
    clear h1
    go_enter Tryd.func74, Tryd.ntmps74
    go_wp2_with (go_at_call 107; refine (W.out _).mono ?_; rintro e w' ⟨rfl, rfl⟩)
    all_goals
      go_ret
      exact ⟨rfl, (by repeat (first | (with_reducible exact Later.refl _) | (with_reducible exact Hid.out (by assumption)) | (with_reducible refine Later.alloc ?_ _) | (with_reducible refine Later.setCell ?_ (by simp; omega) _) | (with_reducible refine Later.setCell ?_ (by simp) _) | (with_reducible refine Later.drewN ?_ _) | (with_reducible refine Later.drew ?_) | (with_reducible refine Later.trans ?_ (Hid.out (by assumption)))))⟩
  · rw [h1] at W
    clear h1
    by_cases h2 : x < 0
    · rw [decide_eq_true h2]
      go_enter Tryd.func74, Tryd.ntmps74
      go_wp2_with (first | (go_at_call 107; refine (W.out _).mono ?_; rintro e w' ⟨rfl, rfl⟩) | (go_at_call 108; refine (K.out _).mono ?_; rintro e w1 ⟨rfl, hb⟩; have H1 := Lib.hid hb; clear hb))
      all_goals
        go_ret
        exact ⟨ret_b (by first | (simp_all; done) | (simp; omega)), (by repeat (first | (with_reducible exact Later.refl _) | (with_reducible exact Hid.out (by assumption)) | (with_reducible refine Later.alloc ?_ _) | (with_reducible refine Later.setCell ?_ (by simp; omega) _) | (with_reducible refine Later.setCell ?_ (by simp) _) | (with_reducible refine Later.drewN ?_ _) | (with_reducible refine Later.drew ?_) | (with_reducible refine Later.trans ?_ (Hid.out (by assumption)))))⟩
    · rw [decide_eq_false h2]
      go_enter Tryd.func74, Tryd.ntmps74
      go_wp2_with (first | (go_at_call 107; refine (W.out _).mono ?_; rintro e w' ⟨rfl, rfl⟩) | (go_at_call 108; refine (K.out _).mono ?_; rintro e w1 ⟨rfl, hb⟩; have H1 := Lib.hid hb; clear hb))
      all_goals
        go_ret
        exact ⟨ret_b (by first | (simp_all; done) | (simp; omega)), (by repeat (first | (with_reducible exact Later.refl _) | (with_reducible exact Hid.out (by assumption)) | (with_reducible refine Later.alloc ?_ _) | (with_reducible refine Later.setCell ?_ (by simp; omega) _) | (with_reducible refine Later.setCell ?_ (by simp) _) | (with_reducible refine Later.drewN ?_ _) | (with_reducible refine Later.drew ?_) | (with_reducible refine Later.trans ?_ (Hid.out (by assumption)))))⟩
theorem s_Takes (k : Int) (w : World) : Calls Tryd.prog 133 #[.int .i64 k] w fun e w' => e = .returned (.int .i64 (tkK k : Nat)) ∧ w = w' := by
  rcases (show k = 1 ∨ k = 2 ∨ k = 3 ∨ k = 4 ∨ k = 7 ∨ k = 8 ∨ k = 9 ∨ (k ≠ 1 ∧ k ≠ 2 ∧ k ≠ 3 ∧ k ≠ 4 ∧ k ≠ 7 ∧ k ≠ 8 ∧ k ≠ 9) by omega) with rfl | rfl | rfl | rfl | rfl | rfl | rfl | ⟨h1, h2, h3, h4, h5, h6, h7⟩
  all_goals try
    go_enter Tryd.func133, Tryd.ntmps133
    go_wp2_with fail
    go_ret
    exact ⟨rfl, rfl⟩
  have hr : tkK k = 2 := by unfold tkK; rw [if_neg (by omega), if_neg (by omega)]
  rw [hr]
  have e1 : (k == 1) = false := by simpa using h1
  have e2 : (k == 2) = false := by simpa using h2
  have e3 : (k == 3) = false := by simpa using h3
  have e4 : (k == 4) = false := by simpa using h4
  have e5 : (k == 7) = false := by simpa using h5
  have e6 : (k == 8) = false := by simpa using h6
  have e7 : (k == 9) = false := by simpa using h7
  go_enter Tryd.func133, Tryd.ntmps133
  go_wp2_with fail
  go_ret
  exact ⟨rfl, rfl⟩
theorem s_Kind13 (k : Int) (w : World) (hk : InR k) : Calls Tryd.prog 142 #[.int .i64 k] w fun e w' => e = .returned (.bool (kndT k)) ∧ w = w' := by
  obtain ⟨h1, h2⟩ := hk
  have IR := Lib.hid (fun w => s_InR k 1 12 w ⟨h1, h2⟩)
  have HK : Hid (kndT k = (decide (1 ≤ k) && decide (k ≤ 12))) := Lib.hid rfl
  rw [HK.out]
  obtain ⟨b, hb⟩ : ∃ b, b = (decide (1 ≤ k) && decide (k ≤ 12)) := ⟨_, rfl⟩
  rw [← hb] at IR ⊢
  clear hb
  go_enter Tryd.func142, Tryd.ntmps142
  go_wp2_with (go_at_call 98; refine (IR.out _).mono ?_; rintro e w' ⟨rfl, rfl⟩)
  go_ret
  exact ⟨rfl, rfl⟩
theorem s_Counts (k : Int) (w : World) : Calls Tryd.prog 134 #[.int .i64 k] w fun e w' => e = .returned (.bool (cntK k)) ∧ w = w' := by
  have HK : Hid (cntK k = (decide (k = 7) || decide (k = 8) || decide (k = 11) || decide (k = 12))) := Lib.hid rfl
  go_enter Tryd.func134, Tryd.ntmps134
  go_wp2_with fail
  all_goals
    go_ret
    exact ⟨ret_b (by rw [HK.out, Bool.eq_iff_iff]; first | (simp; done) | (simp; omega)), rfl⟩
theorem s_Term (k : Int) (t : List UInt8) (m : Int) (w : World) (hk : InR k) (ht : t.length ≤ 1048576) (hm : InR m) : Calls Tryd.prog 136 #[.agg #[.int .i64 k, .string (tx t), .int .i64 m]] w fun e w' => e = .returned (.bool (trmB k t m)) ∧ Later w w' := by
  have K := Lib.hid (fun w => s_Kind13 k w hk)
  have C := Lib.hid (s_Counts k)
  have IR := Lib.hid (fun w => s_InR m 0 9999 w hm)
  have N := Lib.hid (fun w => s_Name (tx t) w ht)
  have HT : Hid (trmB k t m = (kndT k && (decide (0 ≤ m) && decide (m ≤ 9999)) && (cntK k || decide (m = 0)) && (if k = 1 then nmB t else decide (t = [])))) := Lib.hid (by unfold trmB; simp [Bool.and_assoc])
  have E0 : ((tx t).toList.isEmpty) = decide (t = []) := by
    rw [Lib.toList_data]
    show t.isEmpty = _
    cases t <;> simp
  have N : Hid (∀ W, Calls Tryd.prog 74 #[.string (tx t)] W fun e w' => e = .returned (.bool (nmB t)) ∧ Later W w') := Lib.hid N.out
  rw [HT.out]
  clear HT hk hm ht
  obtain ⟨s, hs⟩ : ∃ s, s = tx t := ⟨_, rfl⟩
  obtain ⟨b1, h1⟩ : ∃ b, b = kndT k := ⟨_, rfl⟩
  obtain ⟨b2, h2⟩ : ∃ b, b = (decide (0 ≤ m) && decide (m ≤ 9999)) := ⟨_, rfl⟩
  obtain ⟨b3, h3⟩ : ∃ b, b = cntK k := ⟨_, rfl⟩
  obtain ⟨b4, h4⟩ : ∃ b, b = nmB t := ⟨_, rfl⟩
  obtain ⟨b5, h5⟩ : ∃ b, b = decide (t = []) := ⟨_, rfl⟩
  rw [← hs] at E0 N ⊢
  rw [← h1] at K ⊢; rw [← h2] at IR ⊢; rw [← h3] at C ⊢; rw [← h4] at N ⊢; rw [← h5] at E0 ⊢
  clear hs h1 h2 h3 h4 h5
  have arms : True := trivial
  by_cases hz : m = 0
  · have ez : (m != 0) = false := by simpa using hz
    rw [decide_eq_true hz]
    by_cases hk1 : k = 1
    · have ek : (k == 1) = true := by simpa using hk1
      rw [if_pos hk1]
      clear hz hk1
      cases b1 <;> cases b2 <;> cases b3 <;> cases b4
      all_goals
        go_enter Tryd.func136, Tryd.ntmps136
        go_wp2_with (first | (go_at_call 142; refine (K.out _).mono ?_; rintro e w' ⟨rfl, rfl⟩) | (go_at_call 98; refine (IR.out _).mono ?_; rintro e w' ⟨rfl, rfl⟩) | (go_at_call 134; refine (C.out _).mono ?_; rintro e w' ⟨rfl, rfl⟩) | (go_at_call 74; refine (N.out _).mono ?_; rintro e w1 ⟨rfl, hb⟩; have H1 := Lib.hid hb; clear hb))
        all_goals
          go_ret
          exact ⟨rfl, (by repeat (first | (with_reducible exact Later.refl _) | (with_reducible exact Hid.out (by assumption)) | (with_reducible refine Later.alloc ?_ _) | (with_reducible refine Later.setCell ?_ (by simp; omega) _) | (with_reducible refine Later.setCell ?_ (by simp) _) | (with_reducible refine Later.drewN ?_ _) | (with_reducible refine Later.drew ?_) | (with_reducible refine Later.trans ?_ (Hid.out (by assumption)))))⟩
    · have ek : (k == 1) = false := by simpa using hk1
      rw [if_neg hk1]
      clear hz hk1
      cases b1 <;> cases b2 <;> cases b3 <;> cases b5
      all_goals
        go_enter Tryd.func136, Tryd.ntmps136
        go_wp2_with (first | (go_at_call 142; refine (K.out _).mono ?_; rintro e w' ⟨rfl, rfl⟩) | (go_at_call 98; refine (IR.out _).mono ?_; rintro e w' ⟨rfl, rfl⟩) | (go_at_call 134; refine (C.out _).mono ?_; rintro e w' ⟨rfl, rfl⟩))
        all_goals
          go_ret
          exact ⟨rfl, (by repeat (first | (with_reducible exact Later.refl _) | (with_reducible exact Hid.out (by assumption)) | (with_reducible refine Later.alloc ?_ _) | (with_reducible refine Later.setCell ?_ (by simp; omega) _) | (with_reducible refine Later.setCell ?_ (by simp) _) | (with_reducible refine Later.drewN ?_ _) | (with_reducible refine Later.drew ?_) | (with_reducible refine Later.trans ?_ (Hid.out (by assumption)))))⟩
  · have ez : (m != 0) = true := by simpa using hz
    rw [decide_eq_false hz]
    by_cases hk1 : k = 1
    · have ek : (k == 1) = true := by simpa using hk1
      rw [if_pos hk1]
      clear hz hk1
      cases b1 <;> cases b2 <;> cases b3 <;> cases b4
      all_goals
        go_enter Tryd.func136, Tryd.ntmps136
        go_wp2_with (first | (go_at_call 142; refine (K.out _).mono ?_; rintro e w' ⟨rfl, rfl⟩) | (go_at_call 98; refine (IR.out _).mono ?_; rintro e w' ⟨rfl, rfl⟩) | (go_at_call 134; refine (C.out _).mono ?_; rintro e w' ⟨rfl, rfl⟩) | (go_at_call 74; refine (N.out _).mono ?_; rintro e w1 ⟨rfl, hb⟩; have H1 := Lib.hid hb; clear hb))
        all_goals
          go_ret
          exact ⟨rfl, (by repeat (first | (with_reducible exact Later.refl _) | (with_reducible exact Hid.out (by assumption)) | (with_reducible refine Later.alloc ?_ _) | (with_reducible refine Later.setCell ?_ (by simp; omega) _) | (with_reducible refine Later.setCell ?_ (by simp) _) | (with_reducible refine Later.drewN ?_ _) | (with_reducible refine Later.drew ?_) | (with_reducible refine Later.trans ?_ (Hid.out (by assumption)))))⟩
    · have ek : (k == 1) = false := by simpa using hk1
      rw [if_neg hk1]
      clear hz hk1
      cases b1 <;> cases b2 <;> cases b3 <;> cases b5
      all_goals
        go_enter Tryd.func136, Tryd.ntmps136
        go_wp2_with (first | (go_at_call 142; refine (K.out _).mono ?_; rintro e w' ⟨rfl, rfl⟩) | (go_at_call 98; refine (IR.out _).mono ?_; rintro e w' ⟨rfl, rfl⟩) | (go_at_call 134; refine (C.out _).mono ?_; rintro e w' ⟨rfl, rfl⟩))
        all_goals
          go_ret
          exact ⟨rfl, (by repeat (first | (with_reducible exact Later.refl _) | (with_reducible exact Hid.out (by assumption)) | (with_reducible refine Later.alloc ?_ _) | (with_reducible refine Later.setCell ?_ (by simp; omega) _) | (with_reducible refine Later.setCell ?_ (by simp) _) | (with_reducible refine Later.drewN ?_ _) | (with_reducible refine Later.drew ?_) | (with_reducible refine Later.trans ?_ (Hid.out (by assumption)))))⟩
end Go.Proofs.YtokipobjpinhmaaDoor
