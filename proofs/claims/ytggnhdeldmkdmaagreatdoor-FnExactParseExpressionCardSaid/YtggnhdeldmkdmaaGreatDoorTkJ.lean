/- Tokens, of the program: words, numbers, kinds and first parts. -/
import Derived.Test.YtggnhdeldmkdmaaGreatDoorTkI
import Derived.Test.YtggnhdeldmkdmaaGreatDoorTkK
import Derived.Test.YtggnhdeldmkdmaaGreatDoorTfr
import Derived.Lib.Strings
import Derived.Shelf.Strings.Search3
namespace Go.Proofs.YtggnhdeldmkdmaaGreatDoor
open Go.RowKit Go.Shelf
set_option maxHeartbeats 2000000
set_option linter.unusedVariables false
set_option linter.unusedSimpArgs false
theorem parse_small : ∀ (l : List UInt8) (acc : Nat), Digs l → vl acc l ≤ 9999 → Lib.parseUintM (2 ^ 32 - 1) acc l = .ok (vl acc l)
  | [], acc, _, _ => rfl
  | c :: r, acc, hd, hv => by
    have hc := hd c (by simp)
    have hv2 : vl acc (c :: r) = vl (acc * 10 + (c.toNat - 48)) r := rfl
    have hge := vl_ge r (acc * 10 + (c.toNat - 48))
    rw [hv2] at hv ⊢
    unfold Lib.parseUintM
    rw [if_pos hc, if_neg (by omega), if_neg (by omega), parse_small r _ (fun x hx => hd x (by simp [hx])) hv]
theorem parse32_dec (m : Nat) (h : m ≤ 9999) : Lib.parseIntB 32 (Lib.decDigits m) = .ok (m : Int) := by
  obtain ⟨h1, h2, h3⟩ := dec_read (m + 1) m (by omega)
  have hm : Lib.parseUintB 32 (Lib.decDigits m) = .ok m := by
    unfold Lib.parseUintB
    rw [if_neg h3, parse_small _ 0 h2 (by rw [h1]; exact h), h1]
  cases hl : Lib.decDigits m with
  | nil => exact absurd hl h3
  | cons c r =>
    have hc := h2 c (by rw [hl]; simp)
    rw [hl] at hm
    unfold Lib.parseIntB
    simp only []
    rw [if_neg (by omega), hm]
    simp only []
    rw [if_neg (by omega), if_neg (by omega), if_neg (by omega)]
theorem parse_in32' (l : List UInt8) (v : Int) (h : Lib.parseIntB 32 l = .ok v) : -2147483648 ≤ v ∧ v ≤ 2147483647 := by
  unfold Lib.parseIntB at h
  cases l with
  | nil => simp at h
  | cons c r =>
    simp only [] at h
    split at h
    · simp at h
    · simp at h
    · rename_i u hu
      split at h
      · simp at h
      · split at h
        · simp at h
        · simp at h
          split at h <;> omega
theorem rc_of' (u : List UInt8) : -2147483648 ≤ rcV u ∧ rcV u ≤ 2147483647 := by
  unfold rcV
  generalize hq : Lib.parseIntB 32 u = q
  cases q with
  | ok v => exact parse_in32' u v hq
  | _ => simp
/-- what isCount looks at -/
def cntB (n : Int) (b : Bool) (l : List UInt8) : Bool := b && decide (0 ≤ n) && decide (n ≤ 9999) && decide (Lib.decDigits n.toNat = l)
theorem cntB_num (l : List UInt8) : cntB (rcV l) (rcB l) l = numB l := by
  rw [Bool.eq_iff_iff, numB_iff]
  constructor
  · intro h
    simp [cntB] at h
    exact ⟨(rcV l).toNat, by omega, h.2⟩
  · rintro ⟨m, hm, rfl⟩
    have := parse32_dec m hm
    unfold rcV rcB cntB
    rw [this]
    simp; omega
theorem i_isWord (s : ByteArray) (w : World) (hs : s.size ≤ 1048576) : Calls Tryz.prog 107 #[.string s] w fun e w' => e = .returned (.bool (wrdB s.data.toList)) ∧ Later w w' := by
  obtain ⟨l, hl⟩ : ∃ l, l = s.data.toList := ⟨_, rfl⟩
  have hlen : l.length = s.size := by rw [hl]; rfl
  have WL := Lib.hid (i_wordLength s)
  rw [← hl] at WL ⊢
  rcases (show s.size = 0 ∨ 12 < s.size ∨ (1 ≤ s.size ∧ s.size ≤ 12) by omega) with h0 | h0 | ⟨h0, h1⟩
  · have hl0 : l = [] := List.length_eq_zero_iff.1 (by omega)
    have e0 : s.toList.isEmpty = true := by rw [Lib.toList_data, ← hl, hl0]; rfl
    have hr : wrdB l = false := by rw [hl0]; rfl
    rw [hr]
    clear hr hl0 hl
    go_enter Tryz.func107, Tryz.ntmps107
    go_wp2_with fail
    all_goals
      go_ret
      exact ⟨rfl, Later.refl _⟩
  · have e0 : s.toList.isEmpty = false := by
      rw [Lib.toList_data, ← hl]
      cases l with
      | nil => simp at hlen; omega
      | cons x t => rfl
    have hr : wrdB l = false := by simp [wrdB]; intro _ h; omega
    rw [hr]
    clear hr hl
    go_enter Tryz.func107, Tryz.ntmps107
    go_wp2_with fail
    all_goals
      go_ret
      exact ⟨rfl, Later.refl _⟩
  · have e0 : s.toList.isEmpty = false := by
      rw [Lib.toList_data, ← hl]
      cases l with
      | nil => simp at hlen; omega
      | cons x t => rfl
    have hz : 0 < s.size := by omega
    have hh : l.headD 0 = s[0] := by
      have : l[0]'(by omega) = s[0] := by simp only [hl]; rfl
      cases l with
      | nil => simp at hlen; omega
      | cons x t => simpa using this
    have hr : wrdB l = (letR (s[0].toNat : Int) && decide ((wln l : Int) = (s.size : Int))) := by
      unfold wrdB
      rw [hh, letR_b, hlen, decide_eq_true h0, decide_eq_true h1, Bool.and_self, Bool.true_and]
      congr 1; exact decide_eq_decide.2 (by omega)
    have hwl := wln_le l
    rw [hr]
    have hx : s[0].toNat < 256 := s[0].toNat_lt
    obtain ⟨n, hn⟩ : ∃ n, n = wln l := ⟨_, rfl⟩
    rw [← hn] at hwl WL ⊢
    clear hr hl hn hh
    cases hb : letR (s[0].toNat : Int)
    · have HB := Lib.hid hb
      clear hb
      go_enter Tryz.func107, Tryz.ntmps107
      go_wp2_with (go_at_call 136; refine (i_isSmallLetter _ _ (by omega) (by omega)).mono ?_; rintro e w' ⟨rfl, rfl⟩; rw [HB.out])
      all_goals
        go_ret
        exact ⟨rfl, Later.refl _⟩
    · have HB := Lib.hid hb
      clear hb
      by_cases hq : (n : Int) = (s.size : Int)
      · have hq' : ((n : Int) == (s.size : Int)) = true := by simpa using hq
        rw [decide_eq_true hq]
        clear hq
        go_enter Tryz.func107, Tryz.ntmps107
        go_wp2_with (first | (go_at_call 136; refine (i_isSmallLetter _ _ (by omega) (by omega)).mono ?_; rintro e w' ⟨rfl, rfl⟩; rw [HB.out]) | (go_at_call 137; refine (WL.out _ (by omega)).mono ?_; rintro e w1 ⟨rfl, hb⟩; have B1 := Lib.hid hb; clear hb))
        all_goals
          go_ret
          exact ⟨rfl, B1.out⟩
      · have hq' : ((n : Int) == (s.size : Int)) = false := by simpa using hq
        rw [decide_eq_false hq]
        clear hq
        go_enter Tryz.func107, Tryz.ntmps107
        go_wp2_with (first | (go_at_call 136; refine (i_isSmallLetter _ _ (by omega) (by omega)).mono ?_; rintro e w' ⟨rfl, rfl⟩; rw [HB.out]) | (go_at_call 137; refine (WL.out _ (by omega)).mono ?_; rintro e w1 ⟨rfl, hb⟩; have B1 := Lib.hid hb; clear hb))
        all_goals
          go_ret
          exact ⟨rfl, B1.out⟩
/-- what the walks of readings ask of the world: strconv's table and its errors -/
structure Wst (w : World) : Prop where
  tab : Tab w
  errs : Errs w
theorem Wst.later {w w' : World} (h : Wst w) (hb : Later w w') : Wst w' := ⟨h.tab.later hb, h.errs.later hb⟩
theorem i_isCount (s : ByteArray) (w : World) (hs : s.size ≤ 1048576) (hW : Wst w) : Calls Tryz.prog 122 #[.string s] w fun e w' => e = .returned (.bool (numB s.data.toList)) ∧ Later w w' := by
  obtain ⟨l, hl⟩ : ∃ l, l = s.data.toList := ⟨_, rfl⟩
  have HL := Lib.hid hl
  have RC := Lib.hid (i_readCount s w (by omega) hW.errs)
  have RV := (rc_of' l)
  rw [← hl] at RC ⊢
  rw [← cntB_num]
  have HW := Lib.hid hW
  obtain ⟨n, hn⟩ : ∃ n, n = rcV l := ⟨_, rfl⟩
  obtain ⟨b, hb⟩ : ∃ b, b = rcB l := ⟨_, rfl⟩
  rw [← hn] at RC RV ⊢
  rw [← hb] at RC ⊢
  clear hW hl hn hb
  obtain ⟨r1, r2⟩ := RV
  cases b
  · go_enter Tryz.func122, Tryz.ntmps122
    go_wp2_with (go_at_call 144; refine RC.out.mono ?_; rintro e w1 ⟨rfl, hb⟩; have B1 := Lib.hid hb; clear hb)
    all_goals
      go_ret
      exact ⟨rfl, B1.out⟩
  · rcases (show n < 0 ∨ 9999 < n ∨ (0 ≤ n ∧ n ≤ 9999) by omega) with h0 | h0 | ⟨h0, h1⟩
    · have hr : cntB n true l = false := by simp [cntB]; omega
      rw [hr]
      go_enter Tryz.func122, Tryz.ntmps122
      go_wp2_with (go_at_call 144; refine RC.out.mono ?_; rintro e w1 ⟨rfl, hb⟩; have B1 := Lib.hid hb; clear hb)
      all_goals
        go_ret
        exact ⟨rfl, B1.out⟩
    · have hr : cntB n true l = false := by simp [cntB]; omega
      rw [hr]
      go_enter Tryz.func122, Tryz.ntmps122
      go_wp2_with (go_at_call 144; refine RC.out.mono ?_; rintro e w1 ⟨rfl, hb⟩; have B1 := Lib.hid hb; clear hb)
      all_goals
        go_ret
        exact ⟨rfl, B1.out⟩
    · have hr : cntB n true l = decide (Lib.decDigits n.toNat = l) := by simp [cntB, h0, h1]
      rw [hr]
      have FM : ∀ W, Tab W → Calls Tryz.prog 143 #[.int .i64 n, .int .i64 10] W (Texts W (Lib.decDigits n.toNat)) := fun W hT => by
        have := i_Format n (by omega) (by omega) W hT
        rwa [itoa_nn _ h0] at this
      have HF := Lib.hid FM
      obtain ⟨d, hd⟩ : ∃ d, d = Lib.decDigits n.toNat := ⟨_, rfl⟩
      rw [← hd] at HF ⊢
      have E : ((tx d).toList == s.toList) = decide (d = l) := by
        rw [Lib.toList_data, Lib.toList_data, ← HL.out]
        by_cases h : d = l <;> simp [h, tx]
      clear hr FM hd
      by_cases hq : d = l
      · rw [decide_eq_true hq] at E ⊢
        clear hq
        go_enter Tryz.func122, Tryz.ntmps122
        go_wp2_with (first | (go_at_call 144; refine RC.out.mono ?_; rintro e w1 ⟨rfl, hb⟩; have B1 := Lib.hid hb; clear hb) | (go_at_call 143; refine (HF.out _ (HW.out.later B1.out).tab).mono ?_; rintro e w2 ⟨rfl, hb⟩; have B2 := Lib.hid (Later.trans B1.out hb); clear hb))
        all_goals
          go_ret
          exact ⟨rfl, B2.out⟩
      · rw [decide_eq_false hq] at E ⊢
        clear hq
        go_enter Tryz.func122, Tryz.ntmps122
        go_wp2_with (first | (go_at_call 144; refine RC.out.mono ?_; rintro e w1 ⟨rfl, hb⟩; have B1 := Lib.hid hb; clear hb) | (go_at_call 143; refine (HF.out _ (HW.out.later B1.out).tab).mono ?_; rintro e w2 ⟨rfl, hb⟩; have B2 := Lib.hid (Later.trans B1.out hb); clear hb))
        all_goals
          go_ret
          exact ⟨rfl, B2.out⟩
end Go.Proofs.YtggnhdeldmkdmaaGreatDoor
