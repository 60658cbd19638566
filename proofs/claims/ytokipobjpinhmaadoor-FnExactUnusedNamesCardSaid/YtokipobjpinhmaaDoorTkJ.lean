/- Tokens, of the program: words, numbers, kinds and first parts. -/
import Derived.Test.YtokipobjpinhmaaDoorTkI
import Derived.Test.YtokipobjpinhmaaDoorTkK
import Derived.Test.YtokipobjpinhmaaDoorTfr
import Derived.Lib.Strings
import Derived.Shelf.Strings.Search3
namespace Go.Proofs.YtokipobjpinhmaaDoor
open Go.RowKit Go.Shelf
set_option maxHeartbeats 2000000
set_option linter.unusedVariables false
set_option linter.unusedSimpArgs false
theorem parse_small : ∀ (l : List UInt8) (acc : Nat), Digs l → vl acc l ≤ 9999 → Lib.parseUintM (2 ^ 32 - 1) acc l = .ok (vl acc l)
  | [], acc, _, _ => rfl
  | c :: r, acc, hd, hv => by
    have hc := hd c (by simp)
    have hv2 : vl acc (c :: r) = vl (acc * 10 + (c.toNat - 48)) r := rfl
    have hge := vl_ge r (acc * 10 + (c.toNat - 48))
    rw [hv2] at hv ⊢
    unfold Lib.parseUintM
    rw [if_pos hc, if_neg (by omega), if_neg (by omega), parse_small r _ (fun x hx => hd x (by simp [hx])) hv]
theorem parse32_dec (m : Nat) (h : m ≤ 9999) : Lib.parseIntB 32 (Lib.decDigits m) = .ok (m : Int) := by
  obtain ⟨h1, h2, h3⟩ := dec_read (m + 1) m (by omega)
  have hm : Lib.parseUintB 32 (Lib.decDigits m) = .ok m := by
    unfold Lib.parseUintB
    rw [if_neg h3, parse_small _ 0 h2 (by rw [h1]; exact h), h1]
  cases hl : Lib.decDigits m with
  | nil => exact absurd hl h3
  | cons c r =>
    have hc := h2 c (by rw [hl]; simp)
    rw [hl] at hm
    unfold Lib.parseIntB
    simp only []
    rw [if_neg (by omega), hm]
    simp only []
    rw [if_neg (by omega), if_neg (by omega), if_neg (by omega)]
theorem parse_in32' (l : List UInt8) (v : Int) (h : Lib.parseIntB 32 l = .ok v) : -2147483648 ≤ v ∧ v ≤ 2147483647 := by
  unfold Lib.parseIntB at h
  cases l with
  | nil => simp at h
  | cons c r =>
    simp only [] at h
    split at h
    · simp at h
    · simp at h
    · rename_i u hu
      split at h
      · simp at h
      · split at h
        · simp at h
        · simp at h
          split at h <;> omega
theorem rc_of' (u : List UInt8) : -2147483648 ≤ rcV u ∧ rcV u ≤ 2147483647 := by
  unfold rcV
  generalize hq : Lib.parseIntB 32 u = q
  cases q with
  | ok v => exact parse_in32' u v hq
  | _ => simp
/-- what isCount looks at -/
def cntB (n : Int) (b : Bool) (l : List UInt8) : Bool := b && decide (0 ≤ n) && decide (n ≤ 9999) && decide (Lib.decDigits n.toNat = l)
theorem cntB_num (l : List UInt8) : cntB (rcV l) (rcB l) l = numB l := by
  rw [Bool.eq_iff_iff, numB_iff]
  constructor
  · intro h
    simp [cntB] at h
    exact ⟨(rcV l).toNat, by omega, h.2⟩
  · rintro ⟨m, hm, rfl⟩
    have := parse32_dec m hm
    unfold rcV rcB cntB
    rw [this]
    simp; omega
theorem i_isWord (s : ByteArray) (w : World) (hs : s.size ≤ 1048576) : Calls Tryd.prog 109 #[.string s] w fun e w' => e = .returned (.bool (wrdB s.data.toList)) ∧ Later w w' := by
  obtain ⟨l, hl⟩ : ∃ l, l = s.data.toList := ⟨_, rfl⟩
  have hlen : l.length = s.size := by rw [hl]; rfl
  have WL := Lib.hid (i_wordLength s)
  rw [← hl] at WL ⊢
  rcases (show s.size = 0 ∨ 12 < s.size ∨ (1 ≤ s.size ∧ s.size ≤ 12) by omega) with h0 | h0 | ⟨h0, h1⟩
  · have hl0 : l = [] := List.length_eq_zero_iff.1 (by omega)
    have e0 : s.toList.isEmpty = true := by rw [Lib.toList_data, ← hl, hl0]; rfl
    have hr : wrdB l = false := by rw [hl0]; rfl
    rw [hr]
    clear hr hl0 hl
    go_enter Tryd.func109, Tryd.ntmps109
    go_wp2_with fail
    all_goals
      go_ret
      exact ⟨rfl, Later.refl _⟩
  · have e0 : s.toList.isEmpty = false := by
      rw [Lib.toList_data, ← hl]
      cases l with
      | nil => simp at hlen; omega
      | cons x t => rfl
    have hr : wrdB l = false := by simp [wrdB]; intro _ h; omega
    rw [hr]
    clear hr hl
    go_enter Tryd.func109, Tryd.ntmps109
    go_wp2_with fail
    all_goals
      go_ret
      exact ⟨rfl, Later.refl _⟩
  · have e0 : s.toList.isEmpty = false := by
      rw [Lib.toList_data, ← hl]
      cases l with
      | nil => simp at hlen; omega
      | cons x t => rfl
    have hz : 0 < s.size := by omega
    have hh : l.headD 0 = s[0] := by
      have : l[0]'(by omega) = s[0] := by simp only [hl]; rfl
      cases l with
      | nil => simp at hlen; omega
      | cons x t => simpa using this
    have hr : wrdB l = (letR (s[0].toNat : Int) && decide ((wln l : Int) = (s.size : Int))) := by
      unfold wrdB
      rw [hh, letR_b, hlen, decide_eq_true h0, decide_eq_true h1, Bool.and_self, Bool.true_and]
      congr 1; exact decide_eq_decide.2 (by omega)
    have hwl := wln_le l
    rw [hr]
    have hx : s[0].toNat < 256 := s[0].toNat_lt
    obtain ⟨n, hn⟩ : ∃ n, n = wln l := ⟨_, rfl⟩
    rw [← hn] at hwl WL ⊢
    clear hr hl hn hh
    cases hb : letR (s[0].toNat : Int)
    · have HB := Lib.hid hb
      clear hb
      go_enter Tryd.func109, Tryd.ntmps109
      go_wp2_with (go_at_call 130; refine (i_isSmallLetter _ _ (by omega) (by omega)).mono ?_; rintro e w' ⟨rfl, rfl⟩; rw [HB.out])
      all_goals
        go_ret
        exact ⟨rfl, Later.refl _⟩
    · have HB := Lib.hid hb
      clear hb
      by_cases hq : (n : Int) = (s.size : Int)
      · have hq' : ((n : Int) == (s.size : Int)) = true := by simpa using hq
        rw [decide_eq_true hq]
        clear hq
        go_enter Tryd.func109, Tryd.ntmps109
        go_wp2_with (first | (go_at_call 130; refine (i_isSmallLetter _ _ (by omega) (by omega)).mono ?_; rintro e w' ⟨rfl, rfl⟩; rw [HB.out]) | (go_at_call 131; refine (WL.out _ (by omega)).mono ?_; rintro e w1 ⟨rfl, hb⟩; have B1 := Lib.hid hb; clear hb))
        all_goals
          go_ret
          exact ⟨rfl, B1.out⟩
      · have hq' : ((n : Int) == (s.size : Int)) = false := by simpa using hq
        rw [decide_eq_false hq]
        clear hq
        go_enter Tryd.func109, Tryd.ntmps109
        go_wp2_with (first | (go_at_call 130; refine (i_isSmallLetter _ _ (by omega) (by omega)).mono ?_; rintro e w' ⟨rfl, rfl⟩; rw [HB.out]) | (go_at_call 131; refine (WL.out _ (by omega)).mono ?_; rintro e w1 ⟨rfl, hb⟩; have B1 := Lib.hid hb; clear hb))
        all_goals
          go_ret
          exact ⟨rfl, B1.out⟩
end Go.Proofs.YtokipobjpinhmaaDoor
