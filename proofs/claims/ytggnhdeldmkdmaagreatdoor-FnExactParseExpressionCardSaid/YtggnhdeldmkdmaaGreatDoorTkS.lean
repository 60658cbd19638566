/- Tokens, of the model: words, numbers, signs and kinds. -/
import Derived.Test.YtggnhdeldmkdmaaGreatDoorTkK
import Derived.Test.YtggnhdeldmkdmaaGreatDoorNmS
import Derived.Test.YtggnhdeldmkdmaaGreatDoorHeld
import Derived.Lib.Strings
namespace Go.Proofs.YtggnhdeldmkdmaaGreatDoor
open Go.RowKit Go.Shelf
set_option maxHeartbeats 2000000
set_option linter.unusedVariables false
set_option linter.unusedSimpArgs false
theorem s_Letter (b : UInt8) (w : World) : Calls Tryz.prog 149 #[.int .u8 b.toNat] w fun e w' => e = .returned (.bool (letB b)) ∧ w = w' := by
  have hb : b.toNat < 256 := b.toNat_lt
  go_enter Tryz.func149, Tryz.ntmps149
  go_wp2_with fail
  all_goals
    go_ret
    exact ⟨ret_b (by unfold letB; first | (simp_all; done) | (simp_all; omega) | (rw [Bool.eq_iff_iff]; simp; omega) | (simp; omega)), rfl⟩
theorem s_Digit (b : UInt8) (w : World) : Calls Tryz.prog 153 #[.int .u8 b.toNat] w fun e w' => e = .returned (.bool (digB b)) ∧ w = w' := by
  have hb : b.toNat < 256 := b.toNat_lt
  go_enter Tryz.func153, Tryz.ntmps153
  go_wp2_with fail
  all_goals
    go_ret
    exact ⟨ret_b (by unfold digB; first | (simp_all; done) | (simp_all; omega) | (rw [Bool.eq_iff_iff]; simp; omega) | (simp; omega)), rfl⟩
theorem s_Inner (b : UInt8) (w : World) : Calls Tryz.prog 148 #[.int .u8 b.toNat] w fun e w' => e = .returned (.bool (innB b)) ∧ w = w' := by
  have hb : b.toNat < 256 := b.toNat_lt
  have L := Lib.hid (s_Letter b); have D := Lib.hid (s_Digit b)
  have HI : Hid (innB b = (letB b || digB b || decide (b.toNat = 95))) := Lib.hid rfl
  obtain ⟨x, hx⟩ : ∃ x, x = letB b := ⟨_, rfl⟩
  obtain ⟨y, hy⟩ : ∃ y, y = digB b := ⟨_, rfl⟩
  rw [← hx] at L HI; rw [← hy] at D HI
  obtain ⟨n, hn⟩ : ∃ n, n = b.toNat := ⟨_, rfl⟩
  rw [← hn] at L D HI hb ⊢
  clear hx hy hn
  by_cases h : n = 95
  · have h' : ((n : Int) == 95) = true := by simp; omega
    rw [decide_eq_true h] at HI
    clear h
    cases x <;> cases y
    all_goals
      go_enter Tryz.func148, Tryz.ntmps148
      go_wp2_with (first | (go_at_call 149; refine (L.out _).mono ?_; rintro e w' ⟨rfl, rfl⟩) | (go_at_call 153; refine (D.out _).mono ?_; rintro e w' ⟨rfl, rfl⟩))
      all_goals
        go_ret
        exact ⟨ret_b (by rw [HI.out]; rfl), rfl⟩
  · have h' : ((n : Int) == 95) = false := by simp; omega
    rw [decide_eq_false h] at HI
    clear h
    cases x <;> cases y
    all_goals
      go_enter Tryz.func148, Tryz.ntmps148
      go_wp2_with (first | (go_at_call 149; refine (L.out _).mono ?_; rintro e w' ⟨rfl, rfl⟩) | (go_at_call 153; refine (D.out _).mono ?_; rintro e w' ⟨rfl, rfl⟩))
      all_goals
        go_ret
        exact ⟨ret_b (by rw [HI.out]; rfl), rfl⟩
theorem s_InR (x a b : Int) (w : World) (hx : -9223372036854775808 ≤ x ∧ x ≤ 9223372036854775807) : Calls Tryz.prog 89 #[.int .i64 x, .int .i64 a, .int .i64 b] w fun e w' => e = .returned (.bool (decide (a ≤ x) && decide (x ≤ b))) ∧ w = w' := by
  go_enter Tryz.func89, Tryz.ntmps89
  go_wp2_with fail
  all_goals
    go_ret
    exact ⟨ret_b (by first | (simp_all; done) | (simp_all; omega)), rfl⟩
theorem s_Word (s : ByteArray) (w : World) (hs : s.size ≤ 1048576) : Calls Tryz.prog 126 #[.string s] w fun e w' => e = .returned (.bool (wrdB s.data.toList)) ∧ w = w' := by
  obtain ⟨l, hl⟩ : ∃ l, l = s.data.toList := ⟨_, rfl⟩
  have hlen : l.length = s.size := by rw [hl]; rfl
  have at_ : ∀ k (h : k < s.size), l[k]'(by omega) = s[k] := by
    intro k hk
    simp only [hl]; rfl
  have AT := Lib.hid at_
  have HLEN := Lib.hid hlen
  rw [← hl]
  clear hl at_
  go_enter Tryz.func126, Tryz.ntmps126
  go_wp2_with fail
  go_loopw [3] (fun i wr => wr = w ∧ ∃ k : Nat, i = .int .i64 k ∧ k ≤ s.size ∧ Hid (∀ j (hj : j < s.size), j < k → innB s[j] = true)) (fun i _ => s.size - (intOf i).toNat)
  case atStart => exact ⟨rfl, 0, rfl, by omega, Lib.hid (by intro j _ h; omega)⟩
  case round =>
    obtain ⟨rfl, k, rfl, hk, HI⟩ := hrel
    by_cases hlt : k < s.size
    · have IN := Lib.hid (s_Inner s[k])
      have hx : s[k].toNat < 256 := s[k].toNat_lt
      cases hb : innB s[k]
      · have HB := Lib.hid hb
        rw [hb] at IN
        have hr : wrdB l = false := by
          have : wln l = k := wln_at l k (by rw [HLEN.out]; exact hk) (fun j hj => by rw [AT.out j (by omega)]; exact HI.out j (by omega) hj) (fun h => by rw [AT.out k hlt]; exact hb)
          have h2 := HLEN.out
          simp [wrdB]; intro _ _ _; omega
        have HR := Lib.hid hr
        clear hb hr
        go_wp2_with (go_at_call 148; refine (IN.out _).mono ?_; rintro e w' ⟨rfl, rfl⟩)
        go_ret
        rw [HR.out]
        exact ⟨rfl, rfl⟩
      · have HB := Lib.hid hb
        rw [hb] at IN
        clear hb
        go_wp2_with (go_at_call 148; refine (IN.out _).mono ?_; rintro e w' ⟨rfl, rfl⟩)
        go_roundw
        case rel =>
          refine ⟨trivial, k + 1, by go_num, by omega, Lib.hid ?_⟩
          intro j hj hjk
          rcases Nat.lt_or_ge j k with h1 | h1
          · exact HI.out j hj h1
          · have : j = k := by omega
            subst this; exact HB.out
        case measure => simp [intOf]; omega
    · obtain rfl : k = s.size := by omega
      have hw : wln l = s.size := wln_at l s.size (by rw [HLEN.out]; exact Nat.le_refl _) (fun j hj => by rw [AT.out j hj]; exact HI.out j hj hj) (fun h => absurd (HLEN.out ▸ h) (Nat.lt_irrefl _))
      have hr : wrdB l = ((decide (1 ≤ (s.size : Int)) && decide ((s.size : Int) ≤ 12)) && letB (l.headD 0)) := by
        unfold wrdB
        rw [hw, HLEN.out, decide_eq_true (rfl : s.size = s.size), Bool.and_true]
        congr 1
        congr 1 <;> exact decide_eq_decide.2 (by omega)
      have HR := Lib.hid hr
      have IR := Lib.hid (s_InR (s.size : Int) 1 12)
      by_cases h1 : 1 ≤ s.size ∧ s.size ≤ 12
      · have hz : 0 < s.size := h1.1
        have hh : l.headD 0 = s[0] := by
          have h2 := AT.out 0 hz
          have h3 := HLEN.out
          cases l with
          | nil => simp at h3; omega
          | cons x t => simpa using h2
        have e1 : (decide (1 ≤ (s.size : Int)) && decide ((s.size : Int) ≤ 12)) = true := by simp; omega
        rw [e1] at IR HR
        rw [hh] at HR
        have LT := Lib.hid (s_Letter s[0])
        have hx : s[0].toNat < 256 := s[0].toNat_lt
        clear e1 hr hw hh h1
        go_wp2_with (first | (go_at_call 89; refine (IR.out _ (by omega)).mono ?_; rintro e w' ⟨rfl, rfl⟩) | (go_at_call 149; refine (LT.out _).mono ?_; rintro e w' ⟨rfl, rfl⟩))
        go_ret
        rw [HR.out]
        exact ⟨rfl, rfl⟩
      · have e1 : (decide (1 ≤ (s.size : Int)) && decide ((s.size : Int) ≤ 12)) = false := by
          cases hc : (decide (1 ≤ (s.size : Int)) && decide ((s.size : Int) ≤ 12)) with
          | false => rfl
          | true => simp at hc; omega
        rw [e1] at IR HR
        clear e1 hr hw h1
        go_wp2_with (first | (go_at_call 89; refine (IR.out _ (by omega)).mono ?_; rintro e w' ⟨rfl, rfl⟩))
        go_ret
        rw [HR.out]
        exact ⟨rfl, rfl⟩
theorem s_Number (s : ByteArray) (w : World) (hs : s.size ≤ 1048576) : Calls Tryz.prog 90 #[.string s] w fun e w' => e = .returned (.bool (numB s.data.toList)) ∧ Later w w' := by
  have SV := Lib.hid (s_Value s w hs)
  obtain ⟨l, hl⟩ : ∃ l, l = s.data.toList := ⟨_, rfl⟩
  rw [← hl] at SV ⊢
  clear hl
  go_enter Tryz.func90, Tryz.ntmps90
  go_wp2_with fail
  refine SV.out.mono ?_
  rintro e w1 ⟨hb, ⟨m, hm, hd, rfl⟩ | ⟨hn, m, hm, rfl⟩⟩
  · have B1 := Lib.hid hb
    have hk : numB l = decide ((m : Int) ≤ 9999) := by
      rw [Bool.eq_iff_iff, numB_iff]
      constructor
      · rintro ⟨m', h1, h2⟩
        have := dec_inj (h2.trans hd.symm)
        simp; omega
      · intro h; simp at h; exact ⟨m, by omega, hd⟩
    have HK := Lib.hid hk
    clear hb hd hk
    go_wp2_with fail
    all_goals
      go_ret
      rw [HK.out]
      exact ⟨ret_b (by simp_all), B1.out⟩
  · have B1 := Lib.hid hb
    have hk : numB l = false := by
      cases h : numB l with
      | false => rfl
      | true =>
        obtain ⟨m', h1, h2⟩ := (numB_iff l).1 h
        exact absurd ⟨m', by omega, h2⟩ hn
    have HK := Lib.hid hk
    clear hb hn hk
    go_wp2_with fail
    go_ret
    rw [HK.out]
    exact ⟨rfl, B1.out⟩
theorem s_Sign (s : ByteArray) (w : World) : Calls Tryz.prog 91 #[.string s] w fun e w' => e = .returned (.bool (sgnB s.data.toList)) ∧ w = w' := by
  obtain ⟨l, hl⟩ : ∃ l, l = s.data.toList := ⟨_, rfl⟩
  have E : ∀ k : List UInt8, (s.toList == (ByteArray.mk k.toArray).toList) = decide (l = k) := fun k => by rw [hl]; exact eqs s k
  have e1 := E [61]
  have e2 := E [40]
  have e3 := E [41]
  have e4 := E [44]
  have e5 := E [59]
  have B : Hid (sgnB l = (decide (l = [61]) || (decide (l = [40]) || (decide (l = [41]) || (decide (l = [44]) || decide (l = [59])))))) := Lib.hid (by simp [sgnB, Bool.or_assoc])
  rw [← hl]
  clear E hl
  go_enter Tryz.func91, Tryz.ntmps91
  go_wp2_with fail
  all_goals
    go_ret
    exact ⟨ret_b (by rw [B.out]; first | (simp_all; done) | (simp_all; simp [Bool.or_assoc]; done) | (simp [Bool.or_assoc]; done)), rfl⟩
end Go.Proofs.YtggnhdeldmkdmaaGreatDoor
