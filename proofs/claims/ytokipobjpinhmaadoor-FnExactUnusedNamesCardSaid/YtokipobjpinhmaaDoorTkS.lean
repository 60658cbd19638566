/- Tokens, of the model: words, numbers, signs and kinds. -/
import Derived.Test.YtokipobjpinhmaaDoorTkK
import Derived.Test.YtokipobjpinhmaaDoorNmS
import Derived.Test.YtokipobjpinhmaaDoorHeld
import Derived.Lib.Strings
namespace Go.Proofs.YtokipobjpinhmaaDoor
open Go.RowKit Go.Shelf
set_option maxHeartbeats 2000000
set_option linter.unusedVariables false
set_option linter.unusedSimpArgs false
theorem s_Letter (b : UInt8) (w : World) : Calls Tryd.prog 128 #[.int .u8 b.toNat] w fun e w' => e = .returned (.bool (letB b)) ∧ w = w' := by
  have hb : b.toNat < 256 := b.toNat_lt
  go_enter Tryd.func128, Tryd.ntmps128
  go_wp2_with fail
  all_goals
    go_ret
    exact ⟨ret_b (by unfold letB; first | (simp_all; done) | (simp_all; omega) | (rw [Bool.eq_iff_iff]; simp; omega) | (simp; omega)), rfl⟩
theorem s_Digit (b : UInt8) (w : World) : Calls Tryd.prog 139 #[.int .u8 b.toNat] w fun e w' => e = .returned (.bool (digB b)) ∧ w = w' := by
  have hb : b.toNat < 256 := b.toNat_lt
  go_enter Tryd.func139, Tryd.ntmps139
  go_wp2_with fail
  all_goals
    go_ret
    exact ⟨ret_b (by unfold digB; first | (simp_all; done) | (simp_all; omega) | (rw [Bool.eq_iff_iff]; simp; omega) | (simp; omega)), rfl⟩
theorem s_Inner (b : UInt8) (w : World) : Calls Tryd.prog 127 #[.int .u8 b.toNat] w fun e w' => e = .returned (.bool (innB b)) ∧ w = w' := by
  have hb : b.toNat < 256 := b.toNat_lt
  have L := Lib.hid (s_Letter b); have D := Lib.hid (s_Digit b)
  have HI : Hid (innB b = (letB b || digB b || decide (b.toNat = 95))) := Lib.hid rfl
  obtain ⟨x, hx⟩ : ∃ x, x = letB b := ⟨_, rfl⟩
  obtain ⟨y, hy⟩ : ∃ y, y = digB b := ⟨_, rfl⟩
  rw [← hx] at L HI; rw [← hy] at D HI
  obtain ⟨n, hn⟩ : ∃ n, n = b.toNat := ⟨_, rfl⟩
  rw [← hn] at L D HI hb ⊢
  clear hx hy hn
  by_cases h : n = 95
  · have h' : ((n : Int) == 95) = true := by simp; omega
    rw [decide_eq_true h] at HI
    clear h
    cases x <;> cases y
    all_goals
      go_enter Tryd.func127, Tryd.ntmps127
      go_wp2_with (first | (go_at_call 128; refine (L.out _).mono ?_; rintro e w' ⟨rfl, rfl⟩) | (go_at_call 139; refine (D.out _).mono ?_; rintro e w' ⟨rfl, rfl⟩))
      all_goals
        go_ret
        exact ⟨ret_b (by rw [HI.out]; rfl), rfl⟩
  · have h' : ((n : Int) == 95) = false := by simp; omega
    rw [decide_eq_false h] at HI
    clear h
    cases x <;> cases y
    all_goals
      go_enter Tryd.func127, Tryd.ntmps127
      go_wp2_with (first | (go_at_call 128; refine (L.out _).mono ?_; rintro e w' ⟨rfl, rfl⟩) | (go_at_call 139; refine (D.out _).mono ?_; rintro e w' ⟨rfl, rfl⟩))
      all_goals
        go_ret
        exact ⟨ret_b (by rw [HI.out]; rfl), rfl⟩
theorem s_InR (x a b : Int) (w : World) (hx : -9223372036854775808 ≤ x ∧ x ≤ 9223372036854775807) : Calls Tryd.prog 98 #[.int .i64 x, .int .i64 a, .int .i64 b] w fun e w' => e = .returned (.bool (decide (a ≤ x) && decide (x ≤ b))) ∧ w = w' := by
  go_enter Tryd.func98, Tryd.ntmps98
  go_wp2_with fail
  all_goals
    go_ret
    exact ⟨ret_b (by first | (simp_all; done) | (simp_all; omega)), rfl⟩
theorem s_Word (s : ByteArray) (w : World) (hs : s.size ≤ 1048576) : Calls Tryd.prog 107 #[.string s] w fun e w' => e = .returned (.bool (wrdB s.data.toList)) ∧ w = w' := by
  obtain ⟨l, hl⟩ : ∃ l, l = s.data.toList := ⟨_, rfl⟩
  have hlen : l.length = s.size := by rw [hl]; rfl
  have at_ : ∀ k (h : k < s.size), l[k]'(by omega) = s[k] := by
    intro k hk
    simp only [hl]; rfl
  have AT := Lib.hid at_
  have HLEN := Lib.hid hlen
  rw [← hl]
  clear hl at_
  go_enter Tryd.func107, Tryd.ntmps107
  go_wp2_with fail
  go_loopw [3] (fun i wr => wr = w ∧ ∃ k : Nat, i = .int .i64 k ∧ k ≤ s.size ∧ Hid (∀ j (hj : j < s.size), j < k → innB s[j] = true)) (fun i _ => s.size - (intOf i).toNat)
  case atStart => exact ⟨rfl, 0, rfl, by omega, Lib.hid (by intro j _ h; omega)⟩
  case round =>
    obtain ⟨rfl, k, rfl, hk, HI⟩ := hrel
    by_cases hlt : k < s.size
    · have IN := Lib.hid (s_Inner s[k])
      have hx : s[k].toNat < 256 := s[k].toNat_lt
      cases hb : innB s[k]
      · have HB := Lib.hid hb
        rw [hb] at IN
        have hr : wrdB l = false := by
          have : wln l = k := wln_at l k (by rw [HLEN.out]; exact hk) (fun j hj => by rw [AT.out j (by omega)]; exact HI.out j (by omega) hj) (fun h => by rw [AT.out k hlt]; exact hb)
          have h2 := HLEN.out
          simp [wrdB]; intro _ _ _; omega
        have HR := Lib.hid hr
        clear hb hr
        go_wp2_with (go_at_call 127; refine (IN.out _).mono ?_; rintro e w' ⟨rfl, rfl⟩)
        go_ret
        rw [HR.out]
        exact ⟨rfl, rfl⟩
      · have HB := Lib.hid hb
        rw [hb] at IN
        clear hb
        go_wp2_with (go_at_call 127; refine (IN.out _).mono ?_; rintro e w' ⟨rfl, rfl⟩)
        go_roundw
        case rel =>
          refine ⟨trivial, k + 1, by go_num, by omega, Lib.hid ?_⟩
          intro j hj hjk
          rcases Nat.lt_or_ge j k with h1 | h1
          · exact HI.out j hj h1
          · have : j = k := by omega
            subst this; exact HB.out
        case measure => simp [intOf]; omega
    · obtain rfl : k = s.size := by omega
      have hw : wln l = s.size := wln_at l s.size (by rw [HLEN.out]; exact Nat.le_refl _) (fun j hj => by rw [AT.out j hj]; exact HI.out j hj hj) (fun h => absurd (HLEN.out ▸ h) (Nat.lt_irrefl _))
      have hr : wrdB l = ((decide (1 ≤ (s.size : Int)) && decide ((s.size : Int) ≤ 12)) && letB (l.headD 0)) := by
        unfold wrdB
        rw [hw, HLEN.out, decide_eq_true (rfl : s.size = s.size), Bool.and_true]
        congr 1
        congr 1 <;> exact decide_eq_decide.2 (by omega)
      have HR := Lib.hid hr
      have IR := Lib.hid (s_InR (s.size : Int) 1 12)
      by_cases h1 : 1 ≤ s.size ∧ s.size ≤ 12
      · have hz : 0 < s.size := h1.1
        have hh : l.headD 0 = s[0] := by
          have h2 := AT.out 0 hz
          have h3 := HLEN.out
          cases l with
          | nil => simp at h3; omega
          | cons x t => simpa using h2
        have e1 : (decide (1 ≤ (s.size : Int)) && decide ((s.size : Int) ≤ 12)) = true := by simp; omega
        rw [e1] at IR HR
        rw [hh] at HR
        have LT := Lib.hid (s_Letter s[0])
        have hx : s[0].toNat < 256 := s[0].toNat_lt
        clear e1 hr hw hh h1
        go_wp2_with (first | (go_at_call 98; refine (IR.out _ (by omega)).mono ?_; rintro e w' ⟨rfl, rfl⟩) | (go_at_call 128; refine (LT.out _).mono ?_; rintro e w' ⟨rfl, rfl⟩))
        go_ret
        rw [HR.out]
        exact ⟨rfl, rfl⟩
      · have e1 : (decide (1 ≤ (s.size : Int)) && decide ((s.size : Int) ≤ 12)) = false := by
          cases hc : (decide (1 ≤ (s.size : Int)) && decide ((s.size : Int) ≤ 12)) with
          | false => rfl
          | true => simp at hc; omega
        rw [e1] at IR HR
        clear e1 hr hw h1
        go_wp2_with (first | (go_at_call 98; refine (IR.out _ (by omega)).mono ?_; rintro e w' ⟨rfl, rfl⟩))
        go_ret
        rw [HR.out]
        exact ⟨rfl, rfl⟩
end Go.Proofs.YtokipobjpinhmaaDoor
