/- Contracts of chapter 1's functions of lists, of the program and of the model. -/
import Derived.Test.YtnmlkigpiaekjaaSl
namespace Go.Proofs.Ytnmlkigpiaekjaa
open Go.RowKit
set_option maxHeartbeats 2000000
set_option linter.unusedVariables false
set_option linter.unusedSimpArgs false
/-- the state of the program's loop: the element before, or -1 -/
theorem okAt_split (l : List Int) (m : Int) (k : Nat) : okAt l m k = true ↔ prev l k < gx l k ∧ gx l k < m := by
  unfold okAt; rw [Bool.and_eq_true, decide_eq_true_eq, decide_eq_true_eq]
theorem okAt_not (l : List Int) (m : Int) (k : Nat) (h : ¬ (prev l k < gx l k ∧ gx l k < m)) : okAt l m k = false := by
  rw [← okAt_split] at h; simpa using h
theorem i_IsRising (a : Option Addr) (n cap : Nat) (l : List Int) (m : Int) (w : World) (hs : Sl w a n l) :
    Calls Try.prog 118 #[.slice a n cap, .int .i64 m] w fun e w' => e = .returned (.bool (risB l m)) ∧ w = w' := by
  have HS := Lib.hid hs
  have HL := Lib.hid hs.1
  have hn := hs.2.1
  clear hs
  go_enter Try.func118, Try.ntmps118
  go_wp2
  go_loop [5, 10] (fun s i => ∃ k : Nat, k ≤ n ∧ i = .int .i64 k ∧ s = .int .i64 (prev l k) ∧ ∀ i, i < k → okAt l m i = true) (fun _ i => n - (intOf i).toNat)
  case atStart => exact ⟨0, by omega, rfl, rfl, fun i hi => absurd hi (by omega)⟩
  case round =>
    obtain ⟨k, hk, rfl, rfl, hv⟩ := hrel
    have HV := Lib.hid hv; clear hv
    have HP : Hid (prev l (k + 1) = gx l k) := Lib.hid rfl
    by_cases hlt : k < n
    · obtain ⟨b, off, rfl, hc⟩ := HS.out.at k hlt
      have hl : k < l.length := by rw [HL.out]; exact hlt
      by_cases hx : prev l k < gx l k ∧ gx l k < m
      · obtain ⟨x1, x2⟩ := hx
        go_wp2
        go_round
        case rel =>
          refine ⟨k + 1, by omega, by go_num, by rw [HP.out], ?_⟩
          intro i hi
          by_cases h : i < k
          · exact HV.out i h
          · obtain rfl : i = k := by omega
            exact (okAt_split l m i).2 ⟨x1, x2⟩
        case measure => simp [intOf]; omega
      · have HF := Lib.hid (risB_no l m k hl (okAt_not l m k hx))
        by_cases y1 : prev l k < gx l k
        · have y2 : m ≤ gx l k := by omega
          clear hx
          go_wp2
          go_ret
          exact ⟨ret_b HF.out.symm, rfl⟩
        · clear hx
          go_wp2
          go_ret
          exact ⟨ret_b HF.out.symm, rfl⟩
    · obtain rfl : n = k := by omega
      go_wp2
      go_ret
      exact ⟨ret_b ((risB_iff l m).2 (fun i hi => HV.out i (by rw [HL.out] at hi; exact hi))).symm, rfl⟩
set_option maxHeartbeats 4000000 in
theorem s_Rises (a : Option Addr) (n cap : Nat) (l : List Int) (m : Int) (w : World) (hs : Sl w a n l) :
    Calls Try.prog 115 #[.slice a n cap, .int .i64 m] w fun e w' => e = .returned (.bool (risB l m)) ∧ ∃ q, w' = w.drewN q := by
  have HS := Lib.hid hs
  have HL := Lib.hid hs.1
  have hn := hs.2.1
  clear hs
  go_enter Try.func115, Try.ntmps115
  go_wp2
  go_loopw [5] (fun i wr => ∃ k : Nat, k ≤ n ∧ i = .int .i64 k ∧ (∀ i, i < k → okAt l m i = true) ∧ ∃ q, wr = w.drewN q) (fun i _ => n - (intOf i).toNat)
  case atStart => exact ⟨0, by omega, rfl, fun i hi => absurd hi (by omega), 0, rfl⟩
  case round =>
    obtain ⟨k, hk, rfl, hv, q, rfl⟩ := hrel
    have HV := Lib.hid hv; clear hv
    by_cases hlt : k < n
    · obtain ⟨b, off, rfl, hc⟩ := HS.out.at k hlt
      have hl : k < l.length := by rw [HL.out]; exact hlt
      by_cases y1 : gx l k < 0
      · have HF := Lib.hid (risB_no l m k hl (okAt_not l m k (by
          intro h
          cases k with
          | zero => have := h.1; simp only [prev] at this; omega
          | succ j => have := h.1; simp only [prev] at this; have := okAt_nn l m (j + 1) HV.out j (by omega); omega)))
        have d1 : decide (gx l k < 0) = true := by simpa using y1
        go_wp2
        go_quiet (fail)
        go_wp2
        go_ret
        exact ⟨ret_b HF.out.symm, by first | exact ⟨_, rfl⟩ | exact dr _ _ _⟩
      · have d1 : decide (gx l k < 0) = false := by simpa using y1
        by_cases y2 : m ≤ gx l k
        · have HF := Lib.hid (risB_no l m k hl (okAt_not l m k (by omega)))
          have d2 : decide (m ≤ gx l k) = true := by simpa using y2
          go_wp2
          go_quiet (fail)
          go_wp2
          go_ret
          exact ⟨ret_b HF.out.symm, by first | exact ⟨_, rfl⟩ | exact dr _ _ _⟩
        · have d2 : decide (m ≤ gx l k) = false := by simpa using y2
          by_cases y3 : k = 0
          · subst y3
            rw [Nat.add_zero] at hc
            have HK : Hid (okAt l m 0 = true) := Lib.hid ((okAt_split l m 0).2 ⟨by simp only [prev]; omega, by omega⟩)
            go_wp2
            go_quiet (fail)
            go_wp2
            go_roundw
            case rel =>
              refine ⟨1, by omega, by go_num, ?_, by first | exact ⟨_, rfl⟩ | exact dr _ _ _⟩
              intro i hi
              obtain rfl : i = 0 := by omega
              exact HK.out
            case measure => simp [intOf]; omega
          · have HPv : Hid (prev l k = gx l (k - 1)) := Lib.hid (by cases k with | zero => omega | succ j => rfl)
            obtain ⟨b', off', hbb, hc2⟩ := HS.out.at (k - 1) (by omega)
            simp only [Option.some.injEq, Addr.mk.injEq, and_true] at hbb
            obtain ⟨rfl, rfl⟩ := hbb
            have k1 : 1 ≤ k := by omega
            have k0 : 0 < k := by omega
            have d3 : decide (0 < k) = true := by simp; omega
            clear y3
            by_cases y4 : gx l k ≤ gx l (k - 1)
            · have HF := Lib.hid (risB_no l m k hl (okAt_not l m k (by rw [HPv.out]; omega)))
              go_wp2
              go_quiet (fail)
              go_wp2
              go_ret
              exact ⟨ret_b HF.out.symm, by first | exact ⟨_, rfl⟩ | exact dr _ _ _⟩
            · have HK : Hid (okAt l m k = true) := Lib.hid ((okAt_split l m k).2 ⟨by rw [HPv.out]; omega, by omega⟩)
              go_wp2
              go_quiet (fail)
              go_wp2
              go_roundw
              case rel =>
                refine ⟨k + 1, by omega, by go_num, ?_, by first | exact ⟨_, rfl⟩ | exact dr _ _ _⟩
                intro i hi
                by_cases h : i < k
                · exact HV.out i h
                · obtain rfl : i = k := by omega
                  exact HK.out
              case measure => simp [intOf]; omega
    · obtain rfl : n = k := by omega
      go_wp2
      go_ret
      exact ⟨ret_b ((risB_iff l m).2 (fun i hi => HV.out i (by rw [HL.out] at hi; exact hi))).symm, _, rfl⟩
end Go.Proofs.Ytnmlkigpiaekjaa
