/- Slices of int64: what the walks say of them; the contracts of chapter 1's functions of lists, of the program and of the model. -/
import Derived.Test.YtkkhmlnneijmgaaNum
import Derived.Test.YtkkhmlnneijmgaaMathL
import Derived.Outline
import Derived.BigQuiet
import Derived.Deep.QuietTactic
namespace Go.Proofs.Ytkkhmlnneijmgaa
open Go.RowKit
set_option maxHeartbeats 400000
set_option linter.unusedVariables false
set_option linter.unusedSimpArgs false
def InR (x : Int) : Prop := -9223372036854775808 ≤ x ∧ x ≤ 9223372036854775807
/-- 'the slice value (a, n, cap) reads as the list l' -/
def Sl (w : World) (a : Option Addr) (n : Nat) (l : List Int) : Prop :=
  l.length = n ∧ n ≤ 9223372036854775807 ∧ (∀ k, k < n → ∃ b off, a = some ⟨b, off, none⟩ ∧ w.cell? ⟨b, off + k, none⟩ = some (.int .i64 (gx l k))) ∧ ∀ x ∈ l, InR x
theorem Sl.at {w : World} {a : Option Addr} {n : Nat} {l : List Int} (h : Sl w a n l) (k : Nat) (hk : k < n) : ∃ b off, a = some ⟨b, off, none⟩ ∧ w.cell? ⟨b, off + k, none⟩ = some (.int .i64 (gx l k)) := h.2.2.1 k hk
theorem Sl.rng {w : World} {a : Option Addr} {n : Nat} {l : List Int} (h : Sl w a n l) (k : Nat) (hk : k < n) : -9223372036854775808 ≤ gx l k ∧ gx l k ≤ 9223372036854775807 := by
  have hl := h.1
  exact h.2.2.2 _ (gx_mem l k (by omega))
theorem dr (w : World) (p q : Nat) : ∃ r, (w.drewN p).drewN q = w.drewN r := ⟨p + q, by simp [World.drewN, Nat.add_assoc]⟩
theorem s_Sum (a : Option Addr) (n cap : Nat) (l : List Int) (w : World) (hs : Sl w a n l) (hn : n ≤ 200) (hv : ∀ x ∈ l, -1000000000000 ≤ x ∧ x ≤ 1000000000000) :
    Calls Try.prog 41 #[.slice a n cap] w fun e w' => e = .returned (.int .i64 l.sum) ∧ w = w' := by
  have HS := Lib.hid hs
  have HV := Lib.hid hv
  have HL := Lib.hid hs.1
  clear hs hv
  go_enter Try.func41, Try.ntmps41
  go_wp2
  go_loop [3, 4] (fun s i => ∃ k : Nat, k ≤ n ∧ i = .int .i64 k ∧ s = .int .i64 (l.take k).sum) (fun _ i => n - (intOf i).toNat)
  case atStart => exact ⟨0, by omega, rfl, rfl⟩
  case round =>
    obtain ⟨k, hk, rfl, rfl⟩ := hrel
    by_cases hlt : k < n
    · obtain ⟨b, off, rfl, hc⟩ := HS.out.at k hlt
      have hl : k < l.length := by rw [HL.out]; exact hlt
      have S := Lib.hid (sum_take_succ l k hl)
      obtain ⟨v1, v2⟩ : -1000000000000 ≤ gx l k ∧ gx l k ≤ 1000000000000 := by
        exact HV.out _ (gx_mem l k hl)
      obtain ⟨b1, b2⟩ := sum_bd (l.take k) (fun x hx => HV.out x (List.mem_of_mem_take hx))
      rw [List.length_take, Nat.min_eq_left (by omega)] at b1 b2
      go_wp2
      go_round
      case rel => exact ⟨k + 1, by omega, by go_num, by rw [S.out]⟩
      case measure => simp [intOf]; omega
    · go_wp2
      go_ret
      exact ⟨ret_i64 (by rw [List.take_of_length_le (by rw [HL.out]; omega)]), rfl⟩
theorem i_SumOf (a : Option Addr) (n cap : Nat) (l : List Int) (w : World) (hs : Sl w a n l) :
    Calls Try.prog 22 #[.slice a n cap] w fun e w' => e = .returned (.tuple #[.int .i64 (sumR l), .int .i64 (sumErr l)]) ∧ w = w' := by
  have HS := Lib.hid hs
  have HL := Lib.hid hs.1
  have hn := hs.2.1
  clear hs
  by_cases hbig : 200 < n
  · go_enter Try.func22, Try.ntmps22
    go_wp2
    go_ret2
    have e : sumErr l = 3 := by unfold sumErr; rw [if_pos (by rw [HL.out]; exact hbig)]
    exact ⟨ret_2i (by unfold sumR; rw [e]; rfl) e.symm, rfl⟩
  · go_enter Try.func22, Try.ntmps22
    go_wp2
    go_loop [4, 12] (fun s i => ∃ k : Nat, k ≤ n ∧ i = .int .i64 k ∧ s = .int .i64 (l.take k).sum ∧ ∀ x ∈ l.take k, isVB x = true) (fun _ i => n - (intOf i).toNat)
    case atStart => exact ⟨0, by omega, rfl, rfl, by simp⟩
    case round =>
      obtain ⟨k, hk, rfl, rfl, hv⟩ := hrel
      have HV := Lib.hid hv; clear hv
      obtain ⟨b1, b2⟩ := sum_bd (l.take k) (fun x hx => (isVB_iff x).1 (HV.out x hx))
      have hlk : (l.take k).length = k := by rw [List.length_take, HL.out]; omega
      rw [hlk] at b1 b2
      clear hlk
      by_cases hlt : k < n
      · obtain ⟨b, off, rfl, hc⟩ := HS.out.at k hlt
        have hl : k < l.length := by rw [HL.out]; exact hlt
        have S := Lib.hid (sum_take_succ l k hl)
        have HG : Hid (gx l k = l[k]) := Lib.hid (gx_of l k hl)
        by_cases hx : isVB (gx l k) = true
        · have HX := Lib.hid hx
          obtain ⟨v1, v2⟩ := (isVB_iff _).1 hx
          go_wp2_with (go_at_call 39; refine (i_isValue _ _).mono ?_; rintro e w' ⟨rfl, rfl⟩)
          go_round
          case rel =>
            refine ⟨k + 1, by omega, by go_num, by rw [S.out], ?_⟩
            intro x hx'
            rw [List.take_succ_eq_append_getElem hl, List.mem_append] at hx'
            rcases hx' with h | h
            · exact HV.out x h
            · simp only [List.mem_singleton] at h; rw [h, ← HG.out]; exact HX.out
          case measure => simp [intOf]; omega
        · have hx : isVB (gx l k) = false := by simpa using hx
          have HX := Lib.hid hx
          go_wp2_with (go_at_call 39; refine (i_isValue _ _).mono ?_; rintro e w' ⟨rfl, rfl⟩)
          go_ret2
          have e : sumErr l = 2 := by
            unfold sumErr; rw [if_neg (by rw [HL.out]; exact hbig), if_neg]
            intro hall
            rw [List.all_eq_true] at hall
            have := hall l[k] (List.getElem_mem _)
            rw [← HG.out, HX.out] at this; cases this
          exact ⟨ret_2i (by unfold sumR; rw [e]; rfl) e.symm, rfl⟩
      · obtain rfl : n = k := by omega
        have ht : l.take n = l := List.take_of_length_le (by rw [HL.out]; omega)
        rw [ht] at HV b1 b2 ⊢
        have hall : l.all isVB = true := by rw [List.all_eq_true]; exact HV.out
        have HA := Lib.hid hall
        clear hall ht
        by_cases hx : isVB l.sum = true
        · have e : sumErr l = 0 := by unfold sumErr; rw [if_neg (by rw [HL.out]; exact hbig), if_pos HA.out, if_pos hx]
          have E := Lib.hid e; clear e
          go_wp2_with (go_at_call 39; refine (i_isValue _ _).mono ?_; rintro e w' ⟨rfl, rfl⟩)
          go_ret2
          exact ⟨ret_2i (by unfold sumR; rw [E.out]; rfl) E.out.symm, rfl⟩
        · have hx : isVB l.sum = false := by simpa using hx
          have e : sumErr l = 2 := by unfold sumErr; rw [if_neg (by rw [HL.out]; exact hbig), if_pos HA.out, if_neg (by rw [hx]; decide)]
          have E := Lib.hid e; clear e
          go_wp2_with (go_at_call 39; refine (i_isValue _ _).mono ?_; rintro e w' ⟨rfl, rfl⟩)
          go_ret2
          exact ⟨ret_2i (by unfold sumR; rw [E.out]; rfl) E.out.symm, rfl⟩
theorem s_SumOf (a : Option Addr) (n cap : Nat) (l : List Int) (w : World) (hs : Sl w a n l) :
    Calls Try.prog 23 #[.slice a n cap] w fun e w' => e = .returned (.tuple #[.int .i64 (sumR l), .int .i64 (sumErr l)]) ∧ w = w' := by
  have HS := Lib.hid hs
  have HL := Lib.hid hs.1
  have hn := hs.2.1
  clear hs
  by_cases hbig : 200 < n
  · go_enter Try.func23, Try.ntmps23
    go_wp2
    go_ret2
    have e : sumErr l = 3 := by unfold sumErr; rw [if_pos (by rw [HL.out]; exact hbig)]
    exact ⟨ret_2i (by unfold sumR; rw [e]; rfl) e.symm, rfl⟩
  · go_enter Try.func23, Try.ntmps23
    go_wp2
    go_loop [4] (fun i => ∃ k : Nat, k ≤ n ∧ i = .int .i64 k ∧ ∀ x ∈ l.take k, isVB x = true) (fun i => n - (intOf i).toNat)
    case atStart => exact ⟨0, by omega, rfl, by simp⟩
    case round =>
      obtain ⟨k, hk, rfl, hv⟩ := hrel
      have HV := Lib.hid hv; clear hv
      by_cases hlt : k < n
      · obtain ⟨b, off, rfl, hc⟩ := HS.out.at k hlt
        have hl : k < l.length := by rw [HL.out]; exact hlt
        have HG : Hid (gx l k = l[k]) := Lib.hid (gx_of l k hl)
        by_cases hx : isVB (gx l k) = true
        · have HX := Lib.hid hx
          go_wp2_with (go_at_call 40; refine (s_Is _ _).mono ?_; rintro e w' ⟨rfl, rfl⟩)
          go_round
          case rel =>
            refine ⟨k + 1, by omega, by go_num, ?_⟩
            intro x hx'
            rw [List.take_succ_eq_append_getElem hl, List.mem_append] at hx'
            rcases hx' with h | h
            · exact HV.out x h
            · simp only [List.mem_singleton] at h; rw [h, ← HG.out]; exact HX.out
          case measure => simp [intOf]; omega
        · have hx : isVB (gx l k) = false := by simpa using hx
          have HX := Lib.hid hx
          go_wp2_with (go_at_call 40; refine (s_Is _ _).mono ?_; rintro e w' ⟨rfl, rfl⟩)
          go_ret2
          have e : sumErr l = 2 := by
            unfold sumErr; rw [if_neg (by rw [HL.out]; exact hbig), if_neg]
            intro hall
            rw [List.all_eq_true] at hall
            have := hall l[k] (List.getElem_mem _)
            rw [← HG.out, HX.out] at this; cases this
          exact ⟨ret_2i (by unfold sumR; rw [e]; rfl) e.symm, rfl⟩
      · obtain rfl : n = k := by omega
        have ht : l.take n = l := List.take_of_length_le (by rw [HL.out]; omega)
        rw [ht] at HV
        have hall : l.all isVB = true := by rw [List.all_eq_true]; exact HV.out
        have HA := Lib.hid hall
        have HB : Hid (∀ x ∈ l, -1000000000000 ≤ x ∧ x ≤ 1000000000000) := Lib.hid (fun x hx => (isVB_iff x).1 (HV.out x hx))
        clear hall ht
        by_cases hx : isVB l.sum = true
        · have e : sumErr l = 0 := by unfold sumErr; rw [if_neg (by rw [HL.out]; exact hbig), if_pos HA.out, if_pos hx]
          have E := Lib.hid e; clear e
          go_wp2_with (first | (go_at_call 40; refine (s_Is _ _).mono ?_; rintro e w' ⟨rfl, rfl⟩) | (go_at_call 41; refine (s_Sum _ _ _ _ _ HS.out (by omega) HB.out).mono ?_; rintro e w' ⟨rfl, rfl⟩))
          go_ret2
          exact ⟨ret_2i (by unfold sumR; rw [E.out]; rfl) E.out.symm, rfl⟩
        · have hx : isVB l.sum = false := by simpa using hx
          have e : sumErr l = 2 := by unfold sumErr; rw [if_neg (by rw [HL.out]; exact hbig), if_pos HA.out, if_neg (by rw [hx]; decide)]
          have E := Lib.hid e; clear e
          go_wp2_with (first | (go_at_call 40; refine (s_Is _ _).mono ?_; rintro e w' ⟨rfl, rfl⟩) | (go_at_call 41; refine (s_Sum _ _ _ _ _ HS.out (by omega) HB.out).mono ?_; rintro e w' ⟨rfl, rfl⟩))
          go_ret2
          exact ⟨ret_2i (by unfold sumR; rw [E.out]; rfl) E.out.symm, rfl⟩
/-- the state of the program's loop: the element before, or -1 -/
theorem okAt_split (l : List Int) (m : Int) (k : Nat) : okAt l m k = true ↔ prev l k < gx l k ∧ gx l k < m := by
  unfold okAt; rw [Bool.and_eq_true, decide_eq_true_eq, decide_eq_true_eq]
theorem okAt_not (l : List Int) (m : Int) (k : Nat) (h : ¬ (prev l k < gx l k ∧ gx l k < m)) : okAt l m k = false := by
  rw [← okAt_split] at h; simpa using h
theorem i_IsRising (a : Option Addr) (n cap : Nat) (l : List Int) (m : Int) (w : World) (hs : Sl w a n l) :
    Calls Try.prog 25 #[.slice a n cap, .int .i64 m] w fun e w' => e = .returned (.bool (risB l m)) ∧ w = w' := by
  have HS := Lib.hid hs
  have HL := Lib.hid hs.1
  have hn := hs.2.1
  clear hs
  go_enter Try.func25, Try.ntmps25
  go_wp2
  go_loop [5, 10] (fun s i => ∃ k : Nat, k ≤ n ∧ i = .int .i64 k ∧ s = .int .i64 (prev l k) ∧ ∀ i, i < k → okAt l m i = true) (fun _ i => n - (intOf i).toNat)
  case atStart => exact ⟨0, by omega, rfl, rfl, fun i hi => absurd hi (by omega)⟩
  case round =>
    obtain ⟨k, hk, rfl, rfl, hv⟩ := hrel
    have HV := Lib.hid hv; clear hv
    have HP : Hid (prev l (k + 1) = gx l k) := Lib.hid rfl
    by_cases hlt : k < n
    · obtain ⟨b, off, rfl, hc⟩ := HS.out.at k hlt
      have hl : k < l.length := by rw [HL.out]; exact hlt
      by_cases hx : prev l k < gx l k ∧ gx l k < m
      · obtain ⟨x1, x2⟩ := hx
        go_wp2
        go_round
        case rel =>
          refine ⟨k + 1, by omega, by go_num, by rw [HP.out], ?_⟩
          intro i hi
          by_cases h : i < k
          · exact HV.out i h
          · obtain rfl : i = k := by omega
            exact (okAt_split l m i).2 ⟨x1, x2⟩
        case measure => simp [intOf]; omega
      · have HF := Lib.hid (risB_no l m k hl (okAt_not l m k hx))
        by_cases y1 : prev l k < gx l k
        · have y2 : m ≤ gx l k := by omega
          clear hx
          go_wp2
          go_ret
          exact ⟨ret_b HF.out.symm, rfl⟩
        · clear hx
          go_wp2
          go_ret
          exact ⟨ret_b HF.out.symm, rfl⟩
    · obtain rfl : n = k := by omega
      go_wp2
      go_ret
      exact ⟨ret_b ((risB_iff l m).2 (fun i hi => HV.out i (by rw [HL.out] at hi; exact hi))).symm, rfl⟩
set_option maxHeartbeats 4000000 in
theorem s_Rises (a : Option Addr) (n cap : Nat) (l : List Int) (m : Int) (w : World) (hs : Sl w a n l) :
    Calls Try.prog 43 #[.slice a n cap, .int .i64 m] w fun e w' => e = .returned (.bool (risB l m)) ∧ ∃ q, w' = w.drewN q := by
  have HS := Lib.hid hs
  have HL := Lib.hid hs.1
  have hn := hs.2.1
  clear hs
  go_enter Try.func43, Try.ntmps43
  go_wp2
  go_loopw [5] (fun i wr => ∃ k : Nat, k ≤ n ∧ i = .int .i64 k ∧ (∀ i, i < k → okAt l m i = true) ∧ ∃ q, wr = w.drewN q) (fun i _ => n - (intOf i).toNat)
  case atStart => exact ⟨0, by omega, rfl, fun i hi => absurd hi (by omega), 0, rfl⟩
  case round =>
    obtain ⟨k, hk, rfl, hv, q, rfl⟩ := hrel
    have HV := Lib.hid hv; clear hv
    by_cases hlt : k < n
    · obtain ⟨b, off, rfl, hc⟩ := HS.out.at k hlt
      have hl : k < l.length := by rw [HL.out]; exact hlt
      by_cases y1 : gx l k < 0
      · have HF := Lib.hid (risB_no l m k hl (okAt_not l m k (by
          intro h
          cases k with
          | zero => have := h.1; simp only [prev] at this; omega
          | succ j => have := h.1; simp only [prev] at this; have := okAt_nn l m (j + 1) HV.out j (by omega); omega)))
        have d1 : decide (gx l k < 0) = true := by simpa using y1
        go_wp2
        go_quiet (fail)
        go_wp2
        go_ret
        exact ⟨ret_b HF.out.symm, by first | exact ⟨_, rfl⟩ | exact dr _ _ _⟩
      · have d1 : decide (gx l k < 0) = false := by simpa using y1
        by_cases y2 : m ≤ gx l k
        · have HF := Lib.hid (risB_no l m k hl (okAt_not l m k (by omega)))
          have d2 : decide (m ≤ gx l k) = true := by simpa using y2
          go_wp2
          go_quiet (fail)
          go_wp2
          go_ret
          exact ⟨ret_b HF.out.symm, by first | exact ⟨_, rfl⟩ | exact dr _ _ _⟩
        · have d2 : decide (m ≤ gx l k) = false := by simpa using y2
          by_cases y3 : k = 0
          · subst y3
            rw [Nat.add_zero] at hc
            have HK : Hid (okAt l m 0 = true) := Lib.hid ((okAt_split l m 0).2 ⟨by simp only [prev]; omega, by omega⟩)
            go_wp2
            go_quiet (fail)
            go_wp2
            go_roundw
            case rel =>
              refine ⟨1, by omega, by go_num, ?_, by first | exact ⟨_, rfl⟩ | exact dr _ _ _⟩
              intro i hi
              obtain rfl : i = 0 := by omega
              exact HK.out
            case measure => simp [intOf]; omega
          · have HPv : Hid (prev l k = gx l (k - 1)) := Lib.hid (by cases k with | zero => omega | succ j => rfl)
            obtain ⟨b', off', hbb, hc2⟩ := HS.out.at (k - 1) (by omega)
            simp only [Option.some.injEq, Addr.mk.injEq, and_true] at hbb
            obtain ⟨rfl, rfl⟩ := hbb
            have k1 : 1 ≤ k := by omega
            have k0 : 0 < k := by omega
            have d3 : decide (0 < k) = true := by simp; omega
            clear y3
            by_cases y4 : gx l k ≤ gx l (k - 1)
            · have HF := Lib.hid (risB_no l m k hl (okAt_not l m k (by rw [HPv.out]; omega)))
              go_wp2
              go_quiet (fail)
              go_wp2
              go_ret
              exact ⟨ret_b HF.out.symm, by first | exact ⟨_, rfl⟩ | exact dr _ _ _⟩
            · have HK : Hid (okAt l m k = true) := Lib.hid ((okAt_split l m k).2 ⟨by rw [HPv.out]; omega, by omega⟩)
              go_wp2
              go_quiet (fail)
              go_wp2
              go_roundw
              case rel =>
                refine ⟨k + 1, by omega, by go_num, ?_, by first | exact ⟨_, rfl⟩ | exact dr _ _ _⟩
                intro i hi
                by_cases h : i < k
                · exact HV.out i h
                · obtain rfl : i = k := by omega
                  exact HK.out
              case measure => simp [intOf]; omega
    · obtain rfl : n = k := by omega
      go_wp2
      go_ret
      exact ⟨ret_b ((risB_iff l m).2 (fun i hi => HV.out i (by rw [HL.out] at hi; exact hi))).symm, _, rfl⟩
theorem s_IsRising (a : Option Addr) (n cap : Nat) (l : List Int) (m : Int) (w : World) (hs : Sl w a n l) :
    Calls Try.prog 26 #[.slice a n cap, .int .i64 m] w fun e w' => e = .returned (.bool (risB l m)) ∧ ∃ q, w' = w.drewN q := by
  have HS := Lib.hid hs
  clear hs
  go_enter Try.func26, Try.ntmps26
  go_wp2_with (go_at_call 43; refine (s_Rises _ _ _ _ _ _ HS.out).mono ?_; rintro e w' ⟨rfl, q, rfl⟩)
  go_ret
  exact ⟨rfl, _, rfl⟩
end Go.Proofs.Ytkkhmlnneijmgaa
