/- Contracts of chapter 10: the model. -/
import Derived.Test.YtpeebgkgccacbaaTfP
namespace Go.Proofs.Ytpeebgkgccacbaa
open Go.RowKit
set_option maxHeartbeats 4000000
set_option maxRecDepth 100000
set_option linter.unusedVariables false
set_option linter.unusedSimpArgs false
theorem s_InQ (n a b : Int) (w : World) (v : Bool) (h : (decide (a ≤ n) && decide (n ≤ b)) = v) : Calls Try.prog 39 #[.int .i64 n, .int .i64 a, .int .i64 b] w fun e w' => e = .returned (.bool v) ∧ w' = w :=
  (s_In n a b w).mono fun _ _ k => ⟨by rw [k.1, h], k.2.symm⟩
theorem s_IsTraffic (B : Int) (a : Option Addr) (n cap : Nat) (l : List Int) (w : World) (hs : Sl w a n l) :
    Calls Try.prog 27 #[.agg #[.int .i64 B, .slice a n cap]] w fun e w' => e = .returned (.bool (tfB B l)) ∧ Later w w' := by
  have HS := Lib.hid hs
  have HL := Lib.hid hs.1
  have hn := hs.2.1
  clear hs
  by_cases h : (2 ≤ B ∧ B ≤ 8) ∧ 1 ≤ n ∧ n ≤ 4
  · obtain ⟨⟨h1, h2⟩, h3, h4⟩ := h
    have HF : Hid (tfB B l = plB B l) := Lib.hid (tfB_pl HL.out h1 h2 h3 h4)
    have e1 : (decide (2 ≤ B) && decide (B ≤ 8)) = true := by simp [h1, h2]
    have e2 : (decide ((1 : Int) ≤ n) && decide ((n : Int) ≤ 4)) = true := by simp; omega
    go_enter Try.func27, Try.ntmps27
    go_wp2_with (go_at_call 39; refine (s_In _ _ _ _).mono ?_; rintro e w' ⟨rfl, rfl⟩; first | rw [e1] | rw [e2])
    clear e1 e2
    go_loopw [3] (fun i wr => ∃ k : Nat, k ≤ n ∧ i = .int .i64 k ∧ plB B (l.take k) = true ∧ wr.cell? ⟨w.heap.size, 0, none⟩ = some (.int .i64 B) ∧ wr.cell? ⟨w.heap.size, 1, none⟩ = some (.slice a n cap) ∧ Later w wr) (fun i _ => n - (intOf i).toNat)
    case atStart => exact ⟨0, by omega, rfl, rfl, by simp, by simp, (by repeat (first | (with_reducible exact Later.refl _) | (with_reducible exact Hid.out (by assumption)) | (with_reducible refine Later.alloc ?_ _) | (with_reducible refine Later.setCell ?_ (by simp; omega) _) | (with_reducible refine Later.setCell ?_ (by simp) _) | (with_reducible refine Later.drewN ?_ _) | (with_reducible refine Later.drew ?_) | (with_reducible refine Later.trans ?_ (Hid.out (by assumption)))))⟩
    case round =>
      obtain ⟨k, hk, rfl, hp, q0, q1, hg⟩ := hrel
      have HP := Lib.hid hp; have HG := Lib.hid hg
      clear hp hg
      by_cases hlt : k < n
      · obtain ⟨b, off, rfl, hc⟩ := (sl_later HS.out HG.out).at k hlt
        have HN : Hid (plB B (l.take (k + 1)) = (plB B (l.take k) && (decide (0 ≤ gx l k) && decide (gx l k < 3 * B)))) := Lib.hid (plB_take B l k (by rw [HL.out]; exact hlt))
        have HB : Hid (¬ (0 ≤ gx l k ∧ gx l k < 3 * B) → plB B l = false) := Lib.hid (plB_no k (by rw [HL.out]; exact hlt))
        by_cases q : 0 ≤ gx l k ∧ gx l k < 3 * B
        · have e1 : (decide (0 ≤ gx l k) && decide (gx l k ≤ 3 * B - 1)) = true := by simp; omega
          have HQ : Hid (plB B (l.take (k + 1)) = true) := Lib.hid (by rw [HN.out, HP.out, decide_eq_true q.1, decide_eq_true q.2]; rfl)
          clear q
          go_wp2_with fail
          go_quiet ((go_at_call 39; exact Calls.quiet_of_same (s_InQ _ _ _ _ _ e1)))
          go_wp2_with fail
          go_roundw
          case rel => exact ⟨k + 1, by omega, by go_num, HQ.out, by simpa using q0, by simpa using q1, (by repeat (first | (with_reducible exact Later.refl _) | (with_reducible exact Hid.out (by assumption)) | (with_reducible refine Later.alloc ?_ _) | (with_reducible refine Later.setCell ?_ (by simp; omega) _) | (with_reducible refine Later.setCell ?_ (by simp) _) | (with_reducible refine Later.drewN ?_ _) | (with_reducible refine Later.drew ?_) | (with_reducible refine Later.trans ?_ (Hid.out (by assumption)))))⟩
          case measure => simp [intOf]; omega
        · have e1 : (decide (0 ≤ gx l k) && decide (gx l k ≤ 3 * B - 1)) = false := by rw [Bool.eq_false_iff]; intro g; simp at g; omega
          have HV := Lib.hid (HB.out q)
          clear q
          go_wp2_with fail
          go_quiet ((go_at_call 39; exact Calls.quiet_of_same (s_InQ _ _ _ _ _ e1)))
          go_wp2_with fail
          go_ret
          exact ⟨ret_b (by rw [HF.out, HV.out]), (by repeat (first | (with_reducible exact Later.refl _) | (with_reducible exact Hid.out (by assumption)) | (with_reducible refine Later.alloc ?_ _) | (with_reducible refine Later.setCell ?_ (by simp; omega) _) | (with_reducible refine Later.setCell ?_ (by simp) _) | (with_reducible refine Later.drewN ?_ _) | (with_reducible refine Later.drew ?_) | (with_reducible refine Later.trans ?_ (Hid.out (by assumption)))))⟩
      · obtain rfl : k = n := by omega
        have HT : Hid (plB B l = true) := Lib.hid (by have := HP.out; rw [List.take_of_length_le (by rw [HL.out]; exact Nat.le_refl _)] at this; exact this)
        go_wp2_with fail
        go_ret
        exact ⟨ret_b (by rw [HF.out, HT.out]), HG.out⟩
  · have HF : Hid (tfB B l = false) := Lib.hid (tfB_no (by rw [HL.out]; exact fun ⟨a, b, c, d⟩ => h ⟨⟨a, b⟩, c, d⟩))
    by_cases hb : 2 ≤ B ∧ B ≤ 8
    · have e1 : (decide (2 ≤ B) && decide (B ≤ 8)) = true := by simp [hb.1, hb.2]
      have e2 : (decide ((1 : Int) ≤ n) && decide ((n : Int) ≤ 4)) = false := by rw [Bool.eq_false_iff]; intro g; simp at g; omega
      clear h hb
      go_enter Try.func27, Try.ntmps27
      go_wp2_with (go_at_call 39; refine (s_In _ _ _ _).mono ?_; rintro e w' ⟨rfl, rfl⟩; first | rw [e1] | rw [e2])
      go_ret
      exact ⟨ret_b (by rw [HF.out]), (by repeat (first | (with_reducible exact Later.refl _) | (with_reducible exact Hid.out (by assumption)) | (with_reducible refine Later.alloc ?_ _) | (with_reducible refine Later.setCell ?_ (by simp; omega) _) | (with_reducible refine Later.setCell ?_ (by simp) _) | (with_reducible refine Later.drewN ?_ _) | (with_reducible refine Later.drew ?_) | (with_reducible refine Later.trans ?_ (Hid.out (by assumption)))))⟩
    · have e1 : (decide (2 ≤ B) && decide (B ≤ 8)) = false := by rw [Bool.eq_false_iff]; intro g; simp at g; omega
      clear h hb
      go_enter Try.func27, Try.ntmps27
      go_wp2_with (go_at_call 39; refine (s_In _ _ _ _).mono ?_; rintro e w' ⟨rfl, rfl⟩; rw [e1])
      go_ret
      exact ⟨ret_b (by rw [HF.out]), (by repeat (first | (with_reducible exact Later.refl _) | (with_reducible exact Hid.out (by assumption)) | (with_reducible refine Later.alloc ?_ _) | (with_reducible refine Later.setCell ?_ (by simp; omega) _) | (with_reducible refine Later.setCell ?_ (by simp) _) | (with_reducible refine Later.drewN ?_ _) | (with_reducible refine Later.drew ?_) | (with_reducible refine Later.trans ?_ (Hid.out (by assumption)))))⟩
theorem s_l10Uses (B p b : Int) (w : World) (h1 : 2 ≤ B) (h2 : B ≤ 8) (h3 : 0 ≤ p) (h4 : p < 3 * B) : Calls Try.prog 49 #[.int .i64 B, .int .i64 p, .int .i64 b] w fun e w' => e = .returned (.bool (usB B p b)) ∧ w = w' := by
  have z3 : (p / 3 + 1).tmod B = (p / 3 + 1) % B := Int.tmod_eq_emod_of_nonneg (by omega)
  have r0 : 0 ≤ (p / 3 + 1) % B := Int.emod_nonneg _ (by omega)
  have r1 : (p / 3 + 1) % B < B := Int.emod_lt_of_pos _ (by omega)
  have key : ∀ x y z : Bool, (p / 3 == b) = x → (p % 3 == 2) = y → ((p / 3 + 1) % B == b) = z → Hid (usB B p b = (x || (y && z))) := by rintro x y z rfl rfl rfl; exact Lib.hid rfl
  cases e1 : (p / 3 == b) <;> cases e2 : (p % 3 == 2) <;> cases e3 : ((p / 3 + 1) % B == b)
  all_goals
    have K := key _ _ _ e1 e2 e3
    clear key
    go_enter Try.func49, Try.ntmps49
    go_wp2_with fail
    go_ret
    exact ⟨ret_b (by rw [K.out]; first | rfl | (simp_all; done)), rfl⟩
end Go.Proofs.Ytpeebgkgccacbaa
