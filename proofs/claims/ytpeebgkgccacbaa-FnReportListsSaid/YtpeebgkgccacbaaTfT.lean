/- Contracts of chapter 10: the model's counts, uses and moves. -/
import Derived.Test.YtpeebgkgccacbaaTfS
namespace Go.Proofs.Ytpeebgkgccacbaa
open Go.RowKit
set_option maxHeartbeats 4000000
set_option maxRecDepth 100000
set_option linter.unusedVariables false
set_option linter.unusedSimpArgs false
theorem s_UsesQ (B p b : Int) (w : World) (v : Bool) (h1 : 2 ≤ B) (h2 : B ≤ 8) (h3 : 0 ≤ p) (h4 : p < 3 * B) (h : usB B p b = v) : Calls Try.prog 49 #[.int .i64 B, .int .i64 p, .int .i64 b] w fun e w' => e = .returned (.bool v) ∧ w' = w :=
  (s_l10Uses B p b w h1 h2 h3 h4).mono fun _ _ k => ⟨by rw [k.1, h], k.2.symm⟩
theorem s_l10Count (B : Int) (a : Option Addr) (n cap : Nat) (l : List Int) (b : Int) (w : World) (hs : Sl w a n l) (hv : tfB B l = true) :
    Calls Try.prog 47 #[.agg #[.int .i64 B, .slice a n cap], .int .i64 b] w fun e w' => e = .returned (.int .i64 (cn B l b)) ∧ Later w w' := by
  have HS := Lib.hid hs
  have HL := Lib.hid hs.1
  have hn := hs.2.1
  clear hs
  obtain ⟨h1, h2, n1, n2, hp⟩ := (tfB_iff B l).1 hv
  rw [HL.out] at n1 n2
  have HP := Lib.hid hp
  clear hp
  go_enter Try.func47, Try.ntmps47
  go_wp2_with fail
  go_loopw [5, 6] (fun c i wr => ∃ k : Nat, k ≤ n ∧ i = .int .i64 k ∧ c = .int .i64 (cn B (l.take k) b) ∧ wr.cell? ⟨w.heap.size, 0, none⟩ = some (.int .i64 B) ∧ wr.cell? ⟨w.heap.size, 1, none⟩ = some (.slice a n cap) ∧ Later w wr) (fun _ i _ => n - (intOf i).toNat)
  case atStart => exact ⟨0, by omega, rfl, rfl, by simp, by simp, (by repeat (first | (with_reducible exact Later.refl _) | (with_reducible exact Hid.out (by assumption)) | (with_reducible refine Later.alloc ?_ _) | (with_reducible refine Later.setCell ?_ (by simp; omega) _) | (with_reducible refine Later.setCell ?_ (by simp) _) | (with_reducible refine Later.drewN ?_ _) | (with_reducible refine Later.drew ?_) | (with_reducible refine Later.trans ?_ (Hid.out (by assumption)))))⟩
  case round =>
    obtain ⟨k, hk, rfl, rfl, q0, q1, hg⟩ := hrel
    have HG := Lib.hid hg
    clear hg
    have hck := cn_le B (l.take k) b
    rw [List.length_take] at hck
    have hc4 : (cn B (l.take k) b : Int) ≤ 4 := by omega
    clear hck
    by_cases hlt : k < n
    · obtain ⟨bb, off, rfl, hc⟩ := (sl_later HS.out HG.out).at k hlt
      have HN := Lib.hid (cn_succ B l b k (by rw [HL.out]; exact hlt))
      obtain ⟨p1, p2⟩ := plB_at HP.out k (by rw [HL.out]; exact hlt)
      cases hu : usB B (gx l k) b
      · have HQ : Hid (cn B (l.take (k + 1)) b = cn B (l.take k) b) := Lib.hid (by rw [HN.out, hu]; simp)
        go_wp2_with fail
        go_quiet ((go_at_call 49; exact Calls.quiet_of_same (s_UsesQ _ _ _ _ _ h1 h2 p1 p2 hu)))
        go_wp2_with fail
        go_roundw
        case rel => exact ⟨k + 1, by omega, by go_num, by rw [HQ.out], by simpa using q0, by simpa using q1, (by repeat (first | (with_reducible exact Later.refl _) | (with_reducible exact Hid.out (by assumption)) | (with_reducible refine Later.alloc ?_ _) | (with_reducible refine Later.setCell ?_ (by simp; omega) _) | (with_reducible refine Later.setCell ?_ (by simp) _) | (with_reducible refine Later.drewN ?_ _) | (with_reducible refine Later.drew ?_) | (with_reducible refine Later.trans ?_ (Hid.out (by assumption)))))⟩
        case measure => simp [intOf]; omega
      · have HQ : Hid (cn B (l.take (k + 1)) b = cn B (l.take k) b + 1) := Lib.hid (by rw [HN.out, hu]; simp)
        go_wp2_with fail
        go_quiet ((go_at_call 49; exact Calls.quiet_of_same (s_UsesQ _ _ _ _ _ h1 h2 p1 p2 hu)))
        go_wp2_with fail
        go_roundw
        case rel => exact ⟨k + 1, by omega, by go_num, by rw [HQ.out]; exact congrArg (Value.int .i64) (by omega), by simpa using q0, by simpa using q1, (by repeat (first | (with_reducible exact Later.refl _) | (with_reducible exact Hid.out (by assumption)) | (with_reducible refine Later.alloc ?_ _) | (with_reducible refine Later.setCell ?_ (by simp; omega) _) | (with_reducible refine Later.setCell ?_ (by simp) _) | (with_reducible refine Later.drewN ?_ _) | (with_reducible refine Later.drew ?_) | (with_reducible refine Later.trans ?_ (Hid.out (by assumption)))))⟩
        case measure => simp [intOf]; omega
    · obtain rfl : k = n := by omega
      have HT : Hid (cn B (l.take k) b = cn B l b) := Lib.hid (by rw [List.take_of_length_le (by rw [HL.out]; exact Nat.le_refl _)])
      go_wp2_with fail
      go_ret
      exact ⟨ret_i64 (by rw [HT.out]), HG.out⟩
end Go.Proofs.Ytpeebgkgccacbaa
