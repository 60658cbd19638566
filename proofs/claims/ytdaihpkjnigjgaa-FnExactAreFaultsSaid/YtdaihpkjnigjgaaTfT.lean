/- Contracts of chapter 10: the model's counts, uses and moves. -/
import Derived.Test.YtdaihpkjnigjgaaTfS
namespace Go.Proofs.Ytdaihpkjnigjgaa
open Go.RowKit
set_option maxHeartbeats 4000000
set_option maxRecDepth 100000
set_option linter.unusedVariables false
set_option linter.unusedSimpArgs false
theorem s_UsesQ (B p b : Int) (w : World) (v : Bool) (h1 : 2 ≤ B) (h2 : B ≤ 8) (h3 : 0 ≤ p) (h4 : p < 3 * B) (h : usB B p b = v) : Calls Try.prog 100 #[.int .i64 B, .int .i64 p, .int .i64 b] w fun e w' => e = .returned (.bool v) ∧ w' = w :=
  (s_l10Uses B p b w h1 h2 h3 h4).mono fun _ _ k => ⟨by rw [k.1, h], k.2.symm⟩
theorem s_l10Count (B : Int) (a : Option Addr) (n cap : Nat) (l : List Int) (b : Int) (w : World) (hs : Sl w a n l) (hv : tfB B l = true) :
    Calls Try.prog 94 #[.agg #[.int .i64 B, .slice a n cap], .int .i64 b] w fun e w' => e = .returned (.int .i64 (cn B l b)) ∧ Later w w' := by
  have HS := Lib.hid hs
  have HL := Lib.hid hs.1
  have hn := hs.2.1
  clear hs
  obtain ⟨h1, h2, n1, n2, hp⟩ := (tfB_iff B l).1 hv
  rw [HL.out] at n1 n2
  have HP := Lib.hid hp
  clear hp
  go_enter Try.func94, Try.ntmps94
  go_wp2_with fail
  go_loopw [5, 6] (fun c i wr => ∃ k : Nat, k ≤ n ∧ i = .int .i64 k ∧ c = .int .i64 (cn B (l.take k) b) ∧ wr.cell? ⟨w.heap.size, 0, none⟩ = some (.int .i64 B) ∧ wr.cell? ⟨w.heap.size, 1, none⟩ = some (.slice a n cap) ∧ Later w wr) (fun _ i _ => n - (intOf i).toNat)
  case atStart => exact ⟨0, by omega, rfl, rfl, by simp, by simp, (by repeat (first | (with_reducible exact Later.refl _) | (with_reducible exact Hid.out (by assumption)) | (with_reducible refine Later.alloc ?_ _) | (with_reducible refine Later.setCell ?_ (by simp; omega) _) | (with_reducible refine Later.setCell ?_ (by simp) _) | (with_reducible refine Later.drewN ?_ _) | (with_reducible refine Later.drew ?_) | (with_reducible refine Later.trans ?_ (Hid.out (by assumption)))))⟩
  case round =>
    obtain ⟨k, hk, rfl, rfl, q0, q1, hg⟩ := hrel
    have HG := Lib.hid hg
    clear hg
    have hck := cn_le B (l.take k) b
    rw [List.length_take] at hck
    have hc4 : (cn B (l.take k) b : Int) ≤ 4 := by omega
    clear hck
    by_cases hlt : k < n
    · obtain ⟨bb, off, rfl, hc⟩ := (sl_later HS.out HG.out).at k hlt
      have HN := Lib.hid (cn_succ B l b k (by rw [HL.out]; exact hlt))
      obtain ⟨p1, p2⟩ := plB_at HP.out k (by rw [HL.out]; exact hlt)
      cases hu : usB B (gx l k) b
      · have HQ : Hid (cn B (l.take (k + 1)) b = cn B (l.take k) b) := Lib.hid (by rw [HN.out, hu]; simp)
        go_wp2_with fail
        go_quiet ((go_at_call 100; exact Calls.quiet_of_same (s_UsesQ _ _ _ _ _ h1 h2 p1 p2 hu)))
        go_wp2_with fail
        go_roundw
        case rel => exact ⟨k + 1, by omega, by go_num, by rw [HQ.out], by simpa using q0, by simpa using q1, (by repeat (first | (with_reducible exact Later.refl _) | (with_reducible exact Hid.out (by assumption)) | (with_reducible refine Later.alloc ?_ _) | (with_reducible refine Later.setCell ?_ (by simp; omega) _) | (with_reducible refine Later.setCell ?_ (by simp) _) | (with_reducible refine Later.drewN ?_ _) | (with_reducible refine Later.drew ?_) | (with_reducible refine Later.trans ?_ (Hid.out (by assumption)))))⟩
        case measure => simp [intOf]; omega
      · have HQ : Hid (cn B (l.take (k + 1)) b = cn B (l.take k) b + 1) := Lib.hid (by rw [HN.out, hu]; simp)
        go_wp2_with fail
        go_quiet ((go_at_call 100; exact Calls.quiet_of_same (s_UsesQ _ _ _ _ _ h1 h2 p1 p2 hu)))
        go_wp2_with fail
        go_roundw
        case rel => exact ⟨k + 1, by omega, by go_num, by rw [HQ.out]; exact congrArg (Value.int .i64) (by omega), by simpa using q0, by simpa using q1, (by repeat (first | (with_reducible exact Later.refl _) | (with_reducible exact Hid.out (by assumption)) | (with_reducible refine Later.alloc ?_ _) | (with_reducible refine Later.setCell ?_ (by simp; omega) _) | (with_reducible refine Later.setCell ?_ (by simp) _) | (with_reducible refine Later.drewN ?_ _) | (with_reducible refine Later.drew ?_) | (with_reducible refine Later.trans ?_ (Hid.out (by assumption)))))⟩
        case measure => simp [intOf]; omega
    · obtain rfl : k = n := by omega
      have HT : Hid (cn B (l.take k) b = cn B l b) := Lib.hid (by rw [List.take_of_length_le (by rw [HL.out]; exact Nat.le_refl _)])
      go_wp2_with fail
      go_ret
      exact ⟨ret_i64 (by rw [HT.out]), HG.out⟩
theorem s_IsSafeTraffic (B : Int) (a : Option Addr) (n cap : Nat) (l : List Int) (w : World) (hs : Sl w a n l) :
    Calls Try.prog 32 #[.agg #[.int .i64 B, .slice a n cap]] w fun e w' => e = .returned (.bool (sfB B l)) ∧ Later w w' := by
  have HS := Lib.hid hs
  have HL := Lib.hid hs.1
  have hn := hs.2.1
  clear hs
  cases hv : tfB B l
  · have HF := Lib.hid (sfB_bad hv)
    go_enter Try.func32, Try.ntmps32
    go_wp2_with (go_at_call 30; refine (s_IsTraffic _ _ _ _ _ _ (sl_later HS.out (show Later w _ from (by repeat (first | (with_reducible exact Later.refl _) | (with_reducible exact Hid.out (by assumption)) | (with_reducible refine Later.alloc ?_ _) | (with_reducible refine Later.setCell ?_ (by simp; omega) _) | (with_reducible refine Later.setCell ?_ (by simp) _) | (with_reducible refine Later.drewN ?_ _) | (with_reducible refine Later.drew ?_) | (with_reducible refine Later.trans ?_ (Hid.out (by assumption)))))))).mono ?_; rintro e w1 ⟨rfl, hb⟩; rw [hv]; have H1 := Lib.hid hb; clear hb)
    go_ret
    exact ⟨ret_b (by rw [HF.out]), (by repeat (first | (with_reducible exact Later.refl _) | (with_reducible exact Hid.out (by assumption)) | (with_reducible refine Later.alloc ?_ _) | (with_reducible refine Later.setCell ?_ (by simp; omega) _) | (with_reducible refine Later.setCell ?_ (by simp) _) | (with_reducible refine Later.drewN ?_ _) | (with_reducible refine Later.drew ?_) | (with_reducible refine Later.trans ?_ (Hid.out (by assumption)))))⟩
  · have HF := Lib.hid (sfB_sl hv)
    obtain ⟨h1, h2, n1, n2, _⟩ := (tfB_iff B l).1 hv
    obtain ⟨bn, rfl⟩ := Int.eq_ofNat_of_zero_le (show 0 ≤ B by omega)
    go_enter Try.func32, Try.ntmps32
    go_wp2_with fail
    refine (s_IsTraffic _ _ _ _ _ _ (sl_later HS.out (show Later w _ from (by repeat (first | (with_reducible exact Later.refl _) | (with_reducible exact Hid.out (by assumption)) | (with_reducible refine Later.alloc ?_ _) | (with_reducible refine Later.setCell ?_ (by simp; omega) _) | (with_reducible refine Later.setCell ?_ (by simp) _) | (with_reducible refine Later.drewN ?_ _) | (with_reducible refine Later.drew ?_) | (with_reducible refine Later.trans ?_ (Hid.out (by assumption)))))))).mono ?_
    rintro e w1 ⟨rfl, hl⟩
    rw [hv]
    obtain ⟨H1, hcc, hff, hzz⟩ := later_facts hl; clear hl
    simp only [World.size_alloc] at hzz hcc hff
    have q0 : w1.cell? ⟨w.heap.size, 0, none⟩ = some (.int .i64 bn) := by rw [hcc _ _ (by omega)]; simp
    have q1 : w1.cell? ⟨w.heap.size, 1, none⟩ = some (.slice a n cap) := by rw [hcc _ _ (by omega)]; simp
    have HG : Hid (Later w w1) := Lib.hid (by repeat (first | (with_reducible exact Later.refl _) | (with_reducible exact Hid.out (by assumption)) | (with_reducible refine Later.alloc ?_ _) | (with_reducible refine Later.setCell ?_ (by simp; omega) _) | (with_reducible refine Later.setCell ?_ (by simp) _) | (with_reducible refine Later.drewN ?_ _) | (with_reducible refine Later.drew ?_) | (with_reducible refine Later.trans ?_ (Hid.out (by assumption)))))
    clear hcc hff H1
    go_wp2_with fail
    go_loopw [3] (fun i wr => ∃ k : Nat, k ≤ bn ∧ i = .int .i64 k ∧ (∀ j : Nat, j < k → cn bn l j ≤ 1) ∧ wr.cell? ⟨w.heap.size, 0, none⟩ = some (.int .i64 bn) ∧ wr.cell? ⟨w.heap.size, 1, none⟩ = some (.slice a n cap) ∧ Later w wr) (fun i _ => bn - (intOf i).toNat)
    case atStart => exact ⟨0, by omega, rfl, fun j hj => by omega, q0, q1, HG.out⟩
    case round =>
      clear q0 q1 HG
      obtain ⟨k, hk, rfl, hc, q0, q1, hg⟩ := hrel
      have HG := Lib.hid hg; have HC := Lib.hid hc
      clear hg hc
      have b0 := cell_lt q0
      by_cases hlt : k < bn
      · obtain ⟨c, hcn⟩ : ∃ c, c = cn bn l k := ⟨_, rfl⟩
        have HCN := Lib.hid hcn
        clear hcn
        by_cases hq : 1 < c
        · have HQ : Hid (slB bn l = false) := Lib.hid (slB_no k (by simpa using hlt) (by rw [← HCN.out]; exact hq))
          go_wp2_with (go_at_call 94; refine (s_l10Count _ _ _ _ _ _ _ (sl_later HS.out HG.out) hv).mono ?_; rintro e w2 ⟨rfl, hb⟩; rw [← HCN.out]; have H2 := Lib.hid hb; clear hb)
          go_ret
          exact ⟨ret_b (by rw [HF.out, HQ.out]), (by repeat (first | (with_reducible exact Later.refl _) | (with_reducible exact Hid.out (by assumption)) | (with_reducible refine Later.alloc ?_ _) | (with_reducible refine Later.setCell ?_ (by simp; omega) _) | (with_reducible refine Later.setCell ?_ (by simp) _) | (with_reducible refine Later.drewN ?_ _) | (with_reducible refine Later.drew ?_) | (with_reducible refine Later.trans ?_ (Hid.out (by assumption)))))⟩
        · go_wp2_with (go_at_call 94; refine (s_l10Count _ _ _ _ _ _ _ (sl_later HS.out HG.out) hv).mono ?_; rintro e w2 ⟨rfl, hb⟩; rw [← HCN.out]; have d0 := (Below.cell (p := ⟨w.heap.size, 0, none⟩) hb b0).trans q0; have d1 := (Below.cell (p := ⟨w.heap.size, 1, none⟩) hb b0).trans q1; have H2 := Lib.hid hb; clear hb)
          go_roundw
          case rel =>
            refine ⟨k + 1, by omega, by go_num, fun j hj => ?_, d0, d1, (by repeat (first | (with_reducible exact Later.refl _) | (with_reducible exact Hid.out (by assumption)) | (with_reducible refine Later.alloc ?_ _) | (with_reducible refine Later.setCell ?_ (by simp; omega) _) | (with_reducible refine Later.setCell ?_ (by simp) _) | (with_reducible refine Later.drewN ?_ _) | (with_reducible refine Later.drew ?_) | (with_reducible refine Later.trans ?_ (Hid.out (by assumption)))))⟩
            by_cases e : j = k
            · rw [e, ← HCN.out]; omega
            · exact HC.out j (by omega)
          case measure => simp [intOf]; omega
      · obtain rfl : k = bn := by omega
        have HQ : Hid (slB k l = true) := Lib.hid ((slB_iff _ _).2 (fun b hb => HC.out b (by simpa using hb)))
        go_wp2_with fail
        go_ret
        exact ⟨ret_b (by rw [HF.out, HQ.out]), HG.out⟩
end Go.Proofs.Ytdaihpkjnigjgaa
