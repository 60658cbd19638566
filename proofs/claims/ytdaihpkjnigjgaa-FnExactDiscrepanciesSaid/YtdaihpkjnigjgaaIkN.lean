/- Contracts of the laws' own helpers on reports: sizes, comparing, marks. -/
import Derived.Test.YtdaihpkjnigjgaaIkL
import Derived.Test.YtdaihpkjnigjgaaTfE
namespace Go.Proofs.Ytdaihpkjnigjgaa
open Go.RowKit
set_option maxHeartbeats 4000000
set_option maxRecDepth 100000
set_option linter.unusedVariables false
set_option linter.unusedSimpArgs false
def szL (L : Int) (n : Nat) : Int := if (n : Int) ≤ L then L - (n : Int) else -1
def szR (L : Int) (n m : Nat) : Int := if (n : Int) + (m : Int) ≤ L then L - (n : Int) - (m : Int) else -1
theorem l_szI (a : Option Addr) (n cap : Nat) (L : Int) (w : World) (h0 : 0 ≤ L) (h1 : L ≤ 1048576) (hn : n ≤ 9223372036854775807) :
    Calls Try.prog 125 #[.slice a n cap, .int .i64 L] w fun e w' => e = .returned (.int .i64 (szL L n)) ∧ w = w' := by
  have hw : IntKind.i64.wrap (L - (n : Int)) = L - (n : Int) := IntWalk.i64_in _ (by omega)
  by_cases h : (n : Int) ≤ L
  · have HZ : Hid (szL L n = L - (n : Int)) := Lib.hid (by unfold szL; rw [if_pos h])
    have h2 : ¬ L - (n : Int) < 0 := by omega
    clear h
    go_enter Try.func125, Try.ntmps125
    go_wp2_with fail
    go_ret
    exact ⟨ret_i64 (by rw [HZ.out]), rfl⟩
  · have HZ : Hid (szL L n = -1) := Lib.hid (by unfold szL; rw [if_neg h])
    have h2 : L - (n : Int) < 0 := by omega
    clear h
    go_enter Try.func125, Try.ntmps125
    go_wp2_with fail
    go_ret
    exact ⟨ret_i64 (by rw [HZ.out]), rfl⟩
theorem l_szReport (a1 : Option Addr) (n1 c1 : Nat) (a2 : Option Addr) (n2 c2 : Nat) (L : Int) (w : World) (h0 : 0 ≤ L) (h1 : L ≤ 1048576) (hn1 : n1 ≤ 9223372036854775807) (hn2 : n2 ≤ 9223372036854775807) :
    Calls Try.prog 84 #[.agg #[.slice a1 n1 c1, .slice a2 n2 c2], .int .i64 L] w fun e w' => e = .returned (.int .i64 (szR L n1 n2)) ∧ Later w w' := by
  by_cases h : (n1 : Int) ≤ L
  · have HZ1 : Hid (szL L n1 = L - (n1 : Int)) := Lib.hid (by unfold szL; rw [if_pos h])
    obtain ⟨M, hM⟩ : ∃ M, M = L - (n1 : Int) := ⟨_, rfl⟩
    have m0 : 0 ≤ M := by omega
    have m1 : M ≤ 1048576 := by omega
    have HZ2 : Hid (szR L n1 n2 = szL M n2) := Lib.hid (by unfold szR szL; rw [hM]; by_cases q : (n1 : Int) + n2 ≤ L
                                                           · rw [if_pos q, if_pos (by omega)]
                                                           · rw [if_neg q, if_neg (by omega)])
    rw [← hM] at HZ1
    clear hM h
    have m2 : ¬ M < 0 := by omega
    by_cases h2 : (n2 : Int) ≤ M
    · obtain ⟨v, hv⟩ : ∃ v, v = szL M n2 := ⟨_, rfl⟩
      have hv0 : ¬ v < 0 := by rw [hv]; unfold szL; rw [if_pos h2]; omega
      have HV := Lib.hid hv
      clear h2 hv
      go_enter Try.func84, Try.ntmps84
      go_wp2_with fail
      refine (l_szI _ _ _ _ _ h0 h1 hn1).mono ?_
      rw [HZ1.out]
      rintro e w' ⟨rfl, rfl⟩
      go_wp2_with (go_at_call 125; refine (l_szI _ _ _ _ _ m0 m1 hn2).mono ?_; rw [← HV.out]; rintro e w' ⟨rfl, rfl⟩)
      go_ret
      exact ⟨ret_i64 (by rw [HZ2.out, HV.out]), (by repeat (first | (with_reducible exact Later.refl _) | (with_reducible exact Hid.out (by assumption)) | (with_reducible refine Later.alloc ?_ _) | (with_reducible refine Later.setCell ?_ (by simp; omega) _) | (with_reducible refine Later.setCell ?_ (by simp) _) | (with_reducible refine Later.drewN ?_ _) | (with_reducible refine Later.drew ?_) | (with_reducible refine Later.trans ?_ (Hid.out (by assumption)))))⟩
    · have HV : Hid (szL M n2 = -1) := Lib.hid (by unfold szL; rw [if_neg h2])
      clear h2
      go_enter Try.func84, Try.ntmps84
      go_wp2_with fail
      refine (l_szI _ _ _ _ _ h0 h1 hn1).mono ?_
      rw [HZ1.out]
      rintro e w' ⟨rfl, rfl⟩
      go_wp2_with (go_at_call 125; refine (l_szI _ _ _ _ _ m0 m1 hn2).mono ?_; rw [HV.out]; rintro e w' ⟨rfl, rfl⟩)
      go_ret
      exact ⟨ret_i64 (by rw [HZ2.out, HV.out]), (by repeat (first | (with_reducible exact Later.refl _) | (with_reducible exact Hid.out (by assumption)) | (with_reducible refine Later.alloc ?_ _) | (with_reducible refine Later.setCell ?_ (by simp; omega) _) | (with_reducible refine Later.setCell ?_ (by simp) _) | (with_reducible refine Later.drewN ?_ _) | (with_reducible refine Later.drew ?_) | (with_reducible refine Later.trans ?_ (Hid.out (by assumption)))))⟩
  · have HZ1 : Hid (szL L n1 = -1) := Lib.hid (by unfold szL; rw [if_neg h])
    have HZ2 : Hid (szR L n1 n2 = -1) := Lib.hid (by unfold szR; rw [if_neg (by omega)])
    clear h
    go_enter Try.func84, Try.ntmps84
    go_wp2_with (go_at_call 125; refine (l_szI _ _ _ _ _ h0 h1 hn1).mono ?_; rw [HZ1.out]; rintro e w' ⟨rfl, rfl⟩)
    go_ret
    exact ⟨ret_i64 (by rw [HZ2.out]), (by repeat (first | (with_reducible exact Later.refl _) | (with_reducible exact Hid.out (by assumption)) | (with_reducible refine Later.alloc ?_ _) | (with_reducible refine Later.setCell ?_ (by simp; omega) _) | (with_reducible refine Later.setCell ?_ (by simp) _) | (with_reducible refine Later.drewN ?_ _) | (with_reducible refine Later.drew ?_) | (with_reducible refine Later.trans ?_ (Hid.out (by assumption)))))⟩
theorem szR_big {L : Int} {n m : Nat} (h : L < (n : Int) + (m : Int)) : szR L n m = -1 := by unfold szR; rw [if_neg (by omega)]
theorem szR_ok {L : Int} {n m : Nat} (h : (n : Int) + (m : Int) ≤ L) : szR L n m = L - (n : Int) - (m : Int) := by unfold szR; rw [if_pos h]
theorem l_eqReport (a1 : Option Addr) (n1 c1 : Nat) (a2 : Option Addr) (n2 c2 : Nat) (b1 : Option Addr) (m1 d1 : Nat) (b2 : Option Addr) (m2 d2 : Nat) (l1 l2 : List Int) (w : World) (hs1 : Sl w a1 n1 l1) (hs2 : Sl w a2 n2 l2) (ht1 : Sl w b1 m1 l1) (ht2 : Sl w b2 m2 l2) :
    Calls Try.prog 80 #[.agg #[.slice a1 n1 c1, .slice a2 n2 c2], .agg #[.slice b1 m1 d1, .slice b2 m2 d2]] w fun e w' => e = .returned (.bool true) ∧ Later w w' := by
  have HS1 := Lib.hid hs1; have HS2 := Lib.hid hs2; have HT1 := Lib.hid ht1; have HT2 := Lib.hid ht2
  clear hs1 hs2 ht1 ht2
  go_enter Try.func80, Try.ntmps80
  go_wp2_with fail
  refine (l_eqIT _ _ _ _ _ _ l1 _ (sl_later HS1.out (show Later w _ from (by repeat (first | (with_reducible exact Later.refl _) | (with_reducible exact Hid.out (by assumption)) | (with_reducible refine Later.alloc ?_ _) | (with_reducible refine Later.setCell ?_ (by simp; omega) _) | (with_reducible refine Later.setCell ?_ (by simp) _) | (with_reducible refine Later.drewN ?_ _) | (with_reducible refine Later.drew ?_) | (with_reducible refine Later.trans ?_ (Hid.out (by assumption))))))) (sl_later HT1.out (show Later w _ from (by repeat (first | (with_reducible exact Later.refl _) | (with_reducible exact Hid.out (by assumption)) | (with_reducible refine Later.alloc ?_ _) | (with_reducible refine Later.setCell ?_ (by simp; omega) _) | (with_reducible refine Later.setCell ?_ (by simp) _) | (with_reducible refine Later.drewN ?_ _) | (with_reducible refine Later.drew ?_) | (with_reducible refine Later.trans ?_ (Hid.out (by assumption)))))))).mono ?_
  rintro e w1 ⟨rfl, hb⟩
  obtain ⟨H1, hcc, hff, hzz⟩ := later_facts hb; clear hb
  simp only [World.size_alloc] at hzz hcc hff
  have q0 : w1.cell? ⟨w.heap.size, 0, none⟩ = some (.slice a1 n1 c1) := by rw [hcc _ _ (by omega)]; simp
  have q1 : w1.cell? ⟨w.heap.size, 1, none⟩ = some (.slice a2 n2 c2) := by rw [hcc _ _ (by omega)]; simp
  have q2 : w1.cell? ⟨w.heap.size + 1, 0, none⟩ = some (.slice b1 m1 d1) := by rw [hcc _ _ (by omega)]; simp
  have q3 : w1.cell? ⟨w.heap.size + 1, 1, none⟩ = some (.slice b2 m2 d2) := by rw [hcc _ _ (by omega)]; simp
  have HG1 : Hid (Later w w1) := Lib.hid (by repeat (first | (with_reducible exact Later.refl _) | (with_reducible exact Hid.out (by assumption)) | (with_reducible refine Later.alloc ?_ _) | (with_reducible refine Later.setCell ?_ (by simp; omega) _) | (with_reducible refine Later.setCell ?_ (by simp) _) | (with_reducible refine Later.drewN ?_ _) | (with_reducible refine Later.drew ?_) | (with_reducible refine Later.trans ?_ (Hid.out (by assumption)))))
  clear hcc hff H1
  go_wp2_with (go_at_call 71; refine (l_eqIT _ _ _ _ _ _ l2 _ (sl_later HS2.out HG1.out) (sl_later HT2.out HG1.out)).mono ?_; rintro e w2 ⟨rfl, hb⟩; have H2 := Lib.hid hb; clear hb)
  go_ret
  exact ⟨rfl, (by repeat (first | (with_reducible exact Later.refl _) | (with_reducible exact Hid.out (by assumption)) | (with_reducible refine Later.alloc ?_ _) | (with_reducible refine Later.setCell ?_ (by simp; omega) _) | (with_reducible refine Later.setCell ?_ (by simp) _) | (with_reducible refine Later.drewN ?_ _) | (with_reducible refine Later.drew ?_) | (with_reducible refine Later.trans ?_ (Hid.out (by assumption)))))⟩
/-- marks from K on in both lists of a report of the call's own -/
theorem l_markReportK (g1 g2 n1 n2 c1 c2 base : Nat) (K : Int) (l1 l2 : List Int) (w : World) (h1 : Own w base (.slice (some ⟨g1, 0, none⟩) n1 c1) l1) (h2 : Own w base (.slice (some ⟨g2, 0, none⟩) n2 c2) l2) (hne : g1 ≠ g2) (e1 : l1.length = n1) (e2 : l2.length = n2) (hn1 : n1 ≤ 100000000) (hn2 : n2 ≤ 100000000) (hK : 0 ≤ K) (hK2 : K ≤ 100000000) :
    Calls Try.prog 82 #[.agg #[.slice (some ⟨g1, 0, none⟩) n1 c1, .slice (some ⟨g2, 0, none⟩) n2 c2], .int .i64 K] w fun e w' => e = .returned (.int .i64 (K + (n1 : Int) + (n2 : Int))) ∧ ∃ wm, w.grownBy wm (some g1) ∧ wm.grownBy w' (some g2) := by
  have H1 := Lib.hid h1; have H2 := Lib.hid h2
  have z1 := (h1.lt g1 rfl).2; have z2 := (h2.lt g2 rfl).2
  clear h1 h2
  go_enter Try.func82, Try.ntmps82
  go_wp2_with fail
  refine (l_markK g1 n1 c1 base K l1 _ (H1.out.alloc _) e1 (by omega) hK (by omega)).mono ?_
  rintro e w1 ⟨rfl, hg⟩
  have hg1 := grown_trans (World.grownBy_alloc w (.cells #[.slice (some ⟨g1, 0, none⟩) n1 c1, .slice (some ⟨g2, 0, none⟩) n2 c2] 48) (some g1)) hg
  have HG1 := Lib.hid hg1
  have q1 : w1.cell? ⟨w.heap.size, 1, none⟩ = some (.slice (some ⟨g2, 0, none⟩) n2 c2) := hg.cell (by simp) (by simp; omega)
  have O2 : Hid (Own w1 base (.slice (some ⟨g2, 0, none⟩) n2 c2) l2) := Lib.hid (own_keptT H2.out hg1 (fun k hk e => by cases hk; have e := Option.some.inj e; exact hne e))
  clear hg hg1
  go_wp2_with fail
  refine (l_markK g2 n2 c2 base (K + (n1 : Int)) l2 _ O2.out e2 (by omega) (by omega) (by omega)).mono ?_
  rintro e w2 ⟨rfl, hg⟩
  have HG2 := Lib.hid hg
  clear hg
  go_wp2_with fail
  go_ret
  exact ⟨rfl, w1, HG1.out, HG2.out⟩
theorem ckL_le (p : Int → Bool) (B : Int) (h : B ≤ 8) : (ckL p B.toNat).length ≤ 1000 := Nat.le_trans (ckL_len _ _) (by omega)
end Go.Proofs.Ytdaihpkjnigjgaa
