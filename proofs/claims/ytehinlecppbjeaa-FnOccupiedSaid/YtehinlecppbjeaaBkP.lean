/- Contracts of chapter 4: what is asked of a block. -/
import Derived.Test.YtehinlecppbjeaaBkQ
namespace Go.Proofs.Ytehinlecppbjeaa
open Go.RowKit
set_option maxHeartbeats 2000000
set_option linter.unusedVariables false
set_option linter.unusedSimpArgs false
/-- as the program asks it: its sum may wrap -/
def hasW (p : Int) (x : Sc) : Bool := decide (x.s ≤ p) && decide (p < wrap64 (x.s + x.e))
theorem i_hasSegment (x : Sc) (s : Int) (w : World) :
    Calls Try.prog 114 #[scV x, .int .i64 s] w fun e w' => e = .returned (.bool (hasS s x)) ∧ Later w w' := by
  unfold scV
  by_cases h1 : x.f ≤ s
  · by_cases h2 : s ≤ x.l
    · have H : Hid (hasS s x = true) := Lib.hid (by unfold hasS; simp [h1, h2])
      go_enter Try.func114, Try.ntmps114
      go_wp2
      go_ret
      exact ⟨ret_b (by rw [H.out]), (by repeat (first | (with_reducible exact Later.refl _) | (with_reducible exact Hid.out (by assumption)) | (with_reducible refine Later.alloc ?_ _) | (with_reducible refine Later.setCell ?_ (by simp; omega) _) | (with_reducible refine Later.setCell ?_ (by simp) _) | (with_reducible refine Later.drewN ?_ _) | (with_reducible refine Later.drew ?_) | (with_reducible refine Later.trans ?_ (Hid.out (by assumption)))))⟩
    · have H : Hid (hasS s x = false) := Lib.hid (by unfold hasS; simp [h2])
      have h2 : x.l < s := by omega
      go_enter Try.func114, Try.ntmps114
      go_wp2
      go_ret
      exact ⟨ret_b (by rw [H.out]), (by repeat (first | (with_reducible exact Later.refl _) | (with_reducible exact Hid.out (by assumption)) | (with_reducible refine Later.alloc ?_ _) | (with_reducible refine Later.setCell ?_ (by simp; omega) _) | (with_reducible refine Later.setCell ?_ (by simp) _) | (with_reducible refine Later.drewN ?_ _) | (with_reducible refine Later.drew ?_) | (with_reducible refine Later.trans ?_ (Hid.out (by assumption)))))⟩
  · have H : Hid (hasS s x = false) := Lib.hid (by unfold hasS; simp [h1])
    have h1 : s < x.f := by omega
    go_enter Try.func114, Try.ntmps114
    go_wp2
    go_ret
    exact ⟨ret_b (by rw [H.out]), (by repeat (first | (with_reducible exact Later.refl _) | (with_reducible exact Hid.out (by assumption)) | (with_reducible refine Later.alloc ?_ _) | (with_reducible refine Later.setCell ?_ (by simp; omega) _) | (with_reducible refine Later.setCell ?_ (by simp) _) | (with_reducible refine Later.drewN ?_ _) | (with_reducible refine Later.drew ?_) | (with_reducible refine Later.trans ?_ (Hid.out (by assumption)))))⟩
theorem i_hasPosition (x : Sc) (s : Int) (w : World) :
    Calls Try.prog 95 #[scV x, .int .i64 s] w fun e w' => e = .returned (.bool (hasW s x)) ∧ Later w w' := by
  unfold scV
  by_cases h1 : x.s ≤ s
  · by_cases h2 : s < wrap64 (x.s + x.e)
    · have H : Hid (hasW s x = true) := Lib.hid (by unfold hasW; simp [h1, h2])
      go_enter Try.func95, Try.ntmps95
      go_wp2
      go_ret
      exact ⟨ret_b (by rw [H.out]), (by repeat (first | (with_reducible exact Later.refl _) | (with_reducible exact Hid.out (by assumption)) | (with_reducible refine Later.alloc ?_ _) | (with_reducible refine Later.setCell ?_ (by simp; omega) _) | (with_reducible refine Later.setCell ?_ (by simp) _) | (with_reducible refine Later.drewN ?_ _) | (with_reducible refine Later.drew ?_) | (with_reducible refine Later.trans ?_ (Hid.out (by assumption)))))⟩
    · have H : Hid (hasW s x = false) := Lib.hid (by unfold hasW; simp [h2])
      go_enter Try.func95, Try.ntmps95
      go_wp2
      go_ret
      exact ⟨ret_b (by rw [H.out]), (by repeat (first | (with_reducible exact Later.refl _) | (with_reducible exact Hid.out (by assumption)) | (with_reducible refine Later.alloc ?_ _) | (with_reducible refine Later.setCell ?_ (by simp; omega) _) | (with_reducible refine Later.setCell ?_ (by simp) _) | (with_reducible refine Later.drewN ?_ _) | (with_reducible refine Later.drew ?_) | (with_reducible refine Later.trans ?_ (Hid.out (by assumption)))))⟩
  · have H : Hid (hasW s x = false) := Lib.hid (by unfold hasW; simp [h1])
    have h1 : s < x.s := by omega
    go_enter Try.func95, Try.ntmps95
    go_wp2
    go_ret
    exact ⟨ret_b (by rw [H.out]), (by repeat (first | (with_reducible exact Later.refl _) | (with_reducible exact Hid.out (by assumption)) | (with_reducible refine Later.alloc ?_ _) | (with_reducible refine Later.setCell ?_ (by simp; omega) _) | (with_reducible refine Later.setCell ?_ (by simp) _) | (with_reducible refine Later.drewN ?_ _) | (with_reducible refine Later.drew ?_) | (with_reducible refine Later.trans ?_ (Hid.out (by assumption)))))⟩
theorem c_hasS (x : Sc) (s : Int) (B : Nat) (w : World) (hc : w.cell? ⟨B, 0, none⟩ = some (.int .i64 s)) :
    Calls Try.prog 113 #[scV x, .pointer (some ⟨B, 0, none⟩)] w fun e w' => e = .returned (.bool (hasS s x)) ∧ Later w w' := by
  have HC := i_hasSegment x s
  have hb := cell_lt hc
  unfold scV at *
  go_enter Try.func113, Try.ntmps113
  go_wp2_with (go_at_call 114; refine (HC _).mono ?_; rintro e w1 ⟨rfl, hb⟩; obtain ⟨H, hcc, hff, hzz⟩ := later_facts hb; clear hb; (try simp at hzz); (try simp only [World.heap_drewN, World.cell?_drewN, World.frozen?_drewN] at hcc hff))
  go_ret
  exact ⟨rfl, (by repeat (first | (with_reducible exact Later.refl _) | (with_reducible exact Hid.out (by assumption)) | (with_reducible refine Later.alloc ?_ _) | (with_reducible refine Later.setCell ?_ (by simp; omega) _) | (with_reducible refine Later.setCell ?_ (by simp) _) | (with_reducible refine Later.drewN ?_ _) | (with_reducible refine Later.drew ?_) | (with_reducible refine Later.trans ?_ (Hid.out (by assumption)))))⟩
theorem c_hasW (x : Sc) (s : Int) (B : Nat) (w : World) (hc : w.cell? ⟨B, 0, none⟩ = some (.int .i64 s)) :
    Calls Try.prog 94 #[scV x, .pointer (some ⟨B, 0, none⟩)] w fun e w' => e = .returned (.bool (hasW s x)) ∧ Later w w' := by
  have HC := i_hasPosition x s
  have hb := cell_lt hc
  unfold scV at *
  go_enter Try.func94, Try.ntmps94
  go_wp2_with (go_at_call 95; refine (HC _).mono ?_; rintro e w1 ⟨rfl, hb⟩; obtain ⟨H, hcc, hff, hzz⟩ := later_facts hb; clear hb; (try simp at hzz); (try simp only [World.heap_drewN, World.cell?_drewN, World.frozen?_drewN] at hcc hff))
  go_ret
  exact ⟨rfl, (by repeat (first | (with_reducible exact Later.refl _) | (with_reducible exact Hid.out (by assumption)) | (with_reducible refine Later.alloc ?_ _) | (with_reducible refine Later.setCell ?_ (by simp; omega) _) | (with_reducible refine Later.setCell ?_ (by simp) _) | (with_reducible refine Later.drewN ?_ _) | (with_reducible refine Later.drew ?_) | (with_reducible refine Later.trans ?_ (Hid.out (by assumption)))))⟩
theorem c_isNo (x : Sc) (s : Int) (B : Nat) (w : World) (hc : w.cell? ⟨B, 0, none⟩ = some (.int .i64 s)) :
    Calls Try.prog 140 #[scV x, .pointer (some ⟨B, 0, none⟩)] w fun e w' => e = .returned (.bool (isNo s x)) ∧ Later w w' := by
  have hb := cell_lt hc
  unfold scV
  cases h : (x.n == s)
  all_goals
    have H : Hid (isNo s x = _) := Lib.hid h
    go_enter Try.func140, Try.ntmps140
    go_wp2
    go_ret
    exact ⟨ret_b (by rw [H.out]), (by repeat (first | (with_reducible exact Later.refl _) | (with_reducible exact Hid.out (by assumption)) | (with_reducible refine Later.alloc ?_ _) | (with_reducible refine Later.setCell ?_ (by simp; omega) _) | (with_reducible refine Later.setCell ?_ (by simp) _) | (with_reducible refine Later.drewN ?_ _) | (with_reducible refine Later.drew ?_) | (with_reducible refine Later.trans ?_ (Hid.out (by assumption)))))⟩
end Go.Proofs.Ytehinlecppbjeaa
