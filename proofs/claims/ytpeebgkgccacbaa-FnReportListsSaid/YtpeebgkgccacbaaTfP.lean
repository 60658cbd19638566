/- Contracts of chapter 10: allowed moves and runs of moves, of the program. -/
import Derived.Test.YtpeebgkgccacbaaTfK
namespace Go.Proofs.Ytpeebgkgccacbaa
open Go.RowKit
set_option maxHeartbeats 4000000
set_option maxRecDepth 100000
set_option linter.unusedVariables false
set_option linter.unusedSimpArgs false
def awE (B : Int) (l : List Int) : Int := if tfB B l = true then (if sfB B l = true then 0 else 5) else 1
def awV (B : Int) (l : List Int) : List Int := if sfB B l = true then alL B l l.length else []
def mwE (B : Int) (l ts : List Int) : Int := if tfB B l = true then (if ts.length ≤ 200 then (if ts.all (hasT l) = true then 0 else 2) else 3) else 1
theorem all_take {f : Int → Bool} {ts : List Int} (k : Nat) (hk : k < ts.length) : (ts.take (k + 1)).all f = ((ts.take k).all f && f (gx ts k)) := by
  rw [List.take_succ_eq_append_getElem hk, gx_of ts k hk, List.all_append]; simp
theorem all_no {f : Int → Bool} {ts : List Int} (k : Nat) (hk : k < ts.length) (h : f (gx ts k) = false) : ts.all f = false := by
  rw [Bool.eq_false_iff]; intro g; rw [List.all_eq_true] at g; rw [g _ (gx_mem ts k hk)] at h; cases h
def rvB (B : Int) (l ts : List Int) : Int := if rnE B l ts = 0 then B else 0
def rvV (B : Int) (l ts : List Int) : List Int := if rnE B l ts = 0 then rnL B l ts ts.length else []
theorem rnE_mv {B : Int} {l ts : List Int} (h : mwE B l ts ≠ 0) : rnE B l ts = mwE B l ts := by
  unfold mwE at h ⊢; unfold rnE
  cases hv : tfB B l
  · rfl
  · by_cases h2 : ts.length ≤ 200
    · cases h3 : ts.all (hasT l)
      · simp [h2]
      · simp [hv, h2, h3] at h
    · simp [h2]
theorem mwE_ok {B : Int} {l ts : List Int} (h : mwE B l ts = 0) : tfB B l = true ∧ ts.length ≤ 200 ∧ ts.all (hasT l) = true := by
  unfold mwE at h
  cases hv : tfB B l
  · rw [hv] at h; simp at h
  · by_cases h2 : ts.length ≤ 200
    · cases h3 : ts.all (hasT l)
      · rw [hv, if_pos rfl, if_pos h2, h3] at h; simp at h
      · exact ⟨rfl, h2, rfl⟩
    · rw [hv, if_pos rfl, if_neg h2] at h; simp at h
theorem rnE_5 {B : Int} {l ts : List Int} (h : mwE B l ts = 0) (hs : rnS B l ts ts.length = false) : rnE B l ts = 5 := by
  obtain ⟨a, b, c⟩ := mwE_ok h
  unfold rnE; rw [a, if_pos rfl, if_pos b, c, if_pos rfl, hs]; rfl
theorem rnE_0 {B : Int} {l ts : List Int} (h : mwE B l ts = 0) (hs : rnS B l ts ts.length = true) : rnE B l ts = 0 := by
  obtain ⟨a, b, c⟩ := mwE_ok h
  unfold rnE; rw [a, if_pos rfl, if_pos b, c, if_pos rfl, hs]; rfl
theorem rv_bad {B : Int} {l ts : List Int} (h : rnE B l ts ≠ 0) : rvB B l ts = 0 ∧ rvV B l ts = [] := ⟨by unfold rvB; rw [if_neg h], by unfold rvV; rw [if_neg h]⟩
end Go.Proofs.Ytpeebgkgccacbaa
