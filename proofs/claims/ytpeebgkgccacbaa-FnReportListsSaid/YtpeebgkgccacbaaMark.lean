/- Marks that the exact laws write into lists of int64, and find again. -/
import Derived.Test.YtpeebgkgccacbaaOwn
namespace Go.Proofs.Ytpeebgkgccacbaa
open Go.RowKit
set_option maxHeartbeats 2000000
set_option linter.unusedVariables false
set_option linter.unusedSimpArgs false
/-- the list l, of which k elements are marked -/
def mrk (l : List Int) (k : Nat) : List Int := (List.range l.length).map fun j => if j < k then 1 + (j : Int) else gx l j
theorem mrk_len (l : List Int) (k : Nat) : (mrk l k).length = l.length := by simp [mrk]
theorem mrk_get (l : List Int) (k j : Nat) (h : j < l.length) : (mrk l k)[j]? = some (if j < k then 1 + (j : Int) else gx l j) := by simp [mrk, h]
theorem mrk_0 (l : List Int) : mrk l 0 = l := by
  apply List.ext_getElem?
  intro j
  by_cases h : j < l.length
  · rw [mrk_get l 0 j h, if_neg (by omega), List.getElem?_eq_getElem h, gx_of l j h]
  · rw [List.getElem?_eq_none (by rw [mrk_len]; omega), List.getElem?_eq_none (by omega)]
theorem mrk_set (l : List Int) (k : Nat) (hk : k < l.length) : (mrk l k).set k (1 + (k : Int)) = mrk l (k + 1) := by
  apply List.ext_getElem?
  intro j
  by_cases h : j < l.length
  · rw [List.getElem?_set, mrk_len, mrk_get l k j h, mrk_get l (k + 1) j h]
    by_cases e : k = j
    · subst e; simp [h]
    · rw [if_neg e]
      by_cases c : j < k
      · rw [if_pos c, if_pos (by omega)]
      · rw [if_neg c, if_neg (by omega)]
  · rw [List.getElem?_eq_none (by simp [mrk]; omega), List.getElem?_eq_none (by simp [mrk]; omega)]
theorem mrk_gx (l : List Int) (k : Nat) (h : k < l.length) : gx (mrk l l.length) k = 1 + (k : Int) := by
  rw [gx_of _ _ (by rw [mrk_len]; exact h)]
  simp [mrk, h]
/-- what marking leaves -/
def Marked (w : World) (base : Nat) (v : Value) (l : List Int) (e : Ending) (w' : World) : Prop :=
  e = .returned (.int .i64 (1 + (l.length : Int))) ∧ Own w' base v (mrk l l.length) ∧ w.grownBy w' v.ownBlock
theorem mrk_in (l : List Int) (k : Nat) (hl : l.length ≤ 1000000000) (h : ∀ x ∈ l, InR x) : ∀ x ∈ mrk l k, InR x := by
  intro x hx
  obtain ⟨j, hj, rfl⟩ := List.mem_map.1 hx
  rw [List.mem_range] at hj
  by_cases c : j < k
  · simp only [if_pos c]; exact ⟨by omega, by omega⟩
  · simp only [if_neg c]; exact h _ (gx_mem l j hj)
end Go.Proofs.Ytpeebgkgccacbaa
