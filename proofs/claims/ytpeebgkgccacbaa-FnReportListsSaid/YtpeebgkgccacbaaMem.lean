/- Copies of slices of int64 and their comparison, as the exact laws make them. -/
import Derived.Test.YtpeebgkgccacbaaEqI
namespace Go.Proofs.Ytpeebgkgccacbaa
open Go.RowKit
set_option maxHeartbeats 2000000
set_option linter.unusedVariables false
set_option linter.unusedSimpArgs false
/-- the cells of a copy of l, of which k elements are written -/
def part (l : List Int) (n k : Nat) : List Value := (l.take k).map (Value.int .i64) ++ List.replicate (n - k) (.int .i64 0)
theorem part_len (l : List Int) (n k : Nat) (hl : l.length = n) (hk : k ≤ n) : (part l n k).length = n := by
  simp [part]; omega
theorem part_zero (l : List Int) (n : Nat) : part l n 0 = List.replicate n (.int .i64 0) := by simp [part]
theorem part_set (l : List Int) (n k : Nat) (hl : l.length = n) (hk : k < n) : (part l n k).set k (.int .i64 (gx l k)) = part l n (k + 1) := by
  have e1 : n - k = (n - (k + 1)) + 1 := by omega
  have e2 : l.take (k + 1) = l.take k ++ [gx l k] := by
    rw [List.take_succ_eq_append_getElem (by omega), gx_of l k (by omega)]
  unfold part
  rw [e1, e2, List.set_append]
  have hm : min k l.length = k := by omega
  simp [List.replicate_succ, hm]
theorem part_full (l : List Int) (n : Nat) (hl : l.length = n) : part l n n = l.map (Value.int .i64) := by
  unfold part; rw [List.take_of_length_le (by omega)]; simp
theorem part_get (l : List Int) (n k : Nat) (hl : l.length = n) (hk : k < n) : (part l n k)[k]? = some (.int .i64 0) := by
  unfold part
  rw [List.getElem?_append_right (by simp; omega)]
  simp [List.getElem?_replicate]
  omega
def Copied (w : World) (n : Nat) (l : List Int) (e : Ending) (w' : World) : Prop :=
  ∃ g, e = .returned (.slice (some ⟨g, 0, none⟩) n n) ∧ w.heap.size ≤ g ∧ g < w'.heap.size ∧ Sl w' (some ⟨g, 0, none⟩) n l ∧ Below w.heap.size w w'
end Go.Proofs.Ytpeebgkgccacbaa
