/- Contracts of the laws' own helpers on faults and reports. -/
import Derived.Test.YtpeebgkgccacbaaIkM
import Derived.Test.YtpeebgkgccacbaaTfL
import Derived.Test.YtpeebgkgccacbaaWd
import Derived.Laws.ResultCell
namespace Go.Proofs.Ytpeebgkgccacbaa
open Go.RowKit
set_option maxHeartbeats 4000000
set_option linter.unusedVariables false
set_option linter.unusedSimpArgs false
/-- element k of a slice of faults -/
theorem Wd.three {w : World} {a : Option Addr} {n : Nat} {l : List Int} (h : Wd w a n 3 l) (k : Nat) (hk : k < n) :
    ∃ b off, a = some ⟨b, off, none⟩ ∧ w.cell? ⟨b, off + k * 3, none⟩ = some (.int .i64 (ikb l k)) ∧ w.cell? ⟨b, off + k * 3 + 1, none⟩ = some (.int .i64 (ikc l k)) ∧ w.cell? ⟨b, off + k * 3 + 2, none⟩ = some (.int .i64 (ikv l k)) := by
  obtain ⟨b, off, rfl, h0⟩ := h.2.2.1 (k * 3) (by omega)
  obtain ⟨b', off', e, h1⟩ := h.2.2.1 (k * 3 + 1) (by omega)
  cases e
  obtain ⟨b', off', e, h2⟩ := h.2.2.1 (k * 3 + 2) (by omega)
  cases e
  exact ⟨b, off, rfl, h0, h1, h2⟩
theorem info_flt : (Try.prog.info? 62).map (fun i => (i.zero, i.size, i.bytes)) = some (some (.agg #[.int .i64 0, .int .i64 0, .int .i64 0]), 3, 24) := by kernel_rfl
/-- a slice of faults of the call's own -/
def OwnF (w : World) (base : Nat) (v : Value) (n : Nat) (l : List Int) : Prop := OwnW w base 62 3 v n l
theorem OwnF.wd {w : World} {base g n cap : Nat} {l : List Int} (h : OwnF w base (.slice (some ⟨g, 0, none⟩) n cap) n l) : Wd w (some ⟨g, 0, none⟩) n 3 l := by
  obtain ⟨a, c, e, _, hw, _⟩ := OwnW.wd h
  cases e; exact hw
/-- a copy of which the first k faults are there -/
def prt (l : List Int) (m k : Nat) : List Int := (List.range m).map fun j => if j < k then gx l j else 0
theorem prt_len (l : List Int) (m k : Nat) : (prt l m k).length = m := by simp [prt]
theorem prt_get (l : List Int) (m k j : Nat) (h : j < m) : (prt l m k)[j]? = some (if j < k then gx l j else 0) := by simp [prt, h]
theorem prt_0 (l : List Int) (m : Nat) : prt l m 0 = List.replicate m 0 := by
  apply List.ext_getElem
  · simp [prt]
  · intro i h1 h2; simp [prt]
theorem prt_full (l : List Int) (m : Nat) (h : l.length = m) : prt l m m = l := by
  apply List.ext_getElem?
  intro j
  by_cases hj : j < m
  · rw [prt_get l m m j hj, if_pos hj, List.getElem?_eq_getElem (by omega), gx_of l j (by omega)]
  · rw [List.getElem?_eq_none (by rw [prt_len]; omega), List.getElem?_eq_none (by omega)]
theorem prt_set3 (l : List Int) (n k : Nat) (hk : k < n) : (((prt l (n * 3) (k * 3)).set (k * 3) (ikb l k)).set (k * 3 + 1) (ikc l k)).set (k * 3 + 2) (ikv l k) = prt l (n * 3) ((k + 1) * 3) := by
  unfold ikb ikc ikv
  apply List.ext_getElem?
  intro j
  by_cases h : j < n * 3
  · rw [List.getElem?_set, List.getElem?_set, List.getElem?_set]
    simp only [List.length_set, prt_len]
    rw [prt_get l _ _ j h, prt_get l _ _ j h]
    by_cases e2 : k * 3 + 2 = j
    · subst e2; rw [if_pos rfl, if_pos h, if_pos (by omega)]
    · rw [if_neg e2]
      by_cases e1 : k * 3 + 1 = j
      · subst e1; rw [if_pos rfl, if_pos h, if_pos (by omega)]
      · rw [if_neg e1]
        by_cases e0 : k * 3 = j
        · subst e0; rw [if_pos rfl, if_pos h, if_pos (by omega)]
        · rw [if_neg e0]
          by_cases c : j < k * 3
          · rw [if_pos c, if_pos (by omega)]
          · rw [if_neg c, if_neg (by omega)]
  · rw [List.getElem?_eq_none (by simp [prt_len]; omega), List.getElem?_eq_none (by rw [prt_len]; omega)]
theorem made3 (n : Nat) : ((madeCells (Value.cells (.agg #[.int .i64 0, .int .i64 0, .int .i64 0])) (n * 3)).toList) = (List.replicate (n * 3) (0 : Int)).map (Value.int .i64) := by
  apply List.ext_getElem?
  intro j
  by_cases h : j < n * 3
  · have e : j % 3 = 0 ∨ j % 3 = 1 ∨ j % 3 = 2 := by omega
    rcases e with e | e | e <;> simp [madeCells, Value.cells, h, e]
  · rw [List.getElem?_eq_none (by simp [madeCells]; omega), List.getElem?_eq_none (by simp; omega)]
/-- a copy of a list of faults -/
def CopiedF (w : World) (n : Nat) (l : List Int) (e : Ending) (w' : World) : Prop :=
  ∃ g, e = .returned (.slice (some ⟨g, 0, none⟩) n n) ∧ w.heap.size ≤ g ∧ g < w'.heap.size ∧ OwnF w' w.heap.size (.slice (some ⟨g, 0, none⟩) n n) n l ∧ Later w w'
/-- a copy of a report -/
def CpR (w : World) (n1 : Nat) (l1 : List Int) (n2 : Nat) (l2 : List Int) (e : Ending) (w' : World) : Prop :=
  ∃ g1 g2, e = .returned (.agg #[.slice (some ⟨g1, 0, none⟩) n1 n1, .slice (some ⟨g2, 0, none⟩) n2 n2]) ∧ w.heap.size ≤ g1 ∧ g1 < g2 ∧ g2 < w'.heap.size ∧ Own w' w.heap.size (.slice (some ⟨g1, 0, none⟩) n1 n1) l1 ∧ Own w' w.heap.size (.slice (some ⟨g2, 0, none⟩) n2 n2) l2 ∧ Later w w'
end Go.Proofs.Ytpeebgkgccacbaa
