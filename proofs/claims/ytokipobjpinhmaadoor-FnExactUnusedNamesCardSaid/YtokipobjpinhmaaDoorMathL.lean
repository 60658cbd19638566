/- Plain lists of integers: sums, rising lists. No program in sight. -/
import Derived.Test.YtokipobjpinhmaaDoorMath
namespace Go.Proofs.YtokipobjpinhmaaDoor
set_option linter.unusedSimpArgs false
set_option linter.unusedVariables false

/-! lists of integers -/
/-- element k of a list, or 0 -/
def gx (l : List Int) (k : Nat) : Int := l.getD k 0
theorem gx_of (l : List Int) (k : Nat) (h : k < l.length) : gx l k = l[k] := by simp [gx, h]
theorem gx_mem (l : List Int) (k : Nat) (h : k < l.length) : gx l k ∈ l := by rw [gx_of l k h]; exact List.getElem_mem _
theorem gx_take (l : List Int) (n i : Nat) (h : i < n) : gx (l.take n) i = gx l i := by simp [gx, h]
theorem sum_take_succ (l : List Int) (k : Nat) (h : k < l.length) : (l.take (k + 1)).sum = (l.take k).sum + gx l k := by
  rw [List.take_succ_eq_append_getElem h, List.sum_append]
  simp [gx, h]
theorem sum_bd (l : List Int) (h : ∀ x ∈ l, -1000000000000 ≤ x ∧ x ≤ 1000000000000) : -1000000000000 * (l.length : Int) ≤ l.sum ∧ l.sum ≤ 1000000000000 * (l.length : Int) := by
  induction l with
  | nil => simp
  | cons a l ih =>
    have h1 := h a (by simp)
    have h2 := ih (fun x hx => h x (by simp [hx]))
    simp only [List.sum_cons, List.length_cons]
    omega
def sumErr (l : List Int) : Int := if 200 < l.length then 3 else if l.all isVB = true then (if isVB l.sum = true then 0 else 2) else 2
def sumR (l : List Int) : Int := if sumErr l = 0 then l.sum else 0
/-- the element before, or -1 -/
def prev (l : List Int) : Nat → Int
  | 0 => -1
  | k + 1 => gx l k
def okAt (l : List Int) (n : Int) (i : Nat) : Bool := decide (prev l i < gx l i) && decide (gx l i < n)
def risB (l : List Int) (n : Int) : Bool := (List.range l.length).all (okAt l n)
theorem risB_iff (l : List Int) (n : Int) : risB l n = true ↔ ∀ i, i < l.length → okAt l n i = true := by
  unfold risB; simp
theorem risB_no (l : List Int) (n : Int) (i : Nat) (h : i < l.length) (k : okAt l n i = false) : risB l n = false := by
  rw [Bool.eq_false_iff, Ne, risB_iff]; intro g; rw [g i h] at k; cases k
theorem okAt_nn (l : List Int) (n : Int) (k : Nat) (h : ∀ i, i < k → okAt l n i = true) : ∀ i, i < k → 0 ≤ gx l i := by
  intro i
  induction i with
  | zero => intro hi; have g := h 0 hi; unfold okAt at g; rw [Bool.and_eq_true, decide_eq_true_eq] at g; have g1 : (-1 : Int) < gx l 0 := g.1; omega
  | succ i ih => intro hi; have a := ih (by omega); have g := h (i + 1) hi; unfold okAt at g; rw [Bool.and_eq_true, decide_eq_true_eq] at g; have g1 : gx l i < gx l (i + 1) := g.1; omega
end Go.Proofs.YtokipobjpinhmaaDoor
