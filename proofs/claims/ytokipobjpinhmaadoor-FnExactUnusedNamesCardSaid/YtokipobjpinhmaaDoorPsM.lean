/- Terms, and lists of them: what they are, in plain words. No program in sight. -/
import Derived.Test.YtokipobjpinhmaaDoorTkN
namespace Go.Proofs.YtokipobjpinhmaaDoor
open Go
set_option linter.unusedSimpArgs false
set_option linter.unusedVariables false
/-- a term: its kind, its name, its number -/
abbrev Trm := Int × List UInt8 × Int
def rkx (L : List Trm) (j : Nat) : Int := (L.getD j (0, [], 0)).1
def rsx (L : List Trm) (j : Nat) : List UInt8 := (L.getD j (0, [], 0)).2.1
def rnx (L : List Trm) (j : Nat) : Int := (L.getD j (0, [], 0)).2.2
/-- a name -/
def nmB (l : List UInt8) : Bool := wrdB l && !(kwB l)
def kndT (k : Int) : Bool := decide (1 ≤ k) && decide (k ≤ 12)
/-- how many values a term of a kind takes -/
def tkK (k : Int) : Nat := if k = 1 ∨ k = 2 ∨ k = 3 then 0 else if k = 4 ∨ k = 7 ∨ k = 8 ∨ k = 9 then 1 else 2
/-- whether a number is written with it -/
def cntK (k : Int) : Bool := decide (k = 7) || decide (k = 8) || decide (k = 11) || decide (k = 12)
def trmB (k : Int) (s : List UInt8) (n : Int) : Bool := kndT k && decide (0 ≤ n) && decide (n ≤ 9999) && (cntK k || decide (n = 0)) && (if k = 1 then nmB s else decide (s = []))
/-- how many values are there behind the first k terms -/
def hAt (L : List Trm) : Nat → Nat
  | 0 => 0
  | k + 1 => hAt L k + 1 - tkK (rkx L k)
/-- term j is one, and what it takes is there -/
def okR (L : List Trm) (j : Nat) : Bool := trmB (rkx L j) (rsx L j) (rnx L j) && decide (tkK (rkx L j) ≤ hAt L j)
/-- the greatest number of values behind the first k terms -/
def mxH (L : List Trm) : Nat → Nat
  | 0 => 0
  | k + 1 => max (mxH L k) (hAt L (k + 1))
def alR (L : List Trm) : Bool := (List.range L.length).all (okR L)
def exB (L : List Trm) : Bool := decide (L.length ≤ 40) && alR L && decide (hAt L L.length = 1)
def haV (L : List Trm) : Nat := if (decide (L.length ≤ 40) && alR L) = true then mxH L L.length else 0
def heV (L : List Trm) : Nat := if exB L = true then mxH L L.length else 0
def heE (L : List Trm) : Nat := if exB L = true then 0 else 1
theorem tkK_le (k : Int) : tkK k ≤ 2 := by unfold tkK; split <;> (try split) <;> omega
theorem hAt_le (L : List Trm) : ∀ k, hAt L k ≤ k
  | 0 => Nat.le_refl _
  | k + 1 => by have := hAt_le L k; unfold hAt; omega
theorem mxH_le (L : List Trm) : ∀ k, mxH L k ≤ k
  | 0 => Nat.le_refl _
  | k + 1 => by have := mxH_le L k; have := hAt_le L (k + 1); unfold mxH; omega
theorem alR_bad (L : List Trm) (j : Nat) (h : j < L.length) (hb : okR L j = false) : alR L = false := by
  cases h2 : alR L with
  | false => rfl
  | true =>
    have := List.all_eq_true.1 h2 j (by simpa using h)
    rw [hb] at this; cases this
theorem alR_all (L : List Trm) (h : ∀ j, j < L.length → okR L j = true) : alR L = true := by
  refine List.all_eq_true.2 fun j hj => h j (by simpa using hj)
theorem alR_at (L : List Trm) (h : alR L = true) (j : Nat) (hj : j < L.length) : okR L j = true :=
  List.all_eq_true.1 h j (by simpa using hj)
theorem exB_long (L : List Trm) (h : 40 < L.length) : exB L = false := by
  unfold exB; rw [decide_eq_false (by omega)]; rfl
theorem exB_bad (L : List Trm) (j : Nat) (h : j < L.length) (hb : okR L j = false) : exB L = false := by
  unfold exB; rw [alR_bad L j h hb]; simp
theorem haV_long (L : List Trm) (h : 40 < L.length) : haV L = 0 := by
  unfold haV; rw [decide_eq_false (by omega)]; rfl
theorem haV_bad (L : List Trm) (j : Nat) (h : j < L.length) (hb : okR L j = false) : haV L = 0 := by
  unfold haV; rw [alR_bad L j h hb]; simp
theorem exB_all (L : List Trm) (hl : L.length ≤ 40) (h : ∀ j, j < L.length → okR L j = true) : exB L = decide (hAt L L.length = 1) := by
  unfold exB; rw [alR_all L h, decide_eq_true hl]; rfl
theorem haV_all (L : List Trm) (hl : L.length ≤ 40) (h : ∀ j, j < L.length → okR L j = true) : haV L = mxH L L.length := by
  unfold haV; rw [alR_all L h, decide_eq_true hl]; rfl
theorem exB_parts (L : List Trm) (h : exB L = true) : L.length ≤ 40 ∧ (∀ j, j < L.length → okR L j = true) ∧ hAt L L.length = 1 := by
  simp [exB] at h
  exact ⟨h.1.1, alR_at L h.1.2, h.2⟩
theorem rk_mem (L : List Trm) (j : Nat) (h : j < L.length) : (rkx L j, rsx L j, rnx L j) ∈ L := by
  have : L.getD j (0, [], 0) = L[j] := by rw [List.getD_eq_getElem?_getD, List.getElem?_eq_getElem h]; rfl
  unfold rkx rsx rnx; rw [this]; exact List.getElem_mem _
theorem rk_at (L : List Trm) (j : Nat) (h : j < L.length) : L[j] = (rkx L j, rsx L j, rnx L j) := by
  have : L.getD j (0, [], 0) = L[j] := by rw [List.getD_eq_getElem?_getD, List.getElem?_eq_getElem h]; rfl
  unfold rkx rsx rnx; rw [this]
end Go.Proofs.YtokipobjpinhmaaDoor
