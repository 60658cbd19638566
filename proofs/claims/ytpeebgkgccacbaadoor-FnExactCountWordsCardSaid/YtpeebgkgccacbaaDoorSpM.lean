/- Cutting a list of bytes at a byte. No program in sight. -/
import Derived.Test.YtpeebgkgccacbaaDoorTxM
namespace Go.Proofs.YtpeebgkgccacbaaDoor
open Go
set_option linter.unusedSimpArgs false
set_option linter.unusedVariables false
/-- the pieces of a text between the bytes c -/
def spl (c : UInt8) : List UInt8 → List (List UInt8)
  | [] => [[]]
  | x :: r => if x = c then [] :: spl c r else (x :: (spl c r).headD []) :: (spl c r).tail
theorem spl_cons (c x : UInt8) (r : List UInt8) : spl c (x :: r) = if x = c then [] :: spl c r else (x :: (spl c r).headD []) :: (spl c r).tail := rfl
theorem spl_none (c : UInt8) (l : List UInt8) (h : ∀ x ∈ l, x ≠ c) : spl c l = [l] := by
  induction l with
  | nil => rfl
  | cons x r ih =>
    rw [spl_cons, if_neg (h x (by simp)), ih (fun y hy => h y (by simp [hy]))]
    rfl
theorem spl_hit (c : UInt8) (a r : List UInt8) (h : ∀ x ∈ a, x ≠ c) : spl c (a ++ c :: r) = a :: spl c r := by
  induction a with
  | nil => show spl c (c :: r) = _; rw [spl_cons, if_pos rfl]
  | cons x a ih =>
    show spl c (x :: (a ++ c :: r)) = _
    rw [spl_cons, if_neg (h x (by simp)), ih (fun y hy => h y (by simp [hy]))]
    rfl
/-- the piece that is being read -/
def pce (l : List UInt8) (f k : Nat) : List UInt8 := (l.drop f).take (k - f)
theorem pce_nil (l : List UInt8) (f : Nat) : pce l f f = [] := by simp [pce]
theorem pce_succ (l : List UInt8) (f k : Nat) (hf : f ≤ k) (hk : k < l.length) : pce l f (k + 1) = pce l f k ++ [l[k]] := by
  unfold pce
  rw [show k + 1 - f = (k - f) + 1 by omega, List.take_succ_eq_append_getElem (by rw [List.length_drop]; omega)]
  congr 1
  simp [show f + (k - f) = k by omega]
theorem drop_pce (l : List UInt8) (f k : Nat) (hf : f ≤ k) (hk : k < l.length) : l.drop f = pce l f k ++ l[k] :: l.drop (k + 1) := by
  unfold pce
  have h := (List.take_append_drop (k - f) (l.drop f)).symm
  rw [List.drop_drop, show f + (k - f) = k by omega, List.drop_eq_getElem_cons hk] at h
  exact h
theorem pce_end (l : List UInt8) (f : Nat) : pce l f l.length = l.drop f := by
  unfold pce; rw [List.take_of_length_le (by rw [List.length_drop]; omega)]
/-- what has been cut when byte k is looked at: the pieces O, the next one from f on -/
def Cut (c : UInt8) (l : List UInt8) (O : List (List UInt8)) (f k : Nat) : Prop :=
  f ≤ k ∧ O.length ≤ f ∧ ((k ≤ l.length ∧ spl c l = O ++ spl c (l.drop f) ∧ ∀ x ∈ pce l f k, x ≠ c) ∨ (f = l.length + 1 ∧ k = l.length + 1 ∧ spl c l = O))
theorem cut_start (c : UInt8) (l : List UInt8) : Cut c l [] 0 0 := ⟨Nat.le_refl _, Nat.le_refl _, .inl ⟨Nat.zero_le _, by simp, by simp [pce]⟩⟩
theorem cut_past {c : UInt8} {l : List UInt8} {O : List (List UInt8)} {f k : Nat} (h : Cut c l O f k) (hk : k < l.length) (hn : l[k] ≠ c) : Cut c l O f (k + 1) := by
  obtain ⟨h1, h2, h3 | h3⟩ := h
  · refine ⟨by omega, h2, .inl ⟨by omega, h3.2.1, ?_⟩⟩
    rw [pce_succ l f k h1 hk]
    intro x hx
    rcases List.mem_append.1 hx with hx | hx
    · exact h3.2.2 x hx
    · simp at hx; rw [hx]; exact hn
  · omega
theorem cut_hit {c : UInt8} {l : List UInt8} {O : List (List UInt8)} {f k : Nat} (h : Cut c l O f k) (hk : k < l.length) (hn : l[k] = c) : Cut c l (O ++ [pce l f k]) (k + 1) (k + 1) := by
  obtain ⟨h1, h2, h3 | h3⟩ := h
  · refine ⟨Nat.le_refl _, by rw [List.length_append]; simp; omega, .inl ⟨by omega, ?_, by rw [pce_nil]; simp⟩⟩
    rw [h3.2.1, drop_pce l f k h1 hk, hn, spl_hit c _ _ h3.2.2]
    simp
  · omega
theorem cut_last {c : UInt8} {l : List UInt8} {O : List (List UInt8)} {f : Nat} (h : Cut c l O f l.length) : Cut c l (O ++ [pce l f l.length]) (l.length + 1) (l.length + 1) := by
  obtain ⟨h1, h2, h3 | h3⟩ := h
  · refine ⟨Nat.le_refl _, by rw [List.length_append]; simp; omega, .inr ⟨rfl, rfl, ?_⟩⟩
    have h4 := h3.2.2
    rw [pce_end] at h4 ⊢
    rw [h3.2.1, spl_none c _ h4]
  · omega
theorem cut_done {c : UInt8} {l : List UInt8} {O : List (List UInt8)} {f : Nat} (h : Cut c l O f (l.length + 1)) : spl c l = O := by
  obtain ⟨h1, h2, h3 | h3⟩ := h
  · omega
  · exact h3.2.2
end Go.Proofs.YtpeebgkgccacbaaDoor
