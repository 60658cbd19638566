/- Contracts of chapter 10: uses of blocks and safety, of the program. -/
import Derived.Test.YtpeebgkgccacbaaTfI
import Derived.Test.YtpeebgkgccacbaaMark
import Derived.Test.YtpeebgkgccacbaaHeld
namespace Go.Proofs.Ytpeebgkgccacbaa
open Go.RowKit
set_option maxHeartbeats 4000000
set_option linter.unusedVariables false
set_option linter.unusedSimpArgs false
theorem tf_none (w : World) (base : Nat) : Own w base (.slice none 0 0) [] := ⟨⟨rfl, .inl ⟨rfl, rfl⟩⟩, fun x hx => by simp at hx⟩
theorem tf_lat {w w' : World} {base : Nat} {v : Value} {l : List Int} (h : Own w base v l) (k : Later w w') : Own w' base v l :=
  h.kept (row := none) ⟨k.os, k.tape, k.output, k.size, fun i hi _ => k.block i hi⟩ (fun _ e => by cases e)
theorem tf_mono {w : World} {b1 b2 : Nat} {v : Value} {l : List Int} (h : Own w b1 v l) (hb : b2 ≤ b1) : Own w b2 v l := by
  obtain ⟨⟨h1, h2⟩, h3⟩ := h
  refine ⟨⟨h1, ?_⟩, h3⟩
  rcases h2 with h2 | ⟨g, cap, cur, e, hg, r⟩
  · exact .inl h2
  · exact .inr ⟨g, cap, cur, e, by omega, r⟩
def usE (B : Int) (l : List Int) : Int := if tfB B l = true then 0 else 1
def usV (B : Int) (l : List Int) : List Int := if tfB B l = true then ldL B l else []
/-- a list of the call's own, and a code -/
def LstC (w : World) (l : List Int) (c : Int) (e : Ending) (w' : World) : Prop := ∃ v, e = .returned (.tuple #[v, .int .i64 c]) ∧ Own w' w.heap.size v l ∧ Later w w'
/-- a cell of a list of the call's own -/
theorem own_at {w : World} {base g n cap : Nat} {l : List Int} (h : Own w base (.slice (some ⟨g, 0, none⟩) n cap) l) (hl : l.length = n) (k : Nat) (hk : k < n) :
    w.cell? ⟨g, k, none⟩ = some (.int .i64 (gx l k)) ∧ w.frozen? ⟨g, k, none⟩ = false := by
  subst hl
  have h1 := h.1
  refine ⟨?_, h1.frozenAt k⟩
  rw [h1.cellAt k (by omega), List.getElem?_map, List.getElem?_eq_getElem hk, ← gx_of l k hk]; rfl
/-- a store into it -/
theorem own_put {w : World} {base g n cap : Nat} {l : List Int} (h : Own w base (.slice (some ⟨g, 0, none⟩) n cap) l) (hl : l.length = n) (k : Nat) (y : Int) (hy : InR y) :
    Own (w.setCell ⟨g, k, none⟩ (.int .i64 y)) base (.slice (some ⟨g, 0, none⟩) n cap) (l.set k y) ∧ w.grownBy (w.setCell ⟨g, k, none⟩ (.int .i64 y)) (some g) := by
  subst hl
  obtain ⟨h1, h2⟩ := h
  have hs := h1.stored k (.int .i64 y)
  refine ⟨⟨by rw [List.length_set, List.map_set]; exact hs.1, fun x hx => ?_⟩, hs.2⟩
  rcases List.mem_or_eq_of_mem_set hx with q | q
  · exact h2 x q
  · rw [q]; exact hy
/-- the greatest of m and the first k of a list -/
def mx10 (m : Int) (l : List Int) : Nat → Int
  | 0 => m
  | k + 1 => max (mx10 m l k) (gx l k)
theorem mx10_le (m c : Int) (l : List Int) (k : Nat) : mx10 m l k ≤ c ↔ m ≤ c ∧ ∀ j, j < k → gx l j ≤ c := by
  induction k with
  | zero => exact ⟨fun h => ⟨h, fun j hj => by omega⟩, fun h => h.1⟩
  | succ k ih =>
    show max _ _ ≤ c ↔ _
    constructor
    · intro h
      obtain ⟨h1, h2⟩ := ih.1 (by omega)
      refine ⟨h1, fun j hj => ?_⟩
      by_cases e : j = k
      · subst e; omega
      · exact h2 j (by omega)
    · intro ⟨h1, h2⟩
      have := ih.2 ⟨h1, fun j hj => h2 j (by omega)⟩
      have := h2 k (by omega)
      omega
theorem mx10_sl (B : Int) (l : List Int) : decide (mx10 0 (ldL B l) B.toNat ≤ 1) = slB B l := by
  rw [Bool.eq_iff_iff, decide_eq_true_eq, mx10_le, slB_iff]
  constructor
  · intro ⟨_, h⟩ b hb
    have := h b hb
    rw [ldL_gx B l b hb] at this
    omega
  · intro h
    refine ⟨by omega, fun j hj => ?_⟩
    have := h j hj
    rw [ldL_gx B l j hj]
    omega
def udV (B : Int) (l : List Int) (t : Int) : List Int := if thE B l t = 0 then ulM B (gx l t.toNat) B.toNat else []
end Go.Proofs.Ytpeebgkgccacbaa
