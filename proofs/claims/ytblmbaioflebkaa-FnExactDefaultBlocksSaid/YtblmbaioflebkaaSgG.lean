/- The walk of the exact law on the beginnings of segments. -/
import Derived.Test.YtblmbaioflebkaaSgF
import Derived.Test.YtblmbaioflebkaaSgT
import Derived.Test.YtblmbaioflebkaaSgW
import Derived.Test.YtblmbaioflebkaaEqI
import Derived.Test.YtblmbaioflebkaaMark
import Derived.Test.YtblmbaioflebkaaMarkS
namespace Go.Proofs.Ytblmbaioflebkaa
open Go.RowKit
set_option maxHeartbeats 4000000
set_option linter.unusedVariables false
set_option linter.unusedSimpArgs false
theorem later_grownBy {w w' : World} (h : Later w w') (row : Option Nat) : w.grownBy w' row := ⟨h.os, h.tape, h.output, h.size, fun k hk _ => h.block k hk⟩
theorem Own.kept2 {w w' : World} {base : Nat} {v : Value} {l : List Int} {row : Option Nat} (h : Own w base v l) (hg : w.grownBy w' row) (hr : ∀ k, v.ownBlock = some k → row ≠ some k) : Own w' base v l := by
  refine ⟨h.1.kept hg ?_, h.2⟩
  cases hv : v.ownBlock with
  | none => exact .inl rfl
  | some k => exact .inr (fun e => hr k hv e.symm)
theorem Own.later {w w' : World} {base : Nat} {v : Value} {l : List Int} (h : Own w base v l) (k : Later w w') : Own w' base v l := h.kept2 (later_grownBy k none) (fun _ _ e => by cases e)
theorem later_grow {w wr w5 : World} {row : Option Nat} (W : Later w wr) (hg : wr.grownBy w5 row) (hr : ∀ k, row = some k → w.heap.size ≤ k) : Later w w5 := Below.grown W hg W.size hr
theorem l_eqI (a b : Option Addr) (n cap m cap' : Nat) (l : List Int) (w : World) (hs : Sl w a n l) (ht : Sl w b m l) :
    Calls Try.prog 37 #[.slice a n cap, .slice b m cap'] w fun e w' => e = .returned (.bool true) ∧ Later w w' :=
  (l_eqInt64S a b n cap m cap' l w hs ht).mono fun e w' ⟨he, q, hq⟩ => ⟨he, by rw [hq]; exact (Later.refl _).drewN q⟩
theorem strs_len (L : List Sg) : (strs L).length ≤ 24 := by
  unfold strs
  split
  · rename_i h
    have := ((layB_iff L).1 h).2.1
    simpa using this
  · simp
end Go.Proofs.Ytblmbaioflebkaa
