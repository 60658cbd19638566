/- Contracts of chapter 6: the program's verdict on a segment, the energy behind it. -/
import Derived.Test.YtnmlkigpiaekjaaEnI
import Derived.Test.YtnmlkigpiaekjaaHeld
import Derived.RegionTactic
import Derived.ChangeAlike
import Derived.BigQuiet
import Derived.Deep.QuietTactic
namespace Go.Proofs.Ytnmlkigpiaekjaa
open Go.RowKit
set_option maxHeartbeats 4000000
set_option linter.unusedVariables false
set_option linter.unusedSimpArgs false
/-- a box with an interval in a slot, the world a later one than w0 -/
def Box2 (w0 : World) (L H : Int) (s : Value) (w : World) : Prop := ∃ g : Nat, s = .pointer (some ⟨g, 0, none⟩) ∧ Held [(g, 0, .int .i64 L), (g, 1, .int .i64 H)] w0 w
/-- the cells of a new block -/
def boxL (g : Nat) : Nat → List Value → List (Nat × Nat × Value)
  | _, [] => []
  | i, v :: vs => (g, i, v) :: boxL g (i + 1) vs
theorem boxL_mem (g : Nat) (vs : List Value) : ∀ i, ∀ x ∈ boxL g i vs, x.1 = g ∧ ∃ j, x.2.1 = i + j ∧ vs[j]? = some x.2.2 := by
  induction vs with
  | nil => intro i x hx; simp [boxL] at hx
  | cons v vs ih =>
    intro i x hx
    rcases List.mem_cons.1 hx with rfl | hx
    · exact ⟨rfl, 0, rfl, rfl⟩
    · obtain ⟨e, j, ej, hj⟩ := ih (i + 1) x hx
      exact ⟨e, j + 1, by omega, by simpa using hj⟩
theorem held_box {l : List (Nat × Nat × Value)} {w0 W : World} (h : Held l w0 W) (g : Nat) (vs : List Value) (T : TypeId) (hg : g = W.heap.size) : Held (boxL g 0 vs ++ l) w0 (W.alloc (.cells vs.toArray T)) := by
  subst hg
  refine ⟨fun x hx => ?_, h.2.alloc _⟩
  rcases List.mem_append.1 hx with hx | hx
  · obtain ⟨e, j, ej, hj⟩ := boxL_mem _ _ _ x hx
    have hh := heap_alloc_new W (.cells vs.toArray T)
    refine ⟨by rw [e]; simp, ?_⟩
    rw [e, show x.2.1 = j by omega]
    simp only [World.cell?, hh]; simp [hj]
  · exact (h.alloc _).1 x hx
theorem held_start (w : World) : Held [] w w := ⟨fun x hx => by simp at hx, Later.refl _⟩
theorem held_two {w0 W w' : World} {g : Nat} {u v : Value} (h : Later w0 W) (k : Later W w') (hu : w'.cell? ⟨g, 0, none⟩ = some u) (hv : w'.cell? ⟨g, 1, none⟩ = some v) (hg : g < w'.heap.size) : Held [(g, 0, u), (g, 1, v)] w0 w' :=
  held_more (held_more ⟨fun x hx => by simp at hx, h.trans k⟩ g 1 v hv hg) g 0 u hu hg
end Go.Proofs.Ytnmlkigpiaekjaa
