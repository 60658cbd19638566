/- The drawn arguments of the laws of chapter 6 on energies and on segments. -/
import Derived.Test.YtnmlkigpiaekjaaEnD
import Derived.Test.YtnmlkigpiaekjaaDraw0
namespace Go.Proofs.Ytnmlkigpiaekjaa
open Go.RowKit
set_option maxHeartbeats 4000000
set_option linter.unusedVariables false
set_option linter.unusedSimpArgs false
theorem fr_keptD {g : Nat} {l : List Value} {w w' : World} {r : Option Nat} (h : Fr g l w) (hg : w.grownBy w' r) (hr : r ≠ some g) : Fr g l w' := by
  refine ⟨Nat.lt_of_lt_of_le h.1 hg.size, fun i v hi => ?_⟩
  obtain ⟨c, f⟩ := h.2 i v hi
  exact ⟨hg.cell c (fun e => hr e.symm), by rw [World.frozen?_of_block (w := w) (hg.block g h.1 (fun e => hr e.symm))]; exact f⟩
/-- a drawn interval -/
def OneI (w : World) (e : Ending) (w' : World) : Prop := ∃ x y : Int, e = .returned (.agg #[.int .i64 x, .int .i64 y]) ∧ InR x ∧ InR y ∧ Later w w'
theorem smq_in {x : Int} (h : Smq x) : InR x := ⟨by have := h.1; omega, by have := h.2; omega⟩
/-- a drawn segment with an energy -/
def DrawnPs (w : World) (B : Nat) (a : Option Addr) (len cap : Nat) (e : Ending) (w' : World) : Prop :=
  ∃ (z : Sg) (x y : Int), e = .returned (.tuple #[.agg #[.int .i64 z.k, .int .i64 z.l, .int .i64 z.r, .int .i64 z.a, .int .i64 z.b, .int .i64 z.c, .int .i64 z.d], .agg #[.int .i64 x, .int .i64 y]]) ∧ InR x ∧ InR y ∧ Src w' B a len cap ∧ w.grownBy w' (some B)
theorem pss_ne {g5 g4 g : Nat} {v0 v1 v2 v3 v4 v5 v6 v7 v8 v9 v10 v11 v12 v13 v14 v15 : Value} (h1 : g4 < g5) (h2 : g + 1 < g5) : ∀ x ∈ ([(g4, 0, v0), (g4, 1, v1), (g4, 2, v2), (g4, 3, v3), (g4, 4, v4), (g4, 5, v5), (g4, 6, v6), (g + 1, 0, v7), (g + 1, 1, v8), (g, 0, v9), (g, 1, v10), (g, 2, v11), (g, 3, v12), (g, 4, v13), (g, 5, v14), (g, 6, v15)] : List (Nat × Nat × Value)), x.1 ≠ g5 := by
  intro x hx
  simp at hx
  rcases hx with rfl | rfl | rfl | rfl | rfl | rfl | rfl | rfl | rfl | rfl | rfl | rfl | rfl | rfl | rfl | rfl <;> simp <;> omega
/-- the state of that draw: the energy's box, the segment's, the results' cells, the source -/
def Pss (g5 g4 : Nat) (z : Sg) (x y : Int) (B : Nat) (a : Option Addr) (len cap : Nat) (w W : World) : Prop :=
  St [(g5, 0, .int .i64 x), (g5, 1, .int .i64 y), (g4, 0, .int .i64 z.k), (g4, 1, .int .i64 z.l), (g4, 2, .int .i64 z.r), (g4, 3, .int .i64 z.a), (g4, 4, .int .i64 z.b), (g4, 5, .int .i64 z.c), (g4, 6, .int .i64 z.d), ((w.heap.size + 1), 0, .int .i64 0), ((w.heap.size + 1), 1, .int .i64 0), (w.heap.size, 0, .int .i64 0), (w.heap.size, 1, .int .i64 0), (w.heap.size, 2, .int .i64 0), (w.heap.size, 3, .int .i64 0), (w.heap.size, 4, .int .i64 0), (w.heap.size, 5, .int .i64 0), (w.heap.size, 6, .int .i64 0)] B a len cap w W
theorem fin_st {B : Nat} {a : Option Addr} {len cap : Nat} {w0 W : World} (h : St [] B a len cap w0 W) : Src W B a len cap ∧ w0.grownBy W (some B) := ⟨h.src, h.grown⟩
/-- a drawn segment and an energy, for a law -/
def OneP (w : World) (e : Ending) (w' : World) : Prop :=
  ∃ (z : Sg) (x y : Int), e = .returned (.tuple #[.agg #[.int .i64 z.k, .int .i64 z.l, .int .i64 z.r, .int .i64 z.a, .int .i64 z.b, .int .i64 z.c, .int .i64 z.d], .agg #[.int .i64 x, .int .i64 y]]) ∧ InR x ∧ InR y ∧ Later w w'
end Go.Proofs.Ytnmlkigpiaekjaa
