/- A state of draws beside a block of the call's own (St.own of XOcK, without chapter 5). -/
import Derived.Test.YtpeebgkgccacbaaSt
namespace Go.Proofs.Ytpeebgkgccacbaa
open Go.RowKit
set_option maxHeartbeats 4000000
set_option linter.unusedVariables false
set_option linter.unusedSimpArgs false
theorem Src.kept3O {w w' : World} {B N : Nat} {a : Option Addr} {len cap : Nat} {row : Option Nat} (h : Src w B a len cap) (hab : 0 < len → ∀ x, a = some x → x.block < N) (hBN : B < N) (hg : w.grownBy w' row) (hr : ∀ k, row = some k → N ≤ k) : Src w' B a len cap := by
  have hlt := h.lt
  obtain ⟨⟨p, s, h1, h2, h3, hb⟩, hc⟩ := h
  refine ⟨⟨p, s, h1, h2, h3, by rw [← hb]; exact hg.block B hlt (fun e => by have := hr B e.symm; omega)⟩, hc.1, fun k hk => ?_⟩
  obtain ⟨b, off, x, rfl, hne, hx, x0, x1⟩ := hc.2 k hk
  exact ⟨b, off, x, rfl, hne, hg.cell hx (fun e => by have := hr b e.symm; have := hab (by omega) ⟨b, off, none⟩ rfl; simp at this; omega), x0, x1⟩
/-- a world that grew beside a block of the call's own -/
theorem St.ownO {l : List (Nat × Nat × Value)} {B : Nat} {a : Option Addr} {len cap : Nat} {w0 W W1 : World} {row : Option Nat} (h : St l B a len cap w0 W) (hg : W.grownBy W1 row) (hr : ∀ k, row = some k → w0.heap.size ≤ k ∧ ∀ x ∈ l, x.1 ≠ k) : St l B a len cap w0 W1 := by
  have hB := h.lt
  refine ⟨fun x hx => ?_, h.2.1, h.src.kept3O (N := w0.heap.size) h.2.1.low hB hg (fun k e => (hr k e).1), ⟨hg.os.trans h.grown.os, hg.tape.trans h.grown.tape, hg.output.trans h.grown.output, Nat.le_trans h.grown.size hg.size, fun i hi hne => (hg.block i (Nat.lt_of_lt_of_le hi h.grown.size) (fun e => by have := (hr i e.symm).1; omega)).trans (h.grown.block i hi hne)⟩⟩
  obtain ⟨h1, h2, h3, h4⟩ := h.1 x hx
  have hne : some x.1 ≠ row := fun e => (hr x.1 e.symm).2 x hx rfl
  exact ⟨h1, Nat.lt_of_lt_of_le h2 hg.size, hg.cell h3 (by simpa using hne), by rw [World.frozen?_of_block (w := W) (hg.block x.1 h2 (by simpa using hne))]; exact h4⟩
end Go.Proofs.Ytpeebgkgccacbaa
