/- The state of a function that draws a layout and hands it back in a cell. -/
import Derived.Test.YtdgiehcfelgcgaaDoorSgH
namespace Go.Proofs.YtdgiehcfelgcgaaDoor
open Go.RowKit
set_option maxHeartbeats 2000000
set_option linter.unusedVariables false
set_option linter.unusedSimpArgs false
theorem Sgs.grown0 {w w' : World} {a : Option Addr} {n : Nat} {L : List Sg} {row : Option Nat} (h : Sgs w a n L) (hg : w.grownBy w' row) (hne : ∀ x, a = some x → 0 < n → row ≠ some x.block) : Sgs w' a n L := by
  obtain ⟨h1, h2, h3, h4⟩ := h
  refine ⟨h1, h2, fun k hk => ?_, h4⟩
  obtain ⟨b, off, rfl, hc⟩ := h3 k hk
  exact ⟨b, off, rfl, fun j hj => hg.cell (hc j hj) (fun e => hne ⟨b, off, none⟩ rfl (by omega) e.symm)⟩
/-- boxes of its own, the source, the drawn layout; g: the block of the result's cell -/
def DL (l : List (Nat × Nat × Value)) (g : Nat) (a' : Option Addr) (n : Nat) (L : List Sg) (B : Nat) (a : Option Addr) (len cap : Nat) (w0 W : World) : Prop :=
  St l B a len cap w0 W ∧ Sgs W a' n L ∧ ∀ x, a' = some x → 0 < n → x.block ≠ B ∧ x.block ≠ g
section
variable {l : List (Nat × Nat × Value)} {g : Nat} {a' : Option Addr} {n : Nat} {L : List Sg} {B : Nat} {a : Option Addr} {len cap : Nat} {w0 W W1 : World}
theorem DL.st (h : DL l g a' n L B a len cap w0 W) : St l B a len cap w0 W := h.1
theorem DL.src (h : DL l g a' n L B a len cap w0 W) : Src W B a len cap := h.1.src
theorem DL.sg (h : DL l g a' n L B a len cap w0 W) : Sgs W a' n L := h.2.1
theorem DL.nB (h : DL l g a' n L B a len cap w0 W) : ∀ x, a' = some x → 0 < n → x.block ≠ B := fun x hx hn => (h.2.2 x hx hn).1
theorem DL.call (h : DL l g a' n L B a len cap w0 W) (src : Src W1 B a len cap) (gr : W.grownBy W1 (some B)) : DL l g a' n L B a len cap w0 W1 :=
  ⟨h.1.call src gr, h.2.1.grown0 gr (fun x hx hn e => (h.2.2 x hx hn).1 (Option.some.inj e).symm), h.2.2⟩
theorem DL.later (h : DL l g a' n L B a len cap w0 W) (k : Later W W1) : DL l g a' n L B a len cap w0 W1 := ⟨h.1.later k, h.2.1.later k, h.2.2⟩
theorem DL.alloc (h : DL l g a' n L B a len cap w0 W) (o : Obj) : DL l g a' n L B a len cap w0 (W.alloc o) := h.later ((Later.refl _).alloc o)
theorem DL.drew (h : DL l g a' n L B a len cap w0 W) : DL l g a' n L B a len cap w0 W.drew := h.later (Later.refl _).drew
theorem DL.drewN (h : DL l g a' n L B a len cap w0 W) (q : Nat) : DL l g a' n L B a len cap w0 (W.drewN q) := h.later ((Later.refl _).drewN q)
theorem DL.box (h : DL l g a' n L B a len cap w0 W) (v0 : Value) (T : TypeId) : DL ((W.heap.size, 0, v0) :: l) g a' n L B a len cap w0 (W.alloc (.cells #[v0] T)) :=
  ⟨h.1.box1 v0 T, h.2.1.later ((Later.refl _).alloc _), h.2.2⟩
theorem DL.c1 {b o : Nat} {v : Value} (h : DL ((b, o, v) :: l) g a' n L B a len cap w0 W) : W.cell? ⟨b, o, none⟩ = some v := (h.1.at b o v (by simp)).1
/-- a cell that lay there at the start -/
theorem DL.old (h : DL l g a' n L B a len cap w0 W) {b o : Nat} {v : Value} (hc : w0.cell? ⟨b, o, none⟩ = some v) (hb : b ≠ B) : W.cell? ⟨b, o, none⟩ = some v := h.1.grown.cell hc (by simpa using hb)
theorem DL.oldF (h : DL l g a' n L B a len cap w0 W) {b o : Nat} {v : Value} (hc : w0.cell? ⟨b, o, none⟩ = some v) (hf : w0.frozen? ⟨b, o, none⟩ = false) (hb : b ≠ B) : W.frozen? ⟨b, o, none⟩ = false := by
  rw [World.frozen?_of_block (w := w0) (h.1.grown.block b (cell_lt hc) (by simpa using hb))]; exact hf
theorem DL.set (h : DL l g a' n L B a len cap w0 W) (u : Value) (j : Nat) : Sgs (W.setCell ⟨g, j, none⟩ u) a' n L := by
  obtain ⟨h1, h2, h3, h4⟩ := h.2.1
  refine ⟨h1, h2, fun k hk => ?_, h4⟩
  obtain ⟨b, off, e, hcl⟩ := h3 k hk
  have hne := (h.2.2 _ e (by omega)).2
  refine ⟨b, off, e, fun i hi => ?_⟩
  rw [World.cell?_setCell_far _ _ _ _ (Ne.symm hne)]
  exact hcl i hi
end
/-- how such a function begins: the result's cell, the source out of the code, the layout -/
theorem dl_begin0 {w w1 w2 : World} {a : Option Addr} {len cap : Nat} {T : TypeId} {a' : Option Addr} {n : Nat} {L : List Sg} (src : Src w1 (w.heap.size + 1) a len cap) (bel : Below (w.heap.size + 1) (w.alloc (.cells #[.slice none 0 0] T)) w1)
    (hl : Sgs w2 a' n L) (hbl : ∀ x, a' = some x → 0 < n → w1.heap.size ≤ x.block) (src2 : Src w2 (w.heap.size + 1) a len cap) (gr : w1.grownBy w2 (some (w.heap.size + 1))) :
    DL [] w.heap.size a' n L (w.heap.size + 1) a len cap w1 w2 ∧ Below w.heap.size w w1 ∧ w1.cell? ⟨w.heap.size, 0, none⟩ = some (.slice none 0 0) ∧ w1.frozen? ⟨w.heap.size, 0, none⟩ = false ∧ w.heap.size + 1 < w1.heap.size := by
  have hlt := src.lt
  refine ⟨⟨(St.begin src).call src2 gr, hl, fun x hx hn => ⟨by have := hbl x hx hn; omega, by have := hbl x hx hn; omega⟩⟩, ((Below.refl _ _).alloc (Nat.le_refl _) _).trans (bel.mono (Nat.le_succ _)), ?_, ?_, hlt⟩
  · rw [bel.cell (p := ⟨w.heap.size, 0, none⟩) (Nat.lt_succ_self _)]; simp
  · rw [Below.frozen (p := ⟨w.heap.size, 0, none⟩) bel (Nat.lt_succ_self _)]; simp
theorem dl_begin {w w1 w2 : World} {a : Option Addr} {len cap : Nat} {T : TypeId} {a' : Option Addr} {n : Nat} {L : List Sg} (src : Src w1 (w.heap.size + 1) a len cap) (bel : Below (w.heap.size + 1) (w.alloc (.cells #[.slice none 0 0] T)) w1)
    (hl : Sgs w2 a' n L) (hbl : ∀ x, a' = some x → w1.heap.size ≤ x.block) (src2 : Src w2 (w.heap.size + 1) a len cap) (gr : w1.grownBy w2 (some (w.heap.size + 1))) :
    DL [] w.heap.size a' n L (w.heap.size + 1) a len cap w1 w2 ∧ Below w.heap.size w w1 ∧ w1.cell? ⟨w.heap.size, 0, none⟩ = some (.slice none 0 0) ∧ w1.frozen? ⟨w.heap.size, 0, none⟩ = false ∧ w.heap.size + 1 < w1.heap.size :=
  dl_begin0 src bel hl (fun x hx _ => hbl x hx) src2 gr
/-- and how it ends -/
theorem dl_below {l : List (Nat × Nat × Value)} {w w1 W : World} {a : Option Addr} {len cap : Nat} {a' : Option Addr} {n : Nat} {L : List Sg} {g : Nat} (h : DL l g a' n L (w.heap.size + 1) a len cap w1 W) (hb : Below w.heap.size w w1) : Below w.heap.size w W :=
  hb.grown h.1.grown hb.size (fun k e => by have := Option.some.inj e; omega)
end Go.Proofs.YtdgiehcfelgcgaaDoor
