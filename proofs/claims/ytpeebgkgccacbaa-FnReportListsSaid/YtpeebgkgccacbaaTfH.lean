/- The draw of runs of moves (gen/gen_tfh.py). -/
import Derived.Test.YtpeebgkgccacbaaTfG
namespace Go.Proofs.Ytpeebgkgccacbaa
open Go.RowKit
set_option maxHeartbeats 4000000
set_option maxRecDepth 100000
set_option linter.unusedVariables false
set_option linter.unusedSimpArgs false
/-- a drawn traffic and drawn moves -/
def DrawnRM (w : World) (e : Ending) (w' : World) : Prop :=
  ∃ (Bt : Int) (ax : Option Addr) (n cx : Nat) (l : List Int) (v : Value) (ts : List Int), e = .returned (.tuple #[.agg #[.int .i64 Bt, .slice ax n cx], v]) ∧ Sl w' ax n l ∧ n ≤ 5 ∧ Own w' w.heap.size v ts ∧ ts.length ≤ 250 ∧ Later w w'
theorem sl_rowT' {w w' : World} {a : Option Addr} {n : Nat} {l : List Int} {row : Option Nat} (h : Sl w a n l) (hg : w.grownBy w' row) (hr : ∀ x, a = some x → row ≠ some x.block) : Sl w' a n l := by
  obtain ⟨h1, h2, h3, h4⟩ := h
  refine ⟨h1, h2, fun k hk => ?_, h4⟩
  obtain ⟨b, off, rfl, hc⟩ := h3 k hk
  exact ⟨b, off, rfl, hg.cell hc (fun e => hr _ rfl e.symm)⟩
theorem sl_rowT {w w' : World} {a : Option Addr} {n r : Nat} {l : List Int} (h : Sl w a n l) (hg : w.grownBy w' (some r)) (hr : ∀ x, a = some x → x.block ≠ r) : Sl w' a n l :=
  sl_rowT' h hg (fun x hx e => hr x hx (Option.some.inj e).symm)
theorem sl_resT {w : World} {a : Option Addr} {n R : Nat} {l : List Int} {u0 u1 : Value} (h : Sl w a n l) (hr : ∀ x, a = some x → x.block ≠ R) : Sl ((w.setCell ⟨R, 0, none⟩ u0).setCell ⟨R, 1, none⟩ u1) a n l :=
  sl_rowT (sl_rowT h (grown_set _ _ _ _) hr) (grown_set _ _ _ _) hr
theorem sl_rowN' {w w' : World} {a : Option Addr} {n : Nat} {l : List Int} {row : Option Nat} (h : Sl w a n l) (hg : w.grownBy w' row) (hr : ∀ x, a = some x → 0 < n → row ≠ some x.block) : Sl w' a n l := by
  obtain ⟨h1, h2, h3, h4⟩ := h
  refine ⟨h1, h2, fun k hk => ?_, h4⟩
  obtain ⟨b, off, rfl, hc⟩ := h3 k hk
  exact ⟨b, off, rfl, hg.cell hc (fun e => hr _ rfl (by omega) e.symm)⟩
theorem sl_rowN {w w' : World} {a : Option Addr} {n r : Nat} {l : List Int} (h : Sl w a n l) (hg : w.grownBy w' (some r)) (hr : ∀ x, a = some x → 0 < n → x.block ≠ r) : Sl w' a n l :=
  sl_rowN' h hg (fun x hx hn e => hr x hx hn (Option.some.inj e).symm)
theorem sl_blk {w : World} {a : Option Addr} {n : Nat} {l : List Int} (h : Sl w a n l) {x : Addr} (hx : a = some x) (hn : 0 < n) : x.block < w.heap.size := by
  obtain ⟨b, off, e, hc⟩ := h.at 0 hn
  rw [hx] at e; cases e
  exact cell_lt hc
theorem own_keptM {w w' : World} {base : Nat} {v : Value} {l : List Int} {row : Option Nat} (h : Own w base v l) (hg : w.grownBy w' row) (hr : ∀ k, v.ownBlock = some k → row ≠ some k) : Own w' base v l := by
  refine ⟨h.1.kept hg ?_, h.2⟩
  cases hv : v.ownBlock with
  | none => exact .inl rfl
  | some k => exact .inr (fun e => hr k hv e.symm)
theorem own_slM {w : World} {base n cap : Nat} {a : Option Addr} {l : List Int} (h : Own w base (.slice a n cap) l) : Sl w a n l := by
  obtain ⟨a', c', e, s, _⟩ := h.sl
  cases e; exact s
end Go.Proofs.Ytpeebgkgccacbaa
