/- The walk of the law on default blocks. -/
import Derived.Test.YtdhoiiejcmnmbaaBkL
import Derived.Test.YtdhoiiejcmnmbaaBkD
import Derived.Test.YtdhoiiejcmnmbaaBkN
import Derived.Test.YtdhoiiejcmnmbaaSgIT
import Derived.Test.YtdhoiiejcmnmbaaSgB
import Derived.Test.YtdhoiiejcmnmbaaRow
import Derived.Test.YtdhoiiejcmnmbaaLki
import Derived.Test.YtdhoiiejcmnmbaaDraw0
namespace Go.Proofs.Ytdhoiiejcmnmbaa
open Go.RowKit
set_option maxHeartbeats 4000000
set_option linter.unusedVariables false
set_option linter.unusedSimpArgs false
theorem sgs_far {w : World} {a : Option Addr} {n g : Nat} {L : List Sg} (h : Sgs w a n L) (u : Value) (hne : ∀ x, a = some x → x.block ≠ g) : Sgs (w.setCell ⟨g, 0, none⟩ u) a n L := by
  obtain ⟨h1, h2, h3, h4⟩ := h
  refine ⟨h1, h2, fun k hk => ?_, h4⟩
  obtain ⟨b, off, e, hcl⟩ := h3 k hk
  have hne := hne _ e
  refine ⟨b, off, e, fun j hj => ?_⟩
  rw [World.cell?_setCell_far _ _ _ _ (Ne.symm hne)]
  exact hcl j hj
/-- a layout that was drawn -/
def DrawnL (w : World) (e : Ending) (w' : World) : Prop :=
  ∃ (a : Option Addr) (n cap : Nat) (L : List Sg), e = .returned (.agg #[.slice a n cap]) ∧ Sgs w' a n L ∧ n ≤ cap ∧ Below w.heap.size w w'
theorem Own.slc {w : World} {base : Nat} {v : Value} {l : List Int} (h : Own w base v l) : ∃ a cap, v = .slice a l.length cap ∧ l.length ≤ cap ∧ Sl w a l.length l := by
  obtain ⟨a, cap, e, hs, _⟩ := h.sl
  refine ⟨a, cap, e, ?_, hs⟩
  rcases h.1.2 with ⟨he, h0⟩ | ⟨g, cap', cur, he, hb, hg, hnc, _⟩
  · rw [h0]; exact Nat.zero_le _
  · rw [e] at he; cases he; exact hnc
theorem i_AreBlocks_in (a : Option Addr) (n cap : Nat) (L : List Sg) (A : Option Addr) (m capF : Nat) (F : List Int) (w : World) (hs : Sgs w a n L) (hf : Sl w A m F) (hcF : m ≤ capF) (hb : bkB L F = true) :
    Calls Try.prog 130 #[.agg #[.slice a n cap], .slice A m capF] w fun e w' => e = .returned (.bool true) ∧ Later w w' := by
  have c := i_AreBlocks a n cap L A m capF F w hs hf hcF
  rw [hb] at c
  exact c
end Go.Proofs.Ytdhoiiejcmnmbaa
