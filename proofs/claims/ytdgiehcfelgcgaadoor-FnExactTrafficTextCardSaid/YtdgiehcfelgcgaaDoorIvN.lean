/- Contracts of chapter 2 that later chapters use: valid intervals, intervals within others. -/
import Derived.Test.YtdgiehcfelgcgaaDoorNum0
import Derived.Test.YtdgiehcfelgcgaaDoorIvM
import Derived.Test.YtdgiehcfelgcgaaDoorLater
import Derived.OwnWalk
import Derived.Outline
import Derived.Laws.ResultCell
namespace Go.Proofs.YtdgiehcfelgcgaaDoor
open Go.RowKit
set_option maxHeartbeats 2000000
set_option linter.unusedVariables false
set_option linter.unusedSimpArgs false
theorem bounds_of_ivB {a b : Int} (h : ivB a b = true) : -1000000000000 ≤ a ∧ a ≤ 1000000000000 ∧ -1000000000000 ≤ b ∧ b ≤ 1000000000000 ∧ a ≤ b := by
  rw [ivB_iff] at h; omega
def winB (v : Bool) (a b c d : Int) : Bool := v && decide (c ≤ a) && decide (b ≤ d)
end Go.Proofs.YtdgiehcfelgcgaaDoor
