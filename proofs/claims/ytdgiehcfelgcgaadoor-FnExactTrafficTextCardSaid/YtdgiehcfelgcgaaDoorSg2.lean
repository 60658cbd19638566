/- Contracts of chapter 3: segments that are valid, segments that hold: the model's functions. -/
import Derived.Test.YtdgiehcfelgcgaaDoorIvN
import Derived.Test.YtdgiehcfelgcgaaDoorSgM
import Derived.RegionTactic
import Derived.ChangeAlike
import Derived.BigQuiet
import Derived.Deep.QuietTactic
namespace Go.Proofs.YtdgiehcfelgcgaaDoor
open Go.RowKit
set_option maxHeartbeats 2000000
set_option linter.unusedVariables false
set_option linter.unusedSimpArgs false
theorem s_In' (n a b : Int) (w : World) : Calls Tryd.prog 50 #[.int .i64 n, .int .i64 a, .int .i64 b] w fun e w' => e = .returned (.bool (decide (a ≤ n) && decide (n ≤ b))) ∧ w' = w := (s_In n a b w).mono fun _ _ ⟨h, k⟩ => ⟨h, k.symm⟩
def absI (n : Int) : Int := if n < 0 then -n else n
theorem win_eq (n a b : Int) (h0 : 0 ≤ n) (h1 : n ≤ 20000) : (ivB a b && decide (n ≤ a) && decide (b ≤ 20000)) = rngB n a b := by
  rw [Bool.eq_iff_iff]
  unfold rngB
  simp [ivB_iff]
  omega
end Go.Proofs.YtdgiehcfelgcgaaDoor
