/- The walks of the exact laws of chapter 2. -/
import Derived.Test.YtdhoiiejcmnmbaaIvL
import Derived.Test.YtdhoiiejcmnmbaaIvS
import Derived.Test.YtdhoiiejcmnmbaaHeld
namespace Go.Proofs.Ytdhoiiejcmnmbaa
open Go.RowKit
set_option maxHeartbeats 4000000
set_option linter.unusedVariables false
set_option linter.unusedSimpArgs false
/-- what a call leaves in two slots: a box with an interval, and a number -/
def Got (l : List (Nat × Nat × Value)) (w0 : World) (L H E : Int) (s5 s6 : Value) (w : World) : Prop :=
  ∃ g : Nat, s5 = .pointer (some ⟨g, 0, none⟩) ∧ s6 = .int .i64 E ∧ Held ((g, 0, .int .i64 L) :: (g, 1, .int .i64 H) :: l) w0 w
/-- a Bool in a slot -/
def GotB (l : List (Nat × Nat × Value)) (w0 : World) (b : Bool) (s5 : Value) (w : World) : Prop := s5 = .bool b ∧ Held l w0 w
/-- two numbers in slots -/
def Got2 (l : List (Nat × Nat × Value)) (w0 : World) (x y : Int) (s5 s6 : Value) (w : World) : Prop := s5 = .int .i64 x ∧ s6 = .int .i64 y ∧ Held l w0 w
theorem l_eqInterval_same (a b : Int) (w : World) : Calls Try.prog 39 #[.agg #[.int .i64 a, .int .i64 b], .agg #[.int .i64 a, .int .i64 b]] w fun e w' => e = .returned (.bool true) ∧ Later w w' :=
  (l_eqInterval a b a b w).mono fun e w' ⟨h, k⟩ => ⟨h.trans (ret_b (by simp)), k⟩
end Go.Proofs.Ytdhoiiejcmnmbaa
