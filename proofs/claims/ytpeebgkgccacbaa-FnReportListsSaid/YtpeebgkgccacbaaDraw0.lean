/- A new slice of numbers; the laws' bound on the code. -/
import Derived.Test.YtpeebgkgccacbaaFrom
namespace Go.Proofs.Ytpeebgkgccacbaa
open Go.RowKit
set_option maxHeartbeats 2000000
set_option linter.unusedVariables false
set_option linter.unusedSimpArgs false
theorem sl_new (w : World) (l : List Int) (T : TypeId) (hn : l.length ≤ 9223372036854775807) (hr : ∀ x ∈ l, InR x) : Sl (w.alloc (.cells (l.map (Value.int .i64)).toArray T)) (some ⟨w.heap.size, 0, none⟩) l.length l := by
  refine ⟨rfl, hn, fun k hk => ⟨w.heap.size, 0, rfl, ?_⟩, hr⟩
  rw [Nat.zero_add, cell_of_row _ _ k _ T (0, 0) (heap_alloc_new w _)]
  simp [hk, gx_of l k hk]
def Two (w : World) (e : Ending) (w' : World) : Prop :=
  ∃ a b : Int, e = .returned (.tuple #[.int .i64 a, .int .i64 b]) ∧ InR a ∧ InR b ∧ Below w.heap.size w w'
def One (w : World) (e : Ending) (w' : World) : Prop :=
  ∃ a : Int, e = .returned (.int .i64 a) ∧ InR a ∧ Below w.heap.size w w'
theorem l_big (a : Option Addr) (len cap : Nat) (w : World) :
    Calls Try.prog 5 #[.slice a len cap] w fun e w' => e = .returned (.bool (decide (4096 < len))) ∧ w = w' := by
  go_enter Try.func5, Try.ntmps5
  go_wp2
  go_ret
  exact ⟨ret_b (by simp; omega), rfl⟩
end Go.Proofs.Ytpeebgkgccacbaa
