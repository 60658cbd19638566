/- Slices of intervals, as the laws compare, mark and read them; one interval appended. -/
import Derived.Test.YtdhoiiejcmnmbaaWd
import Derived.Test.YtdhoiiejcmnmbaaIvL
import Derived.Test.YtdhoiiejcmnmbaaHeld
namespace Go.Proofs.Ytdhoiiejcmnmbaa
open Go.RowKit
set_option maxHeartbeats 2000000
set_option linter.unusedVariables false
set_option linter.unusedSimpArgs false
theorem info_iv : (Try.prog.info? 25).map (fun i => (i.zero, i.size, i.bytes)) = some (some (.agg #[.int .i64 0, .int .i64 0]), 2, 16) := by kernel_rfl
/-- a slice of intervals of the call's own -/
def OwnI (w : World) (base : Nat) (v : Value) (n : Nat) (l : List Int) : Prop := OwnW w base 25 2 v n l
/-- append(out, e) -/
theorem appI {ops : Array Oper} {rest : List Oper} {o : Oper} {act : Act} {Q : Exit → Act → World → Prop} (hgd : o.guard = none) (s x : Operand)
    (ho : o.op = .call { callee := .builtin .append, args := #[s, x], argTypes := #[133, 133] })
    (base : Nat) (W : World) (T' : TypeId) (v : Value) (n : Nat) (l : List Int) (y z : Int) (hown : OwnI W base v n l) (hs : act.eval s = v) (hx : act.eval x = .slice (some ⟨W.heap.size, 0, none⟩) 1 1) (hy : InR y) (hz : InR z) (hl : n + 1 ≤ 1000000000) (hbase : base ≤ W.heap.size)
    (h : ∀ v' w', OwnI w' base v' (n + 1) (l ++ [y, z]) → W.grownBy w' v.ownBlock → wpList Try.prog ops Q rest (act.put o.dst v') w') : wpList Try.prog ops Q (o :: rest) act (W.alloc (.cells #[.int .i64 y, .int .i64 z] T')) :=
  appW hgd s x _ _ _ 2 16 info_iv Try.underlying133 rfl (by decide) (by decide) ho base W T' v n 1 l [y, z] _ rfl rfl hown hs hx (fun u hu => by simp at hu; rcases hu with rfl | rfl <;> assumption) hl hbase h
theorem l_eqInterval_same2 (a b : Int) (w : World) : Calls Try.prog 39 #[.agg #[.int .i64 a, .int .i64 b], .agg #[.int .i64 a, .int .i64 b]] w fun e w' => e = .returned (.bool true) ∧ Later w w' :=
  (l_eqInterval a b a b w).mono fun e w' ⟨h, k⟩ => ⟨h.trans (ret_b (by simp)), k⟩
/-- what marking leaves -/
def Marked2 (w : World) (base : Nat) (v : Value) (n : Nat) (l : List Int) (e : Ending) (w' : World) : Prop :=
  e = .returned (.int .i64 (1 + 2 * (n : Int))) ∧ OwnI w' base v n (mrk2 l n) ∧ w.grownBy w' v.ownBlock
end Go.Proofs.Ytdhoiiejcmnmbaa
