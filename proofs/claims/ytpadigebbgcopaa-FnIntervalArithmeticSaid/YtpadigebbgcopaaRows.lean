/-
  No cell of these rows narrows 'for every input' (looked for: loops, veiled, ifaces, maps, wideKeys, modest, calm, conditions, laid).
  DERIVED. THE GIVEN ROWS OF THIS SEAT. 11 by the template 'for every input the law returns true; each argument reads behind the call as it read before'; 0 by the template 'total and deterministic' (their statements: YtpadigebbgcopaaTotals.lean).
  GIVEN WITH THE SEED: the statements are not yours to turn. If you find one false, say at which input.
  Laid BY PROGRAM, IN A SANDBOX (cutbox-rows.mjs): the forced cells as the released guide's own fill.sh prints them over the translation 8d946bf85ccc3d53… (all of the seat's roots in one cut). By AI agents, Wed Nov 11 2026. No macro, syntax, notation, axiom, sorry.
-/
import Derived.Test.YtpadigebbgcopaaChecked
import GoSem.Claim
import GoSem.ClaimJoined
import GoSem.ClaimMapViews
import Derived.JoinedTies
import Derived.KernelRfl
namespace Go.Proofs.Ytpadigebbgcopaa
/- THE CELL 'sum', in the pinned program and in every row, IS THE sha256 OF THE DUMP (.gsa) THAT YtpadigebbgcopaaProg.lean LOADS. Nothing in Lean hashes anything: it is a label: what it is worth is what the hold of that sum in a sandbox is worth. -/
noncomputable def Try.pinned : Pinned := { name := "ytpadigebbgcopaa", sum := "8d946bf85ccc3d5371729b3d33eedbb01c5df7c53561d15f0643b8a0e982b6e7", checked := Try.checked }
namespace Rows
def none {H : Type} : Left H := { results := [], args := [] }

/-- 'laws.FnIntervalArithmetic': WHATEVER THE INPUT: true; the input reads as it did. -/
def fnIntervalArithmeticSpec : ChangeSpec := { name := "fnIntervalArithmetic", fn := fun _ => fun
  | [d] => { results := [.lit (.bool true)], args := [d] }
  | _ => none }
def fnIntervalArithmeticRow : OpenClaim := { program := "ytpadigebbgcopaa", sum := "8d946bf85ccc3d5371729b3d33eedbb01c5df7c53561d15f0643b8a0e982b6e7", func := "loop.example/g00916/laws.FnIntervalArithmetic", spec := "fnIntervalArithmetic", unfollowed := true, recurses := true, apart := false }
def FnIntervalArithmeticSaid : Prop := fnIntervalArithmeticRow.holds Try.pinned (OpenSpec.ofChange fnIntervalArithmeticSpec)

/-- ITS FALSE NEIGHBOUR: 'it returns false'. Refute it at one input. -/
def fnIntervalArithmeticWrong : ChangeSpec := { name := "fnIntervalArithmetic", fn := fun _ => fun
  | [d] => { results := [.lit (.bool false)], args := [d] }
  | _ => none }
def FnIntervalArithmeticWrongFalsely : Prop := fnIntervalArithmeticRow.holds Try.pinned (OpenSpec.ofChange fnIntervalArithmeticWrong)

/-- 'laws.FnScaledIntervals': WHATEVER THE INPUT: true; the input reads as it did. -/
def fnScaledIntervalsSpec : ChangeSpec := { name := "fnScaledIntervals", fn := fun _ => fun
  | [d] => { results := [.lit (.bool true)], args := [d] }
  | _ => none }
def fnScaledIntervalsRow : OpenClaim := { program := "ytpadigebbgcopaa", sum := "8d946bf85ccc3d5371729b3d33eedbb01c5df7c53561d15f0643b8a0e982b6e7", func := "loop.example/g00916/laws.FnScaledIntervals", spec := "fnScaledIntervals", apart := false }
def FnScaledIntervalsSaid : Prop := fnScaledIntervalsRow.holds Try.pinned (OpenSpec.ofChange fnScaledIntervalsSpec)

/-- ITS FALSE NEIGHBOUR: 'it returns false'. Refute it at one input. -/
def fnScaledIntervalsWrong : ChangeSpec := { name := "fnScaledIntervals", fn := fun _ => fun
  | [d] => { results := [.lit (.bool false)], args := [d] }
  | _ => none }
def FnScaledIntervalsWrongFalsely : Prop := fnScaledIntervalsRow.holds Try.pinned (OpenSpec.ofChange fnScaledIntervalsWrong)

/-- 'laws.FnIntervalSets': WHATEVER THE INPUT: true; the input reads as it did. -/
def fnIntervalSetsSpec : ChangeSpec := { name := "fnIntervalSets", fn := fun _ => fun
  | [d] => { results := [.lit (.bool true)], args := [d] }
  | _ => none }
def fnIntervalSetsRow : OpenClaim := { program := "ytpadigebbgcopaa", sum := "8d946bf85ccc3d5371729b3d33eedbb01c5df7c53561d15f0643b8a0e982b6e7", func := "loop.example/g00916/laws.FnIntervalSets", spec := "fnIntervalSets", unfollowed := true, recurses := true, apart := false }
def FnIntervalSetsSaid : Prop := fnIntervalSetsRow.holds Try.pinned (OpenSpec.ofChange fnIntervalSetsSpec)

/-- ITS FALSE NEIGHBOUR: 'it returns false'. Refute it at one input. -/
def fnIntervalSetsWrong : ChangeSpec := { name := "fnIntervalSets", fn := fun _ => fun
  | [d] => { results := [.lit (.bool false)], args := [d] }
  | _ => none }
def FnIntervalSetsWrongFalsely : Prop := fnIntervalSetsRow.holds Try.pinned (OpenSpec.ofChange fnIntervalSetsWrong)

/-- 'laws.FnExactIsInterval': WHATEVER THE INPUT: true; the input reads as it did. -/
def fnExactIsIntervalSpec : ChangeSpec := { name := "fnExactIsInterval", fn := fun _ => fun
  | [d] => { results := [.lit (.bool true)], args := [d] }
  | _ => none }
def fnExactIsIntervalRow : OpenClaim := { program := "ytpadigebbgcopaa", sum := "8d946bf85ccc3d5371729b3d33eedbb01c5df7c53561d15f0643b8a0e982b6e7", func := "loop.example/g00916/laws.FnExactIsInterval", spec := "fnExactIsInterval", apart := false }
def FnExactIsIntervalSaid : Prop := fnExactIsIntervalRow.holds Try.pinned (OpenSpec.ofChange fnExactIsIntervalSpec)

/-- ITS FALSE NEIGHBOUR: 'it returns false'. Refute it at one input. -/
def fnExactIsIntervalWrong : ChangeSpec := { name := "fnExactIsInterval", fn := fun _ => fun
  | [d] => { results := [.lit (.bool false)], args := [d] }
  | _ => none }
def FnExactIsIntervalWrongFalsely : Prop := fnExactIsIntervalRow.holds Try.pinned (OpenSpec.ofChange fnExactIsIntervalWrong)

/-- 'laws.FnExactAddIntervals': WHATEVER THE INPUT: true; the input reads as it did. -/
def fnExactAddIntervalsSpec : ChangeSpec := { name := "fnExactAddIntervals", fn := fun _ => fun
  | [d1, d2] => { results := [.lit (.bool true)], args := [d1, d2] }
  | _ => none }
def fnExactAddIntervalsRow : OpenClaim := { program := "ytpadigebbgcopaa", sum := "8d946bf85ccc3d5371729b3d33eedbb01c5df7c53561d15f0643b8a0e982b6e7", func := "loop.example/g00916/laws.FnExactAddIntervals", spec := "fnExactAddIntervals", unfollowed := true, recurses := true, apart := false }
def FnExactAddIntervalsSaid : Prop := fnExactAddIntervalsRow.holds Try.pinned (OpenSpec.ofChange fnExactAddIntervalsSpec)

/-- ITS FALSE NEIGHBOUR: 'it returns false'. Refute it at one input. -/
def fnExactAddIntervalsWrong : ChangeSpec := { name := "fnExactAddIntervals", fn := fun _ => fun
  | [d1, d2] => { results := [.lit (.bool false)], args := [d1, d2] }
  | _ => none }
def FnExactAddIntervalsWrongFalsely : Prop := fnExactAddIntervalsRow.holds Try.pinned (OpenSpec.ofChange fnExactAddIntervalsWrong)

/-- 'laws.FnExactSubtractIntervals': WHATEVER THE INPUT: true; the input reads as it did. -/
def fnExactSubtractIntervalsSpec : ChangeSpec := { name := "fnExactSubtractIntervals", fn := fun _ => fun
  | [d1, d2] => { results := [.lit (.bool true)], args := [d1, d2] }
  | _ => none }
def fnExactSubtractIntervalsRow : OpenClaim := { program := "ytpadigebbgcopaa", sum := "8d946bf85ccc3d5371729b3d33eedbb01c5df7c53561d15f0643b8a0e982b6e7", func := "loop.example/g00916/laws.FnExactSubtractIntervals", spec := "fnExactSubtractIntervals", unfollowed := true, recurses := true, apart := false }
def FnExactSubtractIntervalsSaid : Prop := fnExactSubtractIntervalsRow.holds Try.pinned (OpenSpec.ofChange fnExactSubtractIntervalsSpec)

/-- ITS FALSE NEIGHBOUR: 'it returns false'. Refute it at one input. -/
def fnExactSubtractIntervalsWrong : ChangeSpec := { name := "fnExactSubtractIntervals", fn := fun _ => fun
  | [d1, d2] => { results := [.lit (.bool false)], args := [d1, d2] }
  | _ => none }
def FnExactSubtractIntervalsWrongFalsely : Prop := fnExactSubtractIntervalsRow.holds Try.pinned (OpenSpec.ofChange fnExactSubtractIntervalsWrong)

/-- 'laws.FnExactScaleInterval': WHATEVER THE INPUT: true; the input reads as it did. -/
def fnExactScaleIntervalSpec : ChangeSpec := { name := "fnExactScaleInterval", fn := fun _ => fun
  | [d1, d2] => { results := [.lit (.bool true)], args := [d1, d2] }
  | _ => none }
def fnExactScaleIntervalRow : OpenClaim := { program := "ytpadigebbgcopaa", sum := "8d946bf85ccc3d5371729b3d33eedbb01c5df7c53561d15f0643b8a0e982b6e7", func := "loop.example/g00916/laws.FnExactScaleInterval", spec := "fnExactScaleInterval", apart := false }
def FnExactScaleIntervalSaid : Prop := fnExactScaleIntervalRow.holds Try.pinned (OpenSpec.ofChange fnExactScaleIntervalSpec)

/-- ITS FALSE NEIGHBOUR: 'it returns false'. Refute it at one input. -/
def fnExactScaleIntervalWrong : ChangeSpec := { name := "fnExactScaleInterval", fn := fun _ => fun
  | [d1, d2] => { results := [.lit (.bool false)], args := [d1, d2] }
  | _ => none }
def FnExactScaleIntervalWrongFalsely : Prop := fnExactScaleIntervalRow.holds Try.pinned (OpenSpec.ofChange fnExactScaleIntervalWrong)

/-- 'laws.FnExactHullOf': WHATEVER THE INPUT: true; the input reads as it did. -/
def fnExactHullOfSpec : ChangeSpec := { name := "fnExactHullOf", fn := fun _ => fun
  | [d1, d2] => { results := [.lit (.bool true)], args := [d1, d2] }
  | _ => none }
def fnExactHullOfRow : OpenClaim := { program := "ytpadigebbgcopaa", sum := "8d946bf85ccc3d5371729b3d33eedbb01c5df7c53561d15f0643b8a0e982b6e7", func := "loop.example/g00916/laws.FnExactHullOf", spec := "fnExactHullOf", unfollowed := true, recurses := true, apart := false }
def FnExactHullOfSaid : Prop := fnExactHullOfRow.holds Try.pinned (OpenSpec.ofChange fnExactHullOfSpec)

/-- ITS FALSE NEIGHBOUR: 'it returns false'. Refute it at one input. -/
def fnExactHullOfWrong : ChangeSpec := { name := "fnExactHullOf", fn := fun _ => fun
  | [d1, d2] => { results := [.lit (.bool false)], args := [d1, d2] }
  | _ => none }
def FnExactHullOfWrongFalsely : Prop := fnExactHullOfRow.holds Try.pinned (OpenSpec.ofChange fnExactHullOfWrong)

/-- 'laws.FnExactCommonPart': WHATEVER THE INPUT: true; the input reads as it did. -/
def fnExactCommonPartSpec : ChangeSpec := { name := "fnExactCommonPart", fn := fun _ => fun
  | [d1, d2] => { results := [.lit (.bool true)], args := [d1, d2] }
  | _ => none }
def fnExactCommonPartRow : OpenClaim := { program := "ytpadigebbgcopaa", sum := "8d946bf85ccc3d5371729b3d33eedbb01c5df7c53561d15f0643b8a0e982b6e7", func := "loop.example/g00916/laws.FnExactCommonPart", spec := "fnExactCommonPart", unfollowed := true, recurses := true, apart := false }
def FnExactCommonPartSaid : Prop := fnExactCommonPartRow.holds Try.pinned (OpenSpec.ofChange fnExactCommonPartSpec)

/-- ITS FALSE NEIGHBOUR: 'it returns false'. Refute it at one input. -/
def fnExactCommonPartWrong : ChangeSpec := { name := "fnExactCommonPart", fn := fun _ => fun
  | [d1, d2] => { results := [.lit (.bool false)], args := [d1, d2] }
  | _ => none }
def FnExactCommonPartWrongFalsely : Prop := fnExactCommonPartRow.holds Try.pinned (OpenSpec.ofChange fnExactCommonPartWrong)

/-- 'laws.FnExactIsWithin': WHATEVER THE INPUT: true; the input reads as it did. -/
def fnExactIsWithinSpec : ChangeSpec := { name := "fnExactIsWithin", fn := fun _ => fun
  | [d1, d2] => { results := [.lit (.bool true)], args := [d1, d2] }
  | _ => none }
def fnExactIsWithinRow : OpenClaim := { program := "ytpadigebbgcopaa", sum := "8d946bf85ccc3d5371729b3d33eedbb01c5df7c53561d15f0643b8a0e982b6e7", func := "loop.example/g00916/laws.FnExactIsWithin", spec := "fnExactIsWithin", apart := false }
def FnExactIsWithinSaid : Prop := fnExactIsWithinRow.holds Try.pinned (OpenSpec.ofChange fnExactIsWithinSpec)

/-- ITS FALSE NEIGHBOUR: 'it returns false'. Refute it at one input. -/
def fnExactIsWithinWrong : ChangeSpec := { name := "fnExactIsWithin", fn := fun _ => fun
  | [d1, d2] => { results := [.lit (.bool false)], args := [d1, d2] }
  | _ => none }
def FnExactIsWithinWrongFalsely : Prop := fnExactIsWithinRow.holds Try.pinned (OpenSpec.ofChange fnExactIsWithinWrong)

/-- 'laws.FnExactCompareIntervals': WHATEVER THE INPUT: true; the input reads as it did. -/
def fnExactCompareIntervalsSpec : ChangeSpec := { name := "fnExactCompareIntervals", fn := fun _ => fun
  | [d1, d2] => { results := [.lit (.bool true)], args := [d1, d2] }
  | _ => none }
def fnExactCompareIntervalsRow : OpenClaim := { program := "ytpadigebbgcopaa", sum := "8d946bf85ccc3d5371729b3d33eedbb01c5df7c53561d15f0643b8a0e982b6e7", func := "loop.example/g00916/laws.FnExactCompareIntervals", spec := "fnExactCompareIntervals", apart := false }
def FnExactCompareIntervalsSaid : Prop := fnExactCompareIntervalsRow.holds Try.pinned (OpenSpec.ofChange fnExactCompareIntervalsSpec)

/-- ITS FALSE NEIGHBOUR: 'it returns false'. Refute it at one input. -/
def fnExactCompareIntervalsWrong : ChangeSpec := { name := "fnExactCompareIntervals", fn := fun _ => fun
  | [d1, d2] => { results := [.lit (.bool false)], args := [d1, d2] }
  | _ => none }
def FnExactCompareIntervalsWrongFalsely : Prop := fnExactCompareIntervalsRow.holds Try.pinned (OpenSpec.ofChange fnExactCompareIntervalsWrong)

/- THE SECOND FORM. 'bulk': how many values and letters a reading holds, each counted each time it is reached (what is shared counts as often as it is met; a slice's spare places count too). A statement '..UptoSaid' is the law's where the arguments, and the package variables that the reading takes, are together of bulk at most 1048576: NARROWER than '..Said'. Prove '..Said' where nothing that the law and all that it calls make is longer than what came in: it says more and counts as full. Else prove '..UptoSaid'. A law counts once. -/
mutual
def uptoBulk {H : Type} : DataW H → Nat
  | .lit (.string bytes) => bytes.length + 1
  | .lit _ => 1
  | .nil => 1
  | .ptr d => uptoBulk d + 1
  | .slice elems spare => uptoBulkAll elems + uptoBulkAll spare + 1
  | .agg parts => uptoBulkAll parts + 1
  | .iface _ d => uptoBulk d + 1
  | .map entries => uptoBulkEntries entries + 1
  | .held _ => 1
def uptoBulkAll {H : Type} : List (DataW H) → Nat
  | [] => 0
  | d :: r => uptoBulk d + uptoBulkAll r
def uptoBulkEntries {H : Type} : List (Lit × DataW H) → Nat
  | [] => 0
  | x :: r => uptoBulkEntry x + uptoBulkEntries r
def uptoBulkEntry {H : Type} : Lit × DataW H → Nat
  | (.string bytes, d) => bytes.length + uptoBulk d + 1
  | (_, d) => uptoBulk d + 1
 end
def uptoSmall : (H : Type) → List (DataW H) → Bool := fun _ ds => decide (uptoBulkAll ds ≤ 1048576)
def OpenSpec.upto (s : _root_.Go.ChangeSpec) : _root_.Go.OpenSpec := { _root_.Go.OpenSpec.ofChange s with cond := some uptoSmall }

/-- 'laws.FnIntervalArithmetic', WHERE WHAT IT READS IS OF BULK AT MOST 1048576: true; the input reads as it did. -/
def fnIntervalArithmeticUptoRow : OpenClaim := { program := "ytpadigebbgcopaa", sum := "8d946bf85ccc3d5371729b3d33eedbb01c5df7c53561d15f0643b8a0e982b6e7", func := "loop.example/g00916/laws.FnIntervalArithmetic", spec := "fnIntervalArithmetic", unfollowed := true, recurses := true, apart := false, narrowed := true }
def FnIntervalArithmeticUptoSaid : Prop := fnIntervalArithmeticUptoRow.holds Try.pinned (OpenSpec.upto fnIntervalArithmeticSpec)

/-- 'laws.FnScaledIntervals', WHERE WHAT IT READS IS OF BULK AT MOST 1048576: true; the input reads as it did. -/
def fnScaledIntervalsUptoRow : OpenClaim := { program := "ytpadigebbgcopaa", sum := "8d946bf85ccc3d5371729b3d33eedbb01c5df7c53561d15f0643b8a0e982b6e7", func := "loop.example/g00916/laws.FnScaledIntervals", spec := "fnScaledIntervals", apart := false, narrowed := true }
def FnScaledIntervalsUptoSaid : Prop := fnScaledIntervalsUptoRow.holds Try.pinned (OpenSpec.upto fnScaledIntervalsSpec)

/-- 'laws.FnIntervalSets', WHERE WHAT IT READS IS OF BULK AT MOST 1048576: true; the input reads as it did. -/
def fnIntervalSetsUptoRow : OpenClaim := { program := "ytpadigebbgcopaa", sum := "8d946bf85ccc3d5371729b3d33eedbb01c5df7c53561d15f0643b8a0e982b6e7", func := "loop.example/g00916/laws.FnIntervalSets", spec := "fnIntervalSets", unfollowed := true, recurses := true, apart := false, narrowed := true }
def FnIntervalSetsUptoSaid : Prop := fnIntervalSetsUptoRow.holds Try.pinned (OpenSpec.upto fnIntervalSetsSpec)

/-- 'laws.FnExactIsInterval', WHERE WHAT IT READS IS OF BULK AT MOST 1048576: true; the input reads as it did. -/
def fnExactIsIntervalUptoRow : OpenClaim := { program := "ytpadigebbgcopaa", sum := "8d946bf85ccc3d5371729b3d33eedbb01c5df7c53561d15f0643b8a0e982b6e7", func := "loop.example/g00916/laws.FnExactIsInterval", spec := "fnExactIsInterval", apart := false, narrowed := true }
def FnExactIsIntervalUptoSaid : Prop := fnExactIsIntervalUptoRow.holds Try.pinned (OpenSpec.upto fnExactIsIntervalSpec)

/-- 'laws.FnExactAddIntervals', WHERE WHAT IT READS IS OF BULK AT MOST 1048576: true; the input reads as it did. -/
def fnExactAddIntervalsUptoRow : OpenClaim := { program := "ytpadigebbgcopaa", sum := "8d946bf85ccc3d5371729b3d33eedbb01c5df7c53561d15f0643b8a0e982b6e7", func := "loop.example/g00916/laws.FnExactAddIntervals", spec := "fnExactAddIntervals", unfollowed := true, recurses := true, apart := false, narrowed := true }
def FnExactAddIntervalsUptoSaid : Prop := fnExactAddIntervalsUptoRow.holds Try.pinned (OpenSpec.upto fnExactAddIntervalsSpec)

/-- 'laws.FnExactSubtractIntervals', WHERE WHAT IT READS IS OF BULK AT MOST 1048576: true; the input reads as it did. -/
def fnExactSubtractIntervalsUptoRow : OpenClaim := { program := "ytpadigebbgcopaa", sum := "8d946bf85ccc3d5371729b3d33eedbb01c5df7c53561d15f0643b8a0e982b6e7", func := "loop.example/g00916/laws.FnExactSubtractIntervals", spec := "fnExactSubtractIntervals", unfollowed := true, recurses := true, apart := false, narrowed := true }
def FnExactSubtractIntervalsUptoSaid : Prop := fnExactSubtractIntervalsUptoRow.holds Try.pinned (OpenSpec.upto fnExactSubtractIntervalsSpec)

/-- 'laws.FnExactScaleInterval', WHERE WHAT IT READS IS OF BULK AT MOST 1048576: true; the input reads as it did. -/
def fnExactScaleIntervalUptoRow : OpenClaim := { program := "ytpadigebbgcopaa", sum := "8d946bf85ccc3d5371729b3d33eedbb01c5df7c53561d15f0643b8a0e982b6e7", func := "loop.example/g00916/laws.FnExactScaleInterval", spec := "fnExactScaleInterval", apart := false, narrowed := true }
def FnExactScaleIntervalUptoSaid : Prop := fnExactScaleIntervalUptoRow.holds Try.pinned (OpenSpec.upto fnExactScaleIntervalSpec)

/-- 'laws.FnExactHullOf', WHERE WHAT IT READS IS OF BULK AT MOST 1048576: true; the input reads as it did. -/
def fnExactHullOfUptoRow : OpenClaim := { program := "ytpadigebbgcopaa", sum := "8d946bf85ccc3d5371729b3d33eedbb01c5df7c53561d15f0643b8a0e982b6e7", func := "loop.example/g00916/laws.FnExactHullOf", spec := "fnExactHullOf", unfollowed := true, recurses := true, apart := false, narrowed := true }
def FnExactHullOfUptoSaid : Prop := fnExactHullOfUptoRow.holds Try.pinned (OpenSpec.upto fnExactHullOfSpec)

/-- 'laws.FnExactCommonPart', WHERE WHAT IT READS IS OF BULK AT MOST 1048576: true; the input reads as it did. -/
def fnExactCommonPartUptoRow : OpenClaim := { program := "ytpadigebbgcopaa", sum := "8d946bf85ccc3d5371729b3d33eedbb01c5df7c53561d15f0643b8a0e982b6e7", func := "loop.example/g00916/laws.FnExactCommonPart", spec := "fnExactCommonPart", unfollowed := true, recurses := true, apart := false, narrowed := true }
def FnExactCommonPartUptoSaid : Prop := fnExactCommonPartUptoRow.holds Try.pinned (OpenSpec.upto fnExactCommonPartSpec)

/-- 'laws.FnExactIsWithin', WHERE WHAT IT READS IS OF BULK AT MOST 1048576: true; the input reads as it did. -/
def fnExactIsWithinUptoRow : OpenClaim := { program := "ytpadigebbgcopaa", sum := "8d946bf85ccc3d5371729b3d33eedbb01c5df7c53561d15f0643b8a0e982b6e7", func := "loop.example/g00916/laws.FnExactIsWithin", spec := "fnExactIsWithin", apart := false, narrowed := true }
def FnExactIsWithinUptoSaid : Prop := fnExactIsWithinUptoRow.holds Try.pinned (OpenSpec.upto fnExactIsWithinSpec)

/-- 'laws.FnExactCompareIntervals', WHERE WHAT IT READS IS OF BULK AT MOST 1048576: true; the input reads as it did. -/
def fnExactCompareIntervalsUptoRow : OpenClaim := { program := "ytpadigebbgcopaa", sum := "8d946bf85ccc3d5371729b3d33eedbb01c5df7c53561d15f0643b8a0e982b6e7", func := "loop.example/g00916/laws.FnExactCompareIntervals", spec := "fnExactCompareIntervals", apart := false, narrowed := true }
def FnExactCompareIntervalsUptoSaid : Prop := fnExactCompareIntervalsUptoRow.holds Try.pinned (OpenSpec.upto fnExactCompareIntervalsSpec)

end Rows
end Go.Proofs.Ytpadigebbgcopaa
