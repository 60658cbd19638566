/-
  No cell of these rows narrows 'for every input' (looked for: loops, veiled, ifaces, maps, wideKeys, modest, calm, conditions, laid).
  DERIVED. THE GIVEN ROWS OF THIS SEAT. 12 by the template 'for every input the law returns true; each argument reads behind the call as it read before'; 0 by the template 'total and deterministic' (their statements: YthheoeeobikkhaaTotals.lean).
  GIVEN WITH THE SEED: the statements are not yours to turn. If you find one false, say at which input.
  Laid BY PROGRAM, IN A SANDBOX (cutbox-rows.mjs): the forced cells as the released guide's own fill.sh prints them over the translation 61306e1cf16d983d… (all of the seat's roots in one cut). By AI agents, Wed Nov 11 2026. No macro, syntax, notation, axiom, sorry.
-/
import Derived.Test.YthheoeeobikkhaaChecked
import GoSem.Claim
import GoSem.ClaimJoined
import GoSem.ClaimMapViews
import Derived.JoinedTies
import Derived.KernelRfl
namespace Go.Proofs.Ythheoeeobikkhaa
/- THE CELL 'sum', in the pinned program and in every row, IS THE sha256 OF THE DUMP (.gsa) THAT YthheoeeobikkhaaProg.lean LOADS. Nothing in Lean hashes anything: it is a label: what it is worth is what the hold of that sum in a sandbox is worth. -/
noncomputable def Try.pinned : Pinned := { name := "ythheoeeobikkhaa", sum := "61306e1cf16d983d291ae8ea708670a727c16215eb7afda1c75e16e7afef7e82", checked := Try.checked }
namespace Rows
def none {H : Type} : Left H := { results := [], args := [] }

/-- 'laws.FnEnergies': WHATEVER THE INPUT: true; the input reads as it did. -/
def fnEnergiesSpec : ChangeSpec := { name := "fnEnergies", fn := fun _ => fun
  | [d] => { results := [.lit (.bool true)], args := [d] }
  | _ => none }
def fnEnergiesRow : OpenClaim := { program := "ythheoeeobikkhaa", sum := "61306e1cf16d983d291ae8ea708670a727c16215eb7afda1c75e16e7afef7e82", func := "loop.example/g00916/laws.FnEnergies", spec := "fnEnergies", apart := false }
def FnEnergiesSaid : Prop := fnEnergiesRow.holds Try.pinned (OpenSpec.ofChange fnEnergiesSpec)

/-- ITS FALSE NEIGHBOUR: 'it returns false'. Refute it at one input. -/
def fnEnergiesWrong : ChangeSpec := { name := "fnEnergies", fn := fun _ => fun
  | [d] => { results := [.lit (.bool false)], args := [d] }
  | _ => none }
def FnEnergiesWrongFalsely : Prop := fnEnergiesRow.holds Try.pinned (OpenSpec.ofChange fnEnergiesWrong)

/-- 'laws.FnEnergyPasses': WHATEVER THE INPUT: true; the input reads as it did. -/
def fnEnergyPassesSpec : ChangeSpec := { name := "fnEnergyPasses", fn := fun _ => fun
  | [d] => { results := [.lit (.bool true)], args := [d] }
  | _ => none }
def fnEnergyPassesRow : OpenClaim := { program := "ythheoeeobikkhaa", sum := "61306e1cf16d983d291ae8ea708670a727c16215eb7afda1c75e16e7afef7e82", func := "loop.example/g00916/laws.FnEnergyPasses", spec := "fnEnergyPasses", apart := false }
def FnEnergyPassesSaid : Prop := fnEnergyPassesRow.holds Try.pinned (OpenSpec.ofChange fnEnergyPassesSpec)

/-- ITS FALSE NEIGHBOUR: 'it returns false'. Refute it at one input. -/
def fnEnergyPassesWrong : ChangeSpec := { name := "fnEnergyPasses", fn := fun _ => fun
  | [d] => { results := [.lit (.bool false)], args := [d] }
  | _ => none }
def FnEnergyPassesWrongFalsely : Prop := fnEnergyPassesRow.holds Try.pinned (OpenSpec.ofChange fnEnergyPassesWrong)

/-- 'laws.FnEnergyRuns': WHATEVER THE INPUT: true; the input reads as it did. -/
def fnEnergyRunsSpec : ChangeSpec := { name := "fnEnergyRuns", fn := fun _ => fun
  | [d] => { results := [.lit (.bool true)], args := [d] }
  | _ => none }
def fnEnergyRunsRow : OpenClaim := { program := "ythheoeeobikkhaa", sum := "61306e1cf16d983d291ae8ea708670a727c16215eb7afda1c75e16e7afef7e82", func := "loop.example/g00916/laws.FnEnergyRuns", spec := "fnEnergyRuns", unfollowed := true, recurses := true, apart := false }
def FnEnergyRunsSaid : Prop := fnEnergyRunsRow.holds Try.pinned (OpenSpec.ofChange fnEnergyRunsSpec)

/-- ITS FALSE NEIGHBOUR: 'it returns false'. Refute it at one input. -/
def fnEnergyRunsWrong : ChangeSpec := { name := "fnEnergyRuns", fn := fun _ => fun
  | [d] => { results := [.lit (.bool false)], args := [d] }
  | _ => none }
def FnEnergyRunsWrongFalsely : Prop := fnEnergyRunsRow.holds Try.pinned (OpenSpec.ofChange fnEnergyRunsWrong)

/-- 'laws.FnEnergyNeeded': WHATEVER THE INPUT: true; the input reads as it did. -/
def fnEnergyNeededSpec : ChangeSpec := { name := "fnEnergyNeeded", fn := fun _ => fun
  | [d] => { results := [.lit (.bool true)], args := [d] }
  | _ => none }
def fnEnergyNeededRow : OpenClaim := { program := "ythheoeeobikkhaa", sum := "61306e1cf16d983d291ae8ea708670a727c16215eb7afda1c75e16e7afef7e82", func := "loop.example/g00916/laws.FnEnergyNeeded", spec := "fnEnergyNeeded", unfollowed := true, recurses := true, apart := false }
def FnEnergyNeededSaid : Prop := fnEnergyNeededRow.holds Try.pinned (OpenSpec.ofChange fnEnergyNeededSpec)

/-- ITS FALSE NEIGHBOUR: 'it returns false'. Refute it at one input. -/
def fnEnergyNeededWrong : ChangeSpec := { name := "fnEnergyNeeded", fn := fun _ => fun
  | [d] => { results := [.lit (.bool false)], args := [d] }
  | _ => none }
def FnEnergyNeededWrongFalsely : Prop := fnEnergyNeededRow.holds Try.pinned (OpenSpec.ofChange fnEnergyNeededWrong)

/-- 'laws.FnExactIsEnergy': WHATEVER THE INPUT: true; the input reads as it did. -/
def fnExactIsEnergySpec : ChangeSpec := { name := "fnExactIsEnergy", fn := fun _ => fun
  | [d] => { results := [.lit (.bool true)], args := [d] }
  | _ => none }
def fnExactIsEnergyRow : OpenClaim := { program := "ythheoeeobikkhaa", sum := "61306e1cf16d983d291ae8ea708670a727c16215eb7afda1c75e16e7afef7e82", func := "loop.example/g00916/laws.FnExactIsEnergy", spec := "fnExactIsEnergy", apart := false }
def FnExactIsEnergySaid : Prop := fnExactIsEnergyRow.holds Try.pinned (OpenSpec.ofChange fnExactIsEnergySpec)

/-- ITS FALSE NEIGHBOUR: 'it returns false'. Refute it at one input. -/
def fnExactIsEnergyWrong : ChangeSpec := { name := "fnExactIsEnergy", fn := fun _ => fun
  | [d] => { results := [.lit (.bool false)], args := [d] }
  | _ => none }
def FnExactIsEnergyWrongFalsely : Prop := fnExactIsEnergyRow.holds Try.pinned (OpenSpec.ofChange fnExactIsEnergyWrong)

/-- 'laws.FnExactEnergyOfSpeed': WHATEVER THE INPUT: true; the input reads as it did. -/
def fnExactEnergyOfSpeedSpec : ChangeSpec := { name := "fnExactEnergyOfSpeed", fn := fun _ => fun
  | [d] => { results := [.lit (.bool true)], args := [d] }
  | _ => none }
def fnExactEnergyOfSpeedRow : OpenClaim := { program := "ythheoeeobikkhaa", sum := "61306e1cf16d983d291ae8ea708670a727c16215eb7afda1c75e16e7afef7e82", func := "loop.example/g00916/laws.FnExactEnergyOfSpeed", spec := "fnExactEnergyOfSpeed", apart := false }
def FnExactEnergyOfSpeedSaid : Prop := fnExactEnergyOfSpeedRow.holds Try.pinned (OpenSpec.ofChange fnExactEnergyOfSpeedSpec)

/-- ITS FALSE NEIGHBOUR: 'it returns false'. Refute it at one input. -/
def fnExactEnergyOfSpeedWrong : ChangeSpec := { name := "fnExactEnergyOfSpeed", fn := fun _ => fun
  | [d] => { results := [.lit (.bool false)], args := [d] }
  | _ => none }
def FnExactEnergyOfSpeedWrongFalsely : Prop := fnExactEnergyOfSpeedRow.holds Try.pinned (OpenSpec.ofChange fnExactEnergyOfSpeedWrong)

/-- 'laws.FnExactSpeedOf': WHATEVER THE INPUT: true; the input reads as it did. -/
def fnExactSpeedOfSpec : ChangeSpec := { name := "fnExactSpeedOf", fn := fun _ => fun
  | [d] => { results := [.lit (.bool true)], args := [d] }
  | _ => none }
def fnExactSpeedOfRow : OpenClaim := { program := "ythheoeeobikkhaa", sum := "61306e1cf16d983d291ae8ea708670a727c16215eb7afda1c75e16e7afef7e82", func := "loop.example/g00916/laws.FnExactSpeedOf", spec := "fnExactSpeedOf", apart := false }
def FnExactSpeedOfSaid : Prop := fnExactSpeedOfRow.holds Try.pinned (OpenSpec.ofChange fnExactSpeedOfSpec)

/-- ITS FALSE NEIGHBOUR: 'it returns false'. Refute it at one input. -/
def fnExactSpeedOfWrong : ChangeSpec := { name := "fnExactSpeedOf", fn := fun _ => fun
  | [d] => { results := [.lit (.bool false)], args := [d] }
  | _ => none }
def FnExactSpeedOfWrongFalsely : Prop := fnExactSpeedOfRow.holds Try.pinned (OpenSpec.ofChange fnExactSpeedOfWrong)

/-- 'laws.FnExactChangeOf': WHATEVER THE INPUT: true; the input reads as it did. -/
def fnExactChangeOfSpec : ChangeSpec := { name := "fnExactChangeOf", fn := fun _ => fun
  | [d] => { results := [.lit (.bool true)], args := [d] }
  | _ => none }
def fnExactChangeOfRow : OpenClaim := { program := "ythheoeeobikkhaa", sum := "61306e1cf16d983d291ae8ea708670a727c16215eb7afda1c75e16e7afef7e82", func := "loop.example/g00916/laws.FnExactChangeOf", spec := "fnExactChangeOf", apart := false }
def FnExactChangeOfSaid : Prop := fnExactChangeOfRow.holds Try.pinned (OpenSpec.ofChange fnExactChangeOfSpec)

/-- ITS FALSE NEIGHBOUR: 'it returns false'. Refute it at one input. -/
def fnExactChangeOfWrong : ChangeSpec := { name := "fnExactChangeOf", fn := fun _ => fun
  | [d] => { results := [.lit (.bool false)], args := [d] }
  | _ => none }
def FnExactChangeOfWrongFalsely : Prop := fnExactChangeOfRow.holds Try.pinned (OpenSpec.ofChange fnExactChangeOfWrong)

/-- 'laws.FnExactPassVerdict': WHATEVER THE INPUT: true; the input reads as it did. -/
def fnExactPassVerdictSpec : ChangeSpec := { name := "fnExactPassVerdict", fn := fun _ => fun
  | [d1, d2] => { results := [.lit (.bool true)], args := [d1, d2] }
  | _ => none }
def fnExactPassVerdictRow : OpenClaim := { program := "ythheoeeobikkhaa", sum := "61306e1cf16d983d291ae8ea708670a727c16215eb7afda1c75e16e7afef7e82", func := "loop.example/g00916/laws.FnExactPassVerdict", spec := "fnExactPassVerdict", apart := false }
def FnExactPassVerdictSaid : Prop := fnExactPassVerdictRow.holds Try.pinned (OpenSpec.ofChange fnExactPassVerdictSpec)

/-- ITS FALSE NEIGHBOUR: 'it returns false'. Refute it at one input. -/
def fnExactPassVerdictWrong : ChangeSpec := { name := "fnExactPassVerdict", fn := fun _ => fun
  | [d1, d2] => { results := [.lit (.bool false)], args := [d1, d2] }
  | _ => none }
def FnExactPassVerdictWrongFalsely : Prop := fnExactPassVerdictRow.holds Try.pinned (OpenSpec.ofChange fnExactPassVerdictWrong)

/-- 'laws.FnExactEnergyAfter': WHATEVER THE INPUT: true; the input reads as it did. -/
def fnExactEnergyAfterSpec : ChangeSpec := { name := "fnExactEnergyAfter", fn := fun _ => fun
  | [d1, d2] => { results := [.lit (.bool true)], args := [d1, d2] }
  | _ => none }
def fnExactEnergyAfterRow : OpenClaim := { program := "ythheoeeobikkhaa", sum := "61306e1cf16d983d291ae8ea708670a727c16215eb7afda1c75e16e7afef7e82", func := "loop.example/g00916/laws.FnExactEnergyAfter", spec := "fnExactEnergyAfter", apart := false }
def FnExactEnergyAfterSaid : Prop := fnExactEnergyAfterRow.holds Try.pinned (OpenSpec.ofChange fnExactEnergyAfterSpec)

/-- ITS FALSE NEIGHBOUR: 'it returns false'. Refute it at one input. -/
def fnExactEnergyAfterWrong : ChangeSpec := { name := "fnExactEnergyAfter", fn := fun _ => fun
  | [d1, d2] => { results := [.lit (.bool false)], args := [d1, d2] }
  | _ => none }
def FnExactEnergyAfterWrongFalsely : Prop := fnExactEnergyAfterRow.holds Try.pinned (OpenSpec.ofChange fnExactEnergyAfterWrong)

/-- 'laws.FnExactEnergyAlong': WHATEVER THE INPUT: true; the input reads as it did. -/
def fnExactEnergyAlongSpec : ChangeSpec := { name := "fnExactEnergyAlong", fn := fun _ => fun
  | [d1, d2, d3, d4] => { results := [.lit (.bool true)], args := [d1, d2, d3, d4] }
  | _ => none }
def fnExactEnergyAlongRow : OpenClaim := { program := "ythheoeeobikkhaa", sum := "61306e1cf16d983d291ae8ea708670a727c16215eb7afda1c75e16e7afef7e82", func := "loop.example/g00916/laws.FnExactEnergyAlong", spec := "fnExactEnergyAlong", unfollowed := true, recurses := true, apart := false }
def FnExactEnergyAlongSaid : Prop := fnExactEnergyAlongRow.holds Try.pinned (OpenSpec.ofChange fnExactEnergyAlongSpec)

/-- ITS FALSE NEIGHBOUR: 'it returns false'. Refute it at one input. -/
def fnExactEnergyAlongWrong : ChangeSpec := { name := "fnExactEnergyAlong", fn := fun _ => fun
  | [d1, d2, d3, d4] => { results := [.lit (.bool false)], args := [d1, d2, d3, d4] }
  | _ => none }
def FnExactEnergyAlongWrongFalsely : Prop := fnExactEnergyAlongRow.holds Try.pinned (OpenSpec.ofChange fnExactEnergyAlongWrong)

/-- 'laws.FnExactEnergyNeeded': WHATEVER THE INPUT: true; the input reads as it did. -/
def fnExactEnergyNeededSpec : ChangeSpec := { name := "fnExactEnergyNeeded", fn := fun _ => fun
  | [d1, d2, d3] => { results := [.lit (.bool true)], args := [d1, d2, d3] }
  | _ => none }
def fnExactEnergyNeededRow : OpenClaim := { program := "ythheoeeobikkhaa", sum := "61306e1cf16d983d291ae8ea708670a727c16215eb7afda1c75e16e7afef7e82", func := "loop.example/g00916/laws.FnExactEnergyNeeded", spec := "fnExactEnergyNeeded", unfollowed := true, recurses := true, apart := false }
def FnExactEnergyNeededSaid : Prop := fnExactEnergyNeededRow.holds Try.pinned (OpenSpec.ofChange fnExactEnergyNeededSpec)

/-- ITS FALSE NEIGHBOUR: 'it returns false'. Refute it at one input. -/
def fnExactEnergyNeededWrong : ChangeSpec := { name := "fnExactEnergyNeeded", fn := fun _ => fun
  | [d1, d2, d3] => { results := [.lit (.bool false)], args := [d1, d2, d3] }
  | _ => none }
def FnExactEnergyNeededWrongFalsely : Prop := fnExactEnergyNeededRow.holds Try.pinned (OpenSpec.ofChange fnExactEnergyNeededWrong)

/- THE SECOND FORM. 'bulk': how many values and letters a reading holds, each counted each time it is reached (what is shared counts as often as it is met; a slice's spare places count too). A statement '..UptoSaid' is the law's where the arguments, and the package variables that the reading takes, are together of bulk at most 1048576: NARROWER than '..Said'. Prove '..Said' where nothing that the law and all that it calls make is longer than what came in: it says more and counts as full. Else prove '..UptoSaid'. A law counts once. -/
mutual
def uptoBulk {H : Type} : DataW H → Nat
  | .lit (.string bytes) => bytes.length + 1
  | .lit _ => 1
  | .nil => 1
  | .ptr d => uptoBulk d + 1
  | .slice elems spare => uptoBulkAll elems + uptoBulkAll spare + 1
  | .agg parts => uptoBulkAll parts + 1
  | .iface _ d => uptoBulk d + 1
  | .map entries => uptoBulkEntries entries + 1
  | .held _ => 1
def uptoBulkAll {H : Type} : List (DataW H) → Nat
  | [] => 0
  | d :: r => uptoBulk d + uptoBulkAll r
def uptoBulkEntries {H : Type} : List (Lit × DataW H) → Nat
  | [] => 0
  | x :: r => uptoBulkEntry x + uptoBulkEntries r
def uptoBulkEntry {H : Type} : Lit × DataW H → Nat
  | (.string bytes, d) => bytes.length + uptoBulk d + 1
  | (_, d) => uptoBulk d + 1
 end
def uptoSmall : (H : Type) → List (DataW H) → Bool := fun _ ds => decide (uptoBulkAll ds ≤ 1048576)
def OpenSpec.upto (s : _root_.Go.ChangeSpec) : _root_.Go.OpenSpec := { _root_.Go.OpenSpec.ofChange s with cond := some uptoSmall }

/-- 'laws.FnEnergies', WHERE WHAT IT READS IS OF BULK AT MOST 1048576: true; the input reads as it did. -/
def fnEnergiesUptoRow : OpenClaim := { program := "ythheoeeobikkhaa", sum := "61306e1cf16d983d291ae8ea708670a727c16215eb7afda1c75e16e7afef7e82", func := "loop.example/g00916/laws.FnEnergies", spec := "fnEnergies", apart := false, narrowed := true }
def FnEnergiesUptoSaid : Prop := fnEnergiesUptoRow.holds Try.pinned (OpenSpec.upto fnEnergiesSpec)

/-- 'laws.FnEnergyPasses', WHERE WHAT IT READS IS OF BULK AT MOST 1048576: true; the input reads as it did. -/
def fnEnergyPassesUptoRow : OpenClaim := { program := "ythheoeeobikkhaa", sum := "61306e1cf16d983d291ae8ea708670a727c16215eb7afda1c75e16e7afef7e82", func := "loop.example/g00916/laws.FnEnergyPasses", spec := "fnEnergyPasses", apart := false, narrowed := true }
def FnEnergyPassesUptoSaid : Prop := fnEnergyPassesUptoRow.holds Try.pinned (OpenSpec.upto fnEnergyPassesSpec)

/-- 'laws.FnEnergyRuns', WHERE WHAT IT READS IS OF BULK AT MOST 1048576: true; the input reads as it did. -/
def fnEnergyRunsUptoRow : OpenClaim := { program := "ythheoeeobikkhaa", sum := "61306e1cf16d983d291ae8ea708670a727c16215eb7afda1c75e16e7afef7e82", func := "loop.example/g00916/laws.FnEnergyRuns", spec := "fnEnergyRuns", unfollowed := true, recurses := true, apart := false, narrowed := true }
def FnEnergyRunsUptoSaid : Prop := fnEnergyRunsUptoRow.holds Try.pinned (OpenSpec.upto fnEnergyRunsSpec)

/-- 'laws.FnEnergyNeeded', WHERE WHAT IT READS IS OF BULK AT MOST 1048576: true; the input reads as it did. -/
def fnEnergyNeededUptoRow : OpenClaim := { program := "ythheoeeobikkhaa", sum := "61306e1cf16d983d291ae8ea708670a727c16215eb7afda1c75e16e7afef7e82", func := "loop.example/g00916/laws.FnEnergyNeeded", spec := "fnEnergyNeeded", unfollowed := true, recurses := true, apart := false, narrowed := true }
def FnEnergyNeededUptoSaid : Prop := fnEnergyNeededUptoRow.holds Try.pinned (OpenSpec.upto fnEnergyNeededSpec)

/-- 'laws.FnExactIsEnergy', WHERE WHAT IT READS IS OF BULK AT MOST 1048576: true; the input reads as it did. -/
def fnExactIsEnergyUptoRow : OpenClaim := { program := "ythheoeeobikkhaa", sum := "61306e1cf16d983d291ae8ea708670a727c16215eb7afda1c75e16e7afef7e82", func := "loop.example/g00916/laws.FnExactIsEnergy", spec := "fnExactIsEnergy", apart := false, narrowed := true }
def FnExactIsEnergyUptoSaid : Prop := fnExactIsEnergyUptoRow.holds Try.pinned (OpenSpec.upto fnExactIsEnergySpec)

/-- 'laws.FnExactEnergyOfSpeed', WHERE WHAT IT READS IS OF BULK AT MOST 1048576: true; the input reads as it did. -/
def fnExactEnergyOfSpeedUptoRow : OpenClaim := { program := "ythheoeeobikkhaa", sum := "61306e1cf16d983d291ae8ea708670a727c16215eb7afda1c75e16e7afef7e82", func := "loop.example/g00916/laws.FnExactEnergyOfSpeed", spec := "fnExactEnergyOfSpeed", apart := false, narrowed := true }
def FnExactEnergyOfSpeedUptoSaid : Prop := fnExactEnergyOfSpeedUptoRow.holds Try.pinned (OpenSpec.upto fnExactEnergyOfSpeedSpec)

/-- 'laws.FnExactSpeedOf', WHERE WHAT IT READS IS OF BULK AT MOST 1048576: true; the input reads as it did. -/
def fnExactSpeedOfUptoRow : OpenClaim := { program := "ythheoeeobikkhaa", sum := "61306e1cf16d983d291ae8ea708670a727c16215eb7afda1c75e16e7afef7e82", func := "loop.example/g00916/laws.FnExactSpeedOf", spec := "fnExactSpeedOf", apart := false, narrowed := true }
def FnExactSpeedOfUptoSaid : Prop := fnExactSpeedOfUptoRow.holds Try.pinned (OpenSpec.upto fnExactSpeedOfSpec)

/-- 'laws.FnExactChangeOf', WHERE WHAT IT READS IS OF BULK AT MOST 1048576: true; the input reads as it did. -/
def fnExactChangeOfUptoRow : OpenClaim := { program := "ythheoeeobikkhaa", sum := "61306e1cf16d983d291ae8ea708670a727c16215eb7afda1c75e16e7afef7e82", func := "loop.example/g00916/laws.FnExactChangeOf", spec := "fnExactChangeOf", apart := false, narrowed := true }
def FnExactChangeOfUptoSaid : Prop := fnExactChangeOfUptoRow.holds Try.pinned (OpenSpec.upto fnExactChangeOfSpec)

/-- 'laws.FnExactPassVerdict', WHERE WHAT IT READS IS OF BULK AT MOST 1048576: true; the input reads as it did. -/
def fnExactPassVerdictUptoRow : OpenClaim := { program := "ythheoeeobikkhaa", sum := "61306e1cf16d983d291ae8ea708670a727c16215eb7afda1c75e16e7afef7e82", func := "loop.example/g00916/laws.FnExactPassVerdict", spec := "fnExactPassVerdict", apart := false, narrowed := true }
def FnExactPassVerdictUptoSaid : Prop := fnExactPassVerdictUptoRow.holds Try.pinned (OpenSpec.upto fnExactPassVerdictSpec)

/-- 'laws.FnExactEnergyAfter', WHERE WHAT IT READS IS OF BULK AT MOST 1048576: true; the input reads as it did. -/
def fnExactEnergyAfterUptoRow : OpenClaim := { program := "ythheoeeobikkhaa", sum := "61306e1cf16d983d291ae8ea708670a727c16215eb7afda1c75e16e7afef7e82", func := "loop.example/g00916/laws.FnExactEnergyAfter", spec := "fnExactEnergyAfter", apart := false, narrowed := true }
def FnExactEnergyAfterUptoSaid : Prop := fnExactEnergyAfterUptoRow.holds Try.pinned (OpenSpec.upto fnExactEnergyAfterSpec)

/-- 'laws.FnExactEnergyAlong', WHERE WHAT IT READS IS OF BULK AT MOST 1048576: true; the input reads as it did. -/
def fnExactEnergyAlongUptoRow : OpenClaim := { program := "ythheoeeobikkhaa", sum := "61306e1cf16d983d291ae8ea708670a727c16215eb7afda1c75e16e7afef7e82", func := "loop.example/g00916/laws.FnExactEnergyAlong", spec := "fnExactEnergyAlong", unfollowed := true, recurses := true, apart := false, narrowed := true }
def FnExactEnergyAlongUptoSaid : Prop := fnExactEnergyAlongUptoRow.holds Try.pinned (OpenSpec.upto fnExactEnergyAlongSpec)

/-- 'laws.FnExactEnergyNeeded', WHERE WHAT IT READS IS OF BULK AT MOST 1048576: true; the input reads as it did. -/
def fnExactEnergyNeededUptoRow : OpenClaim := { program := "ythheoeeobikkhaa", sum := "61306e1cf16d983d291ae8ea708670a727c16215eb7afda1c75e16e7afef7e82", func := "loop.example/g00916/laws.FnExactEnergyNeeded", spec := "fnExactEnergyNeeded", unfollowed := true, recurses := true, apart := false, narrowed := true }
def FnExactEnergyNeededUptoSaid : Prop := fnExactEnergyNeededUptoRow.holds Try.pinned (OpenSpec.upto fnExactEnergyNeededSpec)

end Rows
end Go.Proofs.Ythheoeeobikkhaa
