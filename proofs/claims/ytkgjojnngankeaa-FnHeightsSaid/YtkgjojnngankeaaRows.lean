/-
  No cell of these rows narrows 'for every input' (looked for: loops, veiled, ifaces, maps, wideKeys, modest, calm, conditions, laid).
  DERIVED. THE GIVEN ROWS OF THIS SEAT. 9 by the template 'for every input the law returns true; each argument reads behind the call as it read before'; 0 by the template 'total and deterministic' (their statements: YtkgjojnngankeaaTotals.lean).
  GIVEN WITH THE SEED: the statements are not yours to turn. If you find one false, say at which input.
  Laid BY PROGRAM, IN A SANDBOX (cutbox-rows.mjs): the forced cells as the released guide's own fill.sh prints them over the translation 443739ecf96f034b… (all of the seat's roots in one cut). By AI agents, Wed Nov 11 2026. No macro, syntax, notation, axiom, sorry.
-/
import Derived.Test.YtkgjojnngankeaaChecked
import GoSem.Claim
import GoSem.ClaimJoined
import GoSem.ClaimMapViews
import Derived.JoinedTies
import Derived.KernelRfl
namespace Go.Proofs.Ytkgjojnngankeaa
/- THE CELL 'sum', in the pinned program and in every row, IS THE sha256 OF THE DUMP (.gsa) THAT YtkgjojnngankeaaProg.lean LOADS. Nothing in Lean hashes anything: it is a label: what it is worth is what the hold of that sum in a sandbox is worth. -/
noncomputable def Try.pinned : Pinned := { name := "ytkgjojnngankeaa", sum := "443739ecf96f034ba74e812e452f0fd4f125cd0f57f93444f03423d6716b35b3", checked := Try.checked }
namespace Rows
def none {H : Type} : Left H := { results := [], args := [] }

/-- 'laws.FnPositions': WHATEVER THE INPUT: true; the input reads as it did. -/
def fnPositionsSpec : ChangeSpec := { name := "fnPositions", fn := fun _ => fun
  | [d] => { results := [.lit (.bool true)], args := [d] }
  | _ => none }
def fnPositionsRow : OpenClaim := { program := "ytkgjojnngankeaa", sum := "443739ecf96f034ba74e812e452f0fd4f125cd0f57f93444f03423d6716b35b3", func := "loop.example/g00916/laws.FnPositions", spec := "fnPositions", apart := false }
def FnPositionsSaid : Prop := fnPositionsRow.holds Try.pinned (OpenSpec.ofChange fnPositionsSpec)

/-- ITS FALSE NEIGHBOUR: 'it returns false'. Refute it at one input. -/
def fnPositionsWrong : ChangeSpec := { name := "fnPositions", fn := fun _ => fun
  | [d] => { results := [.lit (.bool false)], args := [d] }
  | _ => none }
def FnPositionsWrongFalsely : Prop := fnPositionsRow.holds Try.pinned (OpenSpec.ofChange fnPositionsWrong)

/-- 'laws.FnHeights': WHATEVER THE INPUT: true; the input reads as it did. -/
def fnHeightsSpec : ChangeSpec := { name := "fnHeights", fn := fun _ => fun
  | [d] => { results := [.lit (.bool true)], args := [d] }
  | _ => none }
def fnHeightsRow : OpenClaim := { program := "ytkgjojnngankeaa", sum := "443739ecf96f034ba74e812e452f0fd4f125cd0f57f93444f03423d6716b35b3", func := "loop.example/g00916/laws.FnHeights", spec := "fnHeights", apart := false }
def FnHeightsSaid : Prop := fnHeightsRow.holds Try.pinned (OpenSpec.ofChange fnHeightsSpec)

/-- ITS FALSE NEIGHBOUR: 'it returns false'. Refute it at one input. -/
def fnHeightsWrong : ChangeSpec := { name := "fnHeights", fn := fun _ => fun
  | [d] => { results := [.lit (.bool false)], args := [d] }
  | _ => none }
def FnHeightsWrongFalsely : Prop := fnHeightsRow.holds Try.pinned (OpenSpec.ofChange fnHeightsWrong)

/-- 'laws.FnExactIsSegment': WHATEVER THE INPUT: true; the input reads as it did. -/
def fnExactIsSegmentSpec : ChangeSpec := { name := "fnExactIsSegment", fn := fun _ => fun
  | [d] => { results := [.lit (.bool true)], args := [d] }
  | _ => none }
def fnExactIsSegmentRow : OpenClaim := { program := "ytkgjojnngankeaa", sum := "443739ecf96f034ba74e812e452f0fd4f125cd0f57f93444f03423d6716b35b3", func := "loop.example/g00916/laws.FnExactIsSegment", spec := "fnExactIsSegment", apart := false }
def FnExactIsSegmentSaid : Prop := fnExactIsSegmentRow.holds Try.pinned (OpenSpec.ofChange fnExactIsSegmentSpec)

/-- ITS FALSE NEIGHBOUR: 'it returns false'. Refute it at one input. -/
def fnExactIsSegmentWrong : ChangeSpec := { name := "fnExactIsSegment", fn := fun _ => fun
  | [d] => { results := [.lit (.bool false)], args := [d] }
  | _ => none }
def FnExactIsSegmentWrongFalsely : Prop := fnExactIsSegmentRow.holds Try.pinned (OpenSpec.ofChange fnExactIsSegmentWrong)

/-- 'laws.FnExactHolds': WHATEVER THE INPUT: true; the input reads as it did. -/
def fnExactHoldsSpec : ChangeSpec := { name := "fnExactHolds", fn := fun _ => fun
  | [d] => { results := [.lit (.bool true)], args := [d] }
  | _ => none }
def fnExactHoldsRow : OpenClaim := { program := "ytkgjojnngankeaa", sum := "443739ecf96f034ba74e812e452f0fd4f125cd0f57f93444f03423d6716b35b3", func := "loop.example/g00916/laws.FnExactHolds", spec := "fnExactHolds", apart := false }
def FnExactHoldsSaid : Prop := fnExactHoldsRow.holds Try.pinned (OpenSpec.ofChange fnExactHoldsSpec)

/-- ITS FALSE NEIGHBOUR: 'it returns false'. Refute it at one input. -/
def fnExactHoldsWrong : ChangeSpec := { name := "fnExactHolds", fn := fun _ => fun
  | [d] => { results := [.lit (.bool false)], args := [d] }
  | _ => none }
def FnExactHoldsWrongFalsely : Prop := fnExactHoldsRow.holds Try.pinned (OpenSpec.ofChange fnExactHoldsWrong)

/-- 'laws.FnExactIsLayout': WHATEVER THE INPUT: true; the input reads as it did. -/
def fnExactIsLayoutSpec : ChangeSpec := { name := "fnExactIsLayout", fn := fun _ => fun
  | [d] => { results := [.lit (.bool true)], args := [d] }
  | _ => none }
def fnExactIsLayoutRow : OpenClaim := { program := "ytkgjojnngankeaa", sum := "443739ecf96f034ba74e812e452f0fd4f125cd0f57f93444f03423d6716b35b3", func := "loop.example/g00916/laws.FnExactIsLayout", spec := "fnExactIsLayout", apart := false }
def FnExactIsLayoutSaid : Prop := fnExactIsLayoutRow.holds Try.pinned (OpenSpec.ofChange fnExactIsLayoutSpec)

/-- ITS FALSE NEIGHBOUR: 'it returns false'. Refute it at one input. -/
def fnExactIsLayoutWrong : ChangeSpec := { name := "fnExactIsLayout", fn := fun _ => fun
  | [d] => { results := [.lit (.bool false)], args := [d] }
  | _ => none }
def FnExactIsLayoutWrongFalsely : Prop := fnExactIsLayoutRow.holds Try.pinned (OpenSpec.ofChange fnExactIsLayoutWrong)

/-- 'laws.FnExactTrackLength': WHATEVER THE INPUT: true; the input reads as it did. -/
def fnExactTrackLengthSpec : ChangeSpec := { name := "fnExactTrackLength", fn := fun _ => fun
  | [d] => { results := [.lit (.bool true)], args := [d] }
  | _ => none }
def fnExactTrackLengthRow : OpenClaim := { program := "ytkgjojnngankeaa", sum := "443739ecf96f034ba74e812e452f0fd4f125cd0f57f93444f03423d6716b35b3", func := "loop.example/g00916/laws.FnExactTrackLength", spec := "fnExactTrackLength", apart := false }
def FnExactTrackLengthSaid : Prop := fnExactTrackLengthRow.holds Try.pinned (OpenSpec.ofChange fnExactTrackLengthSpec)

/-- ITS FALSE NEIGHBOUR: 'it returns false'. Refute it at one input. -/
def fnExactTrackLengthWrong : ChangeSpec := { name := "fnExactTrackLength", fn := fun _ => fun
  | [d] => { results := [.lit (.bool false)], args := [d] }
  | _ => none }
def FnExactTrackLengthWrongFalsely : Prop := fnExactTrackLengthRow.holds Try.pinned (OpenSpec.ofChange fnExactTrackLengthWrong)

/-- 'laws.FnExactSegmentStarts': WHATEVER THE INPUT: true; the input reads as it did. -/
def fnExactSegmentStartsSpec : ChangeSpec := { name := "fnExactSegmentStarts", fn := fun _ => fun
  | [d] => { results := [.lit (.bool true)], args := [d] }
  | _ => none }
def fnExactSegmentStartsRow : OpenClaim := { program := "ytkgjojnngankeaa", sum := "443739ecf96f034ba74e812e452f0fd4f125cd0f57f93444f03423d6716b35b3", func := "loop.example/g00916/laws.FnExactSegmentStarts", spec := "fnExactSegmentStarts", apart := false }
def FnExactSegmentStartsSaid : Prop := fnExactSegmentStartsRow.holds Try.pinned (OpenSpec.ofChange fnExactSegmentStartsSpec)

/-- ITS FALSE NEIGHBOUR: 'it returns false'. Refute it at one input. -/
def fnExactSegmentStartsWrong : ChangeSpec := { name := "fnExactSegmentStarts", fn := fun _ => fun
  | [d] => { results := [.lit (.bool false)], args := [d] }
  | _ => none }
def FnExactSegmentStartsWrongFalsely : Prop := fnExactSegmentStartsRow.holds Try.pinned (OpenSpec.ofChange fnExactSegmentStartsWrong)

/-- 'laws.FnExactSegmentAt': WHATEVER THE INPUT: true; the input reads as it did. -/
def fnExactSegmentAtSpec : ChangeSpec := { name := "fnExactSegmentAt", fn := fun _ => fun
  | [d1, d2] => { results := [.lit (.bool true)], args := [d1, d2] }
  | _ => none }
def fnExactSegmentAtRow : OpenClaim := { program := "ytkgjojnngankeaa", sum := "443739ecf96f034ba74e812e452f0fd4f125cd0f57f93444f03423d6716b35b3", func := "loop.example/g00916/laws.FnExactSegmentAt", spec := "fnExactSegmentAt", apart := false }
def FnExactSegmentAtSaid : Prop := fnExactSegmentAtRow.holds Try.pinned (OpenSpec.ofChange fnExactSegmentAtSpec)

/-- ITS FALSE NEIGHBOUR: 'it returns false'. Refute it at one input. -/
def fnExactSegmentAtWrong : ChangeSpec := { name := "fnExactSegmentAt", fn := fun _ => fun
  | [d1, d2] => { results := [.lit (.bool false)], args := [d1, d2] }
  | _ => none }
def FnExactSegmentAtWrongFalsely : Prop := fnExactSegmentAtRow.holds Try.pinned (OpenSpec.ofChange fnExactSegmentAtWrong)

/-- 'laws.FnExactHeightAt': WHATEVER THE INPUT: true; the input reads as it did. -/
def fnExactHeightAtSpec : ChangeSpec := { name := "fnExactHeightAt", fn := fun _ => fun
  | [d1, d2] => { results := [.lit (.bool true)], args := [d1, d2] }
  | _ => none }
def fnExactHeightAtRow : OpenClaim := { program := "ytkgjojnngankeaa", sum := "443739ecf96f034ba74e812e452f0fd4f125cd0f57f93444f03423d6716b35b3", func := "loop.example/g00916/laws.FnExactHeightAt", spec := "fnExactHeightAt", apart := false }
def FnExactHeightAtSaid : Prop := fnExactHeightAtRow.holds Try.pinned (OpenSpec.ofChange fnExactHeightAtSpec)

/-- ITS FALSE NEIGHBOUR: 'it returns false'. Refute it at one input. -/
def fnExactHeightAtWrong : ChangeSpec := { name := "fnExactHeightAt", fn := fun _ => fun
  | [d1, d2] => { results := [.lit (.bool false)], args := [d1, d2] }
  | _ => none }
def FnExactHeightAtWrongFalsely : Prop := fnExactHeightAtRow.holds Try.pinned (OpenSpec.ofChange fnExactHeightAtWrong)

/- THE SECOND FORM. 'bulk': how many values and letters a reading holds, each counted each time it is reached (what is shared counts as often as it is met; a slice's spare places count too). A statement '..UptoSaid' is the law's where the arguments, and the package variables that the reading takes, are together of bulk at most 1048576: NARROWER than '..Said'. Prove '..Said' where nothing that the law and all that it calls make is longer than what came in: it says more and counts as full. Else prove '..UptoSaid'. A law counts once. -/
mutual
def uptoBulk {H : Type} : DataW H → Nat
  | .lit (.string bytes) => bytes.length + 1
  | .lit _ => 1
  | .nil => 1
  | .ptr d => uptoBulk d + 1
  | .slice elems spare => uptoBulkAll elems + uptoBulkAll spare + 1
  | .agg parts => uptoBulkAll parts + 1
  | .iface _ d => uptoBulk d + 1
  | .map entries => uptoBulkEntries entries + 1
  | .held _ => 1
def uptoBulkAll {H : Type} : List (DataW H) → Nat
  | [] => 0
  | d :: r => uptoBulk d + uptoBulkAll r
def uptoBulkEntries {H : Type} : List (Lit × DataW H) → Nat
  | [] => 0
  | x :: r => uptoBulkEntry x + uptoBulkEntries r
def uptoBulkEntry {H : Type} : Lit × DataW H → Nat
  | (.string bytes, d) => bytes.length + uptoBulk d + 1
  | (_, d) => uptoBulk d + 1
 end
def uptoSmall : (H : Type) → List (DataW H) → Bool := fun _ ds => decide (uptoBulkAll ds ≤ 1048576)
def OpenSpec.upto (s : _root_.Go.ChangeSpec) : _root_.Go.OpenSpec := { _root_.Go.OpenSpec.ofChange s with cond := some uptoSmall }

/-- 'laws.FnPositions', WHERE WHAT IT READS IS OF BULK AT MOST 1048576: true; the input reads as it did. -/
def fnPositionsUptoRow : OpenClaim := { program := "ytkgjojnngankeaa", sum := "443739ecf96f034ba74e812e452f0fd4f125cd0f57f93444f03423d6716b35b3", func := "loop.example/g00916/laws.FnPositions", spec := "fnPositions", apart := false, narrowed := true }
def FnPositionsUptoSaid : Prop := fnPositionsUptoRow.holds Try.pinned (OpenSpec.upto fnPositionsSpec)

/-- 'laws.FnHeights', WHERE WHAT IT READS IS OF BULK AT MOST 1048576: true; the input reads as it did. -/
def fnHeightsUptoRow : OpenClaim := { program := "ytkgjojnngankeaa", sum := "443739ecf96f034ba74e812e452f0fd4f125cd0f57f93444f03423d6716b35b3", func := "loop.example/g00916/laws.FnHeights", spec := "fnHeights", apart := false, narrowed := true }
def FnHeightsUptoSaid : Prop := fnHeightsUptoRow.holds Try.pinned (OpenSpec.upto fnHeightsSpec)

/-- 'laws.FnExactIsSegment', WHERE WHAT IT READS IS OF BULK AT MOST 1048576: true; the input reads as it did. -/
def fnExactIsSegmentUptoRow : OpenClaim := { program := "ytkgjojnngankeaa", sum := "443739ecf96f034ba74e812e452f0fd4f125cd0f57f93444f03423d6716b35b3", func := "loop.example/g00916/laws.FnExactIsSegment", spec := "fnExactIsSegment", apart := false, narrowed := true }
def FnExactIsSegmentUptoSaid : Prop := fnExactIsSegmentUptoRow.holds Try.pinned (OpenSpec.upto fnExactIsSegmentSpec)

/-- 'laws.FnExactHolds', WHERE WHAT IT READS IS OF BULK AT MOST 1048576: true; the input reads as it did. -/
def fnExactHoldsUptoRow : OpenClaim := { program := "ytkgjojnngankeaa", sum := "443739ecf96f034ba74e812e452f0fd4f125cd0f57f93444f03423d6716b35b3", func := "loop.example/g00916/laws.FnExactHolds", spec := "fnExactHolds", apart := false, narrowed := true }
def FnExactHoldsUptoSaid : Prop := fnExactHoldsUptoRow.holds Try.pinned (OpenSpec.upto fnExactHoldsSpec)

/-- 'laws.FnExactIsLayout', WHERE WHAT IT READS IS OF BULK AT MOST 1048576: true; the input reads as it did. -/
def fnExactIsLayoutUptoRow : OpenClaim := { program := "ytkgjojnngankeaa", sum := "443739ecf96f034ba74e812e452f0fd4f125cd0f57f93444f03423d6716b35b3", func := "loop.example/g00916/laws.FnExactIsLayout", spec := "fnExactIsLayout", apart := false, narrowed := true }
def FnExactIsLayoutUptoSaid : Prop := fnExactIsLayoutUptoRow.holds Try.pinned (OpenSpec.upto fnExactIsLayoutSpec)

/-- 'laws.FnExactTrackLength', WHERE WHAT IT READS IS OF BULK AT MOST 1048576: true; the input reads as it did. -/
def fnExactTrackLengthUptoRow : OpenClaim := { program := "ytkgjojnngankeaa", sum := "443739ecf96f034ba74e812e452f0fd4f125cd0f57f93444f03423d6716b35b3", func := "loop.example/g00916/laws.FnExactTrackLength", spec := "fnExactTrackLength", apart := false, narrowed := true }
def FnExactTrackLengthUptoSaid : Prop := fnExactTrackLengthUptoRow.holds Try.pinned (OpenSpec.upto fnExactTrackLengthSpec)

/-- 'laws.FnExactSegmentStarts', WHERE WHAT IT READS IS OF BULK AT MOST 1048576: true; the input reads as it did. -/
def fnExactSegmentStartsUptoRow : OpenClaim := { program := "ytkgjojnngankeaa", sum := "443739ecf96f034ba74e812e452f0fd4f125cd0f57f93444f03423d6716b35b3", func := "loop.example/g00916/laws.FnExactSegmentStarts", spec := "fnExactSegmentStarts", apart := false, narrowed := true }
def FnExactSegmentStartsUptoSaid : Prop := fnExactSegmentStartsUptoRow.holds Try.pinned (OpenSpec.upto fnExactSegmentStartsSpec)

/-- 'laws.FnExactSegmentAt', WHERE WHAT IT READS IS OF BULK AT MOST 1048576: true; the input reads as it did. -/
def fnExactSegmentAtUptoRow : OpenClaim := { program := "ytkgjojnngankeaa", sum := "443739ecf96f034ba74e812e452f0fd4f125cd0f57f93444f03423d6716b35b3", func := "loop.example/g00916/laws.FnExactSegmentAt", spec := "fnExactSegmentAt", apart := false, narrowed := true }
def FnExactSegmentAtUptoSaid : Prop := fnExactSegmentAtUptoRow.holds Try.pinned (OpenSpec.upto fnExactSegmentAtSpec)

/-- 'laws.FnExactHeightAt', WHERE WHAT IT READS IS OF BULK AT MOST 1048576: true; the input reads as it did. -/
def fnExactHeightAtUptoRow : OpenClaim := { program := "ytkgjojnngankeaa", sum := "443739ecf96f034ba74e812e452f0fd4f125cd0f57f93444f03423d6716b35b3", func := "loop.example/g00916/laws.FnExactHeightAt", spec := "fnExactHeightAt", apart := false, narrowed := true }
def FnExactHeightAtUptoSaid : Prop := fnExactHeightAtUptoRow.holds Try.pinned (OpenSpec.upto fnExactHeightAtSpec)

end Rows
end Go.Proofs.Ytkgjojnngankeaa
