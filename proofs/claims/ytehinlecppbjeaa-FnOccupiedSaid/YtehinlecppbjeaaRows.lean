/-
  No cell of these rows narrows 'for every input' (looked for: loops, veiled, ifaces, maps, wideKeys, modest, calm, conditions, laid).
  DERIVED. THE GIVEN ROWS OF THIS SEAT. 14 by the template 'for every input the law returns true; each argument reads behind the call as it read before'; 0 by the template 'total and deterministic' (their statements: YtehinlecppbjeaaTotals.lean).
  GIVEN WITH THE SEED: the statements are not yours to turn. If you find one false, say at which input.
  Laid BY PROGRAM, IN A SANDBOX (cutbox-rows.mjs): the forced cells as the released guide's own fill.sh prints them over the translation eecf6d16353fc79e… (all of the seat's roots in one cut). By AI agents, Wed Nov 11 2026. No macro, syntax, notation, axiom, sorry.
-/
import Derived.Test.YtehinlecppbjeaaChecked
import GoSem.Claim
import GoSem.ClaimJoined
import GoSem.ClaimMapViews
import Derived.JoinedTies
import Derived.KernelRfl
namespace Go.Proofs.Ytehinlecppbjeaa
/- THE CELL 'sum', in the pinned program and in every row, IS THE sha256 OF THE DUMP (.gsa) THAT YtehinlecppbjeaaProg.lean LOADS. Nothing in Lean hashes anything: it is a label: what it is worth is what the hold of that sum in a sandbox is worth. -/
noncomputable def Try.pinned : Pinned := { name := "ytehinlecppbjeaa", sum := "eecf6d16353fc79ecdd81d08bd977f8137021573067e25cc2dda4c2510b16617", checked := Try.checked }
namespace Rows
def none {H : Type} : Left H := { results := [], args := [] }

/-- 'laws.FnTrainsMove': WHATEVER THE INPUT: true; the input reads as it did. -/
def fnTrainsMoveSpec : ChangeSpec := { name := "fnTrainsMove", fn := fun _ => fun
  | [d] => { results := [.lit (.bool true)], args := [d] }
  | _ => none }
def fnTrainsMoveRow : OpenClaim := { program := "ytehinlecppbjeaa", sum := "eecf6d16353fc79ecdd81d08bd977f8137021573067e25cc2dda4c2510b16617", func := "loop.example/g00916/laws.FnTrainsMove", spec := "fnTrainsMove", apart := false }
def FnTrainsMoveSaid : Prop := fnTrainsMoveRow.holds Try.pinned (OpenSpec.ofChange fnTrainsMoveSpec)

/-- ITS FALSE NEIGHBOUR: 'it returns false'. Refute it at one input. -/
def fnTrainsMoveWrong : ChangeSpec := { name := "fnTrainsMove", fn := fun _ => fun
  | [d] => { results := [.lit (.bool false)], args := [d] }
  | _ => none }
def FnTrainsMoveWrongFalsely : Prop := fnTrainsMoveRow.holds Try.pinned (OpenSpec.ofChange fnTrainsMoveWrong)

/-- 'laws.FnGaps': WHATEVER THE INPUT: true; the input reads as it did. -/
def fnGapsSpec : ChangeSpec := { name := "fnGaps", fn := fun _ => fun
  | [d] => { results := [.lit (.bool true)], args := [d] }
  | _ => none }
def fnGapsRow : OpenClaim := { program := "ytehinlecppbjeaa", sum := "eecf6d16353fc79ecdd81d08bd977f8137021573067e25cc2dda4c2510b16617", func := "loop.example/g00916/laws.FnGaps", spec := "fnGaps", apart := false }
def FnGapsSaid : Prop := fnGapsRow.holds Try.pinned (OpenSpec.ofChange fnGapsSpec)

/-- ITS FALSE NEIGHBOUR: 'it returns false'. Refute it at one input. -/
def fnGapsWrong : ChangeSpec := { name := "fnGaps", fn := fun _ => fun
  | [d] => { results := [.lit (.bool false)], args := [d] }
  | _ => none }
def FnGapsWrongFalsely : Prop := fnGapsRow.holds Try.pinned (OpenSpec.ofChange fnGapsWrong)

/-- 'laws.FnOccupied': WHATEVER THE INPUT: true; the input reads as it did. -/
def fnOccupiedSpec : ChangeSpec := { name := "fnOccupied", fn := fun _ => fun
  | [d] => { results := [.lit (.bool true)], args := [d] }
  | _ => none }
def fnOccupiedRow : OpenClaim := { program := "ytehinlecppbjeaa", sum := "eecf6d16353fc79ecdd81d08bd977f8137021573067e25cc2dda4c2510b16617", func := "loop.example/g00916/laws.FnOccupied", spec := "fnOccupied", unfollowed := true, recurses := true, apart := false }
def FnOccupiedSaid : Prop := fnOccupiedRow.holds Try.pinned (OpenSpec.ofChange fnOccupiedSpec)

/-- ITS FALSE NEIGHBOUR: 'it returns false'. Refute it at one input. -/
def fnOccupiedWrong : ChangeSpec := { name := "fnOccupied", fn := fun _ => fun
  | [d] => { results := [.lit (.bool false)], args := [d] }
  | _ => none }
def FnOccupiedWrongFalsely : Prop := fnOccupiedRow.holds Try.pinned (OpenSpec.ofChange fnOccupiedWrong)

/-- 'laws.FnSensors': WHATEVER THE INPUT: true; the input reads as it did. -/
def fnSensorsSpec : ChangeSpec := { name := "fnSensors", fn := fun _ => fun
  | [d] => { results := [.lit (.bool true)], args := [d] }
  | _ => none }
def fnSensorsRow : OpenClaim := { program := "ytehinlecppbjeaa", sum := "eecf6d16353fc79ecdd81d08bd977f8137021573067e25cc2dda4c2510b16617", func := "loop.example/g00916/laws.FnSensors", spec := "fnSensors", apart := false }
def FnSensorsSaid : Prop := fnSensorsRow.holds Try.pinned (OpenSpec.ofChange fnSensorsSpec)

/-- ITS FALSE NEIGHBOUR: 'it returns false'. Refute it at one input. -/
def fnSensorsWrong : ChangeSpec := { name := "fnSensors", fn := fun _ => fun
  | [d] => { results := [.lit (.bool false)], args := [d] }
  | _ => none }
def FnSensorsWrongFalsely : Prop := fnSensorsRow.holds Try.pinned (OpenSpec.ofChange fnSensorsWrong)

/-- 'laws.FnExactRearOf': WHATEVER THE INPUT: true; the input reads as it did. -/
def fnExactRearOfSpec : ChangeSpec := { name := "fnExactRearOf", fn := fun _ => fun
  | [d1, d2, d3] => { results := [.lit (.bool true)], args := [d1, d2, d3] }
  | _ => none }
def fnExactRearOfRow : OpenClaim := { program := "ytehinlecppbjeaa", sum := "eecf6d16353fc79ecdd81d08bd977f8137021573067e25cc2dda4c2510b16617", func := "loop.example/g00916/laws.FnExactRearOf", spec := "fnExactRearOf", apart := false }
def FnExactRearOfSaid : Prop := fnExactRearOfRow.holds Try.pinned (OpenSpec.ofChange fnExactRearOfSpec)

/-- ITS FALSE NEIGHBOUR: 'it returns false'. Refute it at one input. -/
def fnExactRearOfWrong : ChangeSpec := { name := "fnExactRearOf", fn := fun _ => fun
  | [d1, d2, d3] => { results := [.lit (.bool false)], args := [d1, d2, d3] }
  | _ => none }
def FnExactRearOfWrongFalsely : Prop := fnExactRearOfRow.holds Try.pinned (OpenSpec.ofChange fnExactRearOfWrong)

/-- 'laws.FnExactMoveFront': WHATEVER THE INPUT: true; the input reads as it did. -/
def fnExactMoveFrontSpec : ChangeSpec := { name := "fnExactMoveFront", fn := fun _ => fun
  | [d1, d2, d3] => { results := [.lit (.bool true)], args := [d1, d2, d3] }
  | _ => none }
def fnExactMoveFrontRow : OpenClaim := { program := "ytehinlecppbjeaa", sum := "eecf6d16353fc79ecdd81d08bd977f8137021573067e25cc2dda4c2510b16617", func := "loop.example/g00916/laws.FnExactMoveFront", spec := "fnExactMoveFront", apart := false }
def FnExactMoveFrontSaid : Prop := fnExactMoveFrontRow.holds Try.pinned (OpenSpec.ofChange fnExactMoveFrontSpec)

/-- ITS FALSE NEIGHBOUR: 'it returns false'. Refute it at one input. -/
def fnExactMoveFrontWrong : ChangeSpec := { name := "fnExactMoveFront", fn := fun _ => fun
  | [d1, d2, d3] => { results := [.lit (.bool false)], args := [d1, d2, d3] }
  | _ => none }
def FnExactMoveFrontWrongFalsely : Prop := fnExactMoveFrontRow.holds Try.pinned (OpenSpec.ofChange fnExactMoveFrontWrong)

/-- 'laws.FnExactOccupiedBlocks': WHATEVER THE INPUT: true; the input reads as it did. -/
def fnExactOccupiedBlocksSpec : ChangeSpec := { name := "fnExactOccupiedBlocks", fn := fun _ => fun
  | [d1, d2, d3, d4] => { results := [.lit (.bool true)], args := [d1, d2, d3, d4] }
  | _ => none }
def fnExactOccupiedBlocksRow : OpenClaim := { program := "ytehinlecppbjeaa", sum := "eecf6d16353fc79ecdd81d08bd977f8137021573067e25cc2dda4c2510b16617", func := "loop.example/g00916/laws.FnExactOccupiedBlocks", spec := "fnExactOccupiedBlocks", unfollowed := true, recurses := true, apart := false }
def FnExactOccupiedBlocksSaid : Prop := fnExactOccupiedBlocksRow.holds Try.pinned (OpenSpec.ofChange fnExactOccupiedBlocksSpec)

/-- ITS FALSE NEIGHBOUR: 'it returns false'. Refute it at one input. -/
def fnExactOccupiedBlocksWrong : ChangeSpec := { name := "fnExactOccupiedBlocks", fn := fun _ => fun
  | [d1, d2, d3, d4] => { results := [.lit (.bool false)], args := [d1, d2, d3, d4] }
  | _ => none }
def FnExactOccupiedBlocksWrongFalsely : Prop := fnExactOccupiedBlocksRow.holds Try.pinned (OpenSpec.ofChange fnExactOccupiedBlocksWrong)

/-- 'laws.FnExactGapAhead': WHATEVER THE INPUT: true; the input reads as it did. -/
def fnExactGapAheadSpec : ChangeSpec := { name := "fnExactGapAhead", fn := fun _ => fun
  | [d1, d2, d3, d4] => { results := [.lit (.bool true)], args := [d1, d2, d3, d4] }
  | _ => none }
def fnExactGapAheadRow : OpenClaim := { program := "ytehinlecppbjeaa", sum := "eecf6d16353fc79ecdd81d08bd977f8137021573067e25cc2dda4c2510b16617", func := "loop.example/g00916/laws.FnExactGapAhead", spec := "fnExactGapAhead", apart := false }
def FnExactGapAheadSaid : Prop := fnExactGapAheadRow.holds Try.pinned (OpenSpec.ofChange fnExactGapAheadSpec)

/-- ITS FALSE NEIGHBOUR: 'it returns false'. Refute it at one input. -/
def fnExactGapAheadWrong : ChangeSpec := { name := "fnExactGapAhead", fn := fun _ => fun
  | [d1, d2, d3, d4] => { results := [.lit (.bool false)], args := [d1, d2, d3, d4] }
  | _ => none }
def FnExactGapAheadWrongFalsely : Prop := fnExactGapAheadRow.holds Try.pinned (OpenSpec.ofChange fnExactGapAheadWrong)

/-- 'laws.FnExactAreSeparate': WHATEVER THE INPUT: true; the input reads as it did. -/
def fnExactAreSeparateSpec : ChangeSpec := { name := "fnExactAreSeparate", fn := fun _ => fun
  | [d1, d2, d3] => { results := [.lit (.bool true)], args := [d1, d2, d3] }
  | _ => none }
def fnExactAreSeparateRow : OpenClaim := { program := "ytehinlecppbjeaa", sum := "eecf6d16353fc79ecdd81d08bd977f8137021573067e25cc2dda4c2510b16617", func := "loop.example/g00916/laws.FnExactAreSeparate", spec := "fnExactAreSeparate", apart := false }
def FnExactAreSeparateSaid : Prop := fnExactAreSeparateRow.holds Try.pinned (OpenSpec.ofChange fnExactAreSeparateSpec)

/-- ITS FALSE NEIGHBOUR: 'it returns false'. Refute it at one input. -/
def fnExactAreSeparateWrong : ChangeSpec := { name := "fnExactAreSeparate", fn := fun _ => fun
  | [d1, d2, d3] => { results := [.lit (.bool false)], args := [d1, d2, d3] }
  | _ => none }
def FnExactAreSeparateWrongFalsely : Prop := fnExactAreSeparateRow.holds Try.pinned (OpenSpec.ofChange fnExactAreSeparateWrong)

/-- 'laws.FnExactBlockLoads': WHATEVER THE INPUT: true; the input reads as it did. -/
def fnExactBlockLoadsSpec : ChangeSpec := { name := "fnExactBlockLoads", fn := fun _ => fun
  | [d1, d2, d3, d4] => { results := [.lit (.bool true)], args := [d1, d2, d3, d4] }
  | _ => none }
def fnExactBlockLoadsRow : OpenClaim := { program := "ytehinlecppbjeaa", sum := "eecf6d16353fc79ecdd81d08bd977f8137021573067e25cc2dda4c2510b16617", func := "loop.example/g00916/laws.FnExactBlockLoads", spec := "fnExactBlockLoads", unfollowed := true, recurses := true, apart := false }
def FnExactBlockLoadsSaid : Prop := fnExactBlockLoadsRow.holds Try.pinned (OpenSpec.ofChange fnExactBlockLoadsSpec)

/-- ITS FALSE NEIGHBOUR: 'it returns false'. Refute it at one input. -/
def fnExactBlockLoadsWrong : ChangeSpec := { name := "fnExactBlockLoads", fn := fun _ => fun
  | [d1, d2, d3, d4] => { results := [.lit (.bool false)], args := [d1, d2, d3, d4] }
  | _ => none }
def FnExactBlockLoadsWrongFalsely : Prop := fnExactBlockLoadsRow.holds Try.pinned (OpenSpec.ofChange fnExactBlockLoadsWrong)

/-- 'laws.FnExactSensorsCovered': WHATEVER THE INPUT: true; the input reads as it did. -/
def fnExactSensorsCoveredSpec : ChangeSpec := { name := "fnExactSensorsCovered", fn := fun _ => fun
  | [d1, d2, d3, d4] => { results := [.lit (.bool true)], args := [d1, d2, d3, d4] }
  | _ => none }
def fnExactSensorsCoveredRow : OpenClaim := { program := "ytehinlecppbjeaa", sum := "eecf6d16353fc79ecdd81d08bd977f8137021573067e25cc2dda4c2510b16617", func := "loop.example/g00916/laws.FnExactSensorsCovered", spec := "fnExactSensorsCovered", apart := false }
def FnExactSensorsCoveredSaid : Prop := fnExactSensorsCoveredRow.holds Try.pinned (OpenSpec.ofChange fnExactSensorsCoveredSpec)

/-- ITS FALSE NEIGHBOUR: 'it returns false'. Refute it at one input. -/
def fnExactSensorsCoveredWrong : ChangeSpec := { name := "fnExactSensorsCovered", fn := fun _ => fun
  | [d1, d2, d3, d4] => { results := [.lit (.bool false)], args := [d1, d2, d3, d4] }
  | _ => none }
def FnExactSensorsCoveredWrongFalsely : Prop := fnExactSensorsCoveredRow.holds Try.pinned (OpenSpec.ofChange fnExactSensorsCoveredWrong)

/-- 'laws.FnExactSensorsPassed': WHATEVER THE INPUT: true; the input reads as it did. -/
def fnExactSensorsPassedSpec : ChangeSpec := { name := "fnExactSensorsPassed", fn := fun _ => fun
  | [d1, d2, d3, d4] => { results := [.lit (.bool true)], args := [d1, d2, d3, d4] }
  | _ => none }
def fnExactSensorsPassedRow : OpenClaim := { program := "ytehinlecppbjeaa", sum := "eecf6d16353fc79ecdd81d08bd977f8137021573067e25cc2dda4c2510b16617", func := "loop.example/g00916/laws.FnExactSensorsPassed", spec := "fnExactSensorsPassed", apart := false }
def FnExactSensorsPassedSaid : Prop := fnExactSensorsPassedRow.holds Try.pinned (OpenSpec.ofChange fnExactSensorsPassedSpec)

/-- ITS FALSE NEIGHBOUR: 'it returns false'. Refute it at one input. -/
def fnExactSensorsPassedWrong : ChangeSpec := { name := "fnExactSensorsPassed", fn := fun _ => fun
  | [d1, d2, d3, d4] => { results := [.lit (.bool false)], args := [d1, d2, d3, d4] }
  | _ => none }
def FnExactSensorsPassedWrongFalsely : Prop := fnExactSensorsPassedRow.holds Try.pinned (OpenSpec.ofChange fnExactSensorsPassedWrong)

/-- 'laws.FnBlockLookup': WHATEVER THE INPUT: true; the input reads as it did. -/
def fnBlockLookupSpec : ChangeSpec := { name := "fnBlockLookup", fn := fun _ => fun
  | [d] => { results := [.lit (.bool true)], args := [d] }
  | _ => none }
def fnBlockLookupRow : OpenClaim := { program := "ytehinlecppbjeaa", sum := "eecf6d16353fc79ecdd81d08bd977f8137021573067e25cc2dda4c2510b16617", func := "loop.example/g00916/laws.FnBlockLookup", spec := "fnBlockLookup", unfollowed := true, recurses := true, apart := false }
def FnBlockLookupSaid : Prop := fnBlockLookupRow.holds Try.pinned (OpenSpec.ofChange fnBlockLookupSpec)

/-- ITS FALSE NEIGHBOUR: 'it returns false'. Refute it at one input. -/
def fnBlockLookupWrong : ChangeSpec := { name := "fnBlockLookup", fn := fun _ => fun
  | [d] => { results := [.lit (.bool false)], args := [d] }
  | _ => none }
def FnBlockLookupWrongFalsely : Prop := fnBlockLookupRow.holds Try.pinned (OpenSpec.ofChange fnBlockLookupWrong)

/-- 'laws.FnMergedBlocks': WHATEVER THE INPUT: true; the input reads as it did. -/
def fnMergedBlocksSpec : ChangeSpec := { name := "fnMergedBlocks", fn := fun _ => fun
  | [d] => { results := [.lit (.bool true)], args := [d] }
  | _ => none }
def fnMergedBlocksRow : OpenClaim := { program := "ytehinlecppbjeaa", sum := "eecf6d16353fc79ecdd81d08bd977f8137021573067e25cc2dda4c2510b16617", func := "loop.example/g00916/laws.FnMergedBlocks", spec := "fnMergedBlocks", unfollowed := true, recurses := true, apart := false }
def FnMergedBlocksSaid : Prop := fnMergedBlocksRow.holds Try.pinned (OpenSpec.ofChange fnMergedBlocksSpec)

/-- ITS FALSE NEIGHBOUR: 'it returns false'. Refute it at one input. -/
def fnMergedBlocksWrong : ChangeSpec := { name := "fnMergedBlocks", fn := fun _ => fun
  | [d] => { results := [.lit (.bool false)], args := [d] }
  | _ => none }
def FnMergedBlocksWrongFalsely : Prop := fnMergedBlocksRow.holds Try.pinned (OpenSpec.ofChange fnMergedBlocksWrong)

/- THE SECOND FORM. 'bulk': how many values and letters a reading holds, each counted each time it is reached (what is shared counts as often as it is met; a slice's spare places count too). A statement '..UptoSaid' is the law's where the arguments, and the package variables that the reading takes, are together of bulk at most 1048576: NARROWER than '..Said'. Prove '..Said' where nothing that the law and all that it calls make is longer than what came in: it says more and counts as full. Else prove '..UptoSaid'. A law counts once. -/
mutual
def uptoBulk {H : Type} : DataW H → Nat
  | .lit (.string bytes) => bytes.length + 1
  | .lit _ => 1
  | .nil => 1
  | .ptr d => uptoBulk d + 1
  | .slice elems spare => uptoBulkAll elems + uptoBulkAll spare + 1
  | .agg parts => uptoBulkAll parts + 1
  | .iface _ d => uptoBulk d + 1
  | .map entries => uptoBulkEntries entries + 1
  | .held _ => 1
def uptoBulkAll {H : Type} : List (DataW H) → Nat
  | [] => 0
  | d :: r => uptoBulk d + uptoBulkAll r
def uptoBulkEntries {H : Type} : List (Lit × DataW H) → Nat
  | [] => 0
  | x :: r => uptoBulkEntry x + uptoBulkEntries r
def uptoBulkEntry {H : Type} : Lit × DataW H → Nat
  | (.string bytes, d) => bytes.length + uptoBulk d + 1
  | (_, d) => uptoBulk d + 1
 end
def uptoSmall : (H : Type) → List (DataW H) → Bool := fun _ ds => decide (uptoBulkAll ds ≤ 1048576)
def OpenSpec.upto (s : _root_.Go.ChangeSpec) : _root_.Go.OpenSpec := { _root_.Go.OpenSpec.ofChange s with cond := some uptoSmall }

/-- 'laws.FnTrainsMove', WHERE WHAT IT READS IS OF BULK AT MOST 1048576: true; the input reads as it did. -/
def fnTrainsMoveUptoRow : OpenClaim := { program := "ytehinlecppbjeaa", sum := "eecf6d16353fc79ecdd81d08bd977f8137021573067e25cc2dda4c2510b16617", func := "loop.example/g00916/laws.FnTrainsMove", spec := "fnTrainsMove", apart := false, narrowed := true }
def FnTrainsMoveUptoSaid : Prop := fnTrainsMoveUptoRow.holds Try.pinned (OpenSpec.upto fnTrainsMoveSpec)

/-- 'laws.FnGaps', WHERE WHAT IT READS IS OF BULK AT MOST 1048576: true; the input reads as it did. -/
def fnGapsUptoRow : OpenClaim := { program := "ytehinlecppbjeaa", sum := "eecf6d16353fc79ecdd81d08bd977f8137021573067e25cc2dda4c2510b16617", func := "loop.example/g00916/laws.FnGaps", spec := "fnGaps", apart := false, narrowed := true }
def FnGapsUptoSaid : Prop := fnGapsUptoRow.holds Try.pinned (OpenSpec.upto fnGapsSpec)

/-- 'laws.FnOccupied', WHERE WHAT IT READS IS OF BULK AT MOST 1048576: true; the input reads as it did. -/
def fnOccupiedUptoRow : OpenClaim := { program := "ytehinlecppbjeaa", sum := "eecf6d16353fc79ecdd81d08bd977f8137021573067e25cc2dda4c2510b16617", func := "loop.example/g00916/laws.FnOccupied", spec := "fnOccupied", unfollowed := true, recurses := true, apart := false, narrowed := true }
def FnOccupiedUptoSaid : Prop := fnOccupiedUptoRow.holds Try.pinned (OpenSpec.upto fnOccupiedSpec)

/-- 'laws.FnSensors', WHERE WHAT IT READS IS OF BULK AT MOST 1048576: true; the input reads as it did. -/
def fnSensorsUptoRow : OpenClaim := { program := "ytehinlecppbjeaa", sum := "eecf6d16353fc79ecdd81d08bd977f8137021573067e25cc2dda4c2510b16617", func := "loop.example/g00916/laws.FnSensors", spec := "fnSensors", apart := false, narrowed := true }
def FnSensorsUptoSaid : Prop := fnSensorsUptoRow.holds Try.pinned (OpenSpec.upto fnSensorsSpec)

/-- 'laws.FnExactRearOf', WHERE WHAT IT READS IS OF BULK AT MOST 1048576: true; the input reads as it did. -/
def fnExactRearOfUptoRow : OpenClaim := { program := "ytehinlecppbjeaa", sum := "eecf6d16353fc79ecdd81d08bd977f8137021573067e25cc2dda4c2510b16617", func := "loop.example/g00916/laws.FnExactRearOf", spec := "fnExactRearOf", apart := false, narrowed := true }
def FnExactRearOfUptoSaid : Prop := fnExactRearOfUptoRow.holds Try.pinned (OpenSpec.upto fnExactRearOfSpec)

/-- 'laws.FnExactMoveFront', WHERE WHAT IT READS IS OF BULK AT MOST 1048576: true; the input reads as it did. -/
def fnExactMoveFrontUptoRow : OpenClaim := { program := "ytehinlecppbjeaa", sum := "eecf6d16353fc79ecdd81d08bd977f8137021573067e25cc2dda4c2510b16617", func := "loop.example/g00916/laws.FnExactMoveFront", spec := "fnExactMoveFront", apart := false, narrowed := true }
def FnExactMoveFrontUptoSaid : Prop := fnExactMoveFrontUptoRow.holds Try.pinned (OpenSpec.upto fnExactMoveFrontSpec)

/-- 'laws.FnExactOccupiedBlocks', WHERE WHAT IT READS IS OF BULK AT MOST 1048576: true; the input reads as it did. -/
def fnExactOccupiedBlocksUptoRow : OpenClaim := { program := "ytehinlecppbjeaa", sum := "eecf6d16353fc79ecdd81d08bd977f8137021573067e25cc2dda4c2510b16617", func := "loop.example/g00916/laws.FnExactOccupiedBlocks", spec := "fnExactOccupiedBlocks", unfollowed := true, recurses := true, apart := false, narrowed := true }
def FnExactOccupiedBlocksUptoSaid : Prop := fnExactOccupiedBlocksUptoRow.holds Try.pinned (OpenSpec.upto fnExactOccupiedBlocksSpec)

/-- 'laws.FnExactGapAhead', WHERE WHAT IT READS IS OF BULK AT MOST 1048576: true; the input reads as it did. -/
def fnExactGapAheadUptoRow : OpenClaim := { program := "ytehinlecppbjeaa", sum := "eecf6d16353fc79ecdd81d08bd977f8137021573067e25cc2dda4c2510b16617", func := "loop.example/g00916/laws.FnExactGapAhead", spec := "fnExactGapAhead", apart := false, narrowed := true }
def FnExactGapAheadUptoSaid : Prop := fnExactGapAheadUptoRow.holds Try.pinned (OpenSpec.upto fnExactGapAheadSpec)

/-- 'laws.FnExactAreSeparate', WHERE WHAT IT READS IS OF BULK AT MOST 1048576: true; the input reads as it did. -/
def fnExactAreSeparateUptoRow : OpenClaim := { program := "ytehinlecppbjeaa", sum := "eecf6d16353fc79ecdd81d08bd977f8137021573067e25cc2dda4c2510b16617", func := "loop.example/g00916/laws.FnExactAreSeparate", spec := "fnExactAreSeparate", apart := false, narrowed := true }
def FnExactAreSeparateUptoSaid : Prop := fnExactAreSeparateUptoRow.holds Try.pinned (OpenSpec.upto fnExactAreSeparateSpec)

/-- 'laws.FnExactBlockLoads', WHERE WHAT IT READS IS OF BULK AT MOST 1048576: true; the input reads as it did. -/
def fnExactBlockLoadsUptoRow : OpenClaim := { program := "ytehinlecppbjeaa", sum := "eecf6d16353fc79ecdd81d08bd977f8137021573067e25cc2dda4c2510b16617", func := "loop.example/g00916/laws.FnExactBlockLoads", spec := "fnExactBlockLoads", unfollowed := true, recurses := true, apart := false, narrowed := true }
def FnExactBlockLoadsUptoSaid : Prop := fnExactBlockLoadsUptoRow.holds Try.pinned (OpenSpec.upto fnExactBlockLoadsSpec)

/-- 'laws.FnExactSensorsCovered', WHERE WHAT IT READS IS OF BULK AT MOST 1048576: true; the input reads as it did. -/
def fnExactSensorsCoveredUptoRow : OpenClaim := { program := "ytehinlecppbjeaa", sum := "eecf6d16353fc79ecdd81d08bd977f8137021573067e25cc2dda4c2510b16617", func := "loop.example/g00916/laws.FnExactSensorsCovered", spec := "fnExactSensorsCovered", apart := false, narrowed := true }
def FnExactSensorsCoveredUptoSaid : Prop := fnExactSensorsCoveredUptoRow.holds Try.pinned (OpenSpec.upto fnExactSensorsCoveredSpec)

/-- 'laws.FnExactSensorsPassed', WHERE WHAT IT READS IS OF BULK AT MOST 1048576: true; the input reads as it did. -/
def fnExactSensorsPassedUptoRow : OpenClaim := { program := "ytehinlecppbjeaa", sum := "eecf6d16353fc79ecdd81d08bd977f8137021573067e25cc2dda4c2510b16617", func := "loop.example/g00916/laws.FnExactSensorsPassed", spec := "fnExactSensorsPassed", apart := false, narrowed := true }
def FnExactSensorsPassedUptoSaid : Prop := fnExactSensorsPassedUptoRow.holds Try.pinned (OpenSpec.upto fnExactSensorsPassedSpec)

/-- 'laws.FnBlockLookup', WHERE WHAT IT READS IS OF BULK AT MOST 1048576: true; the input reads as it did. -/
def fnBlockLookupUptoRow : OpenClaim := { program := "ytehinlecppbjeaa", sum := "eecf6d16353fc79ecdd81d08bd977f8137021573067e25cc2dda4c2510b16617", func := "loop.example/g00916/laws.FnBlockLookup", spec := "fnBlockLookup", unfollowed := true, recurses := true, apart := false, narrowed := true }
def FnBlockLookupUptoSaid : Prop := fnBlockLookupUptoRow.holds Try.pinned (OpenSpec.upto fnBlockLookupSpec)

/-- 'laws.FnMergedBlocks', WHERE WHAT IT READS IS OF BULK AT MOST 1048576: true; the input reads as it did. -/
def fnMergedBlocksUptoRow : OpenClaim := { program := "ytehinlecppbjeaa", sum := "eecf6d16353fc79ecdd81d08bd977f8137021573067e25cc2dda4c2510b16617", func := "loop.example/g00916/laws.FnMergedBlocks", spec := "fnMergedBlocks", unfollowed := true, recurses := true, apart := false, narrowed := true }
def FnMergedBlocksUptoSaid : Prop := fnMergedBlocksUptoRow.holds Try.pinned (OpenSpec.upto fnMergedBlocksSpec)

end Rows
end Go.Proofs.Ytehinlecppbjeaa
