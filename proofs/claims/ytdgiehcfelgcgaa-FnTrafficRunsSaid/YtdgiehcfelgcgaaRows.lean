/-
  No cell of these rows narrows 'for every input' (looked for: loops, veiled, ifaces, maps, wideKeys, modest, calm, conditions, laid).
  DERIVED. THE GIVEN ROWS OF THIS SEAT. 10 by the template 'for every input the law returns true; each argument reads behind the call as it read before'; 0 by the template 'total and deterministic' (their statements: YtdgiehcfelgcgaaTotals.lean).
  GIVEN WITH THE SEED: the statements are not yours to turn. If you find one false, say at which input.
  Laid BY PROGRAM, IN A SANDBOX (cutbox-rows.mjs): the forced cells as the released guide's own fill.sh prints them over the translation 2ffadfefab90b77d… (all of the seat's roots in one cut). By AI agents, Wed Nov 11 2026. No macro, syntax, notation, axiom, sorry.
-/
import Derived.Test.YtdgiehcfelgcgaaChecked
import GoSem.Claim
import GoSem.ClaimJoined
import GoSem.ClaimMapViews
import Derived.JoinedTies
import Derived.KernelRfl
namespace Go.Proofs.Ytdgiehcfelgcgaa
/- THE CELL 'sum', in the pinned program and in every row, IS THE sha256 OF THE DUMP (.gsa) THAT YtdgiehcfelgcgaaProg.lean LOADS. Nothing in Lean hashes anything: it is a label: what it is worth is what the hold of that sum in a sandbox is worth. -/
noncomputable def Try.pinned : Pinned := { name := "ytdgiehcfelgcgaa", sum := "2ffadfefab90b77dec8b018fda9fabc3caf590dcc61ee6bb4cdd881a7abbee36", checked := Try.checked }
namespace Rows
def none {H : Type} : Left H := { results := [], args := [] }

/-- 'laws.FnTrafficMoves': WHATEVER THE INPUT: true; the input reads as it did. -/
def fnTrafficMovesSpec : ChangeSpec := { name := "fnTrafficMoves", fn := fun _ => fun
  | [d] => { results := [.lit (.bool true)], args := [d] }
  | _ => none }
def fnTrafficMovesRow : OpenClaim := { program := "ytdgiehcfelgcgaa", sum := "2ffadfefab90b77dec8b018fda9fabc3caf590dcc61ee6bb4cdd881a7abbee36", func := "loop.example/g00916/laws.FnTrafficMoves", spec := "fnTrafficMoves", apart := false }
def FnTrafficMovesSaid : Prop := fnTrafficMovesRow.holds Try.pinned (OpenSpec.ofChange fnTrafficMovesSpec)

/-- ITS FALSE NEIGHBOUR: 'it returns false'. Refute it at one input. -/
def fnTrafficMovesWrong : ChangeSpec := { name := "fnTrafficMoves", fn := fun _ => fun
  | [d] => { results := [.lit (.bool false)], args := [d] }
  | _ => none }
def FnTrafficMovesWrongFalsely : Prop := fnTrafficMovesRow.holds Try.pinned (OpenSpec.ofChange fnTrafficMovesWrong)

/-- 'laws.FnTrafficUses': WHATEVER THE INPUT: true; the input reads as it did. -/
def fnTrafficUsesSpec : ChangeSpec := { name := "fnTrafficUses", fn := fun _ => fun
  | [d] => { results := [.lit (.bool true)], args := [d] }
  | _ => none }
def fnTrafficUsesRow : OpenClaim := { program := "ytdgiehcfelgcgaa", sum := "2ffadfefab90b77dec8b018fda9fabc3caf590dcc61ee6bb4cdd881a7abbee36", func := "loop.example/g00916/laws.FnTrafficUses", spec := "fnTrafficUses", apart := false }
def FnTrafficUsesSaid : Prop := fnTrafficUsesRow.holds Try.pinned (OpenSpec.ofChange fnTrafficUsesSpec)

/-- ITS FALSE NEIGHBOUR: 'it returns false'. Refute it at one input. -/
def fnTrafficUsesWrong : ChangeSpec := { name := "fnTrafficUses", fn := fun _ => fun
  | [d] => { results := [.lit (.bool false)], args := [d] }
  | _ => none }
def FnTrafficUsesWrongFalsely : Prop := fnTrafficUsesRow.holds Try.pinned (OpenSpec.ofChange fnTrafficUsesWrong)

/-- 'laws.FnTrafficRuns': WHATEVER THE INPUT: true; the input reads as it did. -/
def fnTrafficRunsSpec : ChangeSpec := { name := "fnTrafficRuns", fn := fun _ => fun
  | [d] => { results := [.lit (.bool true)], args := [d] }
  | _ => none }
def fnTrafficRunsRow : OpenClaim := { program := "ytdgiehcfelgcgaa", sum := "2ffadfefab90b77dec8b018fda9fabc3caf590dcc61ee6bb4cdd881a7abbee36", func := "loop.example/g00916/laws.FnTrafficRuns", spec := "fnTrafficRuns", apart := false }
def FnTrafficRunsSaid : Prop := fnTrafficRunsRow.holds Try.pinned (OpenSpec.ofChange fnTrafficRunsSpec)

/-- ITS FALSE NEIGHBOUR: 'it returns false'. Refute it at one input. -/
def fnTrafficRunsWrong : ChangeSpec := { name := "fnTrafficRuns", fn := fun _ => fun
  | [d] => { results := [.lit (.bool false)], args := [d] }
  | _ => none }
def FnTrafficRunsWrongFalsely : Prop := fnTrafficRunsRow.holds Try.pinned (OpenSpec.ofChange fnTrafficRunsWrong)

/-- 'laws.FnExactIsTraffic': WHATEVER THE INPUT: true; the input reads as it did. -/
def fnExactIsTrafficSpec : ChangeSpec := { name := "fnExactIsTraffic", fn := fun _ => fun
  | [d] => { results := [.lit (.bool true)], args := [d] }
  | _ => none }
def fnExactIsTrafficRow : OpenClaim := { program := "ytdgiehcfelgcgaa", sum := "2ffadfefab90b77dec8b018fda9fabc3caf590dcc61ee6bb4cdd881a7abbee36", func := "loop.example/g00916/laws.FnExactIsTraffic", spec := "fnExactIsTraffic", apart := false }
def FnExactIsTrafficSaid : Prop := fnExactIsTrafficRow.holds Try.pinned (OpenSpec.ofChange fnExactIsTrafficSpec)

/-- ITS FALSE NEIGHBOUR: 'it returns false'. Refute it at one input. -/
def fnExactIsTrafficWrong : ChangeSpec := { name := "fnExactIsTraffic", fn := fun _ => fun
  | [d] => { results := [.lit (.bool false)], args := [d] }
  | _ => none }
def FnExactIsTrafficWrongFalsely : Prop := fnExactIsTrafficRow.holds Try.pinned (OpenSpec.ofChange fnExactIsTrafficWrong)

/-- 'laws.FnExactIsSafeTraffic': WHATEVER THE INPUT: true; the input reads as it did. -/
def fnExactIsSafeTrafficSpec : ChangeSpec := { name := "fnExactIsSafeTraffic", fn := fun _ => fun
  | [d] => { results := [.lit (.bool true)], args := [d] }
  | _ => none }
def fnExactIsSafeTrafficRow : OpenClaim := { program := "ytdgiehcfelgcgaa", sum := "2ffadfefab90b77dec8b018fda9fabc3caf590dcc61ee6bb4cdd881a7abbee36", func := "loop.example/g00916/laws.FnExactIsSafeTraffic", spec := "fnExactIsSafeTraffic", apart := false }
def FnExactIsSafeTrafficSaid : Prop := fnExactIsSafeTrafficRow.holds Try.pinned (OpenSpec.ofChange fnExactIsSafeTrafficSpec)

/-- ITS FALSE NEIGHBOUR: 'it returns false'. Refute it at one input. -/
def fnExactIsSafeTrafficWrong : ChangeSpec := { name := "fnExactIsSafeTraffic", fn := fun _ => fun
  | [d] => { results := [.lit (.bool false)], args := [d] }
  | _ => none }
def FnExactIsSafeTrafficWrongFalsely : Prop := fnExactIsSafeTrafficRow.holds Try.pinned (OpenSpec.ofChange fnExactIsSafeTrafficWrong)

/-- 'laws.FnExactUsedBlocks': WHATEVER THE INPUT: true; the input reads as it did. -/
def fnExactUsedBlocksSpec : ChangeSpec := { name := "fnExactUsedBlocks", fn := fun _ => fun
  | [d1, d2] => { results := [.lit (.bool true)], args := [d1, d2] }
  | _ => none }
def fnExactUsedBlocksRow : OpenClaim := { program := "ytdgiehcfelgcgaa", sum := "2ffadfefab90b77dec8b018fda9fabc3caf590dcc61ee6bb4cdd881a7abbee36", func := "loop.example/g00916/laws.FnExactUsedBlocks", spec := "fnExactUsedBlocks", apart := false }
def FnExactUsedBlocksSaid : Prop := fnExactUsedBlocksRow.holds Try.pinned (OpenSpec.ofChange fnExactUsedBlocksSpec)

/-- ITS FALSE NEIGHBOUR: 'it returns false'. Refute it at one input. -/
def fnExactUsedBlocksWrong : ChangeSpec := { name := "fnExactUsedBlocks", fn := fun _ => fun
  | [d1, d2] => { results := [.lit (.bool false)], args := [d1, d2] }
  | _ => none }
def FnExactUsedBlocksWrongFalsely : Prop := fnExactUsedBlocksRow.holds Try.pinned (OpenSpec.ofChange fnExactUsedBlocksWrong)

/-- 'laws.FnExactUsesOfBlocks': WHATEVER THE INPUT: true; the input reads as it did. -/
def fnExactUsesOfBlocksSpec : ChangeSpec := { name := "fnExactUsesOfBlocks", fn := fun _ => fun
  | [d] => { results := [.lit (.bool true)], args := [d] }
  | _ => none }
def fnExactUsesOfBlocksRow : OpenClaim := { program := "ytdgiehcfelgcgaa", sum := "2ffadfefab90b77dec8b018fda9fabc3caf590dcc61ee6bb4cdd881a7abbee36", func := "loop.example/g00916/laws.FnExactUsesOfBlocks", spec := "fnExactUsesOfBlocks", apart := false }
def FnExactUsesOfBlocksSaid : Prop := fnExactUsesOfBlocksRow.holds Try.pinned (OpenSpec.ofChange fnExactUsesOfBlocksSpec)

/-- ITS FALSE NEIGHBOUR: 'it returns false'. Refute it at one input. -/
def fnExactUsesOfBlocksWrong : ChangeSpec := { name := "fnExactUsesOfBlocks", fn := fun _ => fun
  | [d] => { results := [.lit (.bool false)], args := [d] }
  | _ => none }
def FnExactUsesOfBlocksWrongFalsely : Prop := fnExactUsesOfBlocksRow.holds Try.pinned (OpenSpec.ofChange fnExactUsesOfBlocksWrong)

/-- 'laws.FnExactMovedTrain': WHATEVER THE INPUT: true; the input reads as it did. -/
def fnExactMovedTrainSpec : ChangeSpec := { name := "fnExactMovedTrain", fn := fun _ => fun
  | [d1, d2] => { results := [.lit (.bool true)], args := [d1, d2] }
  | _ => none }
def fnExactMovedTrainRow : OpenClaim := { program := "ytdgiehcfelgcgaa", sum := "2ffadfefab90b77dec8b018fda9fabc3caf590dcc61ee6bb4cdd881a7abbee36", func := "loop.example/g00916/laws.FnExactMovedTrain", spec := "fnExactMovedTrain", apart := false }
def FnExactMovedTrainSaid : Prop := fnExactMovedTrainRow.holds Try.pinned (OpenSpec.ofChange fnExactMovedTrainSpec)

/-- ITS FALSE NEIGHBOUR: 'it returns false'. Refute it at one input. -/
def fnExactMovedTrainWrong : ChangeSpec := { name := "fnExactMovedTrain", fn := fun _ => fun
  | [d1, d2] => { results := [.lit (.bool false)], args := [d1, d2] }
  | _ => none }
def FnExactMovedTrainWrongFalsely : Prop := fnExactMovedTrainRow.holds Try.pinned (OpenSpec.ofChange fnExactMovedTrainWrong)

/-- 'laws.FnExactAllowedMoves': WHATEVER THE INPUT: true; the input reads as it did. -/
def fnExactAllowedMovesSpec : ChangeSpec := { name := "fnExactAllowedMoves", fn := fun _ => fun
  | [d] => { results := [.lit (.bool true)], args := [d] }
  | _ => none }
def fnExactAllowedMovesRow : OpenClaim := { program := "ytdgiehcfelgcgaa", sum := "2ffadfefab90b77dec8b018fda9fabc3caf590dcc61ee6bb4cdd881a7abbee36", func := "loop.example/g00916/laws.FnExactAllowedMoves", spec := "fnExactAllowedMoves", apart := false }
def FnExactAllowedMovesSaid : Prop := fnExactAllowedMovesRow.holds Try.pinned (OpenSpec.ofChange fnExactAllowedMovesSpec)

/-- ITS FALSE NEIGHBOUR: 'it returns false'. Refute it at one input. -/
def fnExactAllowedMovesWrong : ChangeSpec := { name := "fnExactAllowedMoves", fn := fun _ => fun
  | [d] => { results := [.lit (.bool false)], args := [d] }
  | _ => none }
def FnExactAllowedMovesWrongFalsely : Prop := fnExactAllowedMovesRow.holds Try.pinned (OpenSpec.ofChange fnExactAllowedMovesWrong)

/-- 'laws.FnExactRunMoves': WHATEVER THE INPUT: true; the input reads as it did. -/
def fnExactRunMovesSpec : ChangeSpec := { name := "fnExactRunMoves", fn := fun _ => fun
  | [d1, d2] => { results := [.lit (.bool true)], args := [d1, d2] }
  | _ => none }
def fnExactRunMovesRow : OpenClaim := { program := "ytdgiehcfelgcgaa", sum := "2ffadfefab90b77dec8b018fda9fabc3caf590dcc61ee6bb4cdd881a7abbee36", func := "loop.example/g00916/laws.FnExactRunMoves", spec := "fnExactRunMoves", apart := false }
def FnExactRunMovesSaid : Prop := fnExactRunMovesRow.holds Try.pinned (OpenSpec.ofChange fnExactRunMovesSpec)

/-- ITS FALSE NEIGHBOUR: 'it returns false'. Refute it at one input. -/
def fnExactRunMovesWrong : ChangeSpec := { name := "fnExactRunMoves", fn := fun _ => fun
  | [d1, d2] => { results := [.lit (.bool false)], args := [d1, d2] }
  | _ => none }
def FnExactRunMovesWrongFalsely : Prop := fnExactRunMovesRow.holds Try.pinned (OpenSpec.ofChange fnExactRunMovesWrong)

/- THE SECOND FORM. 'bulk': how many values and letters a reading holds, each counted each time it is reached (what is shared counts as often as it is met; a slice's spare places count too). A statement '..UptoSaid' is the law's where the arguments, and the package variables that the reading takes, are together of bulk at most 1048576: NARROWER than '..Said'. Prove '..Said' where nothing that the law and all that it calls make is longer than what came in: it says more and counts as full. Else prove '..UptoSaid'. A law counts once. -/
mutual
def uptoBulk {H : Type} : DataW H → Nat
  | .lit (.string bytes) => bytes.length + 1
  | .lit _ => 1
  | .nil => 1
  | .ptr d => uptoBulk d + 1
  | .slice elems spare => uptoBulkAll elems + uptoBulkAll spare + 1
  | .agg parts => uptoBulkAll parts + 1
  | .iface _ d => uptoBulk d + 1
  | .map entries => uptoBulkEntries entries + 1
  | .held _ => 1
def uptoBulkAll {H : Type} : List (DataW H) → Nat
  | [] => 0
  | d :: r => uptoBulk d + uptoBulkAll r
def uptoBulkEntries {H : Type} : List (Lit × DataW H) → Nat
  | [] => 0
  | x :: r => uptoBulkEntry x + uptoBulkEntries r
def uptoBulkEntry {H : Type} : Lit × DataW H → Nat
  | (.string bytes, d) => bytes.length + uptoBulk d + 1
  | (_, d) => uptoBulk d + 1
 end
def uptoSmall : (H : Type) → List (DataW H) → Bool := fun _ ds => decide (uptoBulkAll ds ≤ 1048576)
def OpenSpec.upto (s : _root_.Go.ChangeSpec) : _root_.Go.OpenSpec := { _root_.Go.OpenSpec.ofChange s with cond := some uptoSmall }

/-- 'laws.FnTrafficMoves', WHERE WHAT IT READS IS OF BULK AT MOST 1048576: true; the input reads as it did. -/
def fnTrafficMovesUptoRow : OpenClaim := { program := "ytdgiehcfelgcgaa", sum := "2ffadfefab90b77dec8b018fda9fabc3caf590dcc61ee6bb4cdd881a7abbee36", func := "loop.example/g00916/laws.FnTrafficMoves", spec := "fnTrafficMoves", apart := false, narrowed := true }
def FnTrafficMovesUptoSaid : Prop := fnTrafficMovesUptoRow.holds Try.pinned (OpenSpec.upto fnTrafficMovesSpec)

/-- 'laws.FnTrafficUses', WHERE WHAT IT READS IS OF BULK AT MOST 1048576: true; the input reads as it did. -/
def fnTrafficUsesUptoRow : OpenClaim := { program := "ytdgiehcfelgcgaa", sum := "2ffadfefab90b77dec8b018fda9fabc3caf590dcc61ee6bb4cdd881a7abbee36", func := "loop.example/g00916/laws.FnTrafficUses", spec := "fnTrafficUses", apart := false, narrowed := true }
def FnTrafficUsesUptoSaid : Prop := fnTrafficUsesUptoRow.holds Try.pinned (OpenSpec.upto fnTrafficUsesSpec)

/-- 'laws.FnTrafficRuns', WHERE WHAT IT READS IS OF BULK AT MOST 1048576: true; the input reads as it did. -/
def fnTrafficRunsUptoRow : OpenClaim := { program := "ytdgiehcfelgcgaa", sum := "2ffadfefab90b77dec8b018fda9fabc3caf590dcc61ee6bb4cdd881a7abbee36", func := "loop.example/g00916/laws.FnTrafficRuns", spec := "fnTrafficRuns", apart := false, narrowed := true }
def FnTrafficRunsUptoSaid : Prop := fnTrafficRunsUptoRow.holds Try.pinned (OpenSpec.upto fnTrafficRunsSpec)

/-- 'laws.FnExactIsTraffic', WHERE WHAT IT READS IS OF BULK AT MOST 1048576: true; the input reads as it did. -/
def fnExactIsTrafficUptoRow : OpenClaim := { program := "ytdgiehcfelgcgaa", sum := "2ffadfefab90b77dec8b018fda9fabc3caf590dcc61ee6bb4cdd881a7abbee36", func := "loop.example/g00916/laws.FnExactIsTraffic", spec := "fnExactIsTraffic", apart := false, narrowed := true }
def FnExactIsTrafficUptoSaid : Prop := fnExactIsTrafficUptoRow.holds Try.pinned (OpenSpec.upto fnExactIsTrafficSpec)

/-- 'laws.FnExactIsSafeTraffic', WHERE WHAT IT READS IS OF BULK AT MOST 1048576: true; the input reads as it did. -/
def fnExactIsSafeTrafficUptoRow : OpenClaim := { program := "ytdgiehcfelgcgaa", sum := "2ffadfefab90b77dec8b018fda9fabc3caf590dcc61ee6bb4cdd881a7abbee36", func := "loop.example/g00916/laws.FnExactIsSafeTraffic", spec := "fnExactIsSafeTraffic", apart := false, narrowed := true }
def FnExactIsSafeTrafficUptoSaid : Prop := fnExactIsSafeTrafficUptoRow.holds Try.pinned (OpenSpec.upto fnExactIsSafeTrafficSpec)

/-- 'laws.FnExactUsedBlocks', WHERE WHAT IT READS IS OF BULK AT MOST 1048576: true; the input reads as it did. -/
def fnExactUsedBlocksUptoRow : OpenClaim := { program := "ytdgiehcfelgcgaa", sum := "2ffadfefab90b77dec8b018fda9fabc3caf590dcc61ee6bb4cdd881a7abbee36", func := "loop.example/g00916/laws.FnExactUsedBlocks", spec := "fnExactUsedBlocks", apart := false, narrowed := true }
def FnExactUsedBlocksUptoSaid : Prop := fnExactUsedBlocksUptoRow.holds Try.pinned (OpenSpec.upto fnExactUsedBlocksSpec)

/-- 'laws.FnExactUsesOfBlocks', WHERE WHAT IT READS IS OF BULK AT MOST 1048576: true; the input reads as it did. -/
def fnExactUsesOfBlocksUptoRow : OpenClaim := { program := "ytdgiehcfelgcgaa", sum := "2ffadfefab90b77dec8b018fda9fabc3caf590dcc61ee6bb4cdd881a7abbee36", func := "loop.example/g00916/laws.FnExactUsesOfBlocks", spec := "fnExactUsesOfBlocks", apart := false, narrowed := true }
def FnExactUsesOfBlocksUptoSaid : Prop := fnExactUsesOfBlocksUptoRow.holds Try.pinned (OpenSpec.upto fnExactUsesOfBlocksSpec)

/-- 'laws.FnExactMovedTrain', WHERE WHAT IT READS IS OF BULK AT MOST 1048576: true; the input reads as it did. -/
def fnExactMovedTrainUptoRow : OpenClaim := { program := "ytdgiehcfelgcgaa", sum := "2ffadfefab90b77dec8b018fda9fabc3caf590dcc61ee6bb4cdd881a7abbee36", func := "loop.example/g00916/laws.FnExactMovedTrain", spec := "fnExactMovedTrain", apart := false, narrowed := true }
def FnExactMovedTrainUptoSaid : Prop := fnExactMovedTrainUptoRow.holds Try.pinned (OpenSpec.upto fnExactMovedTrainSpec)

/-- 'laws.FnExactAllowedMoves', WHERE WHAT IT READS IS OF BULK AT MOST 1048576: true; the input reads as it did. -/
def fnExactAllowedMovesUptoRow : OpenClaim := { program := "ytdgiehcfelgcgaa", sum := "2ffadfefab90b77dec8b018fda9fabc3caf590dcc61ee6bb4cdd881a7abbee36", func := "loop.example/g00916/laws.FnExactAllowedMoves", spec := "fnExactAllowedMoves", apart := false, narrowed := true }
def FnExactAllowedMovesUptoSaid : Prop := fnExactAllowedMovesUptoRow.holds Try.pinned (OpenSpec.upto fnExactAllowedMovesSpec)

/-- 'laws.FnExactRunMoves', WHERE WHAT IT READS IS OF BULK AT MOST 1048576: true; the input reads as it did. -/
def fnExactRunMovesUptoRow : OpenClaim := { program := "ytdgiehcfelgcgaa", sum := "2ffadfefab90b77dec8b018fda9fabc3caf590dcc61ee6bb4cdd881a7abbee36", func := "loop.example/g00916/laws.FnExactRunMoves", spec := "fnExactRunMoves", apart := false, narrowed := true }
def FnExactRunMovesUptoSaid : Prop := fnExactRunMovesUptoRow.holds Try.pinned (OpenSpec.upto fnExactRunMovesSpec)

end Rows
end Go.Proofs.Ytdgiehcfelgcgaa
