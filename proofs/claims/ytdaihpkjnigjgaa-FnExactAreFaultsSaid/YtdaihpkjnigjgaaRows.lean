/-
  No cell of these rows narrows 'for every input' (looked for: loops, veiled, ifaces, maps, wideKeys, modest, calm, conditions, laid).
  DERIVED. THE GIVEN ROWS OF THIS SEAT. 21 by the template 'for every input the law returns true; each argument reads behind the call as it read before'; 0 by the template 'total and deterministic' (their statements: YtdaihpkjnigjgaaTotals.lean).
  GIVEN WITH THE SEED: the statements are not yours to turn. If you find one false, say at which input.
  Laid BY PROGRAM, IN A SANDBOX (cutbox-rows.mjs): the forced cells as the released guide's own fill.sh prints them over the translation 15d15e6b2a339d0e… (all of the seat's roots in one cut). By AI agents, Wed Nov 11 2026. No macro, syntax, notation, axiom, sorry.
-/
import Derived.Test.YtdaihpkjnigjgaaChecked
import GoSem.Claim
import GoSem.ClaimJoined
import GoSem.ClaimMapViews
import Derived.JoinedTies
import Derived.KernelRfl
namespace Go.Proofs.Ytdaihpkjnigjgaa
/- THE CELL 'sum', in the pinned program and in every row, IS THE sha256 OF THE DUMP (.gsa) THAT YtdaihpkjnigjgaaProg.lean LOADS. Nothing in Lean hashes anything: it is a label: what it is worth is what the hold of that sum in a sandbox is worth. -/
noncomputable def Try.pinned : Pinned := { name := "ytdaihpkjnigjgaa", sum := "15d15e6b2a339d0e63fa2dcaf1ee86a01d66ecdda276f1077e13c9e56dc00140", checked := Try.checked }
namespace Rows
def none {H : Type} : Left H := { results := [], args := [] }

/-- 'laws.FnTrafficMoves': WHATEVER THE INPUT: true; the input reads as it did. -/
def fnTrafficMovesSpec : ChangeSpec := { name := "fnTrafficMoves", fn := fun _ => fun
  | [d] => { results := [.lit (.bool true)], args := [d] }
  | _ => none }
def fnTrafficMovesRow : OpenClaim := { program := "ytdaihpkjnigjgaa", sum := "15d15e6b2a339d0e63fa2dcaf1ee86a01d66ecdda276f1077e13c9e56dc00140", func := "loop.example/g00916/laws.FnTrafficMoves", spec := "fnTrafficMoves", apart := false }
def FnTrafficMovesSaid : Prop := fnTrafficMovesRow.holds Try.pinned (OpenSpec.ofChange fnTrafficMovesSpec)

/-- ITS FALSE NEIGHBOUR: 'it returns false'. Refute it at one input. -/
def fnTrafficMovesWrong : ChangeSpec := { name := "fnTrafficMoves", fn := fun _ => fun
  | [d] => { results := [.lit (.bool false)], args := [d] }
  | _ => none }
def FnTrafficMovesWrongFalsely : Prop := fnTrafficMovesRow.holds Try.pinned (OpenSpec.ofChange fnTrafficMovesWrong)

/-- 'laws.FnTrafficUses': WHATEVER THE INPUT: true; the input reads as it did. -/
def fnTrafficUsesSpec : ChangeSpec := { name := "fnTrafficUses", fn := fun _ => fun
  | [d] => { results := [.lit (.bool true)], args := [d] }
  | _ => none }
def fnTrafficUsesRow : OpenClaim := { program := "ytdaihpkjnigjgaa", sum := "15d15e6b2a339d0e63fa2dcaf1ee86a01d66ecdda276f1077e13c9e56dc00140", func := "loop.example/g00916/laws.FnTrafficUses", spec := "fnTrafficUses", apart := false }
def FnTrafficUsesSaid : Prop := fnTrafficUsesRow.holds Try.pinned (OpenSpec.ofChange fnTrafficUsesSpec)

/-- ITS FALSE NEIGHBOUR: 'it returns false'. Refute it at one input. -/
def fnTrafficUsesWrong : ChangeSpec := { name := "fnTrafficUses", fn := fun _ => fun
  | [d] => { results := [.lit (.bool false)], args := [d] }
  | _ => none }
def FnTrafficUsesWrongFalsely : Prop := fnTrafficUsesRow.holds Try.pinned (OpenSpec.ofChange fnTrafficUsesWrong)

/-- 'laws.FnTrafficRuns': WHATEVER THE INPUT: true; the input reads as it did. -/
def fnTrafficRunsSpec : ChangeSpec := { name := "fnTrafficRuns", fn := fun _ => fun
  | [d] => { results := [.lit (.bool true)], args := [d] }
  | _ => none }
def fnTrafficRunsRow : OpenClaim := { program := "ytdaihpkjnigjgaa", sum := "15d15e6b2a339d0e63fa2dcaf1ee86a01d66ecdda276f1077e13c9e56dc00140", func := "loop.example/g00916/laws.FnTrafficRuns", spec := "fnTrafficRuns", apart := false }
def FnTrafficRunsSaid : Prop := fnTrafficRunsRow.holds Try.pinned (OpenSpec.ofChange fnTrafficRunsSpec)

/-- ITS FALSE NEIGHBOUR: 'it returns false'. Refute it at one input. -/
def fnTrafficRunsWrong : ChangeSpec := { name := "fnTrafficRuns", fn := fun _ => fun
  | [d] => { results := [.lit (.bool false)], args := [d] }
  | _ => none }
def FnTrafficRunsWrongFalsely : Prop := fnTrafficRunsRow.holds Try.pinned (OpenSpec.ofChange fnTrafficRunsWrong)

/-- 'laws.FnReports': WHATEVER THE INPUT: true; the input reads as it did. -/
def fnReportsSpec : ChangeSpec := { name := "fnReports", fn := fun _ => fun
  | [d] => { results := [.lit (.bool true)], args := [d] }
  | _ => none }
def fnReportsRow : OpenClaim := { program := "ytdaihpkjnigjgaa", sum := "15d15e6b2a339d0e63fa2dcaf1ee86a01d66ecdda276f1077e13c9e56dc00140", func := "loop.example/g00916/laws.FnReports", spec := "fnReports", inPlace := ["(*sync.WaitGroup).Add", "internal/race.ReleaseMerge", "internal/race.Disable", "internal/race.Enable", "internal/synctest.IsInBubble", "internal/synctest.Associate[sync.WaitGroup]", "sync.fatal", "sync/atomic.OrUint64", "sync/atomic.AddUint64", "internal/race.Read", "sync/atomic.LoadUint64", "sync/atomic.StoreUint64", "internal/synctest.Disassociate[sync.WaitGroup]", "sync.runtime_Semrelease", "(*sync.WaitGroup).Done", "(*sync.WaitGroup).Wait", "internal/race.Acquire", "internal/synctest.IsAssociated[sync.WaitGroup]", "sync/atomic.CompareAndSwapUint64", "internal/race.Write", "sync.runtime_SemacquireWaitGroup"], unfollowed := true, recurses := true, leaving := true, apart := false }
def FnReportsSaid : Prop := fnReportsRow.holds Try.pinned (OpenSpec.ofChange fnReportsSpec)

/-- ITS FALSE NEIGHBOUR: 'it returns false'. Refute it at one input. -/
def fnReportsWrong : ChangeSpec := { name := "fnReports", fn := fun _ => fun
  | [d] => { results := [.lit (.bool false)], args := [d] }
  | _ => none }
def FnReportsWrongFalsely : Prop := fnReportsRow.holds Try.pinned (OpenSpec.ofChange fnReportsWrong)

/-- 'laws.FnReportLists': WHATEVER THE INPUT: true; the input reads as it did. -/
def fnReportListsSpec : ChangeSpec := { name := "fnReportLists", fn := fun _ => fun
  | [d] => { results := [.lit (.bool true)], args := [d] }
  | _ => none }
def fnReportListsRow : OpenClaim := { program := "ytdaihpkjnigjgaa", sum := "15d15e6b2a339d0e63fa2dcaf1ee86a01d66ecdda276f1077e13c9e56dc00140", func := "loop.example/g00916/laws.FnReportLists", spec := "fnReportLists", unfollowed := true, recurses := true, leaving := true, apart := false }
def FnReportListsSaid : Prop := fnReportListsRow.holds Try.pinned (OpenSpec.ofChange fnReportListsSpec)

/-- ITS FALSE NEIGHBOUR: 'it returns false'. Refute it at one input. -/
def fnReportListsWrong : ChangeSpec := { name := "fnReportLists", fn := fun _ => fun
  | [d] => { results := [.lit (.bool false)], args := [d] }
  | _ => none }
def FnReportListsWrongFalsely : Prop := fnReportListsRow.holds Try.pinned (OpenSpec.ofChange fnReportListsWrong)

/-- 'laws.FnInterlock': WHATEVER THE INPUT: true; the input reads as it did. -/
def fnInterlockSpec : ChangeSpec := { name := "fnInterlock", fn := fun _ => fun
  | [d] => { results := [.lit (.bool true)], args := [d] }
  | _ => none }
def fnInterlockRow : OpenClaim := { program := "ytdaihpkjnigjgaa", sum := "15d15e6b2a339d0e63fa2dcaf1ee86a01d66ecdda276f1077e13c9e56dc00140", func := "loop.example/g00916/laws.FnInterlock", spec := "fnInterlock", inPlace := ["(*sync.WaitGroup).Add", "internal/race.ReleaseMerge", "internal/race.Disable", "internal/race.Enable", "internal/synctest.IsInBubble", "internal/synctest.Associate[sync.WaitGroup]", "sync.fatal", "sync/atomic.OrUint64", "sync/atomic.AddUint64", "internal/race.Read", "sync/atomic.LoadUint64", "sync/atomic.StoreUint64", "internal/synctest.Disassociate[sync.WaitGroup]", "sync.runtime_Semrelease", "(*sync.WaitGroup).Done", "(*sync.WaitGroup).Wait", "internal/race.Acquire", "internal/synctest.IsAssociated[sync.WaitGroup]", "sync/atomic.CompareAndSwapUint64", "internal/race.Write", "sync.runtime_SemacquireWaitGroup"], unfollowed := true, recurses := true, leaving := true, apart := false }
def FnInterlockSaid : Prop := fnInterlockRow.holds Try.pinned (OpenSpec.ofChange fnInterlockSpec)

/-- ITS FALSE NEIGHBOUR: 'it returns false'. Refute it at one input. -/
def fnInterlockWrong : ChangeSpec := { name := "fnInterlock", fn := fun _ => fun
  | [d] => { results := [.lit (.bool false)], args := [d] }
  | _ => none }
def FnInterlockWrongFalsely : Prop := fnInterlockRow.holds Try.pinned (OpenSpec.ofChange fnInterlockWrong)

/-- 'laws.FnExactIsTraffic': WHATEVER THE INPUT: true; the input reads as it did. -/
def fnExactIsTrafficSpec : ChangeSpec := { name := "fnExactIsTraffic", fn := fun _ => fun
  | [d] => { results := [.lit (.bool true)], args := [d] }
  | _ => none }
def fnExactIsTrafficRow : OpenClaim := { program := "ytdaihpkjnigjgaa", sum := "15d15e6b2a339d0e63fa2dcaf1ee86a01d66ecdda276f1077e13c9e56dc00140", func := "loop.example/g00916/laws.FnExactIsTraffic", spec := "fnExactIsTraffic", apart := false }
def FnExactIsTrafficSaid : Prop := fnExactIsTrafficRow.holds Try.pinned (OpenSpec.ofChange fnExactIsTrafficSpec)

/-- ITS FALSE NEIGHBOUR: 'it returns false'. Refute it at one input. -/
def fnExactIsTrafficWrong : ChangeSpec := { name := "fnExactIsTraffic", fn := fun _ => fun
  | [d] => { results := [.lit (.bool false)], args := [d] }
  | _ => none }
def FnExactIsTrafficWrongFalsely : Prop := fnExactIsTrafficRow.holds Try.pinned (OpenSpec.ofChange fnExactIsTrafficWrong)

/-- 'laws.FnExactIsSafeTraffic': WHATEVER THE INPUT: true; the input reads as it did. -/
def fnExactIsSafeTrafficSpec : ChangeSpec := { name := "fnExactIsSafeTraffic", fn := fun _ => fun
  | [d] => { results := [.lit (.bool true)], args := [d] }
  | _ => none }
def fnExactIsSafeTrafficRow : OpenClaim := { program := "ytdaihpkjnigjgaa", sum := "15d15e6b2a339d0e63fa2dcaf1ee86a01d66ecdda276f1077e13c9e56dc00140", func := "loop.example/g00916/laws.FnExactIsSafeTraffic", spec := "fnExactIsSafeTraffic", apart := false }
def FnExactIsSafeTrafficSaid : Prop := fnExactIsSafeTrafficRow.holds Try.pinned (OpenSpec.ofChange fnExactIsSafeTrafficSpec)

/-- ITS FALSE NEIGHBOUR: 'it returns false'. Refute it at one input. -/
def fnExactIsSafeTrafficWrong : ChangeSpec := { name := "fnExactIsSafeTraffic", fn := fun _ => fun
  | [d] => { results := [.lit (.bool false)], args := [d] }
  | _ => none }
def FnExactIsSafeTrafficWrongFalsely : Prop := fnExactIsSafeTrafficRow.holds Try.pinned (OpenSpec.ofChange fnExactIsSafeTrafficWrong)

/-- 'laws.FnExactUsedBlocks': WHATEVER THE INPUT: true; the input reads as it did. -/
def fnExactUsedBlocksSpec : ChangeSpec := { name := "fnExactUsedBlocks", fn := fun _ => fun
  | [d1, d2] => { results := [.lit (.bool true)], args := [d1, d2] }
  | _ => none }
def fnExactUsedBlocksRow : OpenClaim := { program := "ytdaihpkjnigjgaa", sum := "15d15e6b2a339d0e63fa2dcaf1ee86a01d66ecdda276f1077e13c9e56dc00140", func := "loop.example/g00916/laws.FnExactUsedBlocks", spec := "fnExactUsedBlocks", apart := false }
def FnExactUsedBlocksSaid : Prop := fnExactUsedBlocksRow.holds Try.pinned (OpenSpec.ofChange fnExactUsedBlocksSpec)

/-- ITS FALSE NEIGHBOUR: 'it returns false'. Refute it at one input. -/
def fnExactUsedBlocksWrong : ChangeSpec := { name := "fnExactUsedBlocks", fn := fun _ => fun
  | [d1, d2] => { results := [.lit (.bool false)], args := [d1, d2] }
  | _ => none }
def FnExactUsedBlocksWrongFalsely : Prop := fnExactUsedBlocksRow.holds Try.pinned (OpenSpec.ofChange fnExactUsedBlocksWrong)

/-- 'laws.FnExactUsesOfBlocks': WHATEVER THE INPUT: true; the input reads as it did. -/
def fnExactUsesOfBlocksSpec : ChangeSpec := { name := "fnExactUsesOfBlocks", fn := fun _ => fun
  | [d] => { results := [.lit (.bool true)], args := [d] }
  | _ => none }
def fnExactUsesOfBlocksRow : OpenClaim := { program := "ytdaihpkjnigjgaa", sum := "15d15e6b2a339d0e63fa2dcaf1ee86a01d66ecdda276f1077e13c9e56dc00140", func := "loop.example/g00916/laws.FnExactUsesOfBlocks", spec := "fnExactUsesOfBlocks", apart := false }
def FnExactUsesOfBlocksSaid : Prop := fnExactUsesOfBlocksRow.holds Try.pinned (OpenSpec.ofChange fnExactUsesOfBlocksSpec)

/-- ITS FALSE NEIGHBOUR: 'it returns false'. Refute it at one input. -/
def fnExactUsesOfBlocksWrong : ChangeSpec := { name := "fnExactUsesOfBlocks", fn := fun _ => fun
  | [d] => { results := [.lit (.bool false)], args := [d] }
  | _ => none }
def FnExactUsesOfBlocksWrongFalsely : Prop := fnExactUsesOfBlocksRow.holds Try.pinned (OpenSpec.ofChange fnExactUsesOfBlocksWrong)

/-- 'laws.FnExactMovedTrain': WHATEVER THE INPUT: true; the input reads as it did. -/
def fnExactMovedTrainSpec : ChangeSpec := { name := "fnExactMovedTrain", fn := fun _ => fun
  | [d1, d2] => { results := [.lit (.bool true)], args := [d1, d2] }
  | _ => none }
def fnExactMovedTrainRow : OpenClaim := { program := "ytdaihpkjnigjgaa", sum := "15d15e6b2a339d0e63fa2dcaf1ee86a01d66ecdda276f1077e13c9e56dc00140", func := "loop.example/g00916/laws.FnExactMovedTrain", spec := "fnExactMovedTrain", apart := false }
def FnExactMovedTrainSaid : Prop := fnExactMovedTrainRow.holds Try.pinned (OpenSpec.ofChange fnExactMovedTrainSpec)

/-- ITS FALSE NEIGHBOUR: 'it returns false'. Refute it at one input. -/
def fnExactMovedTrainWrong : ChangeSpec := { name := "fnExactMovedTrain", fn := fun _ => fun
  | [d1, d2] => { results := [.lit (.bool false)], args := [d1, d2] }
  | _ => none }
def FnExactMovedTrainWrongFalsely : Prop := fnExactMovedTrainRow.holds Try.pinned (OpenSpec.ofChange fnExactMovedTrainWrong)

/-- 'laws.FnExactAllowedMoves': WHATEVER THE INPUT: true; the input reads as it did. -/
def fnExactAllowedMovesSpec : ChangeSpec := { name := "fnExactAllowedMoves", fn := fun _ => fun
  | [d] => { results := [.lit (.bool true)], args := [d] }
  | _ => none }
def fnExactAllowedMovesRow : OpenClaim := { program := "ytdaihpkjnigjgaa", sum := "15d15e6b2a339d0e63fa2dcaf1ee86a01d66ecdda276f1077e13c9e56dc00140", func := "loop.example/g00916/laws.FnExactAllowedMoves", spec := "fnExactAllowedMoves", apart := false }
def FnExactAllowedMovesSaid : Prop := fnExactAllowedMovesRow.holds Try.pinned (OpenSpec.ofChange fnExactAllowedMovesSpec)

/-- ITS FALSE NEIGHBOUR: 'it returns false'. Refute it at one input. -/
def fnExactAllowedMovesWrong : ChangeSpec := { name := "fnExactAllowedMoves", fn := fun _ => fun
  | [d] => { results := [.lit (.bool false)], args := [d] }
  | _ => none }
def FnExactAllowedMovesWrongFalsely : Prop := fnExactAllowedMovesRow.holds Try.pinned (OpenSpec.ofChange fnExactAllowedMovesWrong)

/-- 'laws.FnExactRunMoves': WHATEVER THE INPUT: true; the input reads as it did. -/
def fnExactRunMovesSpec : ChangeSpec := { name := "fnExactRunMoves", fn := fun _ => fun
  | [d1, d2] => { results := [.lit (.bool true)], args := [d1, d2] }
  | _ => none }
def fnExactRunMovesRow : OpenClaim := { program := "ytdaihpkjnigjgaa", sum := "15d15e6b2a339d0e63fa2dcaf1ee86a01d66ecdda276f1077e13c9e56dc00140", func := "loop.example/g00916/laws.FnExactRunMoves", spec := "fnExactRunMoves", apart := false }
def FnExactRunMovesSaid : Prop := fnExactRunMovesRow.holds Try.pinned (OpenSpec.ofChange fnExactRunMovesSpec)

/-- ITS FALSE NEIGHBOUR: 'it returns false'. Refute it at one input. -/
def fnExactRunMovesWrong : ChangeSpec := { name := "fnExactRunMoves", fn := fun _ => fun
  | [d1, d2] => { results := [.lit (.bool false)], args := [d1, d2] }
  | _ => none }
def FnExactRunMovesWrongFalsely : Prop := fnExactRunMovesRow.holds Try.pinned (OpenSpec.ofChange fnExactRunMovesWrong)

/-- 'laws.FnExactAreFaults': WHATEVER THE INPUT: true; the input reads as it did. -/
def fnExactAreFaultsSpec : ChangeSpec := { name := "fnExactAreFaults", fn := fun _ => fun
  | [d1, d2] => { results := [.lit (.bool true)], args := [d1, d2] }
  | _ => none }
def fnExactAreFaultsRow : OpenClaim := { program := "ytdaihpkjnigjgaa", sum := "15d15e6b2a339d0e63fa2dcaf1ee86a01d66ecdda276f1077e13c9e56dc00140", func := "loop.example/g00916/laws.FnExactAreFaults", spec := "fnExactAreFaults", apart := false }
def FnExactAreFaultsSaid : Prop := fnExactAreFaultsRow.holds Try.pinned (OpenSpec.ofChange fnExactAreFaultsSpec)

/-- ITS FALSE NEIGHBOUR: 'it returns false'. Refute it at one input. -/
def fnExactAreFaultsWrong : ChangeSpec := { name := "fnExactAreFaults", fn := fun _ => fun
  | [d1, d2] => { results := [.lit (.bool false)], args := [d1, d2] }
  | _ => none }
def FnExactAreFaultsWrongFalsely : Prop := fnExactAreFaultsRow.holds Try.pinned (OpenSpec.ofChange fnExactAreFaultsWrong)

/-- 'laws.FnExactAreTolerated': WHATEVER THE INPUT: true; the input reads as it did. -/
def fnExactAreToleratedSpec : ChangeSpec := { name := "fnExactAreTolerated", fn := fun _ => fun
  | [d1, d2] => { results := [.lit (.bool true)], args := [d1, d2] }
  | _ => none }
def fnExactAreToleratedRow : OpenClaim := { program := "ytdaihpkjnigjgaa", sum := "15d15e6b2a339d0e63fa2dcaf1ee86a01d66ecdda276f1077e13c9e56dc00140", func := "loop.example/g00916/laws.FnExactAreTolerated", spec := "fnExactAreTolerated", apart := false }
def FnExactAreToleratedSaid : Prop := fnExactAreToleratedRow.holds Try.pinned (OpenSpec.ofChange fnExactAreToleratedSpec)

/-- ITS FALSE NEIGHBOUR: 'it returns false'. Refute it at one input. -/
def fnExactAreToleratedWrong : ChangeSpec := { name := "fnExactAreTolerated", fn := fun _ => fun
  | [d1, d2] => { results := [.lit (.bool false)], args := [d1, d2] }
  | _ => none }
def FnExactAreToleratedWrongFalsely : Prop := fnExactAreToleratedRow.holds Try.pinned (OpenSpec.ofChange fnExactAreToleratedWrong)

/-- 'laws.FnExactReportOf': WHATEVER THE INPUT: true; the input reads as it did. -/
def fnExactReportOfSpec : ChangeSpec := { name := "fnExactReportOf", fn := fun _ => fun
  | [d1, d2] => { results := [.lit (.bool true)], args := [d1, d2] }
  | _ => none }
def fnExactReportOfRow : OpenClaim := { program := "ytdaihpkjnigjgaa", sum := "15d15e6b2a339d0e63fa2dcaf1ee86a01d66ecdda276f1077e13c9e56dc00140", func := "loop.example/g00916/laws.FnExactReportOf", spec := "fnExactReportOf", inPlace := ["(*sync.WaitGroup).Add", "internal/race.ReleaseMerge", "internal/race.Disable", "internal/race.Enable", "internal/synctest.IsInBubble", "internal/synctest.Associate[sync.WaitGroup]", "sync.fatal", "sync/atomic.OrUint64", "sync/atomic.AddUint64", "internal/race.Read", "sync/atomic.LoadUint64", "sync/atomic.StoreUint64", "internal/synctest.Disassociate[sync.WaitGroup]", "sync.runtime_Semrelease", "(*sync.WaitGroup).Done", "(*sync.WaitGroup).Wait", "internal/race.Acquire", "internal/synctest.IsAssociated[sync.WaitGroup]", "sync/atomic.CompareAndSwapUint64", "internal/race.Write", "sync.runtime_SemacquireWaitGroup"], unfollowed := true, recurses := true, leaving := true, apart := false }
def FnExactReportOfSaid : Prop := fnExactReportOfRow.holds Try.pinned (OpenSpec.ofChange fnExactReportOfSpec)

/-- ITS FALSE NEIGHBOUR: 'it returns false'. Refute it at one input. -/
def fnExactReportOfWrong : ChangeSpec := { name := "fnExactReportOf", fn := fun _ => fun
  | [d1, d2] => { results := [.lit (.bool false)], args := [d1, d2] }
  | _ => none }
def FnExactReportOfWrongFalsely : Prop := fnExactReportOfRow.holds Try.pinned (OpenSpec.ofChange fnExactReportOfWrong)

/-- 'laws.FnExactClearBlocks': WHATEVER THE INPUT: true; the input reads as it did. -/
def fnExactClearBlocksSpec : ChangeSpec := { name := "fnExactClearBlocks", fn := fun _ => fun
  | [d1, d2] => { results := [.lit (.bool true)], args := [d1, d2] }
  | _ => none }
def fnExactClearBlocksRow : OpenClaim := { program := "ytdaihpkjnigjgaa", sum := "15d15e6b2a339d0e63fa2dcaf1ee86a01d66ecdda276f1077e13c9e56dc00140", func := "loop.example/g00916/laws.FnExactClearBlocks", spec := "fnExactClearBlocks", unfollowed := true, recurses := true, leaving := true, apart := false }
def FnExactClearBlocksSaid : Prop := fnExactClearBlocksRow.holds Try.pinned (OpenSpec.ofChange fnExactClearBlocksSpec)

/-- ITS FALSE NEIGHBOUR: 'it returns false'. Refute it at one input. -/
def fnExactClearBlocksWrong : ChangeSpec := { name := "fnExactClearBlocks", fn := fun _ => fun
  | [d1, d2] => { results := [.lit (.bool false)], args := [d1, d2] }
  | _ => none }
def FnExactClearBlocksWrongFalsely : Prop := fnExactClearBlocksRow.holds Try.pinned (OpenSpec.ofChange fnExactClearBlocksWrong)

/-- 'laws.FnExactDiscrepancies': WHATEVER THE INPUT: true; the input reads as it did. -/
def fnExactDiscrepanciesSpec : ChangeSpec := { name := "fnExactDiscrepancies", fn := fun _ => fun
  | [d1, d2] => { results := [.lit (.bool true)], args := [d1, d2] }
  | _ => none }
def fnExactDiscrepanciesRow : OpenClaim := { program := "ytdaihpkjnigjgaa", sum := "15d15e6b2a339d0e63fa2dcaf1ee86a01d66ecdda276f1077e13c9e56dc00140", func := "loop.example/g00916/laws.FnExactDiscrepancies", spec := "fnExactDiscrepancies", unfollowed := true, recurses := true, leaving := true, apart := false }
def FnExactDiscrepanciesSaid : Prop := fnExactDiscrepanciesRow.holds Try.pinned (OpenSpec.ofChange fnExactDiscrepanciesSpec)

/-- ITS FALSE NEIGHBOUR: 'it returns false'. Refute it at one input. -/
def fnExactDiscrepanciesWrong : ChangeSpec := { name := "fnExactDiscrepancies", fn := fun _ => fun
  | [d1, d2] => { results := [.lit (.bool false)], args := [d1, d2] }
  | _ => none }
def FnExactDiscrepanciesWrongFalsely : Prop := fnExactDiscrepanciesRow.holds Try.pinned (OpenSpec.ofChange fnExactDiscrepanciesWrong)

/-- 'laws.FnExactPermittedMoves': WHATEVER THE INPUT: true; the input reads as it did. -/
def fnExactPermittedMovesSpec : ChangeSpec := { name := "fnExactPermittedMoves", fn := fun _ => fun
  | [d1, d2] => { results := [.lit (.bool true)], args := [d1, d2] }
  | _ => none }
def fnExactPermittedMovesRow : OpenClaim := { program := "ytdaihpkjnigjgaa", sum := "15d15e6b2a339d0e63fa2dcaf1ee86a01d66ecdda276f1077e13c9e56dc00140", func := "loop.example/g00916/laws.FnExactPermittedMoves", spec := "fnExactPermittedMoves", apart := false }
def FnExactPermittedMovesSaid : Prop := fnExactPermittedMovesRow.holds Try.pinned (OpenSpec.ofChange fnExactPermittedMovesSpec)

/-- ITS FALSE NEIGHBOUR: 'it returns false'. Refute it at one input. -/
def fnExactPermittedMovesWrong : ChangeSpec := { name := "fnExactPermittedMoves", fn := fun _ => fun
  | [d1, d2] => { results := [.lit (.bool false)], args := [d1, d2] }
  | _ => none }
def FnExactPermittedMovesWrongFalsely : Prop := fnExactPermittedMovesRow.holds Try.pinned (OpenSpec.ofChange fnExactPermittedMovesWrong)

/-- 'laws.FnExactControlledRun': WHATEVER THE INPUT: true; the input reads as it did. -/
def fnExactControlledRunSpec : ChangeSpec := { name := "fnExactControlledRun", fn := fun _ => fun
  | [d1, d2, d3] => { results := [.lit (.bool true)], args := [d1, d2, d3] }
  | _ => none }
def fnExactControlledRunRow : OpenClaim := { program := "ytdaihpkjnigjgaa", sum := "15d15e6b2a339d0e63fa2dcaf1ee86a01d66ecdda276f1077e13c9e56dc00140", func := "loop.example/g00916/laws.FnExactControlledRun", spec := "fnExactControlledRun", inPlace := ["(*sync.WaitGroup).Add", "internal/race.ReleaseMerge", "internal/race.Disable", "internal/race.Enable", "internal/synctest.IsInBubble", "internal/synctest.Associate[sync.WaitGroup]", "sync.fatal", "sync/atomic.OrUint64", "sync/atomic.AddUint64", "internal/race.Read", "sync/atomic.LoadUint64", "sync/atomic.StoreUint64", "internal/synctest.Disassociate[sync.WaitGroup]", "sync.runtime_Semrelease", "(*sync.WaitGroup).Done", "(*sync.WaitGroup).Wait", "internal/race.Acquire", "internal/synctest.IsAssociated[sync.WaitGroup]", "sync/atomic.CompareAndSwapUint64", "internal/race.Write", "sync.runtime_SemacquireWaitGroup"], unfollowed := true, recurses := true, leaving := true, apart := false }
def FnExactControlledRunSaid : Prop := fnExactControlledRunRow.holds Try.pinned (OpenSpec.ofChange fnExactControlledRunSpec)

/-- ITS FALSE NEIGHBOUR: 'it returns false'. Refute it at one input. -/
def fnExactControlledRunWrong : ChangeSpec := { name := "fnExactControlledRun", fn := fun _ => fun
  | [d1, d2, d3] => { results := [.lit (.bool false)], args := [d1, d2, d3] }
  | _ => none }
def FnExactControlledRunWrongFalsely : Prop := fnExactControlledRunRow.holds Try.pinned (OpenSpec.ofChange fnExactControlledRunWrong)

/-- 'laws.FnExactFirstCollision': WHATEVER THE INPUT: true; the input reads as it did. -/
def fnExactFirstCollisionSpec : ChangeSpec := { name := "fnExactFirstCollision", fn := fun _ => fun
  | [d1, d2, d3] => { results := [.lit (.bool true)], args := [d1, d2, d3] }
  | _ => none }
def fnExactFirstCollisionRow : OpenClaim := { program := "ytdaihpkjnigjgaa", sum := "15d15e6b2a339d0e63fa2dcaf1ee86a01d66ecdda276f1077e13c9e56dc00140", func := "loop.example/g00916/laws.FnExactFirstCollision", spec := "fnExactFirstCollision", inPlace := ["(*sync.WaitGroup).Add", "internal/race.ReleaseMerge", "internal/race.Disable", "internal/race.Enable", "internal/synctest.IsInBubble", "internal/synctest.Associate[sync.WaitGroup]", "sync.fatal", "sync/atomic.OrUint64", "sync/atomic.AddUint64", "internal/race.Read", "sync/atomic.LoadUint64", "sync/atomic.StoreUint64", "internal/synctest.Disassociate[sync.WaitGroup]", "sync.runtime_Semrelease", "(*sync.WaitGroup).Done", "(*sync.WaitGroup).Wait", "internal/race.Acquire", "internal/synctest.IsAssociated[sync.WaitGroup]", "sync/atomic.CompareAndSwapUint64", "internal/race.Write", "sync.runtime_SemacquireWaitGroup"], unfollowed := true, recurses := true, leaving := true, apart := false }
def FnExactFirstCollisionSaid : Prop := fnExactFirstCollisionRow.holds Try.pinned (OpenSpec.ofChange fnExactFirstCollisionSpec)

/-- ITS FALSE NEIGHBOUR: 'it returns false'. Refute it at one input. -/
def fnExactFirstCollisionWrong : ChangeSpec := { name := "fnExactFirstCollision", fn := fun _ => fun
  | [d1, d2, d3] => { results := [.lit (.bool false)], args := [d1, d2, d3] }
  | _ => none }
def FnExactFirstCollisionWrongFalsely : Prop := fnExactFirstCollisionRow.holds Try.pinned (OpenSpec.ofChange fnExactFirstCollisionWrong)

/- THE SECOND FORM. 'bulk': how many values and letters a reading holds, each counted each time it is reached (what is shared counts as often as it is met; a slice's spare places count too). A statement '..UptoSaid' is the law's where the arguments, and the package variables that the reading takes, are together of bulk at most 1048576: NARROWER than '..Said'. Prove '..Said' where nothing that the law and all that it calls make is longer than what came in: it says more and counts as full. Else prove '..UptoSaid'. A law counts once. -/
mutual
def uptoBulk {H : Type} : DataW H → Nat
  | .lit (.string bytes) => bytes.length + 1
  | .lit _ => 1
  | .nil => 1
  | .ptr d => uptoBulk d + 1
  | .slice elems spare => uptoBulkAll elems + uptoBulkAll spare + 1
  | .agg parts => uptoBulkAll parts + 1
  | .iface _ d => uptoBulk d + 1
  | .map entries => uptoBulkEntries entries + 1
  | .held _ => 1
def uptoBulkAll {H : Type} : List (DataW H) → Nat
  | [] => 0
  | d :: r => uptoBulk d + uptoBulkAll r
def uptoBulkEntries {H : Type} : List (Lit × DataW H) → Nat
  | [] => 0
  | x :: r => uptoBulkEntry x + uptoBulkEntries r
def uptoBulkEntry {H : Type} : Lit × DataW H → Nat
  | (.string bytes, d) => bytes.length + uptoBulk d + 1
  | (_, d) => uptoBulk d + 1
 end
def uptoSmall : (H : Type) → List (DataW H) → Bool := fun _ ds => decide (uptoBulkAll ds ≤ 1048576)
def OpenSpec.upto (s : _root_.Go.ChangeSpec) : _root_.Go.OpenSpec := { _root_.Go.OpenSpec.ofChange s with cond := some uptoSmall }

/-- 'laws.FnTrafficMoves', WHERE WHAT IT READS IS OF BULK AT MOST 1048576: true; the input reads as it did. -/
def fnTrafficMovesUptoRow : OpenClaim := { program := "ytdaihpkjnigjgaa", sum := "15d15e6b2a339d0e63fa2dcaf1ee86a01d66ecdda276f1077e13c9e56dc00140", func := "loop.example/g00916/laws.FnTrafficMoves", spec := "fnTrafficMoves", apart := false, narrowed := true }
def FnTrafficMovesUptoSaid : Prop := fnTrafficMovesUptoRow.holds Try.pinned (OpenSpec.upto fnTrafficMovesSpec)

/-- 'laws.FnTrafficUses', WHERE WHAT IT READS IS OF BULK AT MOST 1048576: true; the input reads as it did. -/
def fnTrafficUsesUptoRow : OpenClaim := { program := "ytdaihpkjnigjgaa", sum := "15d15e6b2a339d0e63fa2dcaf1ee86a01d66ecdda276f1077e13c9e56dc00140", func := "loop.example/g00916/laws.FnTrafficUses", spec := "fnTrafficUses", apart := false, narrowed := true }
def FnTrafficUsesUptoSaid : Prop := fnTrafficUsesUptoRow.holds Try.pinned (OpenSpec.upto fnTrafficUsesSpec)

/-- 'laws.FnTrafficRuns', WHERE WHAT IT READS IS OF BULK AT MOST 1048576: true; the input reads as it did. -/
def fnTrafficRunsUptoRow : OpenClaim := { program := "ytdaihpkjnigjgaa", sum := "15d15e6b2a339d0e63fa2dcaf1ee86a01d66ecdda276f1077e13c9e56dc00140", func := "loop.example/g00916/laws.FnTrafficRuns", spec := "fnTrafficRuns", apart := false, narrowed := true }
def FnTrafficRunsUptoSaid : Prop := fnTrafficRunsUptoRow.holds Try.pinned (OpenSpec.upto fnTrafficRunsSpec)

/-- 'laws.FnReports', WHERE WHAT IT READS IS OF BULK AT MOST 1048576: true; the input reads as it did. -/
def fnReportsUptoRow : OpenClaim := { program := "ytdaihpkjnigjgaa", sum := "15d15e6b2a339d0e63fa2dcaf1ee86a01d66ecdda276f1077e13c9e56dc00140", func := "loop.example/g00916/laws.FnReports", spec := "fnReports", inPlace := ["(*sync.WaitGroup).Add", "internal/race.ReleaseMerge", "internal/race.Disable", "internal/race.Enable", "internal/synctest.IsInBubble", "internal/synctest.Associate[sync.WaitGroup]", "sync.fatal", "sync/atomic.OrUint64", "sync/atomic.AddUint64", "internal/race.Read", "sync/atomic.LoadUint64", "sync/atomic.StoreUint64", "internal/synctest.Disassociate[sync.WaitGroup]", "sync.runtime_Semrelease", "(*sync.WaitGroup).Done", "(*sync.WaitGroup).Wait", "internal/race.Acquire", "internal/synctest.IsAssociated[sync.WaitGroup]", "sync/atomic.CompareAndSwapUint64", "internal/race.Write", "sync.runtime_SemacquireWaitGroup"], unfollowed := true, recurses := true, leaving := true, apart := false, narrowed := true }
def FnReportsUptoSaid : Prop := fnReportsUptoRow.holds Try.pinned (OpenSpec.upto fnReportsSpec)

/-- 'laws.FnReportLists', WHERE WHAT IT READS IS OF BULK AT MOST 1048576: true; the input reads as it did. -/
def fnReportListsUptoRow : OpenClaim := { program := "ytdaihpkjnigjgaa", sum := "15d15e6b2a339d0e63fa2dcaf1ee86a01d66ecdda276f1077e13c9e56dc00140", func := "loop.example/g00916/laws.FnReportLists", spec := "fnReportLists", unfollowed := true, recurses := true, leaving := true, apart := false, narrowed := true }
def FnReportListsUptoSaid : Prop := fnReportListsUptoRow.holds Try.pinned (OpenSpec.upto fnReportListsSpec)

/-- 'laws.FnInterlock', WHERE WHAT IT READS IS OF BULK AT MOST 1048576: true; the input reads as it did. -/
def fnInterlockUptoRow : OpenClaim := { program := "ytdaihpkjnigjgaa", sum := "15d15e6b2a339d0e63fa2dcaf1ee86a01d66ecdda276f1077e13c9e56dc00140", func := "loop.example/g00916/laws.FnInterlock", spec := "fnInterlock", inPlace := ["(*sync.WaitGroup).Add", "internal/race.ReleaseMerge", "internal/race.Disable", "internal/race.Enable", "internal/synctest.IsInBubble", "internal/synctest.Associate[sync.WaitGroup]", "sync.fatal", "sync/atomic.OrUint64", "sync/atomic.AddUint64", "internal/race.Read", "sync/atomic.LoadUint64", "sync/atomic.StoreUint64", "internal/synctest.Disassociate[sync.WaitGroup]", "sync.runtime_Semrelease", "(*sync.WaitGroup).Done", "(*sync.WaitGroup).Wait", "internal/race.Acquire", "internal/synctest.IsAssociated[sync.WaitGroup]", "sync/atomic.CompareAndSwapUint64", "internal/race.Write", "sync.runtime_SemacquireWaitGroup"], unfollowed := true, recurses := true, leaving := true, apart := false, narrowed := true }
def FnInterlockUptoSaid : Prop := fnInterlockUptoRow.holds Try.pinned (OpenSpec.upto fnInterlockSpec)

/-- 'laws.FnExactIsTraffic', WHERE WHAT IT READS IS OF BULK AT MOST 1048576: true; the input reads as it did. -/
def fnExactIsTrafficUptoRow : OpenClaim := { program := "ytdaihpkjnigjgaa", sum := "15d15e6b2a339d0e63fa2dcaf1ee86a01d66ecdda276f1077e13c9e56dc00140", func := "loop.example/g00916/laws.FnExactIsTraffic", spec := "fnExactIsTraffic", apart := false, narrowed := true }
def FnExactIsTrafficUptoSaid : Prop := fnExactIsTrafficUptoRow.holds Try.pinned (OpenSpec.upto fnExactIsTrafficSpec)

/-- 'laws.FnExactIsSafeTraffic', WHERE WHAT IT READS IS OF BULK AT MOST 1048576: true; the input reads as it did. -/
def fnExactIsSafeTrafficUptoRow : OpenClaim := { program := "ytdaihpkjnigjgaa", sum := "15d15e6b2a339d0e63fa2dcaf1ee86a01d66ecdda276f1077e13c9e56dc00140", func := "loop.example/g00916/laws.FnExactIsSafeTraffic", spec := "fnExactIsSafeTraffic", apart := false, narrowed := true }
def FnExactIsSafeTrafficUptoSaid : Prop := fnExactIsSafeTrafficUptoRow.holds Try.pinned (OpenSpec.upto fnExactIsSafeTrafficSpec)

/-- 'laws.FnExactUsedBlocks', WHERE WHAT IT READS IS OF BULK AT MOST 1048576: true; the input reads as it did. -/
def fnExactUsedBlocksUptoRow : OpenClaim := { program := "ytdaihpkjnigjgaa", sum := "15d15e6b2a339d0e63fa2dcaf1ee86a01d66ecdda276f1077e13c9e56dc00140", func := "loop.example/g00916/laws.FnExactUsedBlocks", spec := "fnExactUsedBlocks", apart := false, narrowed := true }
def FnExactUsedBlocksUptoSaid : Prop := fnExactUsedBlocksUptoRow.holds Try.pinned (OpenSpec.upto fnExactUsedBlocksSpec)

/-- 'laws.FnExactUsesOfBlocks', WHERE WHAT IT READS IS OF BULK AT MOST 1048576: true; the input reads as it did. -/
def fnExactUsesOfBlocksUptoRow : OpenClaim := { program := "ytdaihpkjnigjgaa", sum := "15d15e6b2a339d0e63fa2dcaf1ee86a01d66ecdda276f1077e13c9e56dc00140", func := "loop.example/g00916/laws.FnExactUsesOfBlocks", spec := "fnExactUsesOfBlocks", apart := false, narrowed := true }
def FnExactUsesOfBlocksUptoSaid : Prop := fnExactUsesOfBlocksUptoRow.holds Try.pinned (OpenSpec.upto fnExactUsesOfBlocksSpec)

/-- 'laws.FnExactMovedTrain', WHERE WHAT IT READS IS OF BULK AT MOST 1048576: true; the input reads as it did. -/
def fnExactMovedTrainUptoRow : OpenClaim := { program := "ytdaihpkjnigjgaa", sum := "15d15e6b2a339d0e63fa2dcaf1ee86a01d66ecdda276f1077e13c9e56dc00140", func := "loop.example/g00916/laws.FnExactMovedTrain", spec := "fnExactMovedTrain", apart := false, narrowed := true }
def FnExactMovedTrainUptoSaid : Prop := fnExactMovedTrainUptoRow.holds Try.pinned (OpenSpec.upto fnExactMovedTrainSpec)

/-- 'laws.FnExactAllowedMoves', WHERE WHAT IT READS IS OF BULK AT MOST 1048576: true; the input reads as it did. -/
def fnExactAllowedMovesUptoRow : OpenClaim := { program := "ytdaihpkjnigjgaa", sum := "15d15e6b2a339d0e63fa2dcaf1ee86a01d66ecdda276f1077e13c9e56dc00140", func := "loop.example/g00916/laws.FnExactAllowedMoves", spec := "fnExactAllowedMoves", apart := false, narrowed := true }
def FnExactAllowedMovesUptoSaid : Prop := fnExactAllowedMovesUptoRow.holds Try.pinned (OpenSpec.upto fnExactAllowedMovesSpec)

/-- 'laws.FnExactRunMoves', WHERE WHAT IT READS IS OF BULK AT MOST 1048576: true; the input reads as it did. -/
def fnExactRunMovesUptoRow : OpenClaim := { program := "ytdaihpkjnigjgaa", sum := "15d15e6b2a339d0e63fa2dcaf1ee86a01d66ecdda276f1077e13c9e56dc00140", func := "loop.example/g00916/laws.FnExactRunMoves", spec := "fnExactRunMoves", apart := false, narrowed := true }
def FnExactRunMovesUptoSaid : Prop := fnExactRunMovesUptoRow.holds Try.pinned (OpenSpec.upto fnExactRunMovesSpec)

/-- 'laws.FnExactAreFaults', WHERE WHAT IT READS IS OF BULK AT MOST 1048576: true; the input reads as it did. -/
def fnExactAreFaultsUptoRow : OpenClaim := { program := "ytdaihpkjnigjgaa", sum := "15d15e6b2a339d0e63fa2dcaf1ee86a01d66ecdda276f1077e13c9e56dc00140", func := "loop.example/g00916/laws.FnExactAreFaults", spec := "fnExactAreFaults", apart := false, narrowed := true }
def FnExactAreFaultsUptoSaid : Prop := fnExactAreFaultsUptoRow.holds Try.pinned (OpenSpec.upto fnExactAreFaultsSpec)

/-- 'laws.FnExactAreTolerated', WHERE WHAT IT READS IS OF BULK AT MOST 1048576: true; the input reads as it did. -/
def fnExactAreToleratedUptoRow : OpenClaim := { program := "ytdaihpkjnigjgaa", sum := "15d15e6b2a339d0e63fa2dcaf1ee86a01d66ecdda276f1077e13c9e56dc00140", func := "loop.example/g00916/laws.FnExactAreTolerated", spec := "fnExactAreTolerated", apart := false, narrowed := true }
def FnExactAreToleratedUptoSaid : Prop := fnExactAreToleratedUptoRow.holds Try.pinned (OpenSpec.upto fnExactAreToleratedSpec)

/-- 'laws.FnExactReportOf', WHERE WHAT IT READS IS OF BULK AT MOST 1048576: true; the input reads as it did. -/
def fnExactReportOfUptoRow : OpenClaim := { program := "ytdaihpkjnigjgaa", sum := "15d15e6b2a339d0e63fa2dcaf1ee86a01d66ecdda276f1077e13c9e56dc00140", func := "loop.example/g00916/laws.FnExactReportOf", spec := "fnExactReportOf", inPlace := ["(*sync.WaitGroup).Add", "internal/race.ReleaseMerge", "internal/race.Disable", "internal/race.Enable", "internal/synctest.IsInBubble", "internal/synctest.Associate[sync.WaitGroup]", "sync.fatal", "sync/atomic.OrUint64", "sync/atomic.AddUint64", "internal/race.Read", "sync/atomic.LoadUint64", "sync/atomic.StoreUint64", "internal/synctest.Disassociate[sync.WaitGroup]", "sync.runtime_Semrelease", "(*sync.WaitGroup).Done", "(*sync.WaitGroup).Wait", "internal/race.Acquire", "internal/synctest.IsAssociated[sync.WaitGroup]", "sync/atomic.CompareAndSwapUint64", "internal/race.Write", "sync.runtime_SemacquireWaitGroup"], unfollowed := true, recurses := true, leaving := true, apart := false, narrowed := true }
def FnExactReportOfUptoSaid : Prop := fnExactReportOfUptoRow.holds Try.pinned (OpenSpec.upto fnExactReportOfSpec)

/-- 'laws.FnExactClearBlocks', WHERE WHAT IT READS IS OF BULK AT MOST 1048576: true; the input reads as it did. -/
def fnExactClearBlocksUptoRow : OpenClaim := { program := "ytdaihpkjnigjgaa", sum := "15d15e6b2a339d0e63fa2dcaf1ee86a01d66ecdda276f1077e13c9e56dc00140", func := "loop.example/g00916/laws.FnExactClearBlocks", spec := "fnExactClearBlocks", unfollowed := true, recurses := true, leaving := true, apart := false, narrowed := true }
def FnExactClearBlocksUptoSaid : Prop := fnExactClearBlocksUptoRow.holds Try.pinned (OpenSpec.upto fnExactClearBlocksSpec)

/-- 'laws.FnExactDiscrepancies', WHERE WHAT IT READS IS OF BULK AT MOST 1048576: true; the input reads as it did. -/
def fnExactDiscrepanciesUptoRow : OpenClaim := { program := "ytdaihpkjnigjgaa", sum := "15d15e6b2a339d0e63fa2dcaf1ee86a01d66ecdda276f1077e13c9e56dc00140", func := "loop.example/g00916/laws.FnExactDiscrepancies", spec := "fnExactDiscrepancies", unfollowed := true, recurses := true, leaving := true, apart := false, narrowed := true }
def FnExactDiscrepanciesUptoSaid : Prop := fnExactDiscrepanciesUptoRow.holds Try.pinned (OpenSpec.upto fnExactDiscrepanciesSpec)

/-- 'laws.FnExactPermittedMoves', WHERE WHAT IT READS IS OF BULK AT MOST 1048576: true; the input reads as it did. -/
def fnExactPermittedMovesUptoRow : OpenClaim := { program := "ytdaihpkjnigjgaa", sum := "15d15e6b2a339d0e63fa2dcaf1ee86a01d66ecdda276f1077e13c9e56dc00140", func := "loop.example/g00916/laws.FnExactPermittedMoves", spec := "fnExactPermittedMoves", apart := false, narrowed := true }
def FnExactPermittedMovesUptoSaid : Prop := fnExactPermittedMovesUptoRow.holds Try.pinned (OpenSpec.upto fnExactPermittedMovesSpec)

/-- 'laws.FnExactControlledRun', WHERE WHAT IT READS IS OF BULK AT MOST 1048576: true; the input reads as it did. -/
def fnExactControlledRunUptoRow : OpenClaim := { program := "ytdaihpkjnigjgaa", sum := "15d15e6b2a339d0e63fa2dcaf1ee86a01d66ecdda276f1077e13c9e56dc00140", func := "loop.example/g00916/laws.FnExactControlledRun", spec := "fnExactControlledRun", inPlace := ["(*sync.WaitGroup).Add", "internal/race.ReleaseMerge", "internal/race.Disable", "internal/race.Enable", "internal/synctest.IsInBubble", "internal/synctest.Associate[sync.WaitGroup]", "sync.fatal", "sync/atomic.OrUint64", "sync/atomic.AddUint64", "internal/race.Read", "sync/atomic.LoadUint64", "sync/atomic.StoreUint64", "internal/synctest.Disassociate[sync.WaitGroup]", "sync.runtime_Semrelease", "(*sync.WaitGroup).Done", "(*sync.WaitGroup).Wait", "internal/race.Acquire", "internal/synctest.IsAssociated[sync.WaitGroup]", "sync/atomic.CompareAndSwapUint64", "internal/race.Write", "sync.runtime_SemacquireWaitGroup"], unfollowed := true, recurses := true, leaving := true, apart := false, narrowed := true }
def FnExactControlledRunUptoSaid : Prop := fnExactControlledRunUptoRow.holds Try.pinned (OpenSpec.upto fnExactControlledRunSpec)

/-- 'laws.FnExactFirstCollision', WHERE WHAT IT READS IS OF BULK AT MOST 1048576: true; the input reads as it did. -/
def fnExactFirstCollisionUptoRow : OpenClaim := { program := "ytdaihpkjnigjgaa", sum := "15d15e6b2a339d0e63fa2dcaf1ee86a01d66ecdda276f1077e13c9e56dc00140", func := "loop.example/g00916/laws.FnExactFirstCollision", spec := "fnExactFirstCollision", inPlace := ["(*sync.WaitGroup).Add", "internal/race.ReleaseMerge", "internal/race.Disable", "internal/race.Enable", "internal/synctest.IsInBubble", "internal/synctest.Associate[sync.WaitGroup]", "sync.fatal", "sync/atomic.OrUint64", "sync/atomic.AddUint64", "internal/race.Read", "sync/atomic.LoadUint64", "sync/atomic.StoreUint64", "internal/synctest.Disassociate[sync.WaitGroup]", "sync.runtime_Semrelease", "(*sync.WaitGroup).Done", "(*sync.WaitGroup).Wait", "internal/race.Acquire", "internal/synctest.IsAssociated[sync.WaitGroup]", "sync/atomic.CompareAndSwapUint64", "internal/race.Write", "sync.runtime_SemacquireWaitGroup"], unfollowed := true, recurses := true, leaving := true, apart := false, narrowed := true }
def FnExactFirstCollisionUptoSaid : Prop := fnExactFirstCollisionUptoRow.holds Try.pinned (OpenSpec.upto fnExactFirstCollisionSpec)

end Rows
end Go.Proofs.Ytdaihpkjnigjgaa
