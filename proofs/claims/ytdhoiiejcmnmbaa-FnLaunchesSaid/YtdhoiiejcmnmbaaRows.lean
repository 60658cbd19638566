/-
  No cell of these rows narrows 'for every input' (looked for: loops, veiled, ifaces, maps, wideKeys, modest, calm, conditions, laid).
  DERIVED. THE GIVEN ROWS OF THIS SEAT. 15 by the template 'for every input the law returns true; each argument reads behind the call as it read before'; 0 by the template 'total and deterministic' (their statements: YtdhoiiejcmnmbaaTotals.lean).
  GIVEN WITH THE SEED: the statements are not yours to turn. If you find one false, say at which input.
  Laid BY PROGRAM, IN A SANDBOX (cutbox-rows.mjs): the forced cells as the released guide's own fill.sh prints them over the translation db38514e01f83397… (all of the seat's roots in one cut). By AI agents, Wed Nov 11 2026. No macro, syntax, notation, axiom, sorry.
-/
import Derived.Test.YtdhoiiejcmnmbaaChecked
import GoSem.Claim
import GoSem.ClaimJoined
import GoSem.ClaimMapViews
import Derived.JoinedTies
import Derived.KernelRfl
namespace Go.Proofs.Ytdhoiiejcmnmbaa
/- THE CELL 'sum', in the pinned program and in every row, IS THE sha256 OF THE DUMP (.gsa) THAT YtdhoiiejcmnmbaaProg.lean LOADS. Nothing in Lean hashes anything: it is a label: what it is worth is what the hold of that sum in a sandbox is worth. -/
noncomputable def Try.pinned : Pinned := { name := "ytdhoiiejcmnmbaa", sum := "db38514e01f83397ae25aa5a5fb56b1f7fd6160af22c4e409e20d93b4a961dfb", checked := Try.checked }
namespace Rows
def none {H : Type} : Left H := { results := [], args := [] }

/-- 'laws.FnLaunches': WHATEVER THE INPUT: true; the input reads as it did. -/
def fnLaunchesSpec : ChangeSpec := { name := "fnLaunches", fn := fun _ => fun
  | [d] => { results := [.lit (.bool true)], args := [d] }
  | _ => none }
def fnLaunchesRow : OpenClaim := { program := "ytdhoiiejcmnmbaa", sum := "db38514e01f83397ae25aa5a5fb56b1f7fd6160af22c4e409e20d93b4a961dfb", func := "loop.example/g00916/laws.FnLaunches", spec := "fnLaunches", apart := false }
def FnLaunchesSaid : Prop := fnLaunchesRow.holds Try.pinned (OpenSpec.ofChange fnLaunchesSpec)

/-- ITS FALSE NEIGHBOUR: 'it returns false'. Refute it at one input. -/
def fnLaunchesWrong : ChangeSpec := { name := "fnLaunches", fn := fun _ => fun
  | [d] => { results := [.lit (.bool false)], args := [d] }
  | _ => none }
def FnLaunchesWrongFalsely : Prop := fnLaunchesRow.holds Try.pinned (OpenSpec.ofChange fnLaunchesWrong)

/-- 'laws.FnTurns': WHATEVER THE INPUT: true; the input reads as it did. -/
def fnTurnsSpec : ChangeSpec := { name := "fnTurns", fn := fun _ => fun
  | [d] => { results := [.lit (.bool true)], args := [d] }
  | _ => none }
def fnTurnsRow : OpenClaim := { program := "ytdhoiiejcmnmbaa", sum := "db38514e01f83397ae25aa5a5fb56b1f7fd6160af22c4e409e20d93b4a961dfb", func := "loop.example/g00916/laws.FnTurns", spec := "fnTurns", apart := false }
def FnTurnsSaid : Prop := fnTurnsRow.holds Try.pinned (OpenSpec.ofChange fnTurnsSpec)

/-- ITS FALSE NEIGHBOUR: 'it returns false'. Refute it at one input. -/
def fnTurnsWrong : ChangeSpec := { name := "fnTurns", fn := fun _ => fun
  | [d] => { results := [.lit (.bool false)], args := [d] }
  | _ => none }
def FnTurnsWrongFalsely : Prop := fnTurnsRow.holds Try.pinned (OpenSpec.ofChange fnTurnsWrong)

/-- 'laws.FnExactAreDevices': WHATEVER THE INPUT: true; the input reads as it did. -/
def fnExactAreDevicesSpec : ChangeSpec := { name := "fnExactAreDevices", fn := fun _ => fun
  | [d1, d2] => { results := [.lit (.bool true)], args := [d1, d2] }
  | _ => none }
def fnExactAreDevicesRow : OpenClaim := { program := "ytdhoiiejcmnmbaa", sum := "db38514e01f83397ae25aa5a5fb56b1f7fd6160af22c4e409e20d93b4a961dfb", func := "loop.example/g00916/laws.FnExactAreDevices", spec := "fnExactAreDevices", apart := false }
def FnExactAreDevicesSaid : Prop := fnExactAreDevicesRow.holds Try.pinned (OpenSpec.ofChange fnExactAreDevicesSpec)

/-- ITS FALSE NEIGHBOUR: 'it returns false'. Refute it at one input. -/
def fnExactAreDevicesWrong : ChangeSpec := { name := "fnExactAreDevices", fn := fun _ => fun
  | [d1, d2] => { results := [.lit (.bool false)], args := [d1, d2] }
  | _ => none }
def FnExactAreDevicesWrongFalsely : Prop := fnExactAreDevicesRow.holds Try.pinned (OpenSpec.ofChange fnExactAreDevicesWrong)

/-- 'laws.FnExactLaunchForce': WHATEVER THE INPUT: true; the input reads as it did. -/
def fnExactLaunchForceSpec : ChangeSpec := { name := "fnExactLaunchForce", fn := fun _ => fun
  | [d1, d2, d3] => { results := [.lit (.bool true)], args := [d1, d2, d3] }
  | _ => none }
def fnExactLaunchForceRow : OpenClaim := { program := "ytdhoiiejcmnmbaa", sum := "db38514e01f83397ae25aa5a5fb56b1f7fd6160af22c4e409e20d93b4a961dfb", func := "loop.example/g00916/laws.FnExactLaunchForce", spec := "fnExactLaunchForce", apart := false }
def FnExactLaunchForceSaid : Prop := fnExactLaunchForceRow.holds Try.pinned (OpenSpec.ofChange fnExactLaunchForceSpec)

/-- ITS FALSE NEIGHBOUR: 'it returns false'. Refute it at one input. -/
def fnExactLaunchForceWrong : ChangeSpec := { name := "fnExactLaunchForce", fn := fun _ => fun
  | [d1, d2, d3] => { results := [.lit (.bool false)], args := [d1, d2, d3] }
  | _ => none }
def FnExactLaunchForceWrongFalsely : Prop := fnExactLaunchForceRow.holds Try.pinned (OpenSpec.ofChange fnExactLaunchForceWrong)

/-- 'laws.FnExactTurnDistance': WHATEVER THE INPUT: true; the input reads as it did. -/
def fnExactTurnDistanceSpec : ChangeSpec := { name := "fnExactTurnDistance", fn := fun _ => fun
  | [d1, d2] => { results := [.lit (.bool true)], args := [d1, d2] }
  | _ => none }
def fnExactTurnDistanceRow : OpenClaim := { program := "ytdhoiiejcmnmbaa", sum := "db38514e01f83397ae25aa5a5fb56b1f7fd6160af22c4e409e20d93b4a961dfb", func := "loop.example/g00916/laws.FnExactTurnDistance", spec := "fnExactTurnDistance", apart := false }
def FnExactTurnDistanceSaid : Prop := fnExactTurnDistanceRow.holds Try.pinned (OpenSpec.ofChange fnExactTurnDistanceSpec)

/-- ITS FALSE NEIGHBOUR: 'it returns false'. Refute it at one input. -/
def fnExactTurnDistanceWrong : ChangeSpec := { name := "fnExactTurnDistance", fn := fun _ => fun
  | [d1, d2] => { results := [.lit (.bool false)], args := [d1, d2] }
  | _ => none }
def FnExactTurnDistanceWrongFalsely : Prop := fnExactTurnDistanceRow.holds Try.pinned (OpenSpec.ofChange fnExactTurnDistanceWrong)

/-- 'laws.FnExactLiftTime': WHATEVER THE INPUT: true; the input reads as it did. -/
def fnExactLiftTimeSpec : ChangeSpec := { name := "fnExactLiftTime", fn := fun _ => fun
  | [d] => { results := [.lit (.bool true)], args := [d] }
  | _ => none }
def fnExactLiftTimeRow : OpenClaim := { program := "ytdhoiiejcmnmbaa", sum := "db38514e01f83397ae25aa5a5fb56b1f7fd6160af22c4e409e20d93b4a961dfb", func := "loop.example/g00916/laws.FnExactLiftTime", spec := "fnExactLiftTime", apart := false }
def FnExactLiftTimeSaid : Prop := fnExactLiftTimeRow.holds Try.pinned (OpenSpec.ofChange fnExactLiftTimeSpec)

/-- ITS FALSE NEIGHBOUR: 'it returns false'. Refute it at one input. -/
def fnExactLiftTimeWrong : ChangeSpec := { name := "fnExactLiftTime", fn := fun _ => fun
  | [d] => { results := [.lit (.bool false)], args := [d] }
  | _ => none }
def FnExactLiftTimeWrongFalsely : Prop := fnExactLiftTimeRow.holds Try.pinned (OpenSpec.ofChange fnExactLiftTimeWrong)

/-- 'laws.FnStops': WHATEVER THE INPUT: true; the input reads as it did. -/
def fnStopsSpec : ChangeSpec := { name := "fnStops", fn := fun _ => fun
  | [d] => { results := [.lit (.bool true)], args := [d] }
  | _ => none }
def fnStopsRow : OpenClaim := { program := "ytdhoiiejcmnmbaa", sum := "db38514e01f83397ae25aa5a5fb56b1f7fd6160af22c4e409e20d93b4a961dfb", func := "loop.example/g00916/laws.FnStops", spec := "fnStops", unfollowed := true, recurses := true, apart := false }
def FnStopsSaid : Prop := fnStopsRow.holds Try.pinned (OpenSpec.ofChange fnStopsSpec)

/-- ITS FALSE NEIGHBOUR: 'it returns false'. Refute it at one input. -/
def fnStopsWrong : ChangeSpec := { name := "fnStops", fn := fun _ => fun
  | [d] => { results := [.lit (.bool false)], args := [d] }
  | _ => none }
def FnStopsWrongFalsely : Prop := fnStopsRow.holds Try.pinned (OpenSpec.ofChange fnStopsWrong)

/-- 'laws.FnEntryBounds': WHATEVER THE INPUT: true; the input reads as it did. -/
def fnEntryBoundsSpec : ChangeSpec := { name := "fnEntryBounds", fn := fun _ => fun
  | [d] => { results := [.lit (.bool true)], args := [d] }
  | _ => none }
def fnEntryBoundsRow : OpenClaim := { program := "ytdhoiiejcmnmbaa", sum := "db38514e01f83397ae25aa5a5fb56b1f7fd6160af22c4e409e20d93b4a961dfb", func := "loop.example/g00916/laws.FnEntryBounds", spec := "fnEntryBounds", unfollowed := true, recurses := true, apart := false }
def FnEntryBoundsSaid : Prop := fnEntryBoundsRow.holds Try.pinned (OpenSpec.ofChange fnEntryBoundsSpec)

/-- ITS FALSE NEIGHBOUR: 'it returns false'. Refute it at one input. -/
def fnEntryBoundsWrong : ChangeSpec := { name := "fnEntryBounds", fn := fun _ => fun
  | [d] => { results := [.lit (.bool false)], args := [d] }
  | _ => none }
def FnEntryBoundsWrongFalsely : Prop := fnEntryBoundsRow.holds Try.pinned (OpenSpec.ofChange fnEntryBoundsWrong)

/-- 'laws.FnExactBrakeWork': WHATEVER THE INPUT: true; the input reads as it did. -/
def fnExactBrakeWorkSpec : ChangeSpec := { name := "fnExactBrakeWork", fn := fun _ => fun
  | [d] => { results := [.lit (.bool true)], args := [d] }
  | _ => none }
def fnExactBrakeWorkRow : OpenClaim := { program := "ytdhoiiejcmnmbaa", sum := "db38514e01f83397ae25aa5a5fb56b1f7fd6160af22c4e409e20d93b4a961dfb", func := "loop.example/g00916/laws.FnExactBrakeWork", spec := "fnExactBrakeWork", apart := false }
def FnExactBrakeWorkSaid : Prop := fnExactBrakeWorkRow.holds Try.pinned (OpenSpec.ofChange fnExactBrakeWorkSpec)

/-- ITS FALSE NEIGHBOUR: 'it returns false'. Refute it at one input. -/
def fnExactBrakeWorkWrong : ChangeSpec := { name := "fnExactBrakeWork", fn := fun _ => fun
  | [d] => { results := [.lit (.bool false)], args := [d] }
  | _ => none }
def FnExactBrakeWorkWrongFalsely : Prop := fnExactBrakeWorkRow.holds Try.pinned (OpenSpec.ofChange fnExactBrakeWorkWrong)

/-- 'laws.FnExactStoppingDistance': WHATEVER THE INPUT: true; the input reads as it did. -/
def fnExactStoppingDistanceSpec : ChangeSpec := { name := "fnExactStoppingDistance", fn := fun _ => fun
  | [d1, d2] => { results := [.lit (.bool true)], args := [d1, d2] }
  | _ => none }
def fnExactStoppingDistanceRow : OpenClaim := { program := "ytdhoiiejcmnmbaa", sum := "db38514e01f83397ae25aa5a5fb56b1f7fd6160af22c4e409e20d93b4a961dfb", func := "loop.example/g00916/laws.FnExactStoppingDistance", spec := "fnExactStoppingDistance", apart := false }
def FnExactStoppingDistanceSaid : Prop := fnExactStoppingDistanceRow.holds Try.pinned (OpenSpec.ofChange fnExactStoppingDistanceSpec)

/-- ITS FALSE NEIGHBOUR: 'it returns false'. Refute it at one input. -/
def fnExactStoppingDistanceWrong : ChangeSpec := { name := "fnExactStoppingDistance", fn := fun _ => fun
  | [d1, d2] => { results := [.lit (.bool false)], args := [d1, d2] }
  | _ => none }
def FnExactStoppingDistanceWrongFalsely : Prop := fnExactStoppingDistanceRow.holds Try.pinned (OpenSpec.ofChange fnExactStoppingDistanceWrong)

/-- 'laws.FnExactStopVerdict': WHATEVER THE INPUT: true; the input reads as it did. -/
def fnExactStopVerdictSpec : ChangeSpec := { name := "fnExactStopVerdict", fn := fun _ => fun
  | [d1, d2] => { results := [.lit (.bool true)], args := [d1, d2] }
  | _ => none }
def fnExactStopVerdictRow : OpenClaim := { program := "ytdhoiiejcmnmbaa", sum := "db38514e01f83397ae25aa5a5fb56b1f7fd6160af22c4e409e20d93b4a961dfb", func := "loop.example/g00916/laws.FnExactStopVerdict", spec := "fnExactStopVerdict", unfollowed := true, recurses := true, apart := false }
def FnExactStopVerdictSaid : Prop := fnExactStopVerdictRow.holds Try.pinned (OpenSpec.ofChange fnExactStopVerdictSpec)

/-- ITS FALSE NEIGHBOUR: 'it returns false'. Refute it at one input. -/
def fnExactStopVerdictWrong : ChangeSpec := { name := "fnExactStopVerdict", fn := fun _ => fun
  | [d1, d2] => { results := [.lit (.bool false)], args := [d1, d2] }
  | _ => none }
def FnExactStopVerdictWrongFalsely : Prop := fnExactStopVerdictRow.holds Try.pinned (OpenSpec.ofChange fnExactStopVerdictWrong)

/-- 'laws.FnExactGreatestStop': WHATEVER THE INPUT: true; the input reads as it did. -/
def fnExactGreatestStopSpec : ChangeSpec := { name := "fnExactGreatestStop", fn := fun _ => fun
  | [d] => { results := [.lit (.bool true)], args := [d] }
  | _ => none }
def fnExactGreatestStopRow : OpenClaim := { program := "ytdhoiiejcmnmbaa", sum := "db38514e01f83397ae25aa5a5fb56b1f7fd6160af22c4e409e20d93b4a961dfb", func := "loop.example/g00916/laws.FnExactGreatestStop", spec := "fnExactGreatestStop", apart := false }
def FnExactGreatestStopSaid : Prop := fnExactGreatestStopRow.holds Try.pinned (OpenSpec.ofChange fnExactGreatestStopSpec)

/-- ITS FALSE NEIGHBOUR: 'it returns false'. Refute it at one input. -/
def fnExactGreatestStopWrong : ChangeSpec := { name := "fnExactGreatestStop", fn := fun _ => fun
  | [d] => { results := [.lit (.bool false)], args := [d] }
  | _ => none }
def FnExactGreatestStopWrongFalsely : Prop := fnExactGreatestStopRow.holds Try.pinned (OpenSpec.ofChange fnExactGreatestStopWrong)

/-- 'laws.FnExactEntryBounds': WHATEVER THE INPUT: true; the input reads as it did. -/
def fnExactEntryBoundsSpec : ChangeSpec := { name := "fnExactEntryBounds", fn := fun _ => fun
  | [d1, d2, d3] => { results := [.lit (.bool true)], args := [d1, d2, d3] }
  | _ => none }
def fnExactEntryBoundsRow : OpenClaim := { program := "ytdhoiiejcmnmbaa", sum := "db38514e01f83397ae25aa5a5fb56b1f7fd6160af22c4e409e20d93b4a961dfb", func := "loop.example/g00916/laws.FnExactEntryBounds", spec := "fnExactEntryBounds", unfollowed := true, recurses := true, apart := false }
def FnExactEntryBoundsSaid : Prop := fnExactEntryBoundsRow.holds Try.pinned (OpenSpec.ofChange fnExactEntryBoundsSpec)

/-- ITS FALSE NEIGHBOUR: 'it returns false'. Refute it at one input. -/
def fnExactEntryBoundsWrong : ChangeSpec := { name := "fnExactEntryBounds", fn := fun _ => fun
  | [d1, d2, d3] => { results := [.lit (.bool false)], args := [d1, d2, d3] }
  | _ => none }
def FnExactEntryBoundsWrongFalsely : Prop := fnExactEntryBoundsRow.holds Try.pinned (OpenSpec.ofChange fnExactEntryBoundsWrong)

/-- 'laws.FnExactMayEnter': WHATEVER THE INPUT: true; the input reads as it did. -/
def fnExactMayEnterSpec : ChangeSpec := { name := "fnExactMayEnter", fn := fun _ => fun
  | [d1, d2, d3, d4] => { results := [.lit (.bool true)], args := [d1, d2, d3, d4] }
  | _ => none }
def fnExactMayEnterRow : OpenClaim := { program := "ytdhoiiejcmnmbaa", sum := "db38514e01f83397ae25aa5a5fb56b1f7fd6160af22c4e409e20d93b4a961dfb", func := "loop.example/g00916/laws.FnExactMayEnter", spec := "fnExactMayEnter", unfollowed := true, recurses := true, apart := false }
def FnExactMayEnterSaid : Prop := fnExactMayEnterRow.holds Try.pinned (OpenSpec.ofChange fnExactMayEnterSpec)

/-- ITS FALSE NEIGHBOUR: 'it returns false'. Refute it at one input. -/
def fnExactMayEnterWrong : ChangeSpec := { name := "fnExactMayEnter", fn := fun _ => fun
  | [d1, d2, d3, d4] => { results := [.lit (.bool false)], args := [d1, d2, d3, d4] }
  | _ => none }
def FnExactMayEnterWrongFalsely : Prop := fnExactMayEnterRow.holds Try.pinned (OpenSpec.ofChange fnExactMayEnterWrong)

/-- 'laws.FnExactStopBound': WHATEVER THE INPUT: true; the input reads as it did. -/
def fnExactStopBoundSpec : ChangeSpec := { name := "fnExactStopBound", fn := fun _ => fun
  | [d1, d2, d3, d4] => { results := [.lit (.bool true)], args := [d1, d2, d3, d4] }
  | _ => none }
def fnExactStopBoundRow : OpenClaim := { program := "ytdhoiiejcmnmbaa", sum := "db38514e01f83397ae25aa5a5fb56b1f7fd6160af22c4e409e20d93b4a961dfb", func := "loop.example/g00916/laws.FnExactStopBound", spec := "fnExactStopBound", unfollowed := true, recurses := true, apart := false }
def FnExactStopBoundSaid : Prop := fnExactStopBoundRow.holds Try.pinned (OpenSpec.ofChange fnExactStopBoundSpec)

/-- ITS FALSE NEIGHBOUR: 'it returns false'. Refute it at one input. -/
def fnExactStopBoundWrong : ChangeSpec := { name := "fnExactStopBound", fn := fun _ => fun
  | [d1, d2, d3, d4] => { results := [.lit (.bool false)], args := [d1, d2, d3, d4] }
  | _ => none }
def FnExactStopBoundWrongFalsely : Prop := fnExactStopBoundRow.holds Try.pinned (OpenSpec.ofChange fnExactStopBoundWrong)

/- THE SECOND FORM. 'bulk': how many values and letters a reading holds, each counted each time it is reached (what is shared counts as often as it is met; a slice's spare places count too). A statement '..UptoSaid' is the law's where the arguments, and the package variables that the reading takes, are together of bulk at most 1048576: NARROWER than '..Said'. Prove '..Said' where nothing that the law and all that it calls make is longer than what came in: it says more and counts as full. Else prove '..UptoSaid'. A law counts once. -/
mutual
def uptoBulk {H : Type} : DataW H → Nat
  | .lit (.string bytes) => bytes.length + 1
  | .lit _ => 1
  | .nil => 1
  | .ptr d => uptoBulk d + 1
  | .slice elems spare => uptoBulkAll elems + uptoBulkAll spare + 1
  | .agg parts => uptoBulkAll parts + 1
  | .iface _ d => uptoBulk d + 1
  | .map entries => uptoBulkEntries entries + 1
  | .held _ => 1
def uptoBulkAll {H : Type} : List (DataW H) → Nat
  | [] => 0
  | d :: r => uptoBulk d + uptoBulkAll r
def uptoBulkEntries {H : Type} : List (Lit × DataW H) → Nat
  | [] => 0
  | x :: r => uptoBulkEntry x + uptoBulkEntries r
def uptoBulkEntry {H : Type} : Lit × DataW H → Nat
  | (.string bytes, d) => bytes.length + uptoBulk d + 1
  | (_, d) => uptoBulk d + 1
 end
def uptoSmall : (H : Type) → List (DataW H) → Bool := fun _ ds => decide (uptoBulkAll ds ≤ 1048576)
def OpenSpec.upto (s : _root_.Go.ChangeSpec) : _root_.Go.OpenSpec := { _root_.Go.OpenSpec.ofChange s with cond := some uptoSmall }

/-- 'laws.FnLaunches', WHERE WHAT IT READS IS OF BULK AT MOST 1048576: true; the input reads as it did. -/
def fnLaunchesUptoRow : OpenClaim := { program := "ytdhoiiejcmnmbaa", sum := "db38514e01f83397ae25aa5a5fb56b1f7fd6160af22c4e409e20d93b4a961dfb", func := "loop.example/g00916/laws.FnLaunches", spec := "fnLaunches", apart := false, narrowed := true }
def FnLaunchesUptoSaid : Prop := fnLaunchesUptoRow.holds Try.pinned (OpenSpec.upto fnLaunchesSpec)

/-- 'laws.FnTurns', WHERE WHAT IT READS IS OF BULK AT MOST 1048576: true; the input reads as it did. -/
def fnTurnsUptoRow : OpenClaim := { program := "ytdhoiiejcmnmbaa", sum := "db38514e01f83397ae25aa5a5fb56b1f7fd6160af22c4e409e20d93b4a961dfb", func := "loop.example/g00916/laws.FnTurns", spec := "fnTurns", apart := false, narrowed := true }
def FnTurnsUptoSaid : Prop := fnTurnsUptoRow.holds Try.pinned (OpenSpec.upto fnTurnsSpec)

/-- 'laws.FnExactAreDevices', WHERE WHAT IT READS IS OF BULK AT MOST 1048576: true; the input reads as it did. -/
def fnExactAreDevicesUptoRow : OpenClaim := { program := "ytdhoiiejcmnmbaa", sum := "db38514e01f83397ae25aa5a5fb56b1f7fd6160af22c4e409e20d93b4a961dfb", func := "loop.example/g00916/laws.FnExactAreDevices", spec := "fnExactAreDevices", apart := false, narrowed := true }
def FnExactAreDevicesUptoSaid : Prop := fnExactAreDevicesUptoRow.holds Try.pinned (OpenSpec.upto fnExactAreDevicesSpec)

/-- 'laws.FnExactLaunchForce', WHERE WHAT IT READS IS OF BULK AT MOST 1048576: true; the input reads as it did. -/
def fnExactLaunchForceUptoRow : OpenClaim := { program := "ytdhoiiejcmnmbaa", sum := "db38514e01f83397ae25aa5a5fb56b1f7fd6160af22c4e409e20d93b4a961dfb", func := "loop.example/g00916/laws.FnExactLaunchForce", spec := "fnExactLaunchForce", apart := false, narrowed := true }
def FnExactLaunchForceUptoSaid : Prop := fnExactLaunchForceUptoRow.holds Try.pinned (OpenSpec.upto fnExactLaunchForceSpec)

/-- 'laws.FnExactTurnDistance', WHERE WHAT IT READS IS OF BULK AT MOST 1048576: true; the input reads as it did. -/
def fnExactTurnDistanceUptoRow : OpenClaim := { program := "ytdhoiiejcmnmbaa", sum := "db38514e01f83397ae25aa5a5fb56b1f7fd6160af22c4e409e20d93b4a961dfb", func := "loop.example/g00916/laws.FnExactTurnDistance", spec := "fnExactTurnDistance", apart := false, narrowed := true }
def FnExactTurnDistanceUptoSaid : Prop := fnExactTurnDistanceUptoRow.holds Try.pinned (OpenSpec.upto fnExactTurnDistanceSpec)

/-- 'laws.FnExactLiftTime', WHERE WHAT IT READS IS OF BULK AT MOST 1048576: true; the input reads as it did. -/
def fnExactLiftTimeUptoRow : OpenClaim := { program := "ytdhoiiejcmnmbaa", sum := "db38514e01f83397ae25aa5a5fb56b1f7fd6160af22c4e409e20d93b4a961dfb", func := "loop.example/g00916/laws.FnExactLiftTime", spec := "fnExactLiftTime", apart := false, narrowed := true }
def FnExactLiftTimeUptoSaid : Prop := fnExactLiftTimeUptoRow.holds Try.pinned (OpenSpec.upto fnExactLiftTimeSpec)

/-- 'laws.FnStops', WHERE WHAT IT READS IS OF BULK AT MOST 1048576: true; the input reads as it did. -/
def fnStopsUptoRow : OpenClaim := { program := "ytdhoiiejcmnmbaa", sum := "db38514e01f83397ae25aa5a5fb56b1f7fd6160af22c4e409e20d93b4a961dfb", func := "loop.example/g00916/laws.FnStops", spec := "fnStops", unfollowed := true, recurses := true, apart := false, narrowed := true }
def FnStopsUptoSaid : Prop := fnStopsUptoRow.holds Try.pinned (OpenSpec.upto fnStopsSpec)

/-- 'laws.FnEntryBounds', WHERE WHAT IT READS IS OF BULK AT MOST 1048576: true; the input reads as it did. -/
def fnEntryBoundsUptoRow : OpenClaim := { program := "ytdhoiiejcmnmbaa", sum := "db38514e01f83397ae25aa5a5fb56b1f7fd6160af22c4e409e20d93b4a961dfb", func := "loop.example/g00916/laws.FnEntryBounds", spec := "fnEntryBounds", unfollowed := true, recurses := true, apart := false, narrowed := true }
def FnEntryBoundsUptoSaid : Prop := fnEntryBoundsUptoRow.holds Try.pinned (OpenSpec.upto fnEntryBoundsSpec)

/-- 'laws.FnExactBrakeWork', WHERE WHAT IT READS IS OF BULK AT MOST 1048576: true; the input reads as it did. -/
def fnExactBrakeWorkUptoRow : OpenClaim := { program := "ytdhoiiejcmnmbaa", sum := "db38514e01f83397ae25aa5a5fb56b1f7fd6160af22c4e409e20d93b4a961dfb", func := "loop.example/g00916/laws.FnExactBrakeWork", spec := "fnExactBrakeWork", apart := false, narrowed := true }
def FnExactBrakeWorkUptoSaid : Prop := fnExactBrakeWorkUptoRow.holds Try.pinned (OpenSpec.upto fnExactBrakeWorkSpec)

/-- 'laws.FnExactStoppingDistance', WHERE WHAT IT READS IS OF BULK AT MOST 1048576: true; the input reads as it did. -/
def fnExactStoppingDistanceUptoRow : OpenClaim := { program := "ytdhoiiejcmnmbaa", sum := "db38514e01f83397ae25aa5a5fb56b1f7fd6160af22c4e409e20d93b4a961dfb", func := "loop.example/g00916/laws.FnExactStoppingDistance", spec := "fnExactStoppingDistance", apart := false, narrowed := true }
def FnExactStoppingDistanceUptoSaid : Prop := fnExactStoppingDistanceUptoRow.holds Try.pinned (OpenSpec.upto fnExactStoppingDistanceSpec)

/-- 'laws.FnExactStopVerdict', WHERE WHAT IT READS IS OF BULK AT MOST 1048576: true; the input reads as it did. -/
def fnExactStopVerdictUptoRow : OpenClaim := { program := "ytdhoiiejcmnmbaa", sum := "db38514e01f83397ae25aa5a5fb56b1f7fd6160af22c4e409e20d93b4a961dfb", func := "loop.example/g00916/laws.FnExactStopVerdict", spec := "fnExactStopVerdict", unfollowed := true, recurses := true, apart := false, narrowed := true }
def FnExactStopVerdictUptoSaid : Prop := fnExactStopVerdictUptoRow.holds Try.pinned (OpenSpec.upto fnExactStopVerdictSpec)

/-- 'laws.FnExactGreatestStop', WHERE WHAT IT READS IS OF BULK AT MOST 1048576: true; the input reads as it did. -/
def fnExactGreatestStopUptoRow : OpenClaim := { program := "ytdhoiiejcmnmbaa", sum := "db38514e01f83397ae25aa5a5fb56b1f7fd6160af22c4e409e20d93b4a961dfb", func := "loop.example/g00916/laws.FnExactGreatestStop", spec := "fnExactGreatestStop", apart := false, narrowed := true }
def FnExactGreatestStopUptoSaid : Prop := fnExactGreatestStopUptoRow.holds Try.pinned (OpenSpec.upto fnExactGreatestStopSpec)

/-- 'laws.FnExactEntryBounds', WHERE WHAT IT READS IS OF BULK AT MOST 1048576: true; the input reads as it did. -/
def fnExactEntryBoundsUptoRow : OpenClaim := { program := "ytdhoiiejcmnmbaa", sum := "db38514e01f83397ae25aa5a5fb56b1f7fd6160af22c4e409e20d93b4a961dfb", func := "loop.example/g00916/laws.FnExactEntryBounds", spec := "fnExactEntryBounds", unfollowed := true, recurses := true, apart := false, narrowed := true }
def FnExactEntryBoundsUptoSaid : Prop := fnExactEntryBoundsUptoRow.holds Try.pinned (OpenSpec.upto fnExactEntryBoundsSpec)

/-- 'laws.FnExactMayEnter', WHERE WHAT IT READS IS OF BULK AT MOST 1048576: true; the input reads as it did. -/
def fnExactMayEnterUptoRow : OpenClaim := { program := "ytdhoiiejcmnmbaa", sum := "db38514e01f83397ae25aa5a5fb56b1f7fd6160af22c4e409e20d93b4a961dfb", func := "loop.example/g00916/laws.FnExactMayEnter", spec := "fnExactMayEnter", unfollowed := true, recurses := true, apart := false, narrowed := true }
def FnExactMayEnterUptoSaid : Prop := fnExactMayEnterUptoRow.holds Try.pinned (OpenSpec.upto fnExactMayEnterSpec)

/-- 'laws.FnExactStopBound', WHERE WHAT IT READS IS OF BULK AT MOST 1048576: true; the input reads as it did. -/
def fnExactStopBoundUptoRow : OpenClaim := { program := "ytdhoiiejcmnmbaa", sum := "db38514e01f83397ae25aa5a5fb56b1f7fd6160af22c4e409e20d93b4a961dfb", func := "loop.example/g00916/laws.FnExactStopBound", spec := "fnExactStopBound", unfollowed := true, recurses := true, apart := false, narrowed := true }
def FnExactStopBoundUptoSaid : Prop := fnExactStopBoundUptoRow.holds Try.pinned (OpenSpec.upto fnExactStopBoundSpec)

end Rows
end Go.Proofs.Ytdhoiiejcmnmbaa
