/-
  NARROWER THAN 'FOR EVERY INPUT', by the rows' own cells (each row's printed sentence says how): FnSound: laid · FnExactProgramFault: laid · FnExactIsSound: laid · FnExactLineOf: laid · FnExactUsesOf: laid · FnExactRememberedVars: laid · FnExactUnusedNames: laid · FnExactRenameIn: laid · FnExactBlocksIn: laid.
  DERIVED. THE GIVEN ROWS OF THIS SEAT. 9 by the template 'for every input the law returns true; each argument reads behind the call as it read before'; 0 by the template 'total and deterministic' (their statements: YtokipobjpinhmaaDoorTotals.lean).
  GIVEN WITH THE SEED: the statements are not yours to turn. If you find one false, say at which input.
  Laid BY PROGRAM, IN A SANDBOX (cutbox-rows.mjs): the forced cells as the released guide's own fill.sh prints them over the translation e06a6d5e52311d6a… (all of the seat's roots in one cut). By AI agents, Wed Nov 11 2026. No macro, syntax, notation, axiom, sorry.
-/
import Derived.Test.YtokipobjpinhmaaDoorChecked
import GoSem.Claim
import GoSem.ClaimJoined
import GoSem.ClaimMapViews
import Derived.JoinedTies
import Derived.KernelRfl
namespace Go.Proofs.YtokipobjpinhmaaDoor
/- THE CELL 'sum', in the pinned program and in every row, IS THE sha256 OF THE DUMP (.gsa) THAT YtokipobjpinhmaaDoorProg.lean LOADS. Nothing in Lean hashes anything: it is a label: what it is worth is what the hold of that sum in a sandbox is worth. -/
noncomputable def Tryd.pinned : Pinned := { name := "ytokipobjpinhmaadoor", sum := "e06a6d5e52311d6a277848064ab8a7a1df62874d8d4f3f57f74b83fe057c2f8f", checked := Tryd.checked }
namespace Rows
def none {H : Type} : Left H := { results := [], args := [] }

/- WHAT THE LISTED PACKAGE-LEVEL VARIABLES READ AS WHEN THE CALL BEGINS. Each datum BY PROGRAM (the guide's laid-datum.mjs) off the statement by which the dump's own 'gosem.cut.vars' lays the variable. In a bare row this is a premise. The card (YtokipobjpinhmaaDoorCards.lean) ties it to the program's text. -/
def laid_loop_example_g00916_impl_operations {H : Type} : DataW H := .agg [.agg [.lit (.string []), .lit (.int .i64 0), .lit (.bool false)], .agg [.lit (.string []), .lit (.int .i64 0), .lit (.bool false)], .agg [.lit (.string [116, 114, 117, 101]), .lit (.int .i64 0), .lit (.bool false)], .agg [.lit (.string [102, 97, 108, 115, 101]), .lit (.int .i64 0), .lit (.bool false)], .agg [.lit (.string [110, 111, 116]), .lit (.int .i64 1), .lit (.bool false)], .agg [.lit (.string [97, 110, 100]), .lit (.int .i64 2), .lit (.bool false)], .agg [.lit (.string [111, 114]), .lit (.int .i64 2), .lit (.bool false)], .agg [.lit (.string [111, 110]), .lit (.int .i64 1), .lit (.bool true)], .agg [.lit (.string [111, 102, 102]), .lit (.int .i64 1), .lit (.bool true)], .agg [.lit (.string [114, 105, 115, 101]), .lit (.int .i64 1), .lit (.bool false)], .agg [.lit (.string [108, 97, 116, 99, 104]), .lit (.int .i64 2), .lit (.bool false)], .agg [.lit (.string [99, 111, 117, 110, 116]), .lit (.int .i64 2), .lit (.bool true)], .agg [.lit (.string [112, 97, 105, 114]), .lit (.int .i64 2), .lit (.bool true)]]

/-- 'laws.FnSound': WHATEVER THE INPUT: true; the input reads as it did. -/
def fnSoundSpec : ChangeSpec := { name := "fnSound", vars := ["loop.example/g00916/impl.operations"], fn := fun _ => fun
  | [d, g1] => { results := [.lit (.bool true)], args := [d], vars := [g1] }
  | _ => none }
def fnSoundRow : OpenClaim := { program := "ytokipobjpinhmaadoor", sum := "e06a6d5e52311d6a277848064ab8a7a1df62874d8d4f3f57f74b83fe057c2f8f", func := "loop.example/g00916/laws.FnSound", spec := "fnSound", unfollowed := true, recurses := true, named := ["loop.example/g00916/impl.operations"], apart := false, laid := [("loop.example/g00916/impl.operations", laid_loop_example_g00916_impl_operations)] }
def FnSoundSaid : Prop := fnSoundRow.holds Tryd.pinned (OpenSpec.ofChange fnSoundSpec)

/-- ITS FALSE NEIGHBOUR: 'it returns false'. Refute it at one input. -/
def fnSoundWrong : ChangeSpec := { name := "fnSound", vars := ["loop.example/g00916/impl.operations"], fn := fun _ => fun
  | [d, g1] => { results := [.lit (.bool false)], args := [d], vars := [g1] }
  | _ => none }
def FnSoundWrongFalsely : Prop := fnSoundRow.holds Tryd.pinned (OpenSpec.ofChange fnSoundWrong)

/-- 'laws.FnExactProgramFault': WHATEVER THE INPUT: true; the input reads as it did. -/
def fnExactProgramFaultSpec : ChangeSpec := { name := "fnExactProgramFault", vars := ["loop.example/g00916/impl.operations"], fn := fun _ => fun
  | [d, g1] => { results := [.lit (.bool true)], args := [d], vars := [g1] }
  | _ => none }
def fnExactProgramFaultRow : OpenClaim := { program := "ytokipobjpinhmaadoor", sum := "e06a6d5e52311d6a277848064ab8a7a1df62874d8d4f3f57f74b83fe057c2f8f", func := "loop.example/g00916/laws.FnExactProgramFault", spec := "fnExactProgramFault", unfollowed := true, recurses := true, named := ["loop.example/g00916/impl.operations"], apart := false, laid := [("loop.example/g00916/impl.operations", laid_loop_example_g00916_impl_operations)] }
def FnExactProgramFaultSaid : Prop := fnExactProgramFaultRow.holds Tryd.pinned (OpenSpec.ofChange fnExactProgramFaultSpec)

/-- ITS FALSE NEIGHBOUR: 'it returns false'. Refute it at one input. -/
def fnExactProgramFaultWrong : ChangeSpec := { name := "fnExactProgramFault", vars := ["loop.example/g00916/impl.operations"], fn := fun _ => fun
  | [d, g1] => { results := [.lit (.bool false)], args := [d], vars := [g1] }
  | _ => none }
def FnExactProgramFaultWrongFalsely : Prop := fnExactProgramFaultRow.holds Tryd.pinned (OpenSpec.ofChange fnExactProgramFaultWrong)

/-- 'laws.FnExactIsSound': WHATEVER THE INPUT: true; the input reads as it did. -/
def fnExactIsSoundSpec : ChangeSpec := { name := "fnExactIsSound", vars := ["loop.example/g00916/impl.operations"], fn := fun _ => fun
  | [d, g1] => { results := [.lit (.bool true)], args := [d], vars := [g1] }
  | _ => none }
def fnExactIsSoundRow : OpenClaim := { program := "ytokipobjpinhmaadoor", sum := "e06a6d5e52311d6a277848064ab8a7a1df62874d8d4f3f57f74b83fe057c2f8f", func := "loop.example/g00916/laws.FnExactIsSound", spec := "fnExactIsSound", unfollowed := true, recurses := true, named := ["loop.example/g00916/impl.operations"], apart := false, laid := [("loop.example/g00916/impl.operations", laid_loop_example_g00916_impl_operations)] }
def FnExactIsSoundSaid : Prop := fnExactIsSoundRow.holds Tryd.pinned (OpenSpec.ofChange fnExactIsSoundSpec)

/-- ITS FALSE NEIGHBOUR: 'it returns false'. Refute it at one input. -/
def fnExactIsSoundWrong : ChangeSpec := { name := "fnExactIsSound", vars := ["loop.example/g00916/impl.operations"], fn := fun _ => fun
  | [d, g1] => { results := [.lit (.bool false)], args := [d], vars := [g1] }
  | _ => none }
def FnExactIsSoundWrongFalsely : Prop := fnExactIsSoundRow.holds Tryd.pinned (OpenSpec.ofChange fnExactIsSoundWrong)

/-- 'laws.FnExactLineOf': WHATEVER THE INPUT: true; the input reads as it did. -/
def fnExactLineOfSpec : ChangeSpec := { name := "fnExactLineOf", vars := ["loop.example/g00916/impl.operations"], fn := fun _ => fun
  | [d1, d2, g1] => { results := [.lit (.bool true)], args := [d1, d2], vars := [g1] }
  | _ => none }
def fnExactLineOfRow : OpenClaim := { program := "ytokipobjpinhmaadoor", sum := "e06a6d5e52311d6a277848064ab8a7a1df62874d8d4f3f57f74b83fe057c2f8f", func := "loop.example/g00916/laws.FnExactLineOf", spec := "fnExactLineOf", named := ["loop.example/g00916/impl.operations"], apart := false, laid := [("loop.example/g00916/impl.operations", laid_loop_example_g00916_impl_operations)] }
def FnExactLineOfSaid : Prop := fnExactLineOfRow.holds Tryd.pinned (OpenSpec.ofChange fnExactLineOfSpec)

/-- ITS FALSE NEIGHBOUR: 'it returns false'. Refute it at one input. -/
def fnExactLineOfWrong : ChangeSpec := { name := "fnExactLineOf", vars := ["loop.example/g00916/impl.operations"], fn := fun _ => fun
  | [d1, d2, g1] => { results := [.lit (.bool false)], args := [d1, d2], vars := [g1] }
  | _ => none }
def FnExactLineOfWrongFalsely : Prop := fnExactLineOfRow.holds Tryd.pinned (OpenSpec.ofChange fnExactLineOfWrong)

/-- 'laws.FnExactUsesOf': WHATEVER THE INPUT: true; the input reads as it did. -/
def fnExactUsesOfSpec : ChangeSpec := { name := "fnExactUsesOf", vars := ["loop.example/g00916/impl.operations"], fn := fun _ => fun
  | [d1, d2, g1] => { results := [.lit (.bool true)], args := [d1, d2], vars := [g1] }
  | _ => none }
def fnExactUsesOfRow : OpenClaim := { program := "ytokipobjpinhmaadoor", sum := "e06a6d5e52311d6a277848064ab8a7a1df62874d8d4f3f57f74b83fe057c2f8f", func := "loop.example/g00916/laws.FnExactUsesOf", spec := "fnExactUsesOf", named := ["loop.example/g00916/impl.operations"], apart := false, laid := [("loop.example/g00916/impl.operations", laid_loop_example_g00916_impl_operations)] }
def FnExactUsesOfSaid : Prop := fnExactUsesOfRow.holds Tryd.pinned (OpenSpec.ofChange fnExactUsesOfSpec)

/-- ITS FALSE NEIGHBOUR: 'it returns false'. Refute it at one input. -/
def fnExactUsesOfWrong : ChangeSpec := { name := "fnExactUsesOf", vars := ["loop.example/g00916/impl.operations"], fn := fun _ => fun
  | [d1, d2, g1] => { results := [.lit (.bool false)], args := [d1, d2], vars := [g1] }
  | _ => none }
def FnExactUsesOfWrongFalsely : Prop := fnExactUsesOfRow.holds Tryd.pinned (OpenSpec.ofChange fnExactUsesOfWrong)

/-- 'laws.FnExactRememberedVars': WHATEVER THE INPUT: true; the input reads as it did. -/
def fnExactRememberedVarsSpec : ChangeSpec := { name := "fnExactRememberedVars", vars := ["loop.example/g00916/impl.operations"], fn := fun _ => fun
  | [d, g1] => { results := [.lit (.bool true)], args := [d], vars := [g1] }
  | _ => none }
def fnExactRememberedVarsRow : OpenClaim := { program := "ytokipobjpinhmaadoor", sum := "e06a6d5e52311d6a277848064ab8a7a1df62874d8d4f3f57f74b83fe057c2f8f", func := "loop.example/g00916/laws.FnExactRememberedVars", spec := "fnExactRememberedVars", unfollowed := true, recurses := true, named := ["loop.example/g00916/impl.operations"], apart := false, laid := [("loop.example/g00916/impl.operations", laid_loop_example_g00916_impl_operations)] }
def FnExactRememberedVarsSaid : Prop := fnExactRememberedVarsRow.holds Tryd.pinned (OpenSpec.ofChange fnExactRememberedVarsSpec)

/-- ITS FALSE NEIGHBOUR: 'it returns false'. Refute it at one input. -/
def fnExactRememberedVarsWrong : ChangeSpec := { name := "fnExactRememberedVars", vars := ["loop.example/g00916/impl.operations"], fn := fun _ => fun
  | [d, g1] => { results := [.lit (.bool false)], args := [d], vars := [g1] }
  | _ => none }
def FnExactRememberedVarsWrongFalsely : Prop := fnExactRememberedVarsRow.holds Tryd.pinned (OpenSpec.ofChange fnExactRememberedVarsWrong)

/-- 'laws.FnExactUnusedNames': WHATEVER THE INPUT: true; the input reads as it did. -/
def fnExactUnusedNamesSpec : ChangeSpec := { name := "fnExactUnusedNames", vars := ["loop.example/g00916/impl.operations"], fn := fun _ => fun
  | [d, g1] => { results := [.lit (.bool true)], args := [d], vars := [g1] }
  | _ => none }
def fnExactUnusedNamesRow : OpenClaim := { program := "ytokipobjpinhmaadoor", sum := "e06a6d5e52311d6a277848064ab8a7a1df62874d8d4f3f57f74b83fe057c2f8f", func := "loop.example/g00916/laws.FnExactUnusedNames", spec := "fnExactUnusedNames", unfollowed := true, recurses := true, named := ["loop.example/g00916/impl.operations"], apart := false, laid := [("loop.example/g00916/impl.operations", laid_loop_example_g00916_impl_operations)] }
def FnExactUnusedNamesSaid : Prop := fnExactUnusedNamesRow.holds Tryd.pinned (OpenSpec.ofChange fnExactUnusedNamesSpec)

/-- ITS FALSE NEIGHBOUR: 'it returns false'. Refute it at one input. -/
def fnExactUnusedNamesWrong : ChangeSpec := { name := "fnExactUnusedNames", vars := ["loop.example/g00916/impl.operations"], fn := fun _ => fun
  | [d, g1] => { results := [.lit (.bool false)], args := [d], vars := [g1] }
  | _ => none }
def FnExactUnusedNamesWrongFalsely : Prop := fnExactUnusedNamesRow.holds Tryd.pinned (OpenSpec.ofChange fnExactUnusedNamesWrong)

/-- 'laws.FnExactRenameIn': WHATEVER THE INPUT: true; the input reads as it did. -/
def fnExactRenameInSpec : ChangeSpec := { name := "fnExactRenameIn", vars := ["loop.example/g00916/impl.operations"], fn := fun _ => fun
  | [d1, d2, d3, g1] => { results := [.lit (.bool true)], args := [d1, d2, d3], vars := [g1] }
  | _ => none }
def fnExactRenameInRow : OpenClaim := { program := "ytokipobjpinhmaadoor", sum := "e06a6d5e52311d6a277848064ab8a7a1df62874d8d4f3f57f74b83fe057c2f8f", func := "loop.example/g00916/laws.FnExactRenameIn", spec := "fnExactRenameIn", unfollowed := true, recurses := true, named := ["loop.example/g00916/impl.operations"], apart := false, laid := [("loop.example/g00916/impl.operations", laid_loop_example_g00916_impl_operations)] }
def FnExactRenameInSaid : Prop := fnExactRenameInRow.holds Tryd.pinned (OpenSpec.ofChange fnExactRenameInSpec)

/-- ITS FALSE NEIGHBOUR: 'it returns false'. Refute it at one input. -/
def fnExactRenameInWrong : ChangeSpec := { name := "fnExactRenameIn", vars := ["loop.example/g00916/impl.operations"], fn := fun _ => fun
  | [d1, d2, d3, g1] => { results := [.lit (.bool false)], args := [d1, d2, d3], vars := [g1] }
  | _ => none }
def FnExactRenameInWrongFalsely : Prop := fnExactRenameInRow.holds Tryd.pinned (OpenSpec.ofChange fnExactRenameInWrong)

/-- 'laws.FnExactBlocksIn': WHATEVER THE INPUT: true; the input reads as it did. -/
def fnExactBlocksInSpec : ChangeSpec := { name := "fnExactBlocksIn", vars := ["loop.example/g00916/impl.operations"], fn := fun _ => fun
  | [d, g1] => { results := [.lit (.bool true)], args := [d], vars := [g1] }
  | _ => none }
def fnExactBlocksInRow : OpenClaim := { program := "ytokipobjpinhmaadoor", sum := "e06a6d5e52311d6a277848064ab8a7a1df62874d8d4f3f57f74b83fe057c2f8f", func := "loop.example/g00916/laws.FnExactBlocksIn", spec := "fnExactBlocksIn", named := ["loop.example/g00916/impl.operations"], apart := false, laid := [("loop.example/g00916/impl.operations", laid_loop_example_g00916_impl_operations)] }
def FnExactBlocksInSaid : Prop := fnExactBlocksInRow.holds Tryd.pinned (OpenSpec.ofChange fnExactBlocksInSpec)

/-- ITS FALSE NEIGHBOUR: 'it returns false'. Refute it at one input. -/
def fnExactBlocksInWrong : ChangeSpec := { name := "fnExactBlocksIn", vars := ["loop.example/g00916/impl.operations"], fn := fun _ => fun
  | [d, g1] => { results := [.lit (.bool false)], args := [d], vars := [g1] }
  | _ => none }
def FnExactBlocksInWrongFalsely : Prop := fnExactBlocksInRow.holds Tryd.pinned (OpenSpec.ofChange fnExactBlocksInWrong)

/- THE SECOND FORM. 'bulk': how many values and letters a reading holds, each counted each time it is reached (what is shared counts as often as it is met; a slice's spare places count too). A statement '..UptoSaid' is the law's where the arguments, and the package variables that the reading takes, are together of bulk at most 1048576: NARROWER than '..Said'. Prove '..Said' where nothing that the law and all that it calls make is longer than what came in: it says more and counts as full. Else prove '..UptoSaid'. A law counts once. -/
mutual
def uptoBulk {H : Type} : DataW H → Nat
  | .lit (.string bytes) => bytes.length + 1
  | .lit _ => 1
  | .nil => 1
  | .ptr d => uptoBulk d + 1
  | .slice elems spare => uptoBulkAll elems + uptoBulkAll spare + 1
  | .agg parts => uptoBulkAll parts + 1
  | .iface _ d => uptoBulk d + 1
  | .map entries => uptoBulkEntries entries + 1
  | .held _ => 1
def uptoBulkAll {H : Type} : List (DataW H) → Nat
  | [] => 0
  | d :: r => uptoBulk d + uptoBulkAll r
def uptoBulkEntries {H : Type} : List (Lit × DataW H) → Nat
  | [] => 0
  | x :: r => uptoBulkEntry x + uptoBulkEntries r
def uptoBulkEntry {H : Type} : Lit × DataW H → Nat
  | (.string bytes, d) => bytes.length + uptoBulk d + 1
  | (_, d) => uptoBulk d + 1
 end
def uptoSmall : (H : Type) → List (DataW H) → Bool := fun _ ds => decide (uptoBulkAll ds ≤ 1048576)
def OpenSpec.upto (s : _root_.Go.ChangeSpec) : _root_.Go.OpenSpec := { _root_.Go.OpenSpec.ofChange s with cond := some uptoSmall }

/-- 'laws.FnSound', WHERE WHAT IT READS IS OF BULK AT MOST 1048576: true; the input reads as it did. -/
def fnSoundUptoRow : OpenClaim := { program := "ytokipobjpinhmaadoor", sum := "e06a6d5e52311d6a277848064ab8a7a1df62874d8d4f3f57f74b83fe057c2f8f", func := "loop.example/g00916/laws.FnSound", spec := "fnSound", unfollowed := true, recurses := true, named := ["loop.example/g00916/impl.operations"], apart := false, laid := [("loop.example/g00916/impl.operations", laid_loop_example_g00916_impl_operations)], narrowed := true }
def FnSoundUptoSaid : Prop := fnSoundUptoRow.holds Tryd.pinned (OpenSpec.upto fnSoundSpec)

/-- 'laws.FnExactProgramFault', WHERE WHAT IT READS IS OF BULK AT MOST 1048576: true; the input reads as it did. -/
def fnExactProgramFaultUptoRow : OpenClaim := { program := "ytokipobjpinhmaadoor", sum := "e06a6d5e52311d6a277848064ab8a7a1df62874d8d4f3f57f74b83fe057c2f8f", func := "loop.example/g00916/laws.FnExactProgramFault", spec := "fnExactProgramFault", unfollowed := true, recurses := true, named := ["loop.example/g00916/impl.operations"], apart := false, laid := [("loop.example/g00916/impl.operations", laid_loop_example_g00916_impl_operations)], narrowed := true }
def FnExactProgramFaultUptoSaid : Prop := fnExactProgramFaultUptoRow.holds Tryd.pinned (OpenSpec.upto fnExactProgramFaultSpec)

/-- 'laws.FnExactIsSound', WHERE WHAT IT READS IS OF BULK AT MOST 1048576: true; the input reads as it did. -/
def fnExactIsSoundUptoRow : OpenClaim := { program := "ytokipobjpinhmaadoor", sum := "e06a6d5e52311d6a277848064ab8a7a1df62874d8d4f3f57f74b83fe057c2f8f", func := "loop.example/g00916/laws.FnExactIsSound", spec := "fnExactIsSound", unfollowed := true, recurses := true, named := ["loop.example/g00916/impl.operations"], apart := false, laid := [("loop.example/g00916/impl.operations", laid_loop_example_g00916_impl_operations)], narrowed := true }
def FnExactIsSoundUptoSaid : Prop := fnExactIsSoundUptoRow.holds Tryd.pinned (OpenSpec.upto fnExactIsSoundSpec)

/-- 'laws.FnExactLineOf', WHERE WHAT IT READS IS OF BULK AT MOST 1048576: true; the input reads as it did. -/
def fnExactLineOfUptoRow : OpenClaim := { program := "ytokipobjpinhmaadoor", sum := "e06a6d5e52311d6a277848064ab8a7a1df62874d8d4f3f57f74b83fe057c2f8f", func := "loop.example/g00916/laws.FnExactLineOf", spec := "fnExactLineOf", named := ["loop.example/g00916/impl.operations"], apart := false, laid := [("loop.example/g00916/impl.operations", laid_loop_example_g00916_impl_operations)], narrowed := true }
def FnExactLineOfUptoSaid : Prop := fnExactLineOfUptoRow.holds Tryd.pinned (OpenSpec.upto fnExactLineOfSpec)

/-- 'laws.FnExactUsesOf', WHERE WHAT IT READS IS OF BULK AT MOST 1048576: true; the input reads as it did. -/
def fnExactUsesOfUptoRow : OpenClaim := { program := "ytokipobjpinhmaadoor", sum := "e06a6d5e52311d6a277848064ab8a7a1df62874d8d4f3f57f74b83fe057c2f8f", func := "loop.example/g00916/laws.FnExactUsesOf", spec := "fnExactUsesOf", named := ["loop.example/g00916/impl.operations"], apart := false, laid := [("loop.example/g00916/impl.operations", laid_loop_example_g00916_impl_operations)], narrowed := true }
def FnExactUsesOfUptoSaid : Prop := fnExactUsesOfUptoRow.holds Tryd.pinned (OpenSpec.upto fnExactUsesOfSpec)

/-- 'laws.FnExactRememberedVars', WHERE WHAT IT READS IS OF BULK AT MOST 1048576: true; the input reads as it did. -/
def fnExactRememberedVarsUptoRow : OpenClaim := { program := "ytokipobjpinhmaadoor", sum := "e06a6d5e52311d6a277848064ab8a7a1df62874d8d4f3f57f74b83fe057c2f8f", func := "loop.example/g00916/laws.FnExactRememberedVars", spec := "fnExactRememberedVars", unfollowed := true, recurses := true, named := ["loop.example/g00916/impl.operations"], apart := false, laid := [("loop.example/g00916/impl.operations", laid_loop_example_g00916_impl_operations)], narrowed := true }
def FnExactRememberedVarsUptoSaid : Prop := fnExactRememberedVarsUptoRow.holds Tryd.pinned (OpenSpec.upto fnExactRememberedVarsSpec)

/-- 'laws.FnExactUnusedNames', WHERE WHAT IT READS IS OF BULK AT MOST 1048576: true; the input reads as it did. -/
def fnExactUnusedNamesUptoRow : OpenClaim := { program := "ytokipobjpinhmaadoor", sum := "e06a6d5e52311d6a277848064ab8a7a1df62874d8d4f3f57f74b83fe057c2f8f", func := "loop.example/g00916/laws.FnExactUnusedNames", spec := "fnExactUnusedNames", unfollowed := true, recurses := true, named := ["loop.example/g00916/impl.operations"], apart := false, laid := [("loop.example/g00916/impl.operations", laid_loop_example_g00916_impl_operations)], narrowed := true }
def FnExactUnusedNamesUptoSaid : Prop := fnExactUnusedNamesUptoRow.holds Tryd.pinned (OpenSpec.upto fnExactUnusedNamesSpec)

/-- 'laws.FnExactRenameIn', WHERE WHAT IT READS IS OF BULK AT MOST 1048576: true; the input reads as it did. -/
def fnExactRenameInUptoRow : OpenClaim := { program := "ytokipobjpinhmaadoor", sum := "e06a6d5e52311d6a277848064ab8a7a1df62874d8d4f3f57f74b83fe057c2f8f", func := "loop.example/g00916/laws.FnExactRenameIn", spec := "fnExactRenameIn", unfollowed := true, recurses := true, named := ["loop.example/g00916/impl.operations"], apart := false, laid := [("loop.example/g00916/impl.operations", laid_loop_example_g00916_impl_operations)], narrowed := true }
def FnExactRenameInUptoSaid : Prop := fnExactRenameInUptoRow.holds Tryd.pinned (OpenSpec.upto fnExactRenameInSpec)

/-- 'laws.FnExactBlocksIn', WHERE WHAT IT READS IS OF BULK AT MOST 1048576: true; the input reads as it did. -/
def fnExactBlocksInUptoRow : OpenClaim := { program := "ytokipobjpinhmaadoor", sum := "e06a6d5e52311d6a277848064ab8a7a1df62874d8d4f3f57f74b83fe057c2f8f", func := "loop.example/g00916/laws.FnExactBlocksIn", spec := "fnExactBlocksIn", named := ["loop.example/g00916/impl.operations"], apart := false, laid := [("loop.example/g00916/impl.operations", laid_loop_example_g00916_impl_operations)], narrowed := true }
def FnExactBlocksInUptoSaid : Prop := fnExactBlocksInUptoRow.holds Tryd.pinned (OpenSpec.upto fnExactBlocksInSpec)

end Rows
end Go.Proofs.YtokipobjpinhmaaDoor
