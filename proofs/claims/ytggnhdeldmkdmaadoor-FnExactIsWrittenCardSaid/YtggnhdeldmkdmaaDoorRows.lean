/-
  NARROWER THAN 'FOR EVERY INPUT', by the rows' own cells (each row's printed sentence says how): FnExactIsWritten: laid · FnExactIsExpression: laid · FnExactArgumentsOf: laid · FnExactHeightOf: laid.
  DERIVED. THE GIVEN ROWS OF THIS SEAT. 4 by the template 'for every input the law returns true; each argument reads behind the call as it read before'; 0 by the template 'total and deterministic' (their statements: YtggnhdeldmkdmaaDoorTotals.lean).
  GIVEN WITH THE SEED: the statements are not yours to turn. If you find one false, say at which input.
  Laid BY PROGRAM, IN A SANDBOX (cutbox-rows.mjs): the forced cells as the released guide's own fill.sh prints them over the translation e9e95cfeaeb58456… (all of the seat's roots in one cut). By AI agents, Wed Nov 11 2026. No macro, syntax, notation, axiom, sorry.
-/
import Derived.Test.YtggnhdeldmkdmaaDoorChecked
import GoSem.Claim
import GoSem.ClaimJoined
import GoSem.ClaimMapViews
import Derived.JoinedTies
import Derived.KernelRfl
namespace Go.Proofs.YtggnhdeldmkdmaaDoor
/- THE CELL 'sum', in the pinned program and in every row, IS THE sha256 OF THE DUMP (.gsa) THAT YtggnhdeldmkdmaaDoorProg.lean LOADS. Nothing in Lean hashes anything: it is a label: what it is worth is what the hold of that sum in a sandbox is worth. -/
noncomputable def Tryd.pinned : Pinned := { name := "ytggnhdeldmkdmaadoor", sum := "e9e95cfeaeb58456966695ad2db9da917fbefeee0766f8dfd8d8c836aa5f49cb", checked := Tryd.checked }
namespace Rows
def none {H : Type} : Left H := { results := [], args := [] }

/- WHAT THE LISTED PACKAGE-LEVEL VARIABLES READ AS WHEN THE CALL BEGINS. Each datum BY PROGRAM (the guide's laid-datum.mjs) off the statement by which the dump's own 'gosem.cut.vars' lays the variable. In a bare row this is a premise. The card (YtggnhdeldmkdmaaDoorCards.lean) ties it to the program's text. -/
def laid_loop_example_g00916_impl_operations {H : Type} : DataW H := .agg [.agg [.lit (.string []), .lit (.int .i64 0), .lit (.bool false)], .agg [.lit (.string []), .lit (.int .i64 0), .lit (.bool false)], .agg [.lit (.string [116, 114, 117, 101]), .lit (.int .i64 0), .lit (.bool false)], .agg [.lit (.string [102, 97, 108, 115, 101]), .lit (.int .i64 0), .lit (.bool false)], .agg [.lit (.string [110, 111, 116]), .lit (.int .i64 1), .lit (.bool false)], .agg [.lit (.string [97, 110, 100]), .lit (.int .i64 2), .lit (.bool false)], .agg [.lit (.string [111, 114]), .lit (.int .i64 2), .lit (.bool false)], .agg [.lit (.string [111, 110]), .lit (.int .i64 1), .lit (.bool true)], .agg [.lit (.string [111, 102, 102]), .lit (.int .i64 1), .lit (.bool true)], .agg [.lit (.string [114, 105, 115, 101]), .lit (.int .i64 1), .lit (.bool false)], .agg [.lit (.string [108, 97, 116, 99, 104]), .lit (.int .i64 2), .lit (.bool false)], .agg [.lit (.string [99, 111, 117, 110, 116]), .lit (.int .i64 2), .lit (.bool true)], .agg [.lit (.string [112, 97, 105, 114]), .lit (.int .i64 2), .lit (.bool true)]]

/-- 'laws.FnExactIsWritten': WHATEVER THE INPUT: true; the input reads as it did. -/
def fnExactIsWrittenSpec : ChangeSpec := { name := "fnExactIsWritten", vars := ["loop.example/g00916/impl.operations"], fn := fun _ => fun
  | [d, g1] => { results := [.lit (.bool true)], args := [d], vars := [g1] }
  | _ => none }
def fnExactIsWrittenRow : OpenClaim := { program := "ytggnhdeldmkdmaadoor", sum := "e9e95cfeaeb58456966695ad2db9da917fbefeee0766f8dfd8d8c836aa5f49cb", func := "loop.example/g00916/laws.FnExactIsWritten", spec := "fnExactIsWritten", named := ["loop.example/g00916/impl.operations"], apart := false, laid := [("loop.example/g00916/impl.operations", laid_loop_example_g00916_impl_operations)] }
def FnExactIsWrittenSaid : Prop := fnExactIsWrittenRow.holds Tryd.pinned (OpenSpec.ofChange fnExactIsWrittenSpec)

/-- ITS FALSE NEIGHBOUR: 'it returns false'. Refute it at one input. -/
def fnExactIsWrittenWrong : ChangeSpec := { name := "fnExactIsWritten", vars := ["loop.example/g00916/impl.operations"], fn := fun _ => fun
  | [d, g1] => { results := [.lit (.bool false)], args := [d], vars := [g1] }
  | _ => none }
def FnExactIsWrittenWrongFalsely : Prop := fnExactIsWrittenRow.holds Tryd.pinned (OpenSpec.ofChange fnExactIsWrittenWrong)

/-- 'laws.FnExactIsExpression': WHATEVER THE INPUT: true; the input reads as it did. -/
def fnExactIsExpressionSpec : ChangeSpec := { name := "fnExactIsExpression", vars := ["loop.example/g00916/impl.operations"], fn := fun _ => fun
  | [d, g1] => { results := [.lit (.bool true)], args := [d], vars := [g1] }
  | _ => none }
def fnExactIsExpressionRow : OpenClaim := { program := "ytggnhdeldmkdmaadoor", sum := "e9e95cfeaeb58456966695ad2db9da917fbefeee0766f8dfd8d8c836aa5f49cb", func := "loop.example/g00916/laws.FnExactIsExpression", spec := "fnExactIsExpression", named := ["loop.example/g00916/impl.operations"], apart := false, laid := [("loop.example/g00916/impl.operations", laid_loop_example_g00916_impl_operations)] }
def FnExactIsExpressionSaid : Prop := fnExactIsExpressionRow.holds Tryd.pinned (OpenSpec.ofChange fnExactIsExpressionSpec)

/-- ITS FALSE NEIGHBOUR: 'it returns false'. Refute it at one input. -/
def fnExactIsExpressionWrong : ChangeSpec := { name := "fnExactIsExpression", vars := ["loop.example/g00916/impl.operations"], fn := fun _ => fun
  | [d, g1] => { results := [.lit (.bool false)], args := [d], vars := [g1] }
  | _ => none }
def FnExactIsExpressionWrongFalsely : Prop := fnExactIsExpressionRow.holds Tryd.pinned (OpenSpec.ofChange fnExactIsExpressionWrong)

/-- 'laws.FnExactArgumentsOf': WHATEVER THE INPUT: true; the input reads as it did. -/
def fnExactArgumentsOfSpec : ChangeSpec := { name := "fnExactArgumentsOf", vars := ["loop.example/g00916/impl.operations"], fn := fun _ => fun
  | [d, g1] => { results := [.lit (.bool true)], args := [d], vars := [g1] }
  | _ => none }
def fnExactArgumentsOfRow : OpenClaim := { program := "ytggnhdeldmkdmaadoor", sum := "e9e95cfeaeb58456966695ad2db9da917fbefeee0766f8dfd8d8c836aa5f49cb", func := "loop.example/g00916/laws.FnExactArgumentsOf", spec := "fnExactArgumentsOf", named := ["loop.example/g00916/impl.operations"], apart := false, laid := [("loop.example/g00916/impl.operations", laid_loop_example_g00916_impl_operations)] }
def FnExactArgumentsOfSaid : Prop := fnExactArgumentsOfRow.holds Tryd.pinned (OpenSpec.ofChange fnExactArgumentsOfSpec)

/-- ITS FALSE NEIGHBOUR: 'it returns false'. Refute it at one input. -/
def fnExactArgumentsOfWrong : ChangeSpec := { name := "fnExactArgumentsOf", vars := ["loop.example/g00916/impl.operations"], fn := fun _ => fun
  | [d, g1] => { results := [.lit (.bool false)], args := [d], vars := [g1] }
  | _ => none }
def FnExactArgumentsOfWrongFalsely : Prop := fnExactArgumentsOfRow.holds Tryd.pinned (OpenSpec.ofChange fnExactArgumentsOfWrong)

/-- 'laws.FnExactHeightOf': WHATEVER THE INPUT: true; the input reads as it did. -/
def fnExactHeightOfSpec : ChangeSpec := { name := "fnExactHeightOf", vars := ["loop.example/g00916/impl.operations"], fn := fun _ => fun
  | [d, g1] => { results := [.lit (.bool true)], args := [d], vars := [g1] }
  | _ => none }
def fnExactHeightOfRow : OpenClaim := { program := "ytggnhdeldmkdmaadoor", sum := "e9e95cfeaeb58456966695ad2db9da917fbefeee0766f8dfd8d8c836aa5f49cb", func := "loop.example/g00916/laws.FnExactHeightOf", spec := "fnExactHeightOf", named := ["loop.example/g00916/impl.operations"], apart := false, laid := [("loop.example/g00916/impl.operations", laid_loop_example_g00916_impl_operations)] }
def FnExactHeightOfSaid : Prop := fnExactHeightOfRow.holds Tryd.pinned (OpenSpec.ofChange fnExactHeightOfSpec)

/-- ITS FALSE NEIGHBOUR: 'it returns false'. Refute it at one input. -/
def fnExactHeightOfWrong : ChangeSpec := { name := "fnExactHeightOf", vars := ["loop.example/g00916/impl.operations"], fn := fun _ => fun
  | [d, g1] => { results := [.lit (.bool false)], args := [d], vars := [g1] }
  | _ => none }
def FnExactHeightOfWrongFalsely : Prop := fnExactHeightOfRow.holds Tryd.pinned (OpenSpec.ofChange fnExactHeightOfWrong)

/- THE SECOND FORM. 'bulk': how many values and letters a reading holds, each counted each time it is reached (what is shared counts as often as it is met; a slice's spare places count too). A statement '..UptoSaid' is the law's where the arguments, and the package variables that the reading takes, are together of bulk at most 1048576: NARROWER than '..Said'. Prove '..Said' where nothing that the law and all that it calls make is longer than what came in: it says more and counts as full. Else prove '..UptoSaid'. A law counts once. -/
mutual
def uptoBulk {H : Type} : DataW H → Nat
  | .lit (.string bytes) => bytes.length + 1
  | .lit _ => 1
  | .nil => 1
  | .ptr d => uptoBulk d + 1
  | .slice elems spare => uptoBulkAll elems + uptoBulkAll spare + 1
  | .agg parts => uptoBulkAll parts + 1
  | .iface _ d => uptoBulk d + 1
  | .map entries => uptoBulkEntries entries + 1
  | .held _ => 1
def uptoBulkAll {H : Type} : List (DataW H) → Nat
  | [] => 0
  | d :: r => uptoBulk d + uptoBulkAll r
def uptoBulkEntries {H : Type} : List (Lit × DataW H) → Nat
  | [] => 0
  | x :: r => uptoBulkEntry x + uptoBulkEntries r
def uptoBulkEntry {H : Type} : Lit × DataW H → Nat
  | (.string bytes, d) => bytes.length + uptoBulk d + 1
  | (_, d) => uptoBulk d + 1
 end
def uptoSmall : (H : Type) → List (DataW H) → Bool := fun _ ds => decide (uptoBulkAll ds ≤ 1048576)
def OpenSpec.upto (s : _root_.Go.ChangeSpec) : _root_.Go.OpenSpec := { _root_.Go.OpenSpec.ofChange s with cond := some uptoSmall }

/-- 'laws.FnExactIsWritten', WHERE WHAT IT READS IS OF BULK AT MOST 1048576: true; the input reads as it did. -/
def fnExactIsWrittenUptoRow : OpenClaim := { program := "ytggnhdeldmkdmaadoor", sum := "e9e95cfeaeb58456966695ad2db9da917fbefeee0766f8dfd8d8c836aa5f49cb", func := "loop.example/g00916/laws.FnExactIsWritten", spec := "fnExactIsWritten", named := ["loop.example/g00916/impl.operations"], apart := false, laid := [("loop.example/g00916/impl.operations", laid_loop_example_g00916_impl_operations)], narrowed := true }
def FnExactIsWrittenUptoSaid : Prop := fnExactIsWrittenUptoRow.holds Tryd.pinned (OpenSpec.upto fnExactIsWrittenSpec)

/-- 'laws.FnExactIsExpression', WHERE WHAT IT READS IS OF BULK AT MOST 1048576: true; the input reads as it did. -/
def fnExactIsExpressionUptoRow : OpenClaim := { program := "ytggnhdeldmkdmaadoor", sum := "e9e95cfeaeb58456966695ad2db9da917fbefeee0766f8dfd8d8c836aa5f49cb", func := "loop.example/g00916/laws.FnExactIsExpression", spec := "fnExactIsExpression", named := ["loop.example/g00916/impl.operations"], apart := false, laid := [("loop.example/g00916/impl.operations", laid_loop_example_g00916_impl_operations)], narrowed := true }
def FnExactIsExpressionUptoSaid : Prop := fnExactIsExpressionUptoRow.holds Tryd.pinned (OpenSpec.upto fnExactIsExpressionSpec)

/-- 'laws.FnExactArgumentsOf', WHERE WHAT IT READS IS OF BULK AT MOST 1048576: true; the input reads as it did. -/
def fnExactArgumentsOfUptoRow : OpenClaim := { program := "ytggnhdeldmkdmaadoor", sum := "e9e95cfeaeb58456966695ad2db9da917fbefeee0766f8dfd8d8c836aa5f49cb", func := "loop.example/g00916/laws.FnExactArgumentsOf", spec := "fnExactArgumentsOf", named := ["loop.example/g00916/impl.operations"], apart := false, laid := [("loop.example/g00916/impl.operations", laid_loop_example_g00916_impl_operations)], narrowed := true }
def FnExactArgumentsOfUptoSaid : Prop := fnExactArgumentsOfUptoRow.holds Tryd.pinned (OpenSpec.upto fnExactArgumentsOfSpec)

/-- 'laws.FnExactHeightOf', WHERE WHAT IT READS IS OF BULK AT MOST 1048576: true; the input reads as it did. -/
def fnExactHeightOfUptoRow : OpenClaim := { program := "ytggnhdeldmkdmaadoor", sum := "e9e95cfeaeb58456966695ad2db9da917fbefeee0766f8dfd8d8c836aa5f49cb", func := "loop.example/g00916/laws.FnExactHeightOf", spec := "fnExactHeightOf", named := ["loop.example/g00916/impl.operations"], apart := false, laid := [("loop.example/g00916/impl.operations", laid_loop_example_g00916_impl_operations)], narrowed := true }
def FnExactHeightOfUptoSaid : Prop := fnExactHeightOfUptoRow.holds Tryd.pinned (OpenSpec.upto fnExactHeightOfSpec)

end Rows
end Go.Proofs.YtggnhdeldmkdmaaDoor
