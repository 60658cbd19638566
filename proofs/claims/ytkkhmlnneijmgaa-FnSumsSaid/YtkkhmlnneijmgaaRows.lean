/-
  No cell of these rows narrows 'for every input' (looked for: loops, veiled, ifaces, maps, wideKeys, modest, calm, conditions, laid).
  DERIVED. THE GIVEN ROWS OF THIS SEAT. 9 by the template 'for every input the law returns true; each argument reads behind the call as it read before'; 0 by the template 'total and deterministic' (their statements: YtkkhmlnneijmgaaTotals.lean).
  GIVEN WITH THE SEED: the statements are not yours to turn. If you find one false, say at which input.
  Laid BY PROGRAM, IN A SANDBOX (cutbox-rows.mjs): the forced cells as the released guide's own fill.sh prints them over the translation efa1b9f0b7423c32… (all of the seat's roots in one cut). By AI agents, Wed Nov 11 2026. No macro, syntax, notation, axiom, sorry.
-/
import Derived.Test.YtkkhmlnneijmgaaChecked
import GoSem.Claim
import GoSem.ClaimJoined
import GoSem.ClaimMapViews
import Derived.JoinedTies
import Derived.KernelRfl
namespace Go.Proofs.Ytkkhmlnneijmgaa
/- THE CELL 'sum', in the pinned program and in every row, IS THE sha256 OF THE DUMP (.gsa) THAT YtkkhmlnneijmgaaProg.lean LOADS. Nothing in Lean hashes anything: it is a label: what it is worth is what the hold of that sum in a sandbox is worth. -/
noncomputable def Try.pinned : Pinned := { name := "ytkkhmlnneijmgaa", sum := "efa1b9f0b7423c32654a19eabc3d0760e1f09c37bb15a0b793f971702fb7596d", checked := Try.checked }
namespace Rows
def none {H : Type} : Left H := { results := [], args := [] }

/-- 'laws.FnQuotients': WHATEVER THE INPUT: true; the input reads as it did. -/
def fnQuotientsSpec : ChangeSpec := { name := "fnQuotients", fn := fun _ => fun
  | [d] => { results := [.lit (.bool true)], args := [d] }
  | _ => none }
def fnQuotientsRow : OpenClaim := { program := "ytkkhmlnneijmgaa", sum := "efa1b9f0b7423c32654a19eabc3d0760e1f09c37bb15a0b793f971702fb7596d", func := "loop.example/g00916/laws.FnQuotients", spec := "fnQuotients", apart := false }
def FnQuotientsSaid : Prop := fnQuotientsRow.holds Try.pinned (OpenSpec.ofChange fnQuotientsSpec)

/-- ITS FALSE NEIGHBOUR: 'it returns false'. Refute it at one input. -/
def fnQuotientsWrong : ChangeSpec := { name := "fnQuotients", fn := fun _ => fun
  | [d] => { results := [.lit (.bool false)], args := [d] }
  | _ => none }
def FnQuotientsWrongFalsely : Prop := fnQuotientsRow.holds Try.pinned (OpenSpec.ofChange fnQuotientsWrong)

/-- 'laws.FnRoots': WHATEVER THE INPUT: true; the input reads as it did. -/
def fnRootsSpec : ChangeSpec := { name := "fnRoots", fn := fun _ => fun
  | [d] => { results := [.lit (.bool true)], args := [d] }
  | _ => none }
def fnRootsRow : OpenClaim := { program := "ytkkhmlnneijmgaa", sum := "efa1b9f0b7423c32654a19eabc3d0760e1f09c37bb15a0b793f971702fb7596d", func := "loop.example/g00916/laws.FnRoots", spec := "fnRoots", apart := false }
def FnRootsSaid : Prop := fnRootsRow.holds Try.pinned (OpenSpec.ofChange fnRootsSpec)

/-- ITS FALSE NEIGHBOUR: 'it returns false'. Refute it at one input. -/
def fnRootsWrong : ChangeSpec := { name := "fnRoots", fn := fun _ => fun
  | [d] => { results := [.lit (.bool false)], args := [d] }
  | _ => none }
def FnRootsWrongFalsely : Prop := fnRootsRow.holds Try.pinned (OpenSpec.ofChange fnRootsWrong)

/-- 'laws.FnSums': WHATEVER THE INPUT: true; the input reads as it did. -/
def fnSumsSpec : ChangeSpec := { name := "fnSums", fn := fun _ => fun
  | [d] => { results := [.lit (.bool true)], args := [d] }
  | _ => none }
def fnSumsRow : OpenClaim := { program := "ytkkhmlnneijmgaa", sum := "efa1b9f0b7423c32654a19eabc3d0760e1f09c37bb15a0b793f971702fb7596d", func := "loop.example/g00916/laws.FnSums", spec := "fnSums", apart := false }
def FnSumsSaid : Prop := fnSumsRow.holds Try.pinned (OpenSpec.ofChange fnSumsSpec)

/-- ITS FALSE NEIGHBOUR: 'it returns false'. Refute it at one input. -/
def fnSumsWrong : ChangeSpec := { name := "fnSums", fn := fun _ => fun
  | [d] => { results := [.lit (.bool false)], args := [d] }
  | _ => none }
def FnSumsWrongFalsely : Prop := fnSumsRow.holds Try.pinned (OpenSpec.ofChange fnSumsWrong)

/-- 'laws.FnExactDivideDown': WHATEVER THE INPUT: true; the input reads as it did. -/
def fnExactDivideDownSpec : ChangeSpec := { name := "fnExactDivideDown", fn := fun _ => fun
  | [d1, d2] => { results := [.lit (.bool true)], args := [d1, d2] }
  | _ => none }
def fnExactDivideDownRow : OpenClaim := { program := "ytkkhmlnneijmgaa", sum := "efa1b9f0b7423c32654a19eabc3d0760e1f09c37bb15a0b793f971702fb7596d", func := "loop.example/g00916/laws.FnExactDivideDown", spec := "fnExactDivideDown", apart := false }
def FnExactDivideDownSaid : Prop := fnExactDivideDownRow.holds Try.pinned (OpenSpec.ofChange fnExactDivideDownSpec)

/-- ITS FALSE NEIGHBOUR: 'it returns false'. Refute it at one input. -/
def fnExactDivideDownWrong : ChangeSpec := { name := "fnExactDivideDown", fn := fun _ => fun
  | [d1, d2] => { results := [.lit (.bool false)], args := [d1, d2] }
  | _ => none }
def FnExactDivideDownWrongFalsely : Prop := fnExactDivideDownRow.holds Try.pinned (OpenSpec.ofChange fnExactDivideDownWrong)

/-- 'laws.FnExactDivideUp': WHATEVER THE INPUT: true; the input reads as it did. -/
def fnExactDivideUpSpec : ChangeSpec := { name := "fnExactDivideUp", fn := fun _ => fun
  | [d1, d2] => { results := [.lit (.bool true)], args := [d1, d2] }
  | _ => none }
def fnExactDivideUpRow : OpenClaim := { program := "ytkkhmlnneijmgaa", sum := "efa1b9f0b7423c32654a19eabc3d0760e1f09c37bb15a0b793f971702fb7596d", func := "loop.example/g00916/laws.FnExactDivideUp", spec := "fnExactDivideUp", apart := false }
def FnExactDivideUpSaid : Prop := fnExactDivideUpRow.holds Try.pinned (OpenSpec.ofChange fnExactDivideUpSpec)

/-- ITS FALSE NEIGHBOUR: 'it returns false'. Refute it at one input. -/
def fnExactDivideUpWrong : ChangeSpec := { name := "fnExactDivideUp", fn := fun _ => fun
  | [d1, d2] => { results := [.lit (.bool false)], args := [d1, d2] }
  | _ => none }
def FnExactDivideUpWrongFalsely : Prop := fnExactDivideUpRow.holds Try.pinned (OpenSpec.ofChange fnExactDivideUpWrong)

/-- 'laws.FnExactRootDown': WHATEVER THE INPUT: true; the input reads as it did. -/
def fnExactRootDownSpec : ChangeSpec := { name := "fnExactRootDown", fn := fun _ => fun
  | [d] => { results := [.lit (.bool true)], args := [d] }
  | _ => none }
def fnExactRootDownRow : OpenClaim := { program := "ytkkhmlnneijmgaa", sum := "efa1b9f0b7423c32654a19eabc3d0760e1f09c37bb15a0b793f971702fb7596d", func := "loop.example/g00916/laws.FnExactRootDown", spec := "fnExactRootDown", apart := false }
def FnExactRootDownSaid : Prop := fnExactRootDownRow.holds Try.pinned (OpenSpec.ofChange fnExactRootDownSpec)

/-- ITS FALSE NEIGHBOUR: 'it returns false'. Refute it at one input. -/
def fnExactRootDownWrong : ChangeSpec := { name := "fnExactRootDown", fn := fun _ => fun
  | [d] => { results := [.lit (.bool false)], args := [d] }
  | _ => none }
def FnExactRootDownWrongFalsely : Prop := fnExactRootDownRow.holds Try.pinned (OpenSpec.ofChange fnExactRootDownWrong)

/-- 'laws.FnExactRootUp': WHATEVER THE INPUT: true; the input reads as it did. -/
def fnExactRootUpSpec : ChangeSpec := { name := "fnExactRootUp", fn := fun _ => fun
  | [d] => { results := [.lit (.bool true)], args := [d] }
  | _ => none }
def fnExactRootUpRow : OpenClaim := { program := "ytkkhmlnneijmgaa", sum := "efa1b9f0b7423c32654a19eabc3d0760e1f09c37bb15a0b793f971702fb7596d", func := "loop.example/g00916/laws.FnExactRootUp", spec := "fnExactRootUp", apart := false }
def FnExactRootUpSaid : Prop := fnExactRootUpRow.holds Try.pinned (OpenSpec.ofChange fnExactRootUpSpec)

/-- ITS FALSE NEIGHBOUR: 'it returns false'. Refute it at one input. -/
def fnExactRootUpWrong : ChangeSpec := { name := "fnExactRootUp", fn := fun _ => fun
  | [d] => { results := [.lit (.bool false)], args := [d] }
  | _ => none }
def FnExactRootUpWrongFalsely : Prop := fnExactRootUpRow.holds Try.pinned (OpenSpec.ofChange fnExactRootUpWrong)

/-- 'laws.FnExactSumOf': WHATEVER THE INPUT: true; the input reads as it did. -/
def fnExactSumOfSpec : ChangeSpec := { name := "fnExactSumOf", fn := fun _ => fun
  | [d] => { results := [.lit (.bool true)], args := [d] }
  | _ => none }
def fnExactSumOfRow : OpenClaim := { program := "ytkkhmlnneijmgaa", sum := "efa1b9f0b7423c32654a19eabc3d0760e1f09c37bb15a0b793f971702fb7596d", func := "loop.example/g00916/laws.FnExactSumOf", spec := "fnExactSumOf", apart := false }
def FnExactSumOfSaid : Prop := fnExactSumOfRow.holds Try.pinned (OpenSpec.ofChange fnExactSumOfSpec)

/-- ITS FALSE NEIGHBOUR: 'it returns false'. Refute it at one input. -/
def fnExactSumOfWrong : ChangeSpec := { name := "fnExactSumOf", fn := fun _ => fun
  | [d] => { results := [.lit (.bool false)], args := [d] }
  | _ => none }
def FnExactSumOfWrongFalsely : Prop := fnExactSumOfRow.holds Try.pinned (OpenSpec.ofChange fnExactSumOfWrong)

/-- 'laws.FnExactIsRising': WHATEVER THE INPUT: true; the input reads as it did. -/
def fnExactIsRisingSpec : ChangeSpec := { name := "fnExactIsRising", fn := fun _ => fun
  | [d1, d2] => { results := [.lit (.bool true)], args := [d1, d2] }
  | _ => none }
def fnExactIsRisingRow : OpenClaim := { program := "ytkkhmlnneijmgaa", sum := "efa1b9f0b7423c32654a19eabc3d0760e1f09c37bb15a0b793f971702fb7596d", func := "loop.example/g00916/laws.FnExactIsRising", spec := "fnExactIsRising", apart := false }
def FnExactIsRisingSaid : Prop := fnExactIsRisingRow.holds Try.pinned (OpenSpec.ofChange fnExactIsRisingSpec)

/-- ITS FALSE NEIGHBOUR: 'it returns false'. Refute it at one input. -/
def fnExactIsRisingWrong : ChangeSpec := { name := "fnExactIsRising", fn := fun _ => fun
  | [d1, d2] => { results := [.lit (.bool false)], args := [d1, d2] }
  | _ => none }
def FnExactIsRisingWrongFalsely : Prop := fnExactIsRisingRow.holds Try.pinned (OpenSpec.ofChange fnExactIsRisingWrong)

/- THE SECOND FORM. 'bulk': how many values and letters a reading holds, each counted each time it is reached (what is shared counts as often as it is met; a slice's spare places count too). A statement '..UptoSaid' is the law's where the arguments, and the package variables that the reading takes, are together of bulk at most 1048576: NARROWER than '..Said'. Prove '..Said' where nothing that the law and all that it calls make is longer than what came in: it says more and counts as full. Else prove '..UptoSaid'. A law counts once. -/
mutual
def uptoBulk {H : Type} : DataW H → Nat
  | .lit (.string bytes) => bytes.length + 1
  | .lit _ => 1
  | .nil => 1
  | .ptr d => uptoBulk d + 1
  | .slice elems spare => uptoBulkAll elems + uptoBulkAll spare + 1
  | .agg parts => uptoBulkAll parts + 1
  | .iface _ d => uptoBulk d + 1
  | .map entries => uptoBulkEntries entries + 1
  | .held _ => 1
def uptoBulkAll {H : Type} : List (DataW H) → Nat
  | [] => 0
  | d :: r => uptoBulk d + uptoBulkAll r
def uptoBulkEntries {H : Type} : List (Lit × DataW H) → Nat
  | [] => 0
  | x :: r => uptoBulkEntry x + uptoBulkEntries r
def uptoBulkEntry {H : Type} : Lit × DataW H → Nat
  | (.string bytes, d) => bytes.length + uptoBulk d + 1
  | (_, d) => uptoBulk d + 1
 end
def uptoSmall : (H : Type) → List (DataW H) → Bool := fun _ ds => decide (uptoBulkAll ds ≤ 1048576)
def OpenSpec.upto (s : _root_.Go.ChangeSpec) : _root_.Go.OpenSpec := { _root_.Go.OpenSpec.ofChange s with cond := some uptoSmall }

/-- 'laws.FnQuotients', WHERE WHAT IT READS IS OF BULK AT MOST 1048576: true; the input reads as it did. -/
def fnQuotientsUptoRow : OpenClaim := { program := "ytkkhmlnneijmgaa", sum := "efa1b9f0b7423c32654a19eabc3d0760e1f09c37bb15a0b793f971702fb7596d", func := "loop.example/g00916/laws.FnQuotients", spec := "fnQuotients", apart := false, narrowed := true }
def FnQuotientsUptoSaid : Prop := fnQuotientsUptoRow.holds Try.pinned (OpenSpec.upto fnQuotientsSpec)

/-- 'laws.FnRoots', WHERE WHAT IT READS IS OF BULK AT MOST 1048576: true; the input reads as it did. -/
def fnRootsUptoRow : OpenClaim := { program := "ytkkhmlnneijmgaa", sum := "efa1b9f0b7423c32654a19eabc3d0760e1f09c37bb15a0b793f971702fb7596d", func := "loop.example/g00916/laws.FnRoots", spec := "fnRoots", apart := false, narrowed := true }
def FnRootsUptoSaid : Prop := fnRootsUptoRow.holds Try.pinned (OpenSpec.upto fnRootsSpec)

/-- 'laws.FnSums', WHERE WHAT IT READS IS OF BULK AT MOST 1048576: true; the input reads as it did. -/
def fnSumsUptoRow : OpenClaim := { program := "ytkkhmlnneijmgaa", sum := "efa1b9f0b7423c32654a19eabc3d0760e1f09c37bb15a0b793f971702fb7596d", func := "loop.example/g00916/laws.FnSums", spec := "fnSums", apart := false, narrowed := true }
def FnSumsUptoSaid : Prop := fnSumsUptoRow.holds Try.pinned (OpenSpec.upto fnSumsSpec)

/-- 'laws.FnExactDivideDown', WHERE WHAT IT READS IS OF BULK AT MOST 1048576: true; the input reads as it did. -/
def fnExactDivideDownUptoRow : OpenClaim := { program := "ytkkhmlnneijmgaa", sum := "efa1b9f0b7423c32654a19eabc3d0760e1f09c37bb15a0b793f971702fb7596d", func := "loop.example/g00916/laws.FnExactDivideDown", spec := "fnExactDivideDown", apart := false, narrowed := true }
def FnExactDivideDownUptoSaid : Prop := fnExactDivideDownUptoRow.holds Try.pinned (OpenSpec.upto fnExactDivideDownSpec)

/-- 'laws.FnExactDivideUp', WHERE WHAT IT READS IS OF BULK AT MOST 1048576: true; the input reads as it did. -/
def fnExactDivideUpUptoRow : OpenClaim := { program := "ytkkhmlnneijmgaa", sum := "efa1b9f0b7423c32654a19eabc3d0760e1f09c37bb15a0b793f971702fb7596d", func := "loop.example/g00916/laws.FnExactDivideUp", spec := "fnExactDivideUp", apart := false, narrowed := true }
def FnExactDivideUpUptoSaid : Prop := fnExactDivideUpUptoRow.holds Try.pinned (OpenSpec.upto fnExactDivideUpSpec)

/-- 'laws.FnExactRootDown', WHERE WHAT IT READS IS OF BULK AT MOST 1048576: true; the input reads as it did. -/
def fnExactRootDownUptoRow : OpenClaim := { program := "ytkkhmlnneijmgaa", sum := "efa1b9f0b7423c32654a19eabc3d0760e1f09c37bb15a0b793f971702fb7596d", func := "loop.example/g00916/laws.FnExactRootDown", spec := "fnExactRootDown", apart := false, narrowed := true }
def FnExactRootDownUptoSaid : Prop := fnExactRootDownUptoRow.holds Try.pinned (OpenSpec.upto fnExactRootDownSpec)

/-- 'laws.FnExactRootUp', WHERE WHAT IT READS IS OF BULK AT MOST 1048576: true; the input reads as it did. -/
def fnExactRootUpUptoRow : OpenClaim := { program := "ytkkhmlnneijmgaa", sum := "efa1b9f0b7423c32654a19eabc3d0760e1f09c37bb15a0b793f971702fb7596d", func := "loop.example/g00916/laws.FnExactRootUp", spec := "fnExactRootUp", apart := false, narrowed := true }
def FnExactRootUpUptoSaid : Prop := fnExactRootUpUptoRow.holds Try.pinned (OpenSpec.upto fnExactRootUpSpec)

/-- 'laws.FnExactSumOf', WHERE WHAT IT READS IS OF BULK AT MOST 1048576: true; the input reads as it did. -/
def fnExactSumOfUptoRow : OpenClaim := { program := "ytkkhmlnneijmgaa", sum := "efa1b9f0b7423c32654a19eabc3d0760e1f09c37bb15a0b793f971702fb7596d", func := "loop.example/g00916/laws.FnExactSumOf", spec := "fnExactSumOf", apart := false, narrowed := true }
def FnExactSumOfUptoSaid : Prop := fnExactSumOfUptoRow.holds Try.pinned (OpenSpec.upto fnExactSumOfSpec)

/-- 'laws.FnExactIsRising', WHERE WHAT IT READS IS OF BULK AT MOST 1048576: true; the input reads as it did. -/
def fnExactIsRisingUptoRow : OpenClaim := { program := "ytkkhmlnneijmgaa", sum := "efa1b9f0b7423c32654a19eabc3d0760e1f09c37bb15a0b793f971702fb7596d", func := "loop.example/g00916/laws.FnExactIsRising", spec := "fnExactIsRising", apart := false, narrowed := true }
def FnExactIsRisingUptoSaid : Prop := fnExactIsRisingUptoRow.holds Try.pinned (OpenSpec.upto fnExactIsRisingSpec)

end Rows
end Go.Proofs.Ytkkhmlnneijmgaa
