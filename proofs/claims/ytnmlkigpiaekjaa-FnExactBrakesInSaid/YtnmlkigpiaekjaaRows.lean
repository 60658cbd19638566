/-
  No cell of these rows narrows 'for every input' (looked for: loops, veiled, ifaces, maps, wideKeys, modest, calm, conditions, laid).
  DERIVED. THE GIVEN ROWS OF THIS SEAT. 6 by the template 'for every input the law returns true; each argument reads behind the call as it read before'; 0 by the template 'total and deterministic' (their statements: YtnmlkigpiaekjaaTotals.lean).
  GIVEN WITH THE SEED: the statements are not yours to turn. If you find one false, say at which input.
  Laid BY PROGRAM, IN A SANDBOX (cutbox-rows.mjs): the forced cells as the released guide's own fill.sh prints them over the translation d9ff27ca06d560ce… (all of the seat's roots in one cut). By AI agents, Wed Nov 11 2026. No macro, syntax, notation, axiom, sorry.
-/
import Derived.Test.YtnmlkigpiaekjaaChecked
import GoSem.Claim
import GoSem.ClaimJoined
import GoSem.ClaimMapViews
import Derived.JoinedTies
import Derived.KernelRfl
namespace Go.Proofs.Ytnmlkigpiaekjaa
/- THE CELL 'sum', in the pinned program and in every row, IS THE sha256 OF THE DUMP (.gsa) THAT YtnmlkigpiaekjaaProg.lean LOADS. Nothing in Lean hashes anything: it is a label: what it is worth is what the hold of that sum in a sandbox is worth. -/
noncomputable def Try.pinned : Pinned := { name := "ytnmlkigpiaekjaa", sum := "d9ff27ca06d560cef028d6bbc4761fd3ba5b785ca0f01d09f8d73648bf89df9d", checked := Try.checked }
namespace Rows
def none {H : Type} : Left H := { results := [], args := [] }

/-- 'laws.FnEnergyRuns': WHATEVER THE INPUT: true; the input reads as it did. -/
def fnEnergyRunsSpec : ChangeSpec := { name := "fnEnergyRuns", fn := fun _ => fun
  | [d] => { results := [.lit (.bool true)], args := [d] }
  | _ => none }
def fnEnergyRunsRow : OpenClaim := { program := "ytnmlkigpiaekjaa", sum := "d9ff27ca06d560cef028d6bbc4761fd3ba5b785ca0f01d09f8d73648bf89df9d", func := "loop.example/g00916/laws.FnEnergyRuns", spec := "fnEnergyRuns", unfollowed := true, recurses := true, apart := false }
def FnEnergyRunsSaid : Prop := fnEnergyRunsRow.holds Try.pinned (OpenSpec.ofChange fnEnergyRunsSpec)

/-- ITS FALSE NEIGHBOUR: 'it returns false'. Refute it at one input. -/
def fnEnergyRunsWrong : ChangeSpec := { name := "fnEnergyRuns", fn := fun _ => fun
  | [d] => { results := [.lit (.bool false)], args := [d] }
  | _ => none }
def FnEnergyRunsWrongFalsely : Prop := fnEnergyRunsRow.holds Try.pinned (OpenSpec.ofChange fnEnergyRunsWrong)

/-- 'laws.FnEnergyNeeded': WHATEVER THE INPUT: true; the input reads as it did. -/
def fnEnergyNeededSpec : ChangeSpec := { name := "fnEnergyNeeded", fn := fun _ => fun
  | [d] => { results := [.lit (.bool true)], args := [d] }
  | _ => none }
def fnEnergyNeededRow : OpenClaim := { program := "ytnmlkigpiaekjaa", sum := "d9ff27ca06d560cef028d6bbc4761fd3ba5b785ca0f01d09f8d73648bf89df9d", func := "loop.example/g00916/laws.FnEnergyNeeded", spec := "fnEnergyNeeded", unfollowed := true, recurses := true, apart := false }
def FnEnergyNeededSaid : Prop := fnEnergyNeededRow.holds Try.pinned (OpenSpec.ofChange fnEnergyNeededSpec)

/-- ITS FALSE NEIGHBOUR: 'it returns false'. Refute it at one input. -/
def fnEnergyNeededWrong : ChangeSpec := { name := "fnEnergyNeeded", fn := fun _ => fun
  | [d] => { results := [.lit (.bool false)], args := [d] }
  | _ => none }
def FnEnergyNeededWrongFalsely : Prop := fnEnergyNeededRow.holds Try.pinned (OpenSpec.ofChange fnEnergyNeededWrong)

/-- 'laws.FnExactEnergyAlong': WHATEVER THE INPUT: true; the input reads as it did. -/
def fnExactEnergyAlongSpec : ChangeSpec := { name := "fnExactEnergyAlong", fn := fun _ => fun
  | [d1, d2, d3, d4] => { results := [.lit (.bool true)], args := [d1, d2, d3, d4] }
  | _ => none }
def fnExactEnergyAlongRow : OpenClaim := { program := "ytnmlkigpiaekjaa", sum := "d9ff27ca06d560cef028d6bbc4761fd3ba5b785ca0f01d09f8d73648bf89df9d", func := "loop.example/g00916/laws.FnExactEnergyAlong", spec := "fnExactEnergyAlong", unfollowed := true, recurses := true, apart := false }
def FnExactEnergyAlongSaid : Prop := fnExactEnergyAlongRow.holds Try.pinned (OpenSpec.ofChange fnExactEnergyAlongSpec)

/-- ITS FALSE NEIGHBOUR: 'it returns false'. Refute it at one input. -/
def fnExactEnergyAlongWrong : ChangeSpec := { name := "fnExactEnergyAlong", fn := fun _ => fun
  | [d1, d2, d3, d4] => { results := [.lit (.bool false)], args := [d1, d2, d3, d4] }
  | _ => none }
def FnExactEnergyAlongWrongFalsely : Prop := fnExactEnergyAlongRow.holds Try.pinned (OpenSpec.ofChange fnExactEnergyAlongWrong)

/-- 'laws.FnExactEnergyNeeded': WHATEVER THE INPUT: true; the input reads as it did. -/
def fnExactEnergyNeededSpec : ChangeSpec := { name := "fnExactEnergyNeeded", fn := fun _ => fun
  | [d1, d2, d3] => { results := [.lit (.bool true)], args := [d1, d2, d3] }
  | _ => none }
def fnExactEnergyNeededRow : OpenClaim := { program := "ytnmlkigpiaekjaa", sum := "d9ff27ca06d560cef028d6bbc4761fd3ba5b785ca0f01d09f8d73648bf89df9d", func := "loop.example/g00916/laws.FnExactEnergyNeeded", spec := "fnExactEnergyNeeded", unfollowed := true, recurses := true, apart := false }
def FnExactEnergyNeededSaid : Prop := fnExactEnergyNeededRow.holds Try.pinned (OpenSpec.ofChange fnExactEnergyNeededSpec)

/-- ITS FALSE NEIGHBOUR: 'it returns false'. Refute it at one input. -/
def fnExactEnergyNeededWrong : ChangeSpec := { name := "fnExactEnergyNeeded", fn := fun _ => fun
  | [d1, d2, d3] => { results := [.lit (.bool false)], args := [d1, d2, d3] }
  | _ => none }
def FnExactEnergyNeededWrongFalsely : Prop := fnExactEnergyNeededRow.holds Try.pinned (OpenSpec.ofChange fnExactEnergyNeededWrong)

/-- 'laws.FnExactStopBound': WHATEVER THE INPUT: true; the input reads as it did. -/
def fnExactStopBoundSpec : ChangeSpec := { name := "fnExactStopBound", fn := fun _ => fun
  | [d1, d2, d3, d4] => { results := [.lit (.bool true)], args := [d1, d2, d3, d4] }
  | _ => none }
def fnExactStopBoundRow : OpenClaim := { program := "ytnmlkigpiaekjaa", sum := "d9ff27ca06d560cef028d6bbc4761fd3ba5b785ca0f01d09f8d73648bf89df9d", func := "loop.example/g00916/laws.FnExactStopBound", spec := "fnExactStopBound", unfollowed := true, recurses := true, apart := false }
def FnExactStopBoundSaid : Prop := fnExactStopBoundRow.holds Try.pinned (OpenSpec.ofChange fnExactStopBoundSpec)

/-- ITS FALSE NEIGHBOUR: 'it returns false'. Refute it at one input. -/
def fnExactStopBoundWrong : ChangeSpec := { name := "fnExactStopBound", fn := fun _ => fun
  | [d1, d2, d3, d4] => { results := [.lit (.bool false)], args := [d1, d2, d3, d4] }
  | _ => none }
def FnExactStopBoundWrongFalsely : Prop := fnExactStopBoundRow.holds Try.pinned (OpenSpec.ofChange fnExactStopBoundWrong)

/-- 'laws.FnExactBrakesIn': WHATEVER THE INPUT: true; the input reads as it did. -/
def fnExactBrakesInSpec : ChangeSpec := { name := "fnExactBrakesIn", fn := fun _ => fun
  | [d1, d2, d3] => { results := [.lit (.bool true)], args := [d1, d2, d3] }
  | _ => none }
def fnExactBrakesInRow : OpenClaim := { program := "ytnmlkigpiaekjaa", sum := "d9ff27ca06d560cef028d6bbc4761fd3ba5b785ca0f01d09f8d73648bf89df9d", func := "loop.example/g00916/laws.FnExactBrakesIn", spec := "fnExactBrakesIn", apart := false }
def FnExactBrakesInSaid : Prop := fnExactBrakesInRow.holds Try.pinned (OpenSpec.ofChange fnExactBrakesInSpec)

/-- ITS FALSE NEIGHBOUR: 'it returns false'. Refute it at one input. -/
def fnExactBrakesInWrong : ChangeSpec := { name := "fnExactBrakesIn", fn := fun _ => fun
  | [d1, d2, d3] => { results := [.lit (.bool false)], args := [d1, d2, d3] }
  | _ => none }
def FnExactBrakesInWrongFalsely : Prop := fnExactBrakesInRow.holds Try.pinned (OpenSpec.ofChange fnExactBrakesInWrong)

/- THE SECOND FORM. 'bulk': how many values and letters a reading holds, each counted each time it is reached (what is shared counts as often as it is met; a slice's spare places count too). A statement '..UptoSaid' is the law's where the arguments, and the package variables that the reading takes, are together of bulk at most 1048576: NARROWER than '..Said'. Prove '..Said' where nothing that the law and all that it calls make is longer than what came in: it says more and counts as full. Else prove '..UptoSaid'. A law counts once. -/
mutual
def uptoBulk {H : Type} : DataW H → Nat
  | .lit (.string bytes) => bytes.length + 1
  | .lit _ => 1
  | .nil => 1
  | .ptr d => uptoBulk d + 1
  | .slice elems spare => uptoBulkAll elems + uptoBulkAll spare + 1
  | .agg parts => uptoBulkAll parts + 1
  | .iface _ d => uptoBulk d + 1
  | .map entries => uptoBulkEntries entries + 1
  | .held _ => 1
def uptoBulkAll {H : Type} : List (DataW H) → Nat
  | [] => 0
  | d :: r => uptoBulk d + uptoBulkAll r
def uptoBulkEntries {H : Type} : List (Lit × DataW H) → Nat
  | [] => 0
  | x :: r => uptoBulkEntry x + uptoBulkEntries r
def uptoBulkEntry {H : Type} : Lit × DataW H → Nat
  | (.string bytes, d) => bytes.length + uptoBulk d + 1
  | (_, d) => uptoBulk d + 1
 end
def uptoSmall : (H : Type) → List (DataW H) → Bool := fun _ ds => decide (uptoBulkAll ds ≤ 1048576)
def OpenSpec.upto (s : _root_.Go.ChangeSpec) : _root_.Go.OpenSpec := { _root_.Go.OpenSpec.ofChange s with cond := some uptoSmall }

/-- 'laws.FnEnergyRuns', WHERE WHAT IT READS IS OF BULK AT MOST 1048576: true; the input reads as it did. -/
def fnEnergyRunsUptoRow : OpenClaim := { program := "ytnmlkigpiaekjaa", sum := "d9ff27ca06d560cef028d6bbc4761fd3ba5b785ca0f01d09f8d73648bf89df9d", func := "loop.example/g00916/laws.FnEnergyRuns", spec := "fnEnergyRuns", unfollowed := true, recurses := true, apart := false, narrowed := true }
def FnEnergyRunsUptoSaid : Prop := fnEnergyRunsUptoRow.holds Try.pinned (OpenSpec.upto fnEnergyRunsSpec)

/-- 'laws.FnEnergyNeeded', WHERE WHAT IT READS IS OF BULK AT MOST 1048576: true; the input reads as it did. -/
def fnEnergyNeededUptoRow : OpenClaim := { program := "ytnmlkigpiaekjaa", sum := "d9ff27ca06d560cef028d6bbc4761fd3ba5b785ca0f01d09f8d73648bf89df9d", func := "loop.example/g00916/laws.FnEnergyNeeded", spec := "fnEnergyNeeded", unfollowed := true, recurses := true, apart := false, narrowed := true }
def FnEnergyNeededUptoSaid : Prop := fnEnergyNeededUptoRow.holds Try.pinned (OpenSpec.upto fnEnergyNeededSpec)

/-- 'laws.FnExactEnergyAlong', WHERE WHAT IT READS IS OF BULK AT MOST 1048576: true; the input reads as it did. -/
def fnExactEnergyAlongUptoRow : OpenClaim := { program := "ytnmlkigpiaekjaa", sum := "d9ff27ca06d560cef028d6bbc4761fd3ba5b785ca0f01d09f8d73648bf89df9d", func := "loop.example/g00916/laws.FnExactEnergyAlong", spec := "fnExactEnergyAlong", unfollowed := true, recurses := true, apart := false, narrowed := true }
def FnExactEnergyAlongUptoSaid : Prop := fnExactEnergyAlongUptoRow.holds Try.pinned (OpenSpec.upto fnExactEnergyAlongSpec)

/-- 'laws.FnExactEnergyNeeded', WHERE WHAT IT READS IS OF BULK AT MOST 1048576: true; the input reads as it did. -/
def fnExactEnergyNeededUptoRow : OpenClaim := { program := "ytnmlkigpiaekjaa", sum := "d9ff27ca06d560cef028d6bbc4761fd3ba5b785ca0f01d09f8d73648bf89df9d", func := "loop.example/g00916/laws.FnExactEnergyNeeded", spec := "fnExactEnergyNeeded", unfollowed := true, recurses := true, apart := false, narrowed := true }
def FnExactEnergyNeededUptoSaid : Prop := fnExactEnergyNeededUptoRow.holds Try.pinned (OpenSpec.upto fnExactEnergyNeededSpec)

/-- 'laws.FnExactStopBound', WHERE WHAT IT READS IS OF BULK AT MOST 1048576: true; the input reads as it did. -/
def fnExactStopBoundUptoRow : OpenClaim := { program := "ytnmlkigpiaekjaa", sum := "d9ff27ca06d560cef028d6bbc4761fd3ba5b785ca0f01d09f8d73648bf89df9d", func := "loop.example/g00916/laws.FnExactStopBound", spec := "fnExactStopBound", unfollowed := true, recurses := true, apart := false, narrowed := true }
def FnExactStopBoundUptoSaid : Prop := fnExactStopBoundUptoRow.holds Try.pinned (OpenSpec.upto fnExactStopBoundSpec)

/-- 'laws.FnExactBrakesIn', WHERE WHAT IT READS IS OF BULK AT MOST 1048576: true; the input reads as it did. -/
def fnExactBrakesInUptoRow : OpenClaim := { program := "ytnmlkigpiaekjaa", sum := "d9ff27ca06d560cef028d6bbc4761fd3ba5b785ca0f01d09f8d73648bf89df9d", func := "loop.example/g00916/laws.FnExactBrakesIn", spec := "fnExactBrakesIn", apart := false, narrowed := true }
def FnExactBrakesInUptoSaid : Prop := fnExactBrakesInUptoRow.holds Try.pinned (OpenSpec.upto fnExactBrakesInSpec)

end Rows
end Go.Proofs.Ytnmlkigpiaekjaa
