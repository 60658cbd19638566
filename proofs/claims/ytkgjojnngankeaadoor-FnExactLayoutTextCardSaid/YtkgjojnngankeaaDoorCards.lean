/-
  DERIVED. GIVEN WITH THE SEED: THE CARDS: each row of YtkgjojnngankeaaDoorRows.lean that lists a variable, with what it lists TIED to the program's text (the seventh form; the later family's looks); each row that meets fmt, with fmt's text TOLD by the authors' own Lean function (tested against real Go, not proved from fmt's source: count such statements apart). THE CARD IS WHAT COUNTS. Prove the row's statement (the work); the ties are given (YtkgjojnngankeaaDoorTie.lean); close each card by the builder's one call (the guide's Derived/Test/ToyasCard.lean, 'card_holds'). Laid BY PROGRAM, IN A SANDBOX (cutbox-door.mjs). By AI agents, Wed Nov 11 2026. No macro, syntax, notation, axiom, sorry.
-/
import Derived.Test.YtkgjojnngankeaaDoorRows
import GoSem.ClaimSeven
namespace Go.Proofs.YtkgjojnngankeaaDoor
namespace Rows

/-- THE TIED CARD OF 'laws.FnExactLayoutText'. -/
def fnExactLayoutTextCard : Claim7 := { stood := { row := fnExactLayoutTextRow, standIns := [], harness := (true, "69c370fa4ee13e66dd3c53c827560a236f8486fca753ddd0b5376873e5716df0"), looks := true }, kinds := [], alts := [], laidByText := true, laidKinds := [.data, .data, .data], laidTests := true, laidLooks := .later }
def FnExactLayoutTextCardSaid : Prop := Claim7.holds Tryd.pinned (.plain (OpenSpec.ofChange fnExactLayoutTextSpec)) fnExactLayoutTextCard

/-- THE TIED CARD OF 'laws.FnExactReadLayout'. -/
def fnExactReadLayoutCard : Claim7 := { stood := { row := fnExactReadLayoutRow, standIns := [], harness := (true, "69c370fa4ee13e66dd3c53c827560a236f8486fca753ddd0b5376873e5716df0"), looks := true }, kinds := [], alts := [], laidByText := true, laidKinds := [.data, .data, .data, .data, .sentinel, .sentinel, .pinned], laidTests := true, laidLooks := .later }
def FnExactReadLayoutCardSaid : Prop := Claim7.holds Tryd.pinned (.plain (OpenSpec.ofChange fnExactReadLayoutSpec)) fnExactReadLayoutCard

/-- THE SECOND FORM's CARD OF 'laws.FnExactLayoutText'. -/
def fnExactLayoutTextUptoCard : Claim7 := { stood := { row := fnExactLayoutTextUptoRow, standIns := [], harness := (true, "69c370fa4ee13e66dd3c53c827560a236f8486fca753ddd0b5376873e5716df0"), looks := true }, kinds := [], alts := [], laidByText := true, laidKinds := [.data, .data, .data], laidTests := true, laidLooks := .later }
def FnExactLayoutTextUptoCardSaid : Prop := Claim7.holds Tryd.pinned (.plain (OpenSpec.upto fnExactLayoutTextSpec)) fnExactLayoutTextUptoCard

/-- THE SECOND FORM's CARD OF 'laws.FnExactReadLayout'. -/
def fnExactReadLayoutUptoCard : Claim7 := { stood := { row := fnExactReadLayoutUptoRow, standIns := [], harness := (true, "69c370fa4ee13e66dd3c53c827560a236f8486fca753ddd0b5376873e5716df0"), looks := true }, kinds := [], alts := [], laidByText := true, laidKinds := [.data, .data, .data, .data, .sentinel, .sentinel, .pinned], laidTests := true, laidLooks := .later }
def FnExactReadLayoutUptoCardSaid : Prop := Claim7.holds Tryd.pinned (.plain (OpenSpec.upto fnExactReadLayoutSpec)) fnExactReadLayoutUptoCard
end Rows
end Go.Proofs.YtkgjojnngankeaaDoor
