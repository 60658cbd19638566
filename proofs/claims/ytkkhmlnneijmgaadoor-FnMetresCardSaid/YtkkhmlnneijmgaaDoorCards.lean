/-
  DERIVED. GIVEN WITH THE SEED: THE CARDS: each row of YtkkhmlnneijmgaaDoorRows.lean that lists a variable, with what it lists TIED to the program's text (the seventh form; the later family's looks); each row that meets fmt, with fmt's text TOLD by the authors' own Lean function (tested against real Go, not proved from fmt's source: count such statements apart). THE CARD IS WHAT COUNTS. Prove the row's statement (the work); the ties are given (YtkkhmlnneijmgaaDoorTie.lean); close each card by the builder's one call (the guide's Derived/Test/ToyasCard.lean, 'card_holds'). Laid BY PROGRAM, IN A SANDBOX (cutbox-door.mjs). By AI agents, Wed Nov 11 2026. No macro, syntax, notation, axiom, sorry.
-/
import Derived.Test.YtkkhmlnneijmgaaDoorRows
import GoSem.ClaimSeven
namespace Go.Proofs.YtkkhmlnneijmgaaDoor
namespace Rows

/-- THE TIED CARD OF 'laws.FnMetres'. -/
def fnMetresCard : Claim7 := { stood := { row := fnMetresRow, standIns := [], harness := (true, "f03cdf701826b60f91970ea6d2fa3cabb77fb35cfd49e7b42879317383390de5"), looks := true }, kinds := [], alts := [], laidByText := true, laidKinds := [.data, .data, .data, .sentinel, .sentinel], laidTests := true, laidLooks := .later }
def FnMetresCardSaid : Prop := Claim7.holds Tryd.pinned (.plain (OpenSpec.ofChange fnMetresSpec)) fnMetresCard

/-- THE TIED CARD OF 'laws.FnExactMetresText'. -/
def fnExactMetresTextCard : Claim7 := { stood := { row := fnExactMetresTextRow, standIns := [], harness := (true, "f03cdf701826b60f91970ea6d2fa3cabb77fb35cfd49e7b42879317383390de5"), looks := true }, kinds := [], alts := [], laidByText := true, laidKinds := [.data, .data, .data], laidTests := true, laidLooks := .later }
def FnExactMetresTextCardSaid : Prop := Claim7.holds Tryd.pinned (.plain (OpenSpec.ofChange fnExactMetresTextSpec)) fnExactMetresTextCard

/-- THE TIED CARD OF 'laws.FnExactReadMetres'. -/
def fnExactReadMetresCard : Claim7 := { stood := { row := fnExactReadMetresRow, standIns := [], harness := (true, "f03cdf701826b60f91970ea6d2fa3cabb77fb35cfd49e7b42879317383390de5"), looks := true }, kinds := [], alts := [], laidByText := true, laidKinds := [.data, .data, .data, .sentinel, .sentinel], laidTests := true, laidLooks := .later }
def FnExactReadMetresCardSaid : Prop := Claim7.holds Tryd.pinned (.plain (OpenSpec.ofChange fnExactReadMetresSpec)) fnExactReadMetresCard

/-- THE SECOND FORM's CARD OF 'laws.FnMetres'. -/
def fnMetresUptoCard : Claim7 := { stood := { row := fnMetresUptoRow, standIns := [], harness := (true, "f03cdf701826b60f91970ea6d2fa3cabb77fb35cfd49e7b42879317383390de5"), looks := true }, kinds := [], alts := [], laidByText := true, laidKinds := [.data, .data, .data, .sentinel, .sentinel], laidTests := true, laidLooks := .later }
def FnMetresUptoCardSaid : Prop := Claim7.holds Tryd.pinned (.plain (OpenSpec.upto fnMetresSpec)) fnMetresUptoCard

/-- THE SECOND FORM's CARD OF 'laws.FnExactMetresText'. -/
def fnExactMetresTextUptoCard : Claim7 := { stood := { row := fnExactMetresTextUptoRow, standIns := [], harness := (true, "f03cdf701826b60f91970ea6d2fa3cabb77fb35cfd49e7b42879317383390de5"), looks := true }, kinds := [], alts := [], laidByText := true, laidKinds := [.data, .data, .data], laidTests := true, laidLooks := .later }
def FnExactMetresTextUptoCardSaid : Prop := Claim7.holds Tryd.pinned (.plain (OpenSpec.upto fnExactMetresTextSpec)) fnExactMetresTextUptoCard

/-- THE SECOND FORM's CARD OF 'laws.FnExactReadMetres'. -/
def fnExactReadMetresUptoCard : Claim7 := { stood := { row := fnExactReadMetresUptoRow, standIns := [], harness := (true, "f03cdf701826b60f91970ea6d2fa3cabb77fb35cfd49e7b42879317383390de5"), looks := true }, kinds := [], alts := [], laidByText := true, laidKinds := [.data, .data, .data, .sentinel, .sentinel], laidTests := true, laidLooks := .later }
def FnExactReadMetresUptoCardSaid : Prop := Claim7.holds Tryd.pinned (.plain (OpenSpec.upto fnExactReadMetresSpec)) fnExactReadMetresUptoCard
end Rows
end Go.Proofs.YtkkhmlnneijmgaaDoor
