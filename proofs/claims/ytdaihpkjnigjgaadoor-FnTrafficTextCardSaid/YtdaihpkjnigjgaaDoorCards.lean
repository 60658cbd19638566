/-
  DERIVED. GIVEN WITH THE SEED: THE CARDS: each row of YtdaihpkjnigjgaaDoorRows.lean that lists a variable, with what it lists TIED to the program's text (the seventh form; the later family's looks); each row that meets fmt, with fmt's text TOLD by the authors' own Lean function (tested against real Go, not proved from fmt's source: count such statements apart). THE CARD IS WHAT COUNTS. Prove the row's statement (the work); the ties are given (YtdaihpkjnigjgaaDoorTie.lean); close each card by the builder's one call (the guide's Derived/Test/ToyasCard.lean, 'card_holds'). Laid BY PROGRAM, IN A SANDBOX (cutbox-door.mjs). By AI agents, Wed Nov 11 2026. No macro, syntax, notation, axiom, sorry.
-/
import Derived.Test.YtdaihpkjnigjgaaDoorRows
import GoSem.ClaimSeven
namespace Go.Proofs.YtdaihpkjnigjgaaDoor
namespace Rows

/-- THE TIED CARD OF 'laws.FnTrafficText'. -/
def fnTrafficTextCard : Claim7 := { stood := { row := fnTrafficTextRow, standIns := [], harness := (true, "dd58546d9284bf07f644b401be5c36aa72dd4e4f8d774367a6a093d1cf036549"), looks := true }, kinds := [], alts := [], laidByText := true, laidKinds := [.data, .data, .data, .data, .sentinel, .sentinel, .pinned], laidTests := true, laidLooks := .later }
def FnTrafficTextCardSaid : Prop := Claim7.holds Tryd.pinned (.plain (OpenSpec.ofChange fnTrafficTextSpec)) fnTrafficTextCard

/-- THE TIED CARD OF 'laws.FnExactTrafficText'. -/
def fnExactTrafficTextCard : Claim7 := { stood := { row := fnExactTrafficTextRow, standIns := [], harness := (true, "dd58546d9284bf07f644b401be5c36aa72dd4e4f8d774367a6a093d1cf036549"), looks := true }, kinds := [], alts := [], laidByText := true, laidKinds := [.data, .data, .data], laidTests := true, laidLooks := .later }
def FnExactTrafficTextCardSaid : Prop := Claim7.holds Tryd.pinned (.plain (OpenSpec.ofChange fnExactTrafficTextSpec)) fnExactTrafficTextCard

/-- THE TIED CARD OF 'laws.FnExactReadTraffic'. -/
def fnExactReadTrafficCard : Claim7 := { stood := { row := fnExactReadTrafficRow, standIns := [], harness := (true, "dd58546d9284bf07f644b401be5c36aa72dd4e4f8d774367a6a093d1cf036549"), looks := true }, kinds := [], alts := [], laidByText := true, laidKinds := [.data, .data, .data, .data, .sentinel, .sentinel, .pinned], laidTests := true, laidLooks := .later }
def FnExactReadTrafficCardSaid : Prop := Claim7.holds Tryd.pinned (.plain (OpenSpec.ofChange fnExactReadTrafficSpec)) fnExactReadTrafficCard

/-- THE SECOND FORM's CARD OF 'laws.FnTrafficText'. -/
def fnTrafficTextUptoCard : Claim7 := { stood := { row := fnTrafficTextUptoRow, standIns := [], harness := (true, "dd58546d9284bf07f644b401be5c36aa72dd4e4f8d774367a6a093d1cf036549"), looks := true }, kinds := [], alts := [], laidByText := true, laidKinds := [.data, .data, .data, .data, .sentinel, .sentinel, .pinned], laidTests := true, laidLooks := .later }
def FnTrafficTextUptoCardSaid : Prop := Claim7.holds Tryd.pinned (.plain (OpenSpec.upto fnTrafficTextSpec)) fnTrafficTextUptoCard

/-- THE SECOND FORM's CARD OF 'laws.FnExactTrafficText'. -/
def fnExactTrafficTextUptoCard : Claim7 := { stood := { row := fnExactTrafficTextUptoRow, standIns := [], harness := (true, "dd58546d9284bf07f644b401be5c36aa72dd4e4f8d774367a6a093d1cf036549"), looks := true }, kinds := [], alts := [], laidByText := true, laidKinds := [.data, .data, .data], laidTests := true, laidLooks := .later }
def FnExactTrafficTextUptoCardSaid : Prop := Claim7.holds Tryd.pinned (.plain (OpenSpec.upto fnExactTrafficTextSpec)) fnExactTrafficTextUptoCard

/-- THE SECOND FORM's CARD OF 'laws.FnExactReadTraffic'. -/
def fnExactReadTrafficUptoCard : Claim7 := { stood := { row := fnExactReadTrafficUptoRow, standIns := [], harness := (true, "dd58546d9284bf07f644b401be5c36aa72dd4e4f8d774367a6a093d1cf036549"), looks := true }, kinds := [], alts := [], laidByText := true, laidKinds := [.data, .data, .data, .data, .sentinel, .sentinel, .pinned], laidTests := true, laidLooks := .later }
def FnExactReadTrafficUptoCardSaid : Prop := Claim7.holds Tryd.pinned (.plain (OpenSpec.upto fnExactReadTrafficSpec)) fnExactReadTrafficUptoCard
end Rows
end Go.Proofs.YtdaihpkjnigjgaaDoor
