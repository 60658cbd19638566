/-
  DERIVED. GIVEN WITH THE SEED: THE CARDS: each row of YtggnhdeldmkdmaaDoorRows.lean that lists a variable, with what it lists TIED to the program's text (the seventh form; the later family's looks); each row that meets fmt, with fmt's text TOLD by the authors' own Lean function (tested against real Go, not proved from fmt's source: count such statements apart). THE CARD IS WHAT COUNTS. Prove the row's statement (the work); the ties are given (YtggnhdeldmkdmaaDoorTie.lean); close each card by the builder's one call (the guide's Derived/Test/ToyasCard.lean, 'card_holds'). Laid BY PROGRAM, IN A SANDBOX (cutbox-door.mjs). By AI agents, Wed Nov 11 2026. No macro, syntax, notation, axiom, sorry.
-/
import Derived.Test.YtggnhdeldmkdmaaDoorRows
import GoSem.ClaimSeven
namespace Go.Proofs.YtggnhdeldmkdmaaDoor
namespace Rows

/-- THE TIED CARD OF 'laws.FnExactIsWritten'. -/
def fnExactIsWrittenCard : Claim7 := { stood := { row := fnExactIsWrittenRow, standIns := [], harness := (true, "d9f55329108e885489551669ccfe59fc2cc0c192cb058006c845b2f4a875a651"), looks := false }, kinds := [], alts := [], laidByText := true, laidKinds := [.data], laidTests := true, laidLooks := .later }
def FnExactIsWrittenCardSaid : Prop := Claim7.holds Tryd.pinned (.plain (OpenSpec.ofChange fnExactIsWrittenSpec)) fnExactIsWrittenCard

/-- THE TIED CARD OF 'laws.FnExactIsExpression'. -/
def fnExactIsExpressionCard : Claim7 := { stood := { row := fnExactIsExpressionRow, standIns := [], harness := (true, "d9f55329108e885489551669ccfe59fc2cc0c192cb058006c845b2f4a875a651"), looks := false }, kinds := [], alts := [], laidByText := true, laidKinds := [.data], laidTests := true, laidLooks := .later }
def FnExactIsExpressionCardSaid : Prop := Claim7.holds Tryd.pinned (.plain (OpenSpec.ofChange fnExactIsExpressionSpec)) fnExactIsExpressionCard

/-- THE TIED CARD OF 'laws.FnExactArgumentsOf'. -/
def fnExactArgumentsOfCard : Claim7 := { stood := { row := fnExactArgumentsOfRow, standIns := [], harness := (true, "d9f55329108e885489551669ccfe59fc2cc0c192cb058006c845b2f4a875a651"), looks := false }, kinds := [], alts := [], laidByText := true, laidKinds := [.data], laidTests := true, laidLooks := .later }
def FnExactArgumentsOfCardSaid : Prop := Claim7.holds Tryd.pinned (.plain (OpenSpec.ofChange fnExactArgumentsOfSpec)) fnExactArgumentsOfCard

/-- THE TIED CARD OF 'laws.FnExactHeightOf'. -/
def fnExactHeightOfCard : Claim7 := { stood := { row := fnExactHeightOfRow, standIns := [], harness := (true, "d9f55329108e885489551669ccfe59fc2cc0c192cb058006c845b2f4a875a651"), looks := false }, kinds := [], alts := [], laidByText := true, laidKinds := [.data], laidTests := true, laidLooks := .later }
def FnExactHeightOfCardSaid : Prop := Claim7.holds Tryd.pinned (.plain (OpenSpec.ofChange fnExactHeightOfSpec)) fnExactHeightOfCard

/-- THE SECOND FORM's CARD OF 'laws.FnExactIsWritten'. -/
def fnExactIsWrittenUptoCard : Claim7 := { stood := { row := fnExactIsWrittenUptoRow, standIns := [], harness := (true, "d9f55329108e885489551669ccfe59fc2cc0c192cb058006c845b2f4a875a651"), looks := false }, kinds := [], alts := [], laidByText := true, laidKinds := [.data], laidTests := true, laidLooks := .later }
def FnExactIsWrittenUptoCardSaid : Prop := Claim7.holds Tryd.pinned (.plain (OpenSpec.upto fnExactIsWrittenSpec)) fnExactIsWrittenUptoCard

/-- THE SECOND FORM's CARD OF 'laws.FnExactIsExpression'. -/
def fnExactIsExpressionUptoCard : Claim7 := { stood := { row := fnExactIsExpressionUptoRow, standIns := [], harness := (true, "d9f55329108e885489551669ccfe59fc2cc0c192cb058006c845b2f4a875a651"), looks := false }, kinds := [], alts := [], laidByText := true, laidKinds := [.data], laidTests := true, laidLooks := .later }
def FnExactIsExpressionUptoCardSaid : Prop := Claim7.holds Tryd.pinned (.plain (OpenSpec.upto fnExactIsExpressionSpec)) fnExactIsExpressionUptoCard

/-- THE SECOND FORM's CARD OF 'laws.FnExactArgumentsOf'. -/
def fnExactArgumentsOfUptoCard : Claim7 := { stood := { row := fnExactArgumentsOfUptoRow, standIns := [], harness := (true, "d9f55329108e885489551669ccfe59fc2cc0c192cb058006c845b2f4a875a651"), looks := false }, kinds := [], alts := [], laidByText := true, laidKinds := [.data], laidTests := true, laidLooks := .later }
def FnExactArgumentsOfUptoCardSaid : Prop := Claim7.holds Tryd.pinned (.plain (OpenSpec.upto fnExactArgumentsOfSpec)) fnExactArgumentsOfUptoCard

/-- THE SECOND FORM's CARD OF 'laws.FnExactHeightOf'. -/
def fnExactHeightOfUptoCard : Claim7 := { stood := { row := fnExactHeightOfUptoRow, standIns := [], harness := (true, "d9f55329108e885489551669ccfe59fc2cc0c192cb058006c845b2f4a875a651"), looks := false }, kinds := [], alts := [], laidByText := true, laidKinds := [.data], laidTests := true, laidLooks := .later }
def FnExactHeightOfUptoCardSaid : Prop := Claim7.holds Tryd.pinned (.plain (OpenSpec.upto fnExactHeightOfSpec)) fnExactHeightOfUptoCard
end Rows
end Go.Proofs.YtggnhdeldmkdmaaDoor
