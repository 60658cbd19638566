/-
  DERIVED. GIVEN WITH THE SEED: THE CARDS: each row of YtokipobjpinhmaaDoorRows.lean that lists a variable, with what it lists TIED to the program's text (the seventh form; the later family's looks); each row that meets fmt, with fmt's text TOLD by the authors' own Lean function (tested against real Go, not proved from fmt's source: count such statements apart). THE CARD IS WHAT COUNTS. Prove the row's statement (the work); the ties are given (YtokipobjpinhmaaDoorTie.lean); close each card by the builder's one call (the guide's Derived/Test/ToyasCard.lean, 'card_holds'). Laid BY PROGRAM, IN A SANDBOX (cutbox-door.mjs). By AI agents, Wed Nov 11 2026. No macro, syntax, notation, axiom, sorry.
-/
import Derived.Test.YtokipobjpinhmaaDoorRows
import GoSem.ClaimSeven
namespace Go.Proofs.YtokipobjpinhmaaDoor
namespace Rows

/-- THE TIED CARD OF 'laws.FnSound'. -/
def fnSoundCard : Claim7 := { stood := { row := fnSoundRow, standIns := [], harness := (true, "f0c36dfaf3dc7a2d51b2d293fd49aadd077d76da037d614c6fed756d09e07757"), looks := false }, kinds := [], alts := [], laidByText := true, laidKinds := [.data], laidTests := true, laidLooks := .later }
def FnSoundCardSaid : Prop := Claim7.holds Tryd.pinned (.plain (OpenSpec.ofChange fnSoundSpec)) fnSoundCard

/-- THE TIED CARD OF 'laws.FnExactProgramFault'. -/
def fnExactProgramFaultCard : Claim7 := { stood := { row := fnExactProgramFaultRow, standIns := [], harness := (true, "f0c36dfaf3dc7a2d51b2d293fd49aadd077d76da037d614c6fed756d09e07757"), looks := false }, kinds := [], alts := [], laidByText := true, laidKinds := [.data], laidTests := true, laidLooks := .later }
def FnExactProgramFaultCardSaid : Prop := Claim7.holds Tryd.pinned (.plain (OpenSpec.ofChange fnExactProgramFaultSpec)) fnExactProgramFaultCard

/-- THE TIED CARD OF 'laws.FnExactIsSound'. -/
def fnExactIsSoundCard : Claim7 := { stood := { row := fnExactIsSoundRow, standIns := [], harness := (true, "f0c36dfaf3dc7a2d51b2d293fd49aadd077d76da037d614c6fed756d09e07757"), looks := false }, kinds := [], alts := [], laidByText := true, laidKinds := [.data], laidTests := true, laidLooks := .later }
def FnExactIsSoundCardSaid : Prop := Claim7.holds Tryd.pinned (.plain (OpenSpec.ofChange fnExactIsSoundSpec)) fnExactIsSoundCard

/-- THE TIED CARD OF 'laws.FnExactLineOf'. -/
def fnExactLineOfCard : Claim7 := { stood := { row := fnExactLineOfRow, standIns := [], harness := (true, "f0c36dfaf3dc7a2d51b2d293fd49aadd077d76da037d614c6fed756d09e07757"), looks := false }, kinds := [], alts := [], laidByText := true, laidKinds := [.data], laidTests := true, laidLooks := .later }
def FnExactLineOfCardSaid : Prop := Claim7.holds Tryd.pinned (.plain (OpenSpec.ofChange fnExactLineOfSpec)) fnExactLineOfCard

/-- THE TIED CARD OF 'laws.FnExactUsesOf'. -/
def fnExactUsesOfCard : Claim7 := { stood := { row := fnExactUsesOfRow, standIns := [], harness := (true, "f0c36dfaf3dc7a2d51b2d293fd49aadd077d76da037d614c6fed756d09e07757"), looks := false }, kinds := [], alts := [], laidByText := true, laidKinds := [.data], laidTests := true, laidLooks := .later }
def FnExactUsesOfCardSaid : Prop := Claim7.holds Tryd.pinned (.plain (OpenSpec.ofChange fnExactUsesOfSpec)) fnExactUsesOfCard

/-- THE TIED CARD OF 'laws.FnExactRememberedVars'. -/
def fnExactRememberedVarsCard : Claim7 := { stood := { row := fnExactRememberedVarsRow, standIns := [], harness := (true, "f0c36dfaf3dc7a2d51b2d293fd49aadd077d76da037d614c6fed756d09e07757"), looks := false }, kinds := [], alts := [], laidByText := true, laidKinds := [.data], laidTests := true, laidLooks := .later }
def FnExactRememberedVarsCardSaid : Prop := Claim7.holds Tryd.pinned (.plain (OpenSpec.ofChange fnExactRememberedVarsSpec)) fnExactRememberedVarsCard

/-- THE TIED CARD OF 'laws.FnExactUnusedNames'. -/
def fnExactUnusedNamesCard : Claim7 := { stood := { row := fnExactUnusedNamesRow, standIns := [], harness := (true, "f0c36dfaf3dc7a2d51b2d293fd49aadd077d76da037d614c6fed756d09e07757"), looks := false }, kinds := [], alts := [], laidByText := true, laidKinds := [.data], laidTests := true, laidLooks := .later }
def FnExactUnusedNamesCardSaid : Prop := Claim7.holds Tryd.pinned (.plain (OpenSpec.ofChange fnExactUnusedNamesSpec)) fnExactUnusedNamesCard

/-- THE TIED CARD OF 'laws.FnExactRenameIn'. -/
def fnExactRenameInCard : Claim7 := { stood := { row := fnExactRenameInRow, standIns := [], harness := (true, "f0c36dfaf3dc7a2d51b2d293fd49aadd077d76da037d614c6fed756d09e07757"), looks := false }, kinds := [], alts := [], laidByText := true, laidKinds := [.data], laidTests := true, laidLooks := .later }
def FnExactRenameInCardSaid : Prop := Claim7.holds Tryd.pinned (.plain (OpenSpec.ofChange fnExactRenameInSpec)) fnExactRenameInCard

/-- THE TIED CARD OF 'laws.FnExactBlocksIn'. -/
def fnExactBlocksInCard : Claim7 := { stood := { row := fnExactBlocksInRow, standIns := [], harness := (true, "f0c36dfaf3dc7a2d51b2d293fd49aadd077d76da037d614c6fed756d09e07757"), looks := false }, kinds := [], alts := [], laidByText := true, laidKinds := [.data], laidTests := true, laidLooks := .later }
def FnExactBlocksInCardSaid : Prop := Claim7.holds Tryd.pinned (.plain (OpenSpec.ofChange fnExactBlocksInSpec)) fnExactBlocksInCard

/-- THE SECOND FORM's CARD OF 'laws.FnSound'. -/
def fnSoundUptoCard : Claim7 := { stood := { row := fnSoundUptoRow, standIns := [], harness := (true, "f0c36dfaf3dc7a2d51b2d293fd49aadd077d76da037d614c6fed756d09e07757"), looks := false }, kinds := [], alts := [], laidByText := true, laidKinds := [.data], laidTests := true, laidLooks := .later }
def FnSoundUptoCardSaid : Prop := Claim7.holds Tryd.pinned (.plain (OpenSpec.upto fnSoundSpec)) fnSoundUptoCard

/-- THE SECOND FORM's CARD OF 'laws.FnExactProgramFault'. -/
def fnExactProgramFaultUptoCard : Claim7 := { stood := { row := fnExactProgramFaultUptoRow, standIns := [], harness := (true, "f0c36dfaf3dc7a2d51b2d293fd49aadd077d76da037d614c6fed756d09e07757"), looks := false }, kinds := [], alts := [], laidByText := true, laidKinds := [.data], laidTests := true, laidLooks := .later }
def FnExactProgramFaultUptoCardSaid : Prop := Claim7.holds Tryd.pinned (.plain (OpenSpec.upto fnExactProgramFaultSpec)) fnExactProgramFaultUptoCard

/-- THE SECOND FORM's CARD OF 'laws.FnExactIsSound'. -/
def fnExactIsSoundUptoCard : Claim7 := { stood := { row := fnExactIsSoundUptoRow, standIns := [], harness := (true, "f0c36dfaf3dc7a2d51b2d293fd49aadd077d76da037d614c6fed756d09e07757"), looks := false }, kinds := [], alts := [], laidByText := true, laidKinds := [.data], laidTests := true, laidLooks := .later }
def FnExactIsSoundUptoCardSaid : Prop := Claim7.holds Tryd.pinned (.plain (OpenSpec.upto fnExactIsSoundSpec)) fnExactIsSoundUptoCard

/-- THE SECOND FORM's CARD OF 'laws.FnExactLineOf'. -/
def fnExactLineOfUptoCard : Claim7 := { stood := { row := fnExactLineOfUptoRow, standIns := [], harness := (true, "f0c36dfaf3dc7a2d51b2d293fd49aadd077d76da037d614c6fed756d09e07757"), looks := false }, kinds := [], alts := [], laidByText := true, laidKinds := [.data], laidTests := true, laidLooks := .later }
def FnExactLineOfUptoCardSaid : Prop := Claim7.holds Tryd.pinned (.plain (OpenSpec.upto fnExactLineOfSpec)) fnExactLineOfUptoCard

/-- THE SECOND FORM's CARD OF 'laws.FnExactUsesOf'. -/
def fnExactUsesOfUptoCard : Claim7 := { stood := { row := fnExactUsesOfUptoRow, standIns := [], harness := (true, "f0c36dfaf3dc7a2d51b2d293fd49aadd077d76da037d614c6fed756d09e07757"), looks := false }, kinds := [], alts := [], laidByText := true, laidKinds := [.data], laidTests := true, laidLooks := .later }
def FnExactUsesOfUptoCardSaid : Prop := Claim7.holds Tryd.pinned (.plain (OpenSpec.upto fnExactUsesOfSpec)) fnExactUsesOfUptoCard

/-- THE SECOND FORM's CARD OF 'laws.FnExactRememberedVars'. -/
def fnExactRememberedVarsUptoCard : Claim7 := { stood := { row := fnExactRememberedVarsUptoRow, standIns := [], harness := (true, "f0c36dfaf3dc7a2d51b2d293fd49aadd077d76da037d614c6fed756d09e07757"), looks := false }, kinds := [], alts := [], laidByText := true, laidKinds := [.data], laidTests := true, laidLooks := .later }
def FnExactRememberedVarsUptoCardSaid : Prop := Claim7.holds Tryd.pinned (.plain (OpenSpec.upto fnExactRememberedVarsSpec)) fnExactRememberedVarsUptoCard

/-- THE SECOND FORM's CARD OF 'laws.FnExactUnusedNames'. -/
def fnExactUnusedNamesUptoCard : Claim7 := { stood := { row := fnExactUnusedNamesUptoRow, standIns := [], harness := (true, "f0c36dfaf3dc7a2d51b2d293fd49aadd077d76da037d614c6fed756d09e07757"), looks := false }, kinds := [], alts := [], laidByText := true, laidKinds := [.data], laidTests := true, laidLooks := .later }
def FnExactUnusedNamesUptoCardSaid : Prop := Claim7.holds Tryd.pinned (.plain (OpenSpec.upto fnExactUnusedNamesSpec)) fnExactUnusedNamesUptoCard

/-- THE SECOND FORM's CARD OF 'laws.FnExactRenameIn'. -/
def fnExactRenameInUptoCard : Claim7 := { stood := { row := fnExactRenameInUptoRow, standIns := [], harness := (true, "f0c36dfaf3dc7a2d51b2d293fd49aadd077d76da037d614c6fed756d09e07757"), looks := false }, kinds := [], alts := [], laidByText := true, laidKinds := [.data], laidTests := true, laidLooks := .later }
def FnExactRenameInUptoCardSaid : Prop := Claim7.holds Tryd.pinned (.plain (OpenSpec.upto fnExactRenameInSpec)) fnExactRenameInUptoCard

/-- THE SECOND FORM's CARD OF 'laws.FnExactBlocksIn'. -/
def fnExactBlocksInUptoCard : Claim7 := { stood := { row := fnExactBlocksInUptoRow, standIns := [], harness := (true, "f0c36dfaf3dc7a2d51b2d293fd49aadd077d76da037d614c6fed756d09e07757"), looks := false }, kinds := [], alts := [], laidByText := true, laidKinds := [.data], laidTests := true, laidLooks := .later }
def FnExactBlocksInUptoCardSaid : Prop := Claim7.holds Tryd.pinned (.plain (OpenSpec.upto fnExactBlocksInSpec)) fnExactBlocksInUptoCard
end Rows
end Go.Proofs.YtokipobjpinhmaaDoor
