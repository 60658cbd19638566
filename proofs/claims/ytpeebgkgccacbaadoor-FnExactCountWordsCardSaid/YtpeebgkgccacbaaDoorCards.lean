/-
  DERIVED. GIVEN WITH THE SEED: THE CARDS: each row of YtpeebgkgccacbaaDoorRows.lean that lists a variable, with what it lists TIED to the program's text (the seventh form; the later family's looks); each row that meets fmt, with fmt's text TOLD by the authors' own Lean function (tested against real Go, not proved from fmt's source: count such statements apart). THE CARD IS WHAT COUNTS. Prove the row's statement (the work); the ties are given (YtpeebgkgccacbaaDoorTie.lean); close each card by the builder's one call (the guide's Derived/Test/ToyasCard.lean, 'card_holds'). Laid BY PROGRAM, IN A SANDBOX (cutbox-door.mjs). By AI agents, Wed Nov 11 2026. No macro, syntax, notation, axiom, sorry.
-/
import Derived.Test.YtpeebgkgccacbaaDoorRows
import GoSem.ClaimSeven
namespace Go.Proofs.YtpeebgkgccacbaaDoor
namespace Rows

/-- THE TIED CARD OF 'laws.FnTokens'. -/
def fnTokensCard : Claim7 := { stood := { row := fnTokensRow, standIns := [], harness := (true, "ea92f789775cf31359e094d1e6da72295b8b467fc49952f631a7a632562e64f8"), looks := true }, kinds := [], alts := [], laidByText := true, laidKinds := [.data, .data, .data, .sentinel, .sentinel], laidTests := true, laidLooks := .later }
def FnTokensCardSaid : Prop := Claim7.holds Tryd.pinned (.plain (OpenSpec.ofChange fnTokensSpec)) fnTokensCard

/-- THE TIED CARD OF 'laws.FnTexts'. -/
def fnTextsCard : Claim7 := { stood := { row := fnTextsRow, standIns := [], harness := (true, "ea92f789775cf31359e094d1e6da72295b8b467fc49952f631a7a632562e64f8"), looks := true }, kinds := [], alts := [], laidByText := true, laidKinds := [.data, .data, .data, .data, .sentinel, .sentinel, .pinned], laidTests := true, laidLooks := .later }
def FnTextsCardSaid : Prop := Claim7.holds Tryd.pinned (.plain (OpenSpec.ofChange fnTextsSpec)) fnTextsCard

/-- THE TIED CARD OF 'laws.FnExactReadTokens'. -/
def fnExactReadTokensCard : Claim7 := { stood := { row := fnExactReadTokensRow, standIns := [], harness := (true, "ea92f789775cf31359e094d1e6da72295b8b467fc49952f631a7a632562e64f8"), looks := true }, kinds := [], alts := [], laidByText := true, laidKinds := [.data, .data, .data, .sentinel, .sentinel], laidTests := true, laidLooks := .later }
def FnExactReadTokensCardSaid : Prop := Claim7.holds Tryd.pinned (.plain (OpenSpec.ofChange fnExactReadTokensSpec)) fnExactReadTokensCard

/-- THE TIED CARD OF 'laws.FnExactFirstBadByte'. -/
def fnExactFirstBadByteCard : Claim7 := { stood := { row := fnExactFirstBadByteRow, standIns := [], harness := (true, "ea92f789775cf31359e094d1e6da72295b8b467fc49952f631a7a632562e64f8"), looks := true }, kinds := [], alts := [], laidByText := true, laidKinds := [.data, .data, .data, .sentinel, .sentinel], laidTests := true, laidLooks := .later }
def FnExactFirstBadByteCardSaid : Prop := Claim7.holds Tryd.pinned (.plain (OpenSpec.ofChange fnExactFirstBadByteSpec)) fnExactFirstBadByteCard

/-- THE TIED CARD OF 'laws.FnExactIsToken'. -/
def fnExactIsTokenCard : Claim7 := { stood := { row := fnExactIsTokenRow, standIns := [], harness := (true, "ea92f789775cf31359e094d1e6da72295b8b467fc49952f631a7a632562e64f8"), looks := true }, kinds := [], alts := [], laidByText := true, laidKinds := [.data, .data, .data, .sentinel, .sentinel], laidTests := true, laidLooks := .later }
def FnExactIsTokenCardSaid : Prop := Claim7.holds Tryd.pinned (.plain (OpenSpec.ofChange fnExactIsTokenSpec)) fnExactIsTokenCard

/-- THE TIED CARD OF 'laws.FnExactStandardText'. -/
def fnExactStandardTextCard : Claim7 := { stood := { row := fnExactStandardTextRow, standIns := [], harness := (true, "ea92f789775cf31359e094d1e6da72295b8b467fc49952f631a7a632562e64f8"), looks := true }, kinds := [], alts := [], laidByText := true, laidKinds := [.data, .data, .data, .sentinel, .sentinel], laidTests := true, laidLooks := .later }
def FnExactStandardTextCardSaid : Prop := Claim7.holds Tryd.pinned (.plain (OpenSpec.ofChange fnExactStandardTextSpec)) fnExactStandardTextCard

/-- THE TIED CARD OF 'laws.FnExactCountWords'. -/
def fnExactCountWordsCard : Claim7 := { stood := { row := fnExactCountWordsRow, standIns := [], harness := (true, "ea92f789775cf31359e094d1e6da72295b8b467fc49952f631a7a632562e64f8"), looks := true }, kinds := [], alts := [], laidByText := true, laidKinds := [.data, .data, .data, .sentinel, .sentinel], laidTests := true, laidLooks := .later }
def FnExactCountWordsCardSaid : Prop := Claim7.holds Tryd.pinned (.plain (OpenSpec.ofChange fnExactCountWordsSpec)) fnExactCountWordsCard

/-- THE TIED CARD OF 'laws.FnExactStripComments'. -/
def fnExactStripCommentsCard : Claim7 := { stood := { row := fnExactStripCommentsRow, standIns := [], harness := (true, "ea92f789775cf31359e094d1e6da72295b8b467fc49952f631a7a632562e64f8"), looks := true }, kinds := [], alts := [], laidByText := true, laidKinds := [.data, .pinned], laidTests := true, laidLooks := .later }
def FnExactStripCommentsCardSaid : Prop := Claim7.holds Tryd.pinned (.plain (OpenSpec.ofChange fnExactStripCommentsSpec)) fnExactStripCommentsCard

/-- THE SECOND FORM's CARD OF 'laws.FnTokens'. -/
def fnTokensUptoCard : Claim7 := { stood := { row := fnTokensUptoRow, standIns := [], harness := (true, "ea92f789775cf31359e094d1e6da72295b8b467fc49952f631a7a632562e64f8"), looks := true }, kinds := [], alts := [], laidByText := true, laidKinds := [.data, .data, .data, .sentinel, .sentinel], laidTests := true, laidLooks := .later }
def FnTokensUptoCardSaid : Prop := Claim7.holds Tryd.pinned (.plain (OpenSpec.upto fnTokensSpec)) fnTokensUptoCard

/-- THE SECOND FORM's CARD OF 'laws.FnTexts'. -/
def fnTextsUptoCard : Claim7 := { stood := { row := fnTextsUptoRow, standIns := [], harness := (true, "ea92f789775cf31359e094d1e6da72295b8b467fc49952f631a7a632562e64f8"), looks := true }, kinds := [], alts := [], laidByText := true, laidKinds := [.data, .data, .data, .data, .sentinel, .sentinel, .pinned], laidTests := true, laidLooks := .later }
def FnTextsUptoCardSaid : Prop := Claim7.holds Tryd.pinned (.plain (OpenSpec.upto fnTextsSpec)) fnTextsUptoCard

/-- THE SECOND FORM's CARD OF 'laws.FnExactReadTokens'. -/
def fnExactReadTokensUptoCard : Claim7 := { stood := { row := fnExactReadTokensUptoRow, standIns := [], harness := (true, "ea92f789775cf31359e094d1e6da72295b8b467fc49952f631a7a632562e64f8"), looks := true }, kinds := [], alts := [], laidByText := true, laidKinds := [.data, .data, .data, .sentinel, .sentinel], laidTests := true, laidLooks := .later }
def FnExactReadTokensUptoCardSaid : Prop := Claim7.holds Tryd.pinned (.plain (OpenSpec.upto fnExactReadTokensSpec)) fnExactReadTokensUptoCard

/-- THE SECOND FORM's CARD OF 'laws.FnExactFirstBadByte'. -/
def fnExactFirstBadByteUptoCard : Claim7 := { stood := { row := fnExactFirstBadByteUptoRow, standIns := [], harness := (true, "ea92f789775cf31359e094d1e6da72295b8b467fc49952f631a7a632562e64f8"), looks := true }, kinds := [], alts := [], laidByText := true, laidKinds := [.data, .data, .data, .sentinel, .sentinel], laidTests := true, laidLooks := .later }
def FnExactFirstBadByteUptoCardSaid : Prop := Claim7.holds Tryd.pinned (.plain (OpenSpec.upto fnExactFirstBadByteSpec)) fnExactFirstBadByteUptoCard

/-- THE SECOND FORM's CARD OF 'laws.FnExactIsToken'. -/
def fnExactIsTokenUptoCard : Claim7 := { stood := { row := fnExactIsTokenUptoRow, standIns := [], harness := (true, "ea92f789775cf31359e094d1e6da72295b8b467fc49952f631a7a632562e64f8"), looks := true }, kinds := [], alts := [], laidByText := true, laidKinds := [.data, .data, .data, .sentinel, .sentinel], laidTests := true, laidLooks := .later }
def FnExactIsTokenUptoCardSaid : Prop := Claim7.holds Tryd.pinned (.plain (OpenSpec.upto fnExactIsTokenSpec)) fnExactIsTokenUptoCard

/-- THE SECOND FORM's CARD OF 'laws.FnExactStandardText'. -/
def fnExactStandardTextUptoCard : Claim7 := { stood := { row := fnExactStandardTextUptoRow, standIns := [], harness := (true, "ea92f789775cf31359e094d1e6da72295b8b467fc49952f631a7a632562e64f8"), looks := true }, kinds := [], alts := [], laidByText := true, laidKinds := [.data, .data, .data, .sentinel, .sentinel], laidTests := true, laidLooks := .later }
def FnExactStandardTextUptoCardSaid : Prop := Claim7.holds Tryd.pinned (.plain (OpenSpec.upto fnExactStandardTextSpec)) fnExactStandardTextUptoCard

/-- THE SECOND FORM's CARD OF 'laws.FnExactCountWords'. -/
def fnExactCountWordsUptoCard : Claim7 := { stood := { row := fnExactCountWordsUptoRow, standIns := [], harness := (true, "ea92f789775cf31359e094d1e6da72295b8b467fc49952f631a7a632562e64f8"), looks := true }, kinds := [], alts := [], laidByText := true, laidKinds := [.data, .data, .data, .sentinel, .sentinel], laidTests := true, laidLooks := .later }
def FnExactCountWordsUptoCardSaid : Prop := Claim7.holds Tryd.pinned (.plain (OpenSpec.upto fnExactCountWordsSpec)) fnExactCountWordsUptoCard

/-- THE SECOND FORM's CARD OF 'laws.FnExactStripComments'. -/
def fnExactStripCommentsUptoCard : Claim7 := { stood := { row := fnExactStripCommentsUptoRow, standIns := [], harness := (true, "ea92f789775cf31359e094d1e6da72295b8b467fc49952f631a7a632562e64f8"), looks := true }, kinds := [], alts := [], laidByText := true, laidKinds := [.data, .pinned], laidTests := true, laidLooks := .later }
def FnExactStripCommentsUptoCardSaid : Prop := Claim7.holds Tryd.pinned (.plain (OpenSpec.upto fnExactStripCommentsSpec)) fnExactStripCommentsUptoCard
end Rows
end Go.Proofs.YtpeebgkgccacbaaDoor
