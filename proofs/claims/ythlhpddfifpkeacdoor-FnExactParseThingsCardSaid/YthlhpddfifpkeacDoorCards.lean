/-
  DERIVED. GIVEN WITH THE SEED: THE CARDS: each row of YthlhpddfifpkeacDoorRows.lean that lists a variable, with what it lists TIED to the program's text (the seventh form; the later family's looks); each row that meets fmt, with fmt's text TOLD by the authors' own Lean function (tested against real Go, not proved from fmt's source: count such statements apart). THE CARD IS WHAT COUNTS. Prove the row's statement (the work); the ties are given (YthlhpddfifpkeacDoorTie.lean); close each card by the builder's one call (the guide's Derived/Test/ToyasCard.lean, 'card_holds'). Laid BY PROGRAM, IN A SANDBOX (cutbox-door.mjs). By AI agents, Wed Nov 11 2026. No macro, syntax, notation, axiom, sorry.
-/
import Derived.Test.YthlhpddfifpkeacDoorRows
import GoSem.ClaimSeven
namespace Go.Proofs.YthlhpddfifpkeacDoor
namespace Rows

/-- THE TIED CARD OF 'laws.FnExactLengthsText'. -/
def fnExactLengthsTextCard : Claim7 := { stood := { row := fnExactLengthsTextRow, standIns := [], harness := (true, "27c4f1461e5568e91df8115f56897137ab55734dc172925fd464f126c3ec960b"), looks := true }, kinds := [], alts := [], laidByText := true, laidKinds := [.data, .data, .data], laidTests := true, laidLooks := .later }
def FnExactLengthsTextCardSaid : Prop := Claim7.holds Tryd.pinned (.plain (OpenSpec.ofChange fnExactLengthsTextSpec)) fnExactLengthsTextCard

/-- THE TIED CARD OF 'laws.FnExactParseLengths'. -/
def fnExactParseLengthsCard : Claim7 := { stood := { row := fnExactParseLengthsRow, standIns := [], harness := (true, "27c4f1461e5568e91df8115f56897137ab55734dc172925fd464f126c3ec960b"), looks := true }, kinds := [], alts := [], laidByText := true, laidKinds := [.data, .data, .data, .data, .sentinel, .sentinel, .pinned], laidTests := true, laidLooks := .later }
def FnExactParseLengthsCardSaid : Prop := Claim7.holds Tryd.pinned (.plain (OpenSpec.ofChange fnExactParseLengthsSpec)) fnExactParseLengthsCard

/-- THE TIED CARD OF 'laws.FnExactParseThings'. -/
def fnExactParseThingsCard : Claim7 := { stood := { row := fnExactParseThingsRow, standIns := [], harness := (true, "27c4f1461e5568e91df8115f56897137ab55734dc172925fd464f126c3ec960b"), looks := true }, kinds := [], alts := [], laidByText := true, laidKinds := [.data, .data, .data, .data, .sentinel, .sentinel, .pinned], laidTests := true, laidLooks := .later }
def FnExactParseThingsCardSaid : Prop := Claim7.holds Tryd.pinned (.plain (OpenSpec.ofChange fnExactParseThingsSpec)) fnExactParseThingsCard

/-- THE SECOND FORM's CARD OF 'laws.FnExactLengthsText'. -/
def fnExactLengthsTextUptoCard : Claim7 := { stood := { row := fnExactLengthsTextUptoRow, standIns := [], harness := (true, "27c4f1461e5568e91df8115f56897137ab55734dc172925fd464f126c3ec960b"), looks := true }, kinds := [], alts := [], laidByText := true, laidKinds := [.data, .data, .data], laidTests := true, laidLooks := .later }
def FnExactLengthsTextUptoCardSaid : Prop := Claim7.holds Tryd.pinned (.plain (OpenSpec.upto fnExactLengthsTextSpec)) fnExactLengthsTextUptoCard

/-- THE SECOND FORM's CARD OF 'laws.FnExactParseLengths'. -/
def fnExactParseLengthsUptoCard : Claim7 := { stood := { row := fnExactParseLengthsUptoRow, standIns := [], harness := (true, "27c4f1461e5568e91df8115f56897137ab55734dc172925fd464f126c3ec960b"), looks := true }, kinds := [], alts := [], laidByText := true, laidKinds := [.data, .data, .data, .data, .sentinel, .sentinel, .pinned], laidTests := true, laidLooks := .later }
def FnExactParseLengthsUptoCardSaid : Prop := Claim7.holds Tryd.pinned (.plain (OpenSpec.upto fnExactParseLengthsSpec)) fnExactParseLengthsUptoCard

/-- THE SECOND FORM's CARD OF 'laws.FnExactParseThings'. -/
def fnExactParseThingsUptoCard : Claim7 := { stood := { row := fnExactParseThingsUptoRow, standIns := [], harness := (true, "27c4f1461e5568e91df8115f56897137ab55734dc172925fd464f126c3ec960b"), looks := true }, kinds := [], alts := [], laidByText := true, laidKinds := [.data, .data, .data, .data, .sentinel, .sentinel, .pinned], laidTests := true, laidLooks := .later }
def FnExactParseThingsUptoCardSaid : Prop := Claim7.holds Tryd.pinned (.plain (OpenSpec.upto fnExactParseThingsSpec)) fnExactParseThingsUptoCard
end Rows
end Go.Proofs.YthlhpddfifpkeacDoor
