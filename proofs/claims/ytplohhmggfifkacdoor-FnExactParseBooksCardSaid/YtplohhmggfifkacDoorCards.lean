/-
  DERIVED. GIVEN WITH THE SEED: THE CARDS: each row of YtplohhmggfifkacDoorRows.lean that lists a variable, with what it lists TIED to the program's text (the seventh form; the later family's looks); each row that meets fmt, with fmt's text TOLD by the authors' own Lean function (tested against real Go, not proved from fmt's source: count such statements apart). THE CARD IS WHAT COUNTS. Prove the row's statement (the work); the ties are given (YtplohhmggfifkacDoorTie.lean); close each card by the builder's one call (the guide's Derived/Test/ToyasCard.lean, 'card_holds'). Laid BY PROGRAM, IN A SANDBOX (cutbox-door.mjs). By AI agents, Wed Nov 11 2026. No macro, syntax, notation, axiom, sorry.
-/
import Derived.Test.YtplohhmggfifkacDoorRows
import GoSem.ClaimSeven
namespace Go.Proofs.YtplohhmggfifkacDoor
namespace Rows

/-- THE TIED CARD OF 'laws.FnExactThingsText'. -/
def fnExactThingsTextCard : Claim7 := { stood := { row := fnExactThingsTextRow, standIns := [], harness := (true, "ec88b1a64d76a737439340d788ee2e635e570d2075e03db3d9313787141e5da6"), looks := true }, kinds := [], alts := [], laidByText := true, laidKinds := [.data, .data, .data], laidTests := true, laidLooks := .later }
def FnExactThingsTextCardSaid : Prop := Claim7.holds Tryd.pinned (.plain (OpenSpec.ofChange fnExactThingsTextSpec)) fnExactThingsTextCard

/-- THE TIED CARD OF 'laws.FnExactParseThings'. -/
def fnExactParseThingsCard : Claim7 := { stood := { row := fnExactParseThingsRow, standIns := [], harness := (true, "ec88b1a64d76a737439340d788ee2e635e570d2075e03db3d9313787141e5da6"), looks := true }, kinds := [], alts := [], laidByText := true, laidKinds := [.data, .data, .data, .data, .sentinel, .sentinel, .pinned], laidTests := true, laidLooks := .later }
def FnExactParseThingsCardSaid : Prop := Claim7.holds Tryd.pinned (.plain (OpenSpec.ofChange fnExactParseThingsSpec)) fnExactParseThingsCard

/-- THE TIED CARD OF 'laws.FnExactBooksText'. -/
def fnExactBooksTextCard : Claim7 := { stood := { row := fnExactBooksTextRow, standIns := [], harness := (true, "ec88b1a64d76a737439340d788ee2e635e570d2075e03db3d9313787141e5da6"), looks := true }, kinds := [], alts := [], laidByText := true, laidKinds := [.data, .data, .data], laidTests := true, laidLooks := .later }
def FnExactBooksTextCardSaid : Prop := Claim7.holds Tryd.pinned (.plain (OpenSpec.ofChange fnExactBooksTextSpec)) fnExactBooksTextCard

/-- THE TIED CARD OF 'laws.FnExactParseBooks'. -/
def fnExactParseBooksCard : Claim7 := { stood := { row := fnExactParseBooksRow, standIns := [], harness := (true, "ec88b1a64d76a737439340d788ee2e635e570d2075e03db3d9313787141e5da6"), looks := true }, kinds := [], alts := [], laidByText := true, laidKinds := [.data, .data, .data, .data, .sentinel, .sentinel, .pinned], laidTests := true, laidLooks := .later }
def FnExactParseBooksCardSaid : Prop := Claim7.holds Tryd.pinned (.plain (OpenSpec.ofChange fnExactParseBooksSpec)) fnExactParseBooksCard

/-- THE SECOND FORM's CARD OF 'laws.FnExactThingsText'. -/
def fnExactThingsTextUptoCard : Claim7 := { stood := { row := fnExactThingsTextUptoRow, standIns := [], harness := (true, "ec88b1a64d76a737439340d788ee2e635e570d2075e03db3d9313787141e5da6"), looks := true }, kinds := [], alts := [], laidByText := true, laidKinds := [.data, .data, .data], laidTests := true, laidLooks := .later }
def FnExactThingsTextUptoCardSaid : Prop := Claim7.holds Tryd.pinned (.plain (OpenSpec.upto fnExactThingsTextSpec)) fnExactThingsTextUptoCard

/-- THE SECOND FORM's CARD OF 'laws.FnExactParseThings'. -/
def fnExactParseThingsUptoCard : Claim7 := { stood := { row := fnExactParseThingsUptoRow, standIns := [], harness := (true, "ec88b1a64d76a737439340d788ee2e635e570d2075e03db3d9313787141e5da6"), looks := true }, kinds := [], alts := [], laidByText := true, laidKinds := [.data, .data, .data, .data, .sentinel, .sentinel, .pinned], laidTests := true, laidLooks := .later }
def FnExactParseThingsUptoCardSaid : Prop := Claim7.holds Tryd.pinned (.plain (OpenSpec.upto fnExactParseThingsSpec)) fnExactParseThingsUptoCard

/-- THE SECOND FORM's CARD OF 'laws.FnExactBooksText'. -/
def fnExactBooksTextUptoCard : Claim7 := { stood := { row := fnExactBooksTextUptoRow, standIns := [], harness := (true, "ec88b1a64d76a737439340d788ee2e635e570d2075e03db3d9313787141e5da6"), looks := true }, kinds := [], alts := [], laidByText := true, laidKinds := [.data, .data, .data], laidTests := true, laidLooks := .later }
def FnExactBooksTextUptoCardSaid : Prop := Claim7.holds Tryd.pinned (.plain (OpenSpec.upto fnExactBooksTextSpec)) fnExactBooksTextUptoCard

/-- THE SECOND FORM's CARD OF 'laws.FnExactParseBooks'. -/
def fnExactParseBooksUptoCard : Claim7 := { stood := { row := fnExactParseBooksUptoRow, standIns := [], harness := (true, "ec88b1a64d76a737439340d788ee2e635e570d2075e03db3d9313787141e5da6"), looks := true }, kinds := [], alts := [], laidByText := true, laidKinds := [.data, .data, .data, .data, .sentinel, .sentinel, .pinned], laidTests := true, laidLooks := .later }
def FnExactParseBooksUptoCardSaid : Prop := Claim7.holds Tryd.pinned (.plain (OpenSpec.upto fnExactParseBooksSpec)) fnExactParseBooksUptoCard
end Rows
end Go.Proofs.YtplohhmggfifkacDoor
