/-
  DERIVED. GIVEN WITH THE SEED: THE CARDS: each row of YtkconbcmbpmghacDoorRows.lean that lists a variable, with what it lists TIED to the program's text (the seventh form; the later family's looks); each row that meets fmt, with fmt's text TOLD by the authors' own Lean function (tested against real Go, not proved from fmt's source: count such statements apart). THE CARD IS WHAT COUNTS. Prove the row's statement (the work); the ties are given (YtkconbcmbpmghacDoorTie.lean); close each card by the builder's one call (the guide's Derived/Test/ToyasCard.lean, 'card_holds'). Laid BY PROGRAM, IN A SANDBOX (cutbox-door.mjs). By AI agents, Wed Nov 11 2026. No macro, syntax, notation, axiom, sorry.
-/
import Derived.Test.YtkconbcmbpmghacDoorRows
import GoSem.ClaimSeven
namespace Go.Proofs.YtkconbcmbpmghacDoor
namespace Rows

/-- THE TIED CARD OF 'laws.FnExactBoxesText'. -/
def fnExactBoxesTextCard : Claim7 := { stood := { row := fnExactBoxesTextRow, standIns := [], harness := (true, "5ec9d92c8c56e3000c76815ba9e7b67c6a324a8df7e8fed1e2bce600efd6e72e"), looks := true }, kinds := [], alts := [], laidByText := true, laidKinds := [.data, .data, .data], laidTests := true, laidLooks := .later }
def FnExactBoxesTextCardSaid : Prop := Claim7.holds Tryd.pinned (.plain (OpenSpec.ofChange fnExactBoxesTextSpec)) fnExactBoxesTextCard

/-- THE TIED CARD OF 'laws.FnExactParseBoxes'. -/
def fnExactParseBoxesCard : Claim7 := { stood := { row := fnExactParseBoxesRow, standIns := [], harness := (true, "5ec9d92c8c56e3000c76815ba9e7b67c6a324a8df7e8fed1e2bce600efd6e72e"), looks := true }, kinds := [], alts := [], laidByText := true, laidKinds := [.data, .data, .data, .data, .sentinel, .sentinel, .pinned], laidTests := true, laidLooks := .later }
def FnExactParseBoxesCardSaid : Prop := Claim7.holds Tryd.pinned (.plain (OpenSpec.ofChange fnExactParseBoxesSpec)) fnExactParseBoxesCard

/-- THE TIED CARD OF 'laws.FnExactBooksText'. -/
def fnExactBooksTextCard : Claim7 := { stood := { row := fnExactBooksTextRow, standIns := [], harness := (true, "5ec9d92c8c56e3000c76815ba9e7b67c6a324a8df7e8fed1e2bce600efd6e72e"), looks := true }, kinds := [], alts := [], laidByText := true, laidKinds := [.data, .data, .data], laidTests := true, laidLooks := .later }
def FnExactBooksTextCardSaid : Prop := Claim7.holds Tryd.pinned (.plain (OpenSpec.ofChange fnExactBooksTextSpec)) fnExactBooksTextCard

/-- THE TIED CARD OF 'laws.FnExactParseBooks'. -/
def fnExactParseBooksCard : Claim7 := { stood := { row := fnExactParseBooksRow, standIns := [], harness := (true, "5ec9d92c8c56e3000c76815ba9e7b67c6a324a8df7e8fed1e2bce600efd6e72e"), looks := true }, kinds := [], alts := [], laidByText := true, laidKinds := [.data, .data, .data, .data, .sentinel, .sentinel, .pinned], laidTests := true, laidLooks := .later }
def FnExactParseBooksCardSaid : Prop := Claim7.holds Tryd.pinned (.plain (OpenSpec.ofChange fnExactParseBooksSpec)) fnExactParseBooksCard

/-- THE SECOND FORM's CARD OF 'laws.FnExactBoxesText'. -/
def fnExactBoxesTextUptoCard : Claim7 := { stood := { row := fnExactBoxesTextUptoRow, standIns := [], harness := (true, "5ec9d92c8c56e3000c76815ba9e7b67c6a324a8df7e8fed1e2bce600efd6e72e"), looks := true }, kinds := [], alts := [], laidByText := true, laidKinds := [.data, .data, .data], laidTests := true, laidLooks := .later }
def FnExactBoxesTextUptoCardSaid : Prop := Claim7.holds Tryd.pinned (.plain (OpenSpec.upto fnExactBoxesTextSpec)) fnExactBoxesTextUptoCard

/-- THE SECOND FORM's CARD OF 'laws.FnExactParseBoxes'. -/
def fnExactParseBoxesUptoCard : Claim7 := { stood := { row := fnExactParseBoxesUptoRow, standIns := [], harness := (true, "5ec9d92c8c56e3000c76815ba9e7b67c6a324a8df7e8fed1e2bce600efd6e72e"), looks := true }, kinds := [], alts := [], laidByText := true, laidKinds := [.data, .data, .data, .data, .sentinel, .sentinel, .pinned], laidTests := true, laidLooks := .later }
def FnExactParseBoxesUptoCardSaid : Prop := Claim7.holds Tryd.pinned (.plain (OpenSpec.upto fnExactParseBoxesSpec)) fnExactParseBoxesUptoCard

/-- THE SECOND FORM's CARD OF 'laws.FnExactBooksText'. -/
def fnExactBooksTextUptoCard : Claim7 := { stood := { row := fnExactBooksTextUptoRow, standIns := [], harness := (true, "5ec9d92c8c56e3000c76815ba9e7b67c6a324a8df7e8fed1e2bce600efd6e72e"), looks := true }, kinds := [], alts := [], laidByText := true, laidKinds := [.data, .data, .data], laidTests := true, laidLooks := .later }
def FnExactBooksTextUptoCardSaid : Prop := Claim7.holds Tryd.pinned (.plain (OpenSpec.upto fnExactBooksTextSpec)) fnExactBooksTextUptoCard

/-- THE SECOND FORM's CARD OF 'laws.FnExactParseBooks'. -/
def fnExactParseBooksUptoCard : Claim7 := { stood := { row := fnExactParseBooksUptoRow, standIns := [], harness := (true, "5ec9d92c8c56e3000c76815ba9e7b67c6a324a8df7e8fed1e2bce600efd6e72e"), looks := true }, kinds := [], alts := [], laidByText := true, laidKinds := [.data, .data, .data, .data, .sentinel, .sentinel, .pinned], laidTests := true, laidLooks := .later }
def FnExactParseBooksUptoCardSaid : Prop := Claim7.holds Tryd.pinned (.plain (OpenSpec.upto fnExactParseBooksSpec)) fnExactParseBooksUptoCard
end Rows
end Go.Proofs.YtkconbcmbpmghacDoor
