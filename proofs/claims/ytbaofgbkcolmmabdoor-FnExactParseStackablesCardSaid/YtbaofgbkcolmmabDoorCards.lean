/-
  DERIVED. GIVEN WITH THE SEED: THE CARDS: each row of YtbaofgbkcolmmabDoorRows.lean that lists a variable, with what it lists TIED to the program's text (the seventh form; the later family's looks); each row that meets fmt, with fmt's text TOLD by the authors' own Lean function (tested against real Go, not proved from fmt's source: count such statements apart). THE CARD IS WHAT COUNTS. Prove the row's statement (the work); the ties are given (YtbaofgbkcolmmabDoorTie.lean); close each card by the builder's one call (the guide's Derived/Test/ToyasCard.lean, 'card_holds'). Laid BY PROGRAM, IN A SANDBOX (cutbox-door.mjs). By AI agents, Wed Nov 11 2026. No macro, syntax, notation, axiom, sorry.
-/
import Derived.Test.YtbaofgbkcolmmabDoorRows
import GoSem.ClaimSeven
namespace Go.Proofs.YtbaofgbkcolmmabDoor
namespace Rows

/-- THE TIED CARD OF 'laws.FnExactPiecesText'. -/
def fnExactPiecesTextCard : Claim7 := { stood := { row := fnExactPiecesTextRow, standIns := [], harness := (true, "a1e5403e82b380e4cc83e7b8480627618852ce06ad1df66454725f2c0c9b9596"), looks := true }, kinds := [], alts := [], laidByText := true, laidKinds := [.data, .data, .data], laidTests := true, laidLooks := .later }
def FnExactPiecesTextCardSaid : Prop := Claim7.holds Tryd.pinned (.plain (OpenSpec.ofChange fnExactPiecesTextSpec)) fnExactPiecesTextCard

/-- THE TIED CARD OF 'laws.FnExactParsePieces'. -/
def fnExactParsePiecesCard : Claim7 := { stood := { row := fnExactParsePiecesRow, standIns := [], harness := (true, "a1e5403e82b380e4cc83e7b8480627618852ce06ad1df66454725f2c0c9b9596"), looks := true }, kinds := [], alts := [], laidByText := true, laidKinds := [.data, .data, .data, .data, .sentinel, .sentinel, .pinned], laidTests := true, laidLooks := .later }
def FnExactParsePiecesCardSaid : Prop := Claim7.holds Tryd.pinned (.plain (OpenSpec.ofChange fnExactParsePiecesSpec)) fnExactParsePiecesCard

/-- THE TIED CARD OF 'laws.FnExactParseItems'. -/
def fnExactParseItemsCard : Claim7 := { stood := { row := fnExactParseItemsRow, standIns := [], harness := (true, "a1e5403e82b380e4cc83e7b8480627618852ce06ad1df66454725f2c0c9b9596"), looks := true }, kinds := [], alts := [], laidByText := true, laidKinds := [.data, .data, .data, .data, .sentinel, .sentinel, .pinned], laidTests := true, laidLooks := .later }
def FnExactParseItemsCardSaid : Prop := Claim7.holds Tryd.pinned (.plain (OpenSpec.ofChange fnExactParseItemsSpec)) fnExactParseItemsCard

/-- THE TIED CARD OF 'laws.FnExactParseBooks'. -/
def fnExactParseBooksCard : Claim7 := { stood := { row := fnExactParseBooksRow, standIns := [], harness := (true, "a1e5403e82b380e4cc83e7b8480627618852ce06ad1df66454725f2c0c9b9596"), looks := true }, kinds := [], alts := [], laidByText := true, laidKinds := [.data, .data, .data, .data, .sentinel, .sentinel, .pinned], laidTests := true, laidLooks := .later }
def FnExactParseBooksCardSaid : Prop := Claim7.holds Tryd.pinned (.plain (OpenSpec.ofChange fnExactParseBooksSpec)) fnExactParseBooksCard

/-- THE TIED CARD OF 'laws.FnExactParseBoxes'. -/
def fnExactParseBoxesCard : Claim7 := { stood := { row := fnExactParseBoxesRow, standIns := [], harness := (true, "a1e5403e82b380e4cc83e7b8480627618852ce06ad1df66454725f2c0c9b9596"), looks := true }, kinds := [], alts := [], laidByText := true, laidKinds := [.data, .data, .data, .data, .sentinel, .sentinel, .pinned], laidTests := true, laidLooks := .later }
def FnExactParseBoxesCardSaid : Prop := Claim7.holds Tryd.pinned (.plain (OpenSpec.ofChange fnExactParseBoxesSpec)) fnExactParseBoxesCard

/-- THE TIED CARD OF 'laws.FnExactParseStackables'. -/
def fnExactParseStackablesCard : Claim7 := { stood := { row := fnExactParseStackablesRow, standIns := [], harness := (true, "a1e5403e82b380e4cc83e7b8480627618852ce06ad1df66454725f2c0c9b9596"), looks := true }, kinds := [], alts := [], laidByText := true, laidKinds := [.data, .data, .data, .data, .sentinel, .sentinel, .pinned], laidTests := true, laidLooks := .later }
def FnExactParseStackablesCardSaid : Prop := Claim7.holds Tryd.pinned (.plain (OpenSpec.ofChange fnExactParseStackablesSpec)) fnExactParseStackablesCard

/-- THE SECOND FORM's CARD OF 'laws.FnExactPiecesText'. -/
def fnExactPiecesTextUptoCard : Claim7 := { stood := { row := fnExactPiecesTextUptoRow, standIns := [], harness := (true, "a1e5403e82b380e4cc83e7b8480627618852ce06ad1df66454725f2c0c9b9596"), looks := true }, kinds := [], alts := [], laidByText := true, laidKinds := [.data, .data, .data], laidTests := true, laidLooks := .later }
def FnExactPiecesTextUptoCardSaid : Prop := Claim7.holds Tryd.pinned (.plain (OpenSpec.upto fnExactPiecesTextSpec)) fnExactPiecesTextUptoCard

/-- THE SECOND FORM's CARD OF 'laws.FnExactParsePieces'. -/
def fnExactParsePiecesUptoCard : Claim7 := { stood := { row := fnExactParsePiecesUptoRow, standIns := [], harness := (true, "a1e5403e82b380e4cc83e7b8480627618852ce06ad1df66454725f2c0c9b9596"), looks := true }, kinds := [], alts := [], laidByText := true, laidKinds := [.data, .data, .data, .data, .sentinel, .sentinel, .pinned], laidTests := true, laidLooks := .later }
def FnExactParsePiecesUptoCardSaid : Prop := Claim7.holds Tryd.pinned (.plain (OpenSpec.upto fnExactParsePiecesSpec)) fnExactParsePiecesUptoCard

/-- THE SECOND FORM's CARD OF 'laws.FnExactParseItems'. -/
def fnExactParseItemsUptoCard : Claim7 := { stood := { row := fnExactParseItemsUptoRow, standIns := [], harness := (true, "a1e5403e82b380e4cc83e7b8480627618852ce06ad1df66454725f2c0c9b9596"), looks := true }, kinds := [], alts := [], laidByText := true, laidKinds := [.data, .data, .data, .data, .sentinel, .sentinel, .pinned], laidTests := true, laidLooks := .later }
def FnExactParseItemsUptoCardSaid : Prop := Claim7.holds Tryd.pinned (.plain (OpenSpec.upto fnExactParseItemsSpec)) fnExactParseItemsUptoCard

/-- THE SECOND FORM's CARD OF 'laws.FnExactParseBooks'. -/
def fnExactParseBooksUptoCard : Claim7 := { stood := { row := fnExactParseBooksUptoRow, standIns := [], harness := (true, "a1e5403e82b380e4cc83e7b8480627618852ce06ad1df66454725f2c0c9b9596"), looks := true }, kinds := [], alts := [], laidByText := true, laidKinds := [.data, .data, .data, .data, .sentinel, .sentinel, .pinned], laidTests := true, laidLooks := .later }
def FnExactParseBooksUptoCardSaid : Prop := Claim7.holds Tryd.pinned (.plain (OpenSpec.upto fnExactParseBooksSpec)) fnExactParseBooksUptoCard

/-- THE SECOND FORM's CARD OF 'laws.FnExactParseBoxes'. -/
def fnExactParseBoxesUptoCard : Claim7 := { stood := { row := fnExactParseBoxesUptoRow, standIns := [], harness := (true, "a1e5403e82b380e4cc83e7b8480627618852ce06ad1df66454725f2c0c9b9596"), looks := true }, kinds := [], alts := [], laidByText := true, laidKinds := [.data, .data, .data, .data, .sentinel, .sentinel, .pinned], laidTests := true, laidLooks := .later }
def FnExactParseBoxesUptoCardSaid : Prop := Claim7.holds Tryd.pinned (.plain (OpenSpec.upto fnExactParseBoxesSpec)) fnExactParseBoxesUptoCard

/-- THE SECOND FORM's CARD OF 'laws.FnExactParseStackables'. -/
def fnExactParseStackablesUptoCard : Claim7 := { stood := { row := fnExactParseStackablesUptoRow, standIns := [], harness := (true, "a1e5403e82b380e4cc83e7b8480627618852ce06ad1df66454725f2c0c9b9596"), looks := true }, kinds := [], alts := [], laidByText := true, laidKinds := [.data, .data, .data, .data, .sentinel, .sentinel, .pinned], laidTests := true, laidLooks := .later }
def FnExactParseStackablesUptoCardSaid : Prop := Claim7.holds Tryd.pinned (.plain (OpenSpec.upto fnExactParseStackablesSpec)) fnExactParseStackablesUptoCard
end Rows
end Go.Proofs.YtbaofgbkcolmmabDoor
