/-
  DERIVED. GIVEN WITH THE SEED: THE CARDS: each row of YtcfnjodcnejnkabDoorRows.lean that lists a variable, with what it lists TIED to the program's text (the seventh form; the later family's looks); each row that meets fmt, with fmt's text TOLD by the authors' own Lean function (tested against real Go, not proved from fmt's source: count such statements apart). THE CARD IS WHAT COUNTS. Prove the row's statement (the work); the ties are given (YtcfnjodcnejnkabDoorTie.lean); close each card by the builder's one call (the guide's Derived/Test/ToyasCard.lean, 'card_holds'). Laid BY PROGRAM, IN A SANDBOX (cutbox-door.mjs). By AI agents, Wed Nov 11 2026. No macro, syntax, notation, axiom, sorry.
-/
import Derived.Test.YtcfnjodcnejnkabDoorRows
import GoSem.ClaimSeven
namespace Go.Proofs.YtcfnjodcnejnkabDoor
namespace Rows

/-- THE TIED CARD OF 'laws.FnExactStackablesText'. -/
def fnExactStackablesTextCard : Claim7 := { stood := { row := fnExactStackablesTextRow, standIns := [], harness := (true, "e8aae7bba9d498776d701cf7328501bf625b4086a9b9bba9fbd4a8509015d0c9"), looks := true }, kinds := [], alts := [], laidByText := true, laidKinds := [.data, .data, .data], laidTests := true, laidLooks := .later }
def FnExactStackablesTextCardSaid : Prop := Claim7.holds Tryd.pinned (.plain (OpenSpec.ofChange fnExactStackablesTextSpec)) fnExactStackablesTextCard

/-- THE TIED CARD OF 'laws.FnExactParseStackables'. -/
def fnExactParseStackablesCard : Claim7 := { stood := { row := fnExactParseStackablesRow, standIns := [], harness := (true, "e8aae7bba9d498776d701cf7328501bf625b4086a9b9bba9fbd4a8509015d0c9"), looks := true }, kinds := [], alts := [], laidByText := true, laidKinds := [.data, .data, .data, .data, .sentinel, .sentinel, .pinned], laidTests := true, laidLooks := .later }
def FnExactParseStackablesCardSaid : Prop := Claim7.holds Tryd.pinned (.plain (OpenSpec.ofChange fnExactParseStackablesSpec)) fnExactParseStackablesCard

/-- THE TIED CARD OF 'laws.FnExactParseBooks'. -/
def fnExactParseBooksCard : Claim7 := { stood := { row := fnExactParseBooksRow, standIns := [], harness := (true, "e8aae7bba9d498776d701cf7328501bf625b4086a9b9bba9fbd4a8509015d0c9"), looks := true }, kinds := [], alts := [], laidByText := true, laidKinds := [.data, .data, .data, .data, .sentinel, .sentinel, .pinned], laidTests := true, laidLooks := .later }
def FnExactParseBooksCardSaid : Prop := Claim7.holds Tryd.pinned (.plain (OpenSpec.ofChange fnExactParseBooksSpec)) fnExactParseBooksCard

/-- THE TIED CARD OF 'laws.FnExactParseBoxes'. -/
def fnExactParseBoxesCard : Claim7 := { stood := { row := fnExactParseBoxesRow, standIns := [], harness := (true, "e8aae7bba9d498776d701cf7328501bf625b4086a9b9bba9fbd4a8509015d0c9"), looks := true }, kinds := [], alts := [], laidByText := true, laidKinds := [.data, .data, .data, .data, .sentinel, .sentinel, .pinned], laidTests := true, laidLooks := .later }
def FnExactParseBoxesCardSaid : Prop := Claim7.holds Tryd.pinned (.plain (OpenSpec.ofChange fnExactParseBoxesSpec)) fnExactParseBoxesCard

/-- THE SECOND FORM's CARD OF 'laws.FnExactStackablesText'. -/
def fnExactStackablesTextUptoCard : Claim7 := { stood := { row := fnExactStackablesTextUptoRow, standIns := [], harness := (true, "e8aae7bba9d498776d701cf7328501bf625b4086a9b9bba9fbd4a8509015d0c9"), looks := true }, kinds := [], alts := [], laidByText := true, laidKinds := [.data, .data, .data], laidTests := true, laidLooks := .later }
def FnExactStackablesTextUptoCardSaid : Prop := Claim7.holds Tryd.pinned (.plain (OpenSpec.upto fnExactStackablesTextSpec)) fnExactStackablesTextUptoCard

/-- THE SECOND FORM's CARD OF 'laws.FnExactParseStackables'. -/
def fnExactParseStackablesUptoCard : Claim7 := { stood := { row := fnExactParseStackablesUptoRow, standIns := [], harness := (true, "e8aae7bba9d498776d701cf7328501bf625b4086a9b9bba9fbd4a8509015d0c9"), looks := true }, kinds := [], alts := [], laidByText := true, laidKinds := [.data, .data, .data, .data, .sentinel, .sentinel, .pinned], laidTests := true, laidLooks := .later }
def FnExactParseStackablesUptoCardSaid : Prop := Claim7.holds Tryd.pinned (.plain (OpenSpec.upto fnExactParseStackablesSpec)) fnExactParseStackablesUptoCard

/-- THE SECOND FORM's CARD OF 'laws.FnExactParseBooks'. -/
def fnExactParseBooksUptoCard : Claim7 := { stood := { row := fnExactParseBooksUptoRow, standIns := [], harness := (true, "e8aae7bba9d498776d701cf7328501bf625b4086a9b9bba9fbd4a8509015d0c9"), looks := true }, kinds := [], alts := [], laidByText := true, laidKinds := [.data, .data, .data, .data, .sentinel, .sentinel, .pinned], laidTests := true, laidLooks := .later }
def FnExactParseBooksUptoCardSaid : Prop := Claim7.holds Tryd.pinned (.plain (OpenSpec.upto fnExactParseBooksSpec)) fnExactParseBooksUptoCard

/-- THE SECOND FORM's CARD OF 'laws.FnExactParseBoxes'. -/
def fnExactParseBoxesUptoCard : Claim7 := { stood := { row := fnExactParseBoxesUptoRow, standIns := [], harness := (true, "e8aae7bba9d498776d701cf7328501bf625b4086a9b9bba9fbd4a8509015d0c9"), looks := true }, kinds := [], alts := [], laidByText := true, laidKinds := [.data, .data, .data, .data, .sentinel, .sentinel, .pinned], laidTests := true, laidLooks := .later }
def FnExactParseBoxesUptoCardSaid : Prop := Claim7.holds Tryd.pinned (.plain (OpenSpec.upto fnExactParseBoxesSpec)) fnExactParseBoxesUptoCard
end Rows
end Go.Proofs.YtcfnjodcnejnkabDoor
