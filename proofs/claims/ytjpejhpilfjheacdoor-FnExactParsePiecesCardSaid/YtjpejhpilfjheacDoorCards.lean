/-
  DERIVED. GIVEN WITH THE SEED: THE CARDS: each row of YtjpejhpilfjheacDoorRows.lean that lists a variable, with what it lists TIED to the program's text (the seventh form; the later family's looks); each row that meets fmt, with fmt's text TOLD by the authors' own Lean function (tested against real Go, not proved from fmt's source: count such statements apart). THE CARD IS WHAT COUNTS. Prove the row's statement (the work); the ties are given (YtjpejhpilfjheacDoorTie.lean); close each card by the builder's one call (the guide's Derived/Test/ToyasCard.lean, 'card_holds'). Laid BY PROGRAM, IN A SANDBOX (cutbox-door.mjs). By AI agents, Wed Nov 11 2026. No macro, syntax, notation, axiom, sorry.
-/
import Derived.Test.YtjpejhpilfjheacDoorRows
import GoSem.ClaimSeven
namespace Go.Proofs.YtjpejhpilfjheacDoor
namespace Rows

/-- THE TIED CARD OF 'laws.FnExactParsePieces'. -/
def fnExactParsePiecesCard : Claim7 := { stood := { row := fnExactParsePiecesRow, standIns := [], harness := (true, "0e20ff6c9fcbae8273dd122ed70ea636235995feaa127868841f01e389e10b6b"), looks := true }, kinds := [], alts := [], laidByText := true, laidKinds := [.data, .data, .data, .data, .sentinel, .sentinel, .pinned], laidTests := true, laidLooks := .later }
def FnExactParsePiecesCardSaid : Prop := Claim7.holds Tryd.pinned (.plain (OpenSpec.ofChange fnExactParsePiecesSpec)) fnExactParsePiecesCard

/-- THE SECOND FORM's CARD OF 'laws.FnExactParsePieces'. -/
def fnExactParsePiecesUptoCard : Claim7 := { stood := { row := fnExactParsePiecesUptoRow, standIns := [], harness := (true, "0e20ff6c9fcbae8273dd122ed70ea636235995feaa127868841f01e389e10b6b"), looks := true }, kinds := [], alts := [], laidByText := true, laidKinds := [.data, .data, .data, .data, .sentinel, .sentinel, .pinned], laidTests := true, laidLooks := .later }
def FnExactParsePiecesUptoCardSaid : Prop := Claim7.holds Tryd.pinned (.plain (OpenSpec.upto fnExactParsePiecesSpec)) fnExactParsePiecesUptoCard
end Rows
end Go.Proofs.YtjpejhpilfjheacDoor
