/-
  DERIVED. GIVEN WITH THE SEED: THE CARDS: each row of YtmgloknghoeheabDoorRows.lean that lists a variable, with what it lists TIED to the program's text (the seventh form; the later family's looks); each row that meets fmt, with fmt's text TOLD by the authors' own Lean function (tested against real Go, not proved from fmt's source: count such statements apart). THE CARD IS WHAT COUNTS. Prove the row's statement (the work); the ties are given (YtmgloknghoeheabDoorTie.lean); close each card by the builder's one call (the guide's Derived/Test/ToyasCard.lean, 'card_holds'). Laid BY PROGRAM, IN A SANDBOX (cutbox-door.mjs). By AI agents, Wed Nov 11 2026. No macro, syntax, notation, axiom, sorry.
-/
import Derived.Test.YtmgloknghoeheabDoorRows
import GoSem.ClaimSeven
namespace Go.Proofs.YtmgloknghoeheabDoor
namespace Rows

/-- THE TIED CARD OF 'laws.FnExactItemsText'. -/
def fnExactItemsTextCard : Claim7 := { stood := { row := fnExactItemsTextRow, standIns := [], harness := (true, "9c8f315753ee0385cc63849fd670a51e524b6ebc7184a34c9b2827e7abc839df"), looks := true }, kinds := [], alts := [], laidByText := true, laidKinds := [.data, .data, .data], laidTests := true, laidLooks := .later }
def FnExactItemsTextCardSaid : Prop := Claim7.holds Tryd.pinned (.plain (OpenSpec.ofChange fnExactItemsTextSpec)) fnExactItemsTextCard

/-- THE TIED CARD OF 'laws.FnExactParseItems'. -/
def fnExactParseItemsCard : Claim7 := { stood := { row := fnExactParseItemsRow, standIns := [], harness := (true, "9c8f315753ee0385cc63849fd670a51e524b6ebc7184a34c9b2827e7abc839df"), looks := true }, kinds := [], alts := [], laidByText := true, laidKinds := [.data, .data, .data, .data, .sentinel, .sentinel, .pinned], laidTests := true, laidLooks := .later }
def FnExactParseItemsCardSaid : Prop := Claim7.holds Tryd.pinned (.plain (OpenSpec.ofChange fnExactParseItemsSpec)) fnExactParseItemsCard

/-- THE SECOND FORM's CARD OF 'laws.FnExactItemsText'. -/
def fnExactItemsTextUptoCard : Claim7 := { stood := { row := fnExactItemsTextUptoRow, standIns := [], harness := (true, "9c8f315753ee0385cc63849fd670a51e524b6ebc7184a34c9b2827e7abc839df"), looks := true }, kinds := [], alts := [], laidByText := true, laidKinds := [.data, .data, .data], laidTests := true, laidLooks := .later }
def FnExactItemsTextUptoCardSaid : Prop := Claim7.holds Tryd.pinned (.plain (OpenSpec.upto fnExactItemsTextSpec)) fnExactItemsTextUptoCard

/-- THE SECOND FORM's CARD OF 'laws.FnExactParseItems'. -/
def fnExactParseItemsUptoCard : Claim7 := { stood := { row := fnExactParseItemsUptoRow, standIns := [], harness := (true, "9c8f315753ee0385cc63849fd670a51e524b6ebc7184a34c9b2827e7abc839df"), looks := true }, kinds := [], alts := [], laidByText := true, laidKinds := [.data, .data, .data, .data, .sentinel, .sentinel, .pinned], laidTests := true, laidLooks := .later }
def FnExactParseItemsUptoCardSaid : Prop := Claim7.holds Tryd.pinned (.plain (OpenSpec.upto fnExactParseItemsSpec)) fnExactParseItemsUptoCard
end Rows
end Go.Proofs.YtmgloknghoeheabDoor
