/-
  No cell of these rows narrows 'for every input' (looked for: loops, veiled, ifaces, maps, wideKeys, modest, calm, conditions, laid).
  DERIVED. THE GIVEN ROWS OF THIS SEAT. 12 by the template 'for every input the law returns true; each argument reads behind the call as it read before'; 0 by the template 'total and deterministic' (their statements: YtplohhmggfifkaaTotals.lean).
  GIVEN WITH THE SEED: the statements are not yours to turn. If you find one false, say at which input.
  Laid BY PROGRAM, IN A SANDBOX (cutbox-rows.mjs): the forced cells as the released guide's own fill.sh prints them over the translation 9d41aca1b7df73af… (all of the seat's roots in one cut). By AI agents, Wed Nov 11 2026. No macro, syntax, notation, axiom, sorry.
-/
import Derived.Test.YtplohhmggfifkaaChecked
import GoSem.Claim
import GoSem.ClaimJoined
import GoSem.ClaimMapViews
import Derived.JoinedTies
import Derived.KernelRfl
namespace Go.Proofs.Ytplohhmggfifkaa
/- THE CELL 'sum', in the pinned program and in every row, IS THE sha256 OF THE DUMP (.gsa) THAT YtplohhmggfifkaaProg.lean LOADS. Nothing in Lean hashes anything: it is a label: what it is worth is what the hold of that sum in a sandbox is worth. -/
noncomputable def Try.pinned : Pinned := { name := "ytplohhmggfifkaa", sum := "9d41aca1b7df73afcd349fc4f34640ecf6c71e86997c2e581095c53c163338cd", checked := Try.checked }
namespace Rows
def none {H : Type} : Left H := { results := [], args := [] }

/-- 'laws.FnExactAreBooks': WHATEVER THE INPUT: true; the input reads as it did. -/
def fnExactAreBooksSpec : ChangeSpec := { name := "fnExactAreBooks", fn := fun _ => fun
  | [d] => { results := [.lit (.bool true)], args := [d] }
  | _ => none }
def fnExactAreBooksRow : OpenClaim := { program := "ytplohhmggfifkaa", sum := "9d41aca1b7df73afcd349fc4f34640ecf6c71e86997c2e581095c53c163338cd", func := "loop.example/g01334/laws.FnExactAreBooks", spec := "fnExactAreBooks", apart := false }
def FnExactAreBooksSaid : Prop := fnExactAreBooksRow.holds Try.pinned (OpenSpec.ofChange fnExactAreBooksSpec)

/-- ITS FALSE NEIGHBOUR: 'it returns false'. Refute it at one input. -/
def fnExactAreBooksWrong : ChangeSpec := { name := "fnExactAreBooks", fn := fun _ => fun
  | [d] => { results := [.lit (.bool false)], args := [d] }
  | _ => none }
def FnExactAreBooksWrongFalsely : Prop := fnExactAreBooksRow.holds Try.pinned (OpenSpec.ofChange fnExactAreBooksWrong)

/-- 'laws.FnExactIsShelving': WHATEVER THE INPUT: true; the input reads as it did. -/
def fnExactIsShelvingSpec : ChangeSpec := { name := "fnExactIsShelving", fn := fun _ => fun
  | [d1, d2, d3] => { results := [.lit (.bool true)], args := [d1, d2, d3] }
  | _ => none }
def fnExactIsShelvingRow : OpenClaim := { program := "ytplohhmggfifkaa", sum := "9d41aca1b7df73afcd349fc4f34640ecf6c71e86997c2e581095c53c163338cd", func := "loop.example/g01334/laws.FnExactIsShelving", spec := "fnExactIsShelving", apart := false }
def FnExactIsShelvingSaid : Prop := fnExactIsShelvingRow.holds Try.pinned (OpenSpec.ofChange fnExactIsShelvingSpec)

/-- ITS FALSE NEIGHBOUR: 'it returns false'. Refute it at one input. -/
def fnExactIsShelvingWrong : ChangeSpec := { name := "fnExactIsShelving", fn := fun _ => fun
  | [d1, d2, d3] => { results := [.lit (.bool false)], args := [d1, d2, d3] }
  | _ => none }
def FnExactIsShelvingWrongFalsely : Prop := fnExactIsShelvingRow.holds Try.pinned (OpenSpec.ofChange fnExactIsShelvingWrong)

/-- 'laws.FnExactShelfHeights': WHATEVER THE INPUT: true; the input reads as it did. -/
def fnExactShelfHeightsSpec : ChangeSpec := { name := "fnExactShelfHeights", fn := fun _ => fun
  | [d1, d2, d3] => { results := [.lit (.bool true)], args := [d1, d2, d3] }
  | _ => none }
def fnExactShelfHeightsRow : OpenClaim := { program := "ytplohhmggfifkaa", sum := "9d41aca1b7df73afcd349fc4f34640ecf6c71e86997c2e581095c53c163338cd", func := "loop.example/g01334/laws.FnExactShelfHeights", spec := "fnExactShelfHeights", apart := false }
def FnExactShelfHeightsSaid : Prop := fnExactShelfHeightsRow.holds Try.pinned (OpenSpec.ofChange fnExactShelfHeightsSpec)

/-- ITS FALSE NEIGHBOUR: 'it returns false'. Refute it at one input. -/
def fnExactShelfHeightsWrong : ChangeSpec := { name := "fnExactShelfHeights", fn := fun _ => fun
  | [d1, d2, d3] => { results := [.lit (.bool false)], args := [d1, d2, d3] }
  | _ => none }
def FnExactShelfHeightsWrongFalsely : Prop := fnExactShelfHeightsRow.holds Try.pinned (OpenSpec.ofChange fnExactShelfHeightsWrong)

/-- 'laws.FnExactShelfWidths': WHATEVER THE INPUT: true; the input reads as it did. -/
def fnExactShelfWidthsSpec : ChangeSpec := { name := "fnExactShelfWidths", fn := fun _ => fun
  | [d1, d2, d3] => { results := [.lit (.bool true)], args := [d1, d2, d3] }
  | _ => none }
def fnExactShelfWidthsRow : OpenClaim := { program := "ytplohhmggfifkaa", sum := "9d41aca1b7df73afcd349fc4f34640ecf6c71e86997c2e581095c53c163338cd", func := "loop.example/g01334/laws.FnExactShelfWidths", spec := "fnExactShelfWidths", apart := false }
def FnExactShelfWidthsSaid : Prop := fnExactShelfWidthsRow.holds Try.pinned (OpenSpec.ofChange fnExactShelfWidthsSpec)

/-- ITS FALSE NEIGHBOUR: 'it returns false'. Refute it at one input. -/
def fnExactShelfWidthsWrong : ChangeSpec := { name := "fnExactShelfWidths", fn := fun _ => fun
  | [d1, d2, d3] => { results := [.lit (.bool false)], args := [d1, d2, d3] }
  | _ => none }
def FnExactShelfWidthsWrongFalsely : Prop := fnExactShelfWidthsRow.holds Try.pinned (OpenSpec.ofChange fnExactShelfWidthsWrong)

/-- 'laws.FnExactHeightOfCase': WHATEVER THE INPUT: true; the input reads as it did. -/
def fnExactHeightOfCaseSpec : ChangeSpec := { name := "fnExactHeightOfCase", fn := fun _ => fun
  | [d1, d2, d3] => { results := [.lit (.bool true)], args := [d1, d2, d3] }
  | _ => none }
def fnExactHeightOfCaseRow : OpenClaim := { program := "ytplohhmggfifkaa", sum := "9d41aca1b7df73afcd349fc4f34640ecf6c71e86997c2e581095c53c163338cd", func := "loop.example/g01334/laws.FnExactHeightOfCase", spec := "fnExactHeightOfCase", apart := false }
def FnExactHeightOfCaseSaid : Prop := fnExactHeightOfCaseRow.holds Try.pinned (OpenSpec.ofChange fnExactHeightOfCaseSpec)

/-- ITS FALSE NEIGHBOUR: 'it returns false'. Refute it at one input. -/
def fnExactHeightOfCaseWrong : ChangeSpec := { name := "fnExactHeightOfCase", fn := fun _ => fun
  | [d1, d2, d3] => { results := [.lit (.bool false)], args := [d1, d2, d3] }
  | _ => none }
def FnExactHeightOfCaseWrongFalsely : Prop := fnExactHeightOfCaseRow.holds Try.pinned (OpenSpec.ofChange fnExactHeightOfCaseWrong)

/-- 'laws.FnExactRoughnessOf': WHATEVER THE INPUT: true; the input reads as it did. -/
def fnExactRoughnessOfSpec : ChangeSpec := { name := "fnExactRoughnessOf", fn := fun _ => fun
  | [d1, d2, d3] => { results := [.lit (.bool true)], args := [d1, d2, d3] }
  | _ => none }
def fnExactRoughnessOfRow : OpenClaim := { program := "ytplohhmggfifkaa", sum := "9d41aca1b7df73afcd349fc4f34640ecf6c71e86997c2e581095c53c163338cd", func := "loop.example/g01334/laws.FnExactRoughnessOf", spec := "fnExactRoughnessOf", apart := false }
def FnExactRoughnessOfSaid : Prop := fnExactRoughnessOfRow.holds Try.pinned (OpenSpec.ofChange fnExactRoughnessOfSpec)

/-- ITS FALSE NEIGHBOUR: 'it returns false'. Refute it at one input. -/
def fnExactRoughnessOfWrong : ChangeSpec := { name := "fnExactRoughnessOf", fn := fun _ => fun
  | [d1, d2, d3] => { results := [.lit (.bool false)], args := [d1, d2, d3] }
  | _ => none }
def FnExactRoughnessOfWrongFalsely : Prop := fnExactRoughnessOfRow.holds Try.pinned (OpenSpec.ofChange fnExactRoughnessOfWrong)

/-- 'laws.FnExactFillShelves': WHATEVER THE INPUT: true; the input reads as it did. -/
def fnExactFillShelvesSpec : ChangeSpec := { name := "fnExactFillShelves", fn := fun _ => fun
  | [d1, d2] => { results := [.lit (.bool true)], args := [d1, d2] }
  | _ => none }
def fnExactFillShelvesRow : OpenClaim := { program := "ytplohhmggfifkaa", sum := "9d41aca1b7df73afcd349fc4f34640ecf6c71e86997c2e581095c53c163338cd", func := "loop.example/g01334/laws.FnExactFillShelves", spec := "fnExactFillShelves", apart := false }
def FnExactFillShelvesSaid : Prop := fnExactFillShelvesRow.holds Try.pinned (OpenSpec.ofChange fnExactFillShelvesSpec)

/-- ITS FALSE NEIGHBOUR: 'it returns false'. Refute it at one input. -/
def fnExactFillShelvesWrong : ChangeSpec := { name := "fnExactFillShelves", fn := fun _ => fun
  | [d1, d2] => { results := [.lit (.bool false)], args := [d1, d2] }
  | _ => none }
def FnExactFillShelvesWrongFalsely : Prop := fnExactFillShelvesRow.holds Try.pinned (OpenSpec.ofChange fnExactFillShelvesWrong)

/-- 'laws.FnExactFewestShelves': WHATEVER THE INPUT: true; the input reads as it did. -/
def fnExactFewestShelvesSpec : ChangeSpec := { name := "fnExactFewestShelves", fn := fun _ => fun
  | [d1, d2] => { results := [.lit (.bool true)], args := [d1, d2] }
  | _ => none }
def fnExactFewestShelvesRow : OpenClaim := { program := "ytplohhmggfifkaa", sum := "9d41aca1b7df73afcd349fc4f34640ecf6c71e86997c2e581095c53c163338cd", func := "loop.example/g01334/laws.FnExactFewestShelves", spec := "fnExactFewestShelves", apart := false }
def FnExactFewestShelvesSaid : Prop := fnExactFewestShelvesRow.holds Try.pinned (OpenSpec.ofChange fnExactFewestShelvesSpec)

/-- ITS FALSE NEIGHBOUR: 'it returns false'. Refute it at one input. -/
def fnExactFewestShelvesWrong : ChangeSpec := { name := "fnExactFewestShelves", fn := fun _ => fun
  | [d1, d2] => { results := [.lit (.bool false)], args := [d1, d2] }
  | _ => none }
def FnExactFewestShelvesWrongFalsely : Prop := fnExactFewestShelvesRow.holds Try.pinned (OpenSpec.ofChange fnExactFewestShelvesWrong)

/-- 'laws.FnExactLeastWidth': WHATEVER THE INPUT: true; the input reads as it did. -/
def fnExactLeastWidthSpec : ChangeSpec := { name := "fnExactLeastWidth", fn := fun _ => fun
  | [d1, d2] => { results := [.lit (.bool true)], args := [d1, d2] }
  | _ => none }
def fnExactLeastWidthRow : OpenClaim := { program := "ytplohhmggfifkaa", sum := "9d41aca1b7df73afcd349fc4f34640ecf6c71e86997c2e581095c53c163338cd", func := "loop.example/g01334/laws.FnExactLeastWidth", spec := "fnExactLeastWidth", unfollowed := true, recurses := true, apart := false }
def FnExactLeastWidthSaid : Prop := fnExactLeastWidthRow.holds Try.pinned (OpenSpec.ofChange fnExactLeastWidthSpec)

/-- ITS FALSE NEIGHBOUR: 'it returns false'. Refute it at one input. -/
def fnExactLeastWidthWrong : ChangeSpec := { name := "fnExactLeastWidth", fn := fun _ => fun
  | [d1, d2] => { results := [.lit (.bool false)], args := [d1, d2] }
  | _ => none }
def FnExactLeastWidthWrongFalsely : Prop := fnExactLeastWidthRow.holds Try.pinned (OpenSpec.ofChange fnExactLeastWidthWrong)

/-- 'laws.FnExactShelfOfBook': WHATEVER THE INPUT: true; the input reads as it did. -/
def fnExactShelfOfBookSpec : ChangeSpec := { name := "fnExactShelfOfBook", fn := fun _ => fun
  | [d1, d2, d3, d4] => { results := [.lit (.bool true)], args := [d1, d2, d3, d4] }
  | _ => none }
def fnExactShelfOfBookRow : OpenClaim := { program := "ytplohhmggfifkaa", sum := "9d41aca1b7df73afcd349fc4f34640ecf6c71e86997c2e581095c53c163338cd", func := "loop.example/g01334/laws.FnExactShelfOfBook", spec := "fnExactShelfOfBook", apart := false }
def FnExactShelfOfBookSaid : Prop := fnExactShelfOfBookRow.holds Try.pinned (OpenSpec.ofChange fnExactShelfOfBookSpec)

/-- ITS FALSE NEIGHBOUR: 'it returns false'. Refute it at one input. -/
def fnExactShelfOfBookWrong : ChangeSpec := { name := "fnExactShelfOfBook", fn := fun _ => fun
  | [d1, d2, d3, d4] => { results := [.lit (.bool false)], args := [d1, d2, d3, d4] }
  | _ => none }
def FnExactShelfOfBookWrongFalsely : Prop := fnExactShelfOfBookRow.holds Try.pinned (OpenSpec.ofChange fnExactShelfOfBookWrong)

/-- 'laws.FnExactTallestFirst': WHATEVER THE INPUT: true; the input reads as it did. -/
def fnExactTallestFirstSpec : ChangeSpec := { name := "fnExactTallestFirst", fn := fun _ => fun
  | [d] => { results := [.lit (.bool true)], args := [d] }
  | _ => none }
def fnExactTallestFirstRow : OpenClaim := { program := "ytplohhmggfifkaa", sum := "9d41aca1b7df73afcd349fc4f34640ecf6c71e86997c2e581095c53c163338cd", func := "loop.example/g01334/laws.FnExactTallestFirst", spec := "fnExactTallestFirst", unfollowed := true, recurses := true, apart := false }
def FnExactTallestFirstSaid : Prop := fnExactTallestFirstRow.holds Try.pinned (OpenSpec.ofChange fnExactTallestFirstSpec)

/-- ITS FALSE NEIGHBOUR: 'it returns false'. Refute it at one input. -/
def fnExactTallestFirstWrong : ChangeSpec := { name := "fnExactTallestFirst", fn := fun _ => fun
  | [d] => { results := [.lit (.bool false)], args := [d] }
  | _ => none }
def FnExactTallestFirstWrongFalsely : Prop := fnExactTallestFirstRow.holds Try.pinned (OpenSpec.ofChange fnExactTallestFirstWrong)

/-- 'laws.FnExactMoveBook': WHATEVER THE INPUT: true; the input reads as it did. -/
def fnExactMoveBookSpec : ChangeSpec := { name := "fnExactMoveBook", fn := fun _ => fun
  | [d1, d2, d3] => { results := [.lit (.bool true)], args := [d1, d2, d3] }
  | _ => none }
def fnExactMoveBookRow : OpenClaim := { program := "ytplohhmggfifkaa", sum := "9d41aca1b7df73afcd349fc4f34640ecf6c71e86997c2e581095c53c163338cd", func := "loop.example/g01334/laws.FnExactMoveBook", spec := "fnExactMoveBook", inPlace := ["slices.overlaps[loop.example/g01334/impl.Book]"], apart := false }
def FnExactMoveBookSaid : Prop := fnExactMoveBookRow.holds Try.pinned (OpenSpec.ofChange fnExactMoveBookSpec)

/-- ITS FALSE NEIGHBOUR: 'it returns false'. Refute it at one input. -/
def fnExactMoveBookWrong : ChangeSpec := { name := "fnExactMoveBook", fn := fun _ => fun
  | [d1, d2, d3] => { results := [.lit (.bool false)], args := [d1, d2, d3] }
  | _ => none }
def FnExactMoveBookWrongFalsely : Prop := fnExactMoveBookRow.holds Try.pinned (OpenSpec.ofChange fnExactMoveBookWrong)

/- THE SECOND FORM. 'bulk': how many values and letters a reading holds, each counted each time it is reached (what is shared counts as often as it is met; a slice's spare places count too). A statement '..UptoSaid' is the law's where the arguments, and the package variables that the reading takes, are together of bulk at most 1048576: NARROWER than '..Said'. Prove '..Said' where nothing that the law and all that it calls make is longer than what came in: it says more and counts as full. Else prove '..UptoSaid'. A law counts once. -/
mutual
def uptoBulk {H : Type} : DataW H → Nat
  | .lit (.string bytes) => bytes.length + 1
  | .lit _ => 1
  | .nil => 1
  | .ptr d => uptoBulk d + 1
  | .slice elems spare => uptoBulkAll elems + uptoBulkAll spare + 1
  | .agg parts => uptoBulkAll parts + 1
  | .iface _ d => uptoBulk d + 1
  | .map entries => uptoBulkEntries entries + 1
  | .held _ => 1
def uptoBulkAll {H : Type} : List (DataW H) → Nat
  | [] => 0
  | d :: r => uptoBulk d + uptoBulkAll r
def uptoBulkEntries {H : Type} : List (Lit × DataW H) → Nat
  | [] => 0
  | x :: r => uptoBulkEntry x + uptoBulkEntries r
def uptoBulkEntry {H : Type} : Lit × DataW H → Nat
  | (.string bytes, d) => bytes.length + uptoBulk d + 1
  | (_, d) => uptoBulk d + 1
 end
def uptoSmall : (H : Type) → List (DataW H) → Bool := fun _ ds => decide (uptoBulkAll ds ≤ 1048576)
def OpenSpec.upto (s : _root_.Go.ChangeSpec) : _root_.Go.OpenSpec := { _root_.Go.OpenSpec.ofChange s with cond := some uptoSmall }

/-- 'laws.FnExactAreBooks', WHERE WHAT IT READS IS OF BULK AT MOST 1048576: true; the input reads as it did. -/
def fnExactAreBooksUptoRow : OpenClaim := { program := "ytplohhmggfifkaa", sum := "9d41aca1b7df73afcd349fc4f34640ecf6c71e86997c2e581095c53c163338cd", func := "loop.example/g01334/laws.FnExactAreBooks", spec := "fnExactAreBooks", apart := false, narrowed := true }
def FnExactAreBooksUptoSaid : Prop := fnExactAreBooksUptoRow.holds Try.pinned (OpenSpec.upto fnExactAreBooksSpec)

/-- 'laws.FnExactIsShelving', WHERE WHAT IT READS IS OF BULK AT MOST 1048576: true; the input reads as it did. -/
def fnExactIsShelvingUptoRow : OpenClaim := { program := "ytplohhmggfifkaa", sum := "9d41aca1b7df73afcd349fc4f34640ecf6c71e86997c2e581095c53c163338cd", func := "loop.example/g01334/laws.FnExactIsShelving", spec := "fnExactIsShelving", apart := false, narrowed := true }
def FnExactIsShelvingUptoSaid : Prop := fnExactIsShelvingUptoRow.holds Try.pinned (OpenSpec.upto fnExactIsShelvingSpec)

/-- 'laws.FnExactShelfHeights', WHERE WHAT IT READS IS OF BULK AT MOST 1048576: true; the input reads as it did. -/
def fnExactShelfHeightsUptoRow : OpenClaim := { program := "ytplohhmggfifkaa", sum := "9d41aca1b7df73afcd349fc4f34640ecf6c71e86997c2e581095c53c163338cd", func := "loop.example/g01334/laws.FnExactShelfHeights", spec := "fnExactShelfHeights", apart := false, narrowed := true }
def FnExactShelfHeightsUptoSaid : Prop := fnExactShelfHeightsUptoRow.holds Try.pinned (OpenSpec.upto fnExactShelfHeightsSpec)

/-- 'laws.FnExactShelfWidths', WHERE WHAT IT READS IS OF BULK AT MOST 1048576: true; the input reads as it did. -/
def fnExactShelfWidthsUptoRow : OpenClaim := { program := "ytplohhmggfifkaa", sum := "9d41aca1b7df73afcd349fc4f34640ecf6c71e86997c2e581095c53c163338cd", func := "loop.example/g01334/laws.FnExactShelfWidths", spec := "fnExactShelfWidths", apart := false, narrowed := true }
def FnExactShelfWidthsUptoSaid : Prop := fnExactShelfWidthsUptoRow.holds Try.pinned (OpenSpec.upto fnExactShelfWidthsSpec)

/-- 'laws.FnExactHeightOfCase', WHERE WHAT IT READS IS OF BULK AT MOST 1048576: true; the input reads as it did. -/
def fnExactHeightOfCaseUptoRow : OpenClaim := { program := "ytplohhmggfifkaa", sum := "9d41aca1b7df73afcd349fc4f34640ecf6c71e86997c2e581095c53c163338cd", func := "loop.example/g01334/laws.FnExactHeightOfCase", spec := "fnExactHeightOfCase", apart := false, narrowed := true }
def FnExactHeightOfCaseUptoSaid : Prop := fnExactHeightOfCaseUptoRow.holds Try.pinned (OpenSpec.upto fnExactHeightOfCaseSpec)

/-- 'laws.FnExactRoughnessOf', WHERE WHAT IT READS IS OF BULK AT MOST 1048576: true; the input reads as it did. -/
def fnExactRoughnessOfUptoRow : OpenClaim := { program := "ytplohhmggfifkaa", sum := "9d41aca1b7df73afcd349fc4f34640ecf6c71e86997c2e581095c53c163338cd", func := "loop.example/g01334/laws.FnExactRoughnessOf", spec := "fnExactRoughnessOf", apart := false, narrowed := true }
def FnExactRoughnessOfUptoSaid : Prop := fnExactRoughnessOfUptoRow.holds Try.pinned (OpenSpec.upto fnExactRoughnessOfSpec)

/-- 'laws.FnExactFillShelves', WHERE WHAT IT READS IS OF BULK AT MOST 1048576: true; the input reads as it did. -/
def fnExactFillShelvesUptoRow : OpenClaim := { program := "ytplohhmggfifkaa", sum := "9d41aca1b7df73afcd349fc4f34640ecf6c71e86997c2e581095c53c163338cd", func := "loop.example/g01334/laws.FnExactFillShelves", spec := "fnExactFillShelves", apart := false, narrowed := true }
def FnExactFillShelvesUptoSaid : Prop := fnExactFillShelvesUptoRow.holds Try.pinned (OpenSpec.upto fnExactFillShelvesSpec)

/-- 'laws.FnExactFewestShelves', WHERE WHAT IT READS IS OF BULK AT MOST 1048576: true; the input reads as it did. -/
def fnExactFewestShelvesUptoRow : OpenClaim := { program := "ytplohhmggfifkaa", sum := "9d41aca1b7df73afcd349fc4f34640ecf6c71e86997c2e581095c53c163338cd", func := "loop.example/g01334/laws.FnExactFewestShelves", spec := "fnExactFewestShelves", apart := false, narrowed := true }
def FnExactFewestShelvesUptoSaid : Prop := fnExactFewestShelvesUptoRow.holds Try.pinned (OpenSpec.upto fnExactFewestShelvesSpec)

/-- 'laws.FnExactLeastWidth', WHERE WHAT IT READS IS OF BULK AT MOST 1048576: true; the input reads as it did. -/
def fnExactLeastWidthUptoRow : OpenClaim := { program := "ytplohhmggfifkaa", sum := "9d41aca1b7df73afcd349fc4f34640ecf6c71e86997c2e581095c53c163338cd", func := "loop.example/g01334/laws.FnExactLeastWidth", spec := "fnExactLeastWidth", unfollowed := true, recurses := true, apart := false, narrowed := true }
def FnExactLeastWidthUptoSaid : Prop := fnExactLeastWidthUptoRow.holds Try.pinned (OpenSpec.upto fnExactLeastWidthSpec)

/-- 'laws.FnExactShelfOfBook', WHERE WHAT IT READS IS OF BULK AT MOST 1048576: true; the input reads as it did. -/
def fnExactShelfOfBookUptoRow : OpenClaim := { program := "ytplohhmggfifkaa", sum := "9d41aca1b7df73afcd349fc4f34640ecf6c71e86997c2e581095c53c163338cd", func := "loop.example/g01334/laws.FnExactShelfOfBook", spec := "fnExactShelfOfBook", apart := false, narrowed := true }
def FnExactShelfOfBookUptoSaid : Prop := fnExactShelfOfBookUptoRow.holds Try.pinned (OpenSpec.upto fnExactShelfOfBookSpec)

/-- 'laws.FnExactTallestFirst', WHERE WHAT IT READS IS OF BULK AT MOST 1048576: true; the input reads as it did. -/
def fnExactTallestFirstUptoRow : OpenClaim := { program := "ytplohhmggfifkaa", sum := "9d41aca1b7df73afcd349fc4f34640ecf6c71e86997c2e581095c53c163338cd", func := "loop.example/g01334/laws.FnExactTallestFirst", spec := "fnExactTallestFirst", unfollowed := true, recurses := true, apart := false, narrowed := true }
def FnExactTallestFirstUptoSaid : Prop := fnExactTallestFirstUptoRow.holds Try.pinned (OpenSpec.upto fnExactTallestFirstSpec)

/-- 'laws.FnExactMoveBook', WHERE WHAT IT READS IS OF BULK AT MOST 1048576: true; the input reads as it did. -/
def fnExactMoveBookUptoRow : OpenClaim := { program := "ytplohhmggfifkaa", sum := "9d41aca1b7df73afcd349fc4f34640ecf6c71e86997c2e581095c53c163338cd", func := "loop.example/g01334/laws.FnExactMoveBook", spec := "fnExactMoveBook", inPlace := ["slices.overlaps[loop.example/g01334/impl.Book]"], apart := false, narrowed := true }
def FnExactMoveBookUptoSaid : Prop := fnExactMoveBookUptoRow.holds Try.pinned (OpenSpec.upto fnExactMoveBookSpec)

end Rows
end Go.Proofs.Ytplohhmggfifkaa
