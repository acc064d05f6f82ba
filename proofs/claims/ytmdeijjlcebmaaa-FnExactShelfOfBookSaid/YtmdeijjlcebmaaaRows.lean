/-
  No cell of these rows narrows 'for every input' (looked for: loops, veiled, ifaces, maps, wideKeys, modest, calm, conditions, laid).
  DERIVED. THE GIVEN ROWS OF THIS SEAT. 7 by the template 'for every input the law returns true; each argument reads behind the call as it read before'; 0 by the template 'total and deterministic' (their statements: YtmdeijjlcebmaaaTotals.lean).
  GIVEN WITH THE SEED: the statements are not yours to turn. If you find one false, say at which input.
  Laid BY PROGRAM, IN A SANDBOX (cutbox-rows.mjs): the forced cells as the released guide's own fill.sh prints them over the translation f84a22bfd325e522… (all of the seat's roots in one cut). By AI agents, Wed Nov 11 2026. No macro, syntax, notation, axiom, sorry.
-/
import Derived.Test.YtmdeijjlcebmaaaChecked
import GoSem.Claim
import GoSem.ClaimJoined
import GoSem.ClaimMapViews
import Derived.JoinedTies
import Derived.KernelRfl
namespace Go.Proofs.Ytmdeijjlcebmaaa
/- THE CELL 'sum', in the pinned program and in every row, IS THE sha256 OF THE DUMP (.gsa) THAT YtmdeijjlcebmaaaProg.lean LOADS. Nothing in Lean hashes anything: it is a label: what it is worth is what the hold of that sum in a sandbox is worth. -/
noncomputable def Try.pinned : Pinned := { name := "ytmdeijjlcebmaaa", sum := "f84a22bfd325e52263cf1a630d83ec1d095c30ae525d490b8cb6b37ac0c82331", checked := Try.checked }
namespace Rows
def none {H : Type} : Left H := { results := [], args := [] }

/-- 'laws.FnExactIsShelving': WHATEVER THE INPUT: true; the input reads as it did. -/
def fnExactIsShelvingSpec : ChangeSpec := { name := "fnExactIsShelving", fn := fun _ => fun
  | [d1, d2, d3] => { results := [.lit (.bool true)], args := [d1, d2, d3] }
  | _ => none }
def fnExactIsShelvingRow : OpenClaim := { program := "ytmdeijjlcebmaaa", sum := "f84a22bfd325e52263cf1a630d83ec1d095c30ae525d490b8cb6b37ac0c82331", func := "loop.example/g01334/laws.FnExactIsShelving", spec := "fnExactIsShelving", unfollowed := true, recurses := true, apart := false }
def FnExactIsShelvingSaid : Prop := fnExactIsShelvingRow.holds Try.pinned (OpenSpec.ofChange fnExactIsShelvingSpec)

/-- ITS FALSE NEIGHBOUR: 'it returns false'. Refute it at one input. -/
def fnExactIsShelvingWrong : ChangeSpec := { name := "fnExactIsShelving", fn := fun _ => fun
  | [d1, d2, d3] => { results := [.lit (.bool false)], args := [d1, d2, d3] }
  | _ => none }
def FnExactIsShelvingWrongFalsely : Prop := fnExactIsShelvingRow.holds Try.pinned (OpenSpec.ofChange fnExactIsShelvingWrong)

/-- 'laws.FnExactShelfHeights': WHATEVER THE INPUT: true; the input reads as it did. -/
def fnExactShelfHeightsSpec : ChangeSpec := { name := "fnExactShelfHeights", fn := fun _ => fun
  | [d1, d2, d3] => { results := [.lit (.bool true)], args := [d1, d2, d3] }
  | _ => none }
def fnExactShelfHeightsRow : OpenClaim := { program := "ytmdeijjlcebmaaa", sum := "f84a22bfd325e52263cf1a630d83ec1d095c30ae525d490b8cb6b37ac0c82331", func := "loop.example/g01334/laws.FnExactShelfHeights", spec := "fnExactShelfHeights", unfollowed := true, recurses := true, apart := false }
def FnExactShelfHeightsSaid : Prop := fnExactShelfHeightsRow.holds Try.pinned (OpenSpec.ofChange fnExactShelfHeightsSpec)

/-- ITS FALSE NEIGHBOUR: 'it returns false'. Refute it at one input. -/
def fnExactShelfHeightsWrong : ChangeSpec := { name := "fnExactShelfHeights", fn := fun _ => fun
  | [d1, d2, d3] => { results := [.lit (.bool false)], args := [d1, d2, d3] }
  | _ => none }
def FnExactShelfHeightsWrongFalsely : Prop := fnExactShelfHeightsRow.holds Try.pinned (OpenSpec.ofChange fnExactShelfHeightsWrong)

/-- 'laws.FnExactShelfWidths': WHATEVER THE INPUT: true; the input reads as it did. -/
def fnExactShelfWidthsSpec : ChangeSpec := { name := "fnExactShelfWidths", fn := fun _ => fun
  | [d1, d2, d3] => { results := [.lit (.bool true)], args := [d1, d2, d3] }
  | _ => none }
def fnExactShelfWidthsRow : OpenClaim := { program := "ytmdeijjlcebmaaa", sum := "f84a22bfd325e52263cf1a630d83ec1d095c30ae525d490b8cb6b37ac0c82331", func := "loop.example/g01334/laws.FnExactShelfWidths", spec := "fnExactShelfWidths", unfollowed := true, recurses := true, apart := false }
def FnExactShelfWidthsSaid : Prop := fnExactShelfWidthsRow.holds Try.pinned (OpenSpec.ofChange fnExactShelfWidthsSpec)

/-- ITS FALSE NEIGHBOUR: 'it returns false'. Refute it at one input. -/
def fnExactShelfWidthsWrong : ChangeSpec := { name := "fnExactShelfWidths", fn := fun _ => fun
  | [d1, d2, d3] => { results := [.lit (.bool false)], args := [d1, d2, d3] }
  | _ => none }
def FnExactShelfWidthsWrongFalsely : Prop := fnExactShelfWidthsRow.holds Try.pinned (OpenSpec.ofChange fnExactShelfWidthsWrong)

/-- 'laws.FnExactHeightOfCase': WHATEVER THE INPUT: true; the input reads as it did. -/
def fnExactHeightOfCaseSpec : ChangeSpec := { name := "fnExactHeightOfCase", fn := fun _ => fun
  | [d1, d2, d3] => { results := [.lit (.bool true)], args := [d1, d2, d3] }
  | _ => none }
def fnExactHeightOfCaseRow : OpenClaim := { program := "ytmdeijjlcebmaaa", sum := "f84a22bfd325e52263cf1a630d83ec1d095c30ae525d490b8cb6b37ac0c82331", func := "loop.example/g01334/laws.FnExactHeightOfCase", spec := "fnExactHeightOfCase", unfollowed := true, recurses := true, apart := false }
def FnExactHeightOfCaseSaid : Prop := fnExactHeightOfCaseRow.holds Try.pinned (OpenSpec.ofChange fnExactHeightOfCaseSpec)

/-- ITS FALSE NEIGHBOUR: 'it returns false'. Refute it at one input. -/
def fnExactHeightOfCaseWrong : ChangeSpec := { name := "fnExactHeightOfCase", fn := fun _ => fun
  | [d1, d2, d3] => { results := [.lit (.bool false)], args := [d1, d2, d3] }
  | _ => none }
def FnExactHeightOfCaseWrongFalsely : Prop := fnExactHeightOfCaseRow.holds Try.pinned (OpenSpec.ofChange fnExactHeightOfCaseWrong)

/-- 'laws.FnExactRoughnessOf': WHATEVER THE INPUT: true; the input reads as it did. -/
def fnExactRoughnessOfSpec : ChangeSpec := { name := "fnExactRoughnessOf", fn := fun _ => fun
  | [d1, d2, d3] => { results := [.lit (.bool true)], args := [d1, d2, d3] }
  | _ => none }
def fnExactRoughnessOfRow : OpenClaim := { program := "ytmdeijjlcebmaaa", sum := "f84a22bfd325e52263cf1a630d83ec1d095c30ae525d490b8cb6b37ac0c82331", func := "loop.example/g01334/laws.FnExactRoughnessOf", spec := "fnExactRoughnessOf", unfollowed := true, recurses := true, apart := false }
def FnExactRoughnessOfSaid : Prop := fnExactRoughnessOfRow.holds Try.pinned (OpenSpec.ofChange fnExactRoughnessOfSpec)

/-- ITS FALSE NEIGHBOUR: 'it returns false'. Refute it at one input. -/
def fnExactRoughnessOfWrong : ChangeSpec := { name := "fnExactRoughnessOf", fn := fun _ => fun
  | [d1, d2, d3] => { results := [.lit (.bool false)], args := [d1, d2, d3] }
  | _ => none }
def FnExactRoughnessOfWrongFalsely : Prop := fnExactRoughnessOfRow.holds Try.pinned (OpenSpec.ofChange fnExactRoughnessOfWrong)

/-- 'laws.FnExactLeastWidth': WHATEVER THE INPUT: true; the input reads as it did. -/
def fnExactLeastWidthSpec : ChangeSpec := { name := "fnExactLeastWidth", fn := fun _ => fun
  | [d1, d2] => { results := [.lit (.bool true)], args := [d1, d2] }
  | _ => none }
def fnExactLeastWidthRow : OpenClaim := { program := "ytmdeijjlcebmaaa", sum := "f84a22bfd325e52263cf1a630d83ec1d095c30ae525d490b8cb6b37ac0c82331", func := "loop.example/g01334/laws.FnExactLeastWidth", spec := "fnExactLeastWidth", unfollowed := true, recurses := true, apart := false }
def FnExactLeastWidthSaid : Prop := fnExactLeastWidthRow.holds Try.pinned (OpenSpec.ofChange fnExactLeastWidthSpec)

/-- ITS FALSE NEIGHBOUR: 'it returns false'. Refute it at one input. -/
def fnExactLeastWidthWrong : ChangeSpec := { name := "fnExactLeastWidth", fn := fun _ => fun
  | [d1, d2] => { results := [.lit (.bool false)], args := [d1, d2] }
  | _ => none }
def FnExactLeastWidthWrongFalsely : Prop := fnExactLeastWidthRow.holds Try.pinned (OpenSpec.ofChange fnExactLeastWidthWrong)

/-- 'laws.FnExactShelfOfBook': WHATEVER THE INPUT: true; the input reads as it did. -/
def fnExactShelfOfBookSpec : ChangeSpec := { name := "fnExactShelfOfBook", fn := fun _ => fun
  | [d1, d2, d3, d4] => { results := [.lit (.bool true)], args := [d1, d2, d3, d4] }
  | _ => none }
def fnExactShelfOfBookRow : OpenClaim := { program := "ytmdeijjlcebmaaa", sum := "f84a22bfd325e52263cf1a630d83ec1d095c30ae525d490b8cb6b37ac0c82331", func := "loop.example/g01334/laws.FnExactShelfOfBook", spec := "fnExactShelfOfBook", unfollowed := true, recurses := true, apart := false }
def FnExactShelfOfBookSaid : Prop := fnExactShelfOfBookRow.holds Try.pinned (OpenSpec.ofChange fnExactShelfOfBookSpec)

/-- ITS FALSE NEIGHBOUR: 'it returns false'. Refute it at one input. -/
def fnExactShelfOfBookWrong : ChangeSpec := { name := "fnExactShelfOfBook", fn := fun _ => fun
  | [d1, d2, d3, d4] => { results := [.lit (.bool false)], args := [d1, d2, d3, d4] }
  | _ => none }
def FnExactShelfOfBookWrongFalsely : Prop := fnExactShelfOfBookRow.holds Try.pinned (OpenSpec.ofChange fnExactShelfOfBookWrong)

/- THE SECOND FORM. 'bulk': how many values and letters a reading holds, each counted each time it is reached (what is shared counts as often as it is met; a slice's spare places count too). A statement '..UptoSaid' is the law's where the arguments, and the package variables that the reading takes, are together of bulk at most 1048576: NARROWER than '..Said'. Prove '..Said' where nothing that the law and all that it calls make is longer than what came in: it says more and counts as full. Else prove '..UptoSaid'. A law counts once. -/
mutual
def uptoBulk {H : Type} : DataW H → Nat
  | .lit (.string bytes) => bytes.length + 1
  | .lit _ => 1
  | .nil => 1
  | .ptr d => uptoBulk d + 1
  | .slice elems spare => uptoBulkAll elems + uptoBulkAll spare + 1
  | .agg parts => uptoBulkAll parts + 1
  | .iface _ d => uptoBulk d + 1
  | .map entries => uptoBulkEntries entries + 1
  | .held _ => 1
def uptoBulkAll {H : Type} : List (DataW H) → Nat
  | [] => 0
  | d :: r => uptoBulk d + uptoBulkAll r
def uptoBulkEntries {H : Type} : List (Lit × DataW H) → Nat
  | [] => 0
  | x :: r => uptoBulkEntry x + uptoBulkEntries r
def uptoBulkEntry {H : Type} : Lit × DataW H → Nat
  | (.string bytes, d) => bytes.length + uptoBulk d + 1
  | (_, d) => uptoBulk d + 1
 end
def uptoSmall : (H : Type) → List (DataW H) → Bool := fun _ ds => decide (uptoBulkAll ds ≤ 1048576)
def OpenSpec.upto (s : _root_.Go.ChangeSpec) : _root_.Go.OpenSpec := { _root_.Go.OpenSpec.ofChange s with cond := some uptoSmall }

/-- 'laws.FnExactIsShelving', WHERE WHAT IT READS IS OF BULK AT MOST 1048576: true; the input reads as it did. -/
def fnExactIsShelvingUptoRow : OpenClaim := { program := "ytmdeijjlcebmaaa", sum := "f84a22bfd325e52263cf1a630d83ec1d095c30ae525d490b8cb6b37ac0c82331", func := "loop.example/g01334/laws.FnExactIsShelving", spec := "fnExactIsShelving", unfollowed := true, recurses := true, apart := false, narrowed := true }
def FnExactIsShelvingUptoSaid : Prop := fnExactIsShelvingUptoRow.holds Try.pinned (OpenSpec.upto fnExactIsShelvingSpec)

/-- 'laws.FnExactShelfHeights', WHERE WHAT IT READS IS OF BULK AT MOST 1048576: true; the input reads as it did. -/
def fnExactShelfHeightsUptoRow : OpenClaim := { program := "ytmdeijjlcebmaaa", sum := "f84a22bfd325e52263cf1a630d83ec1d095c30ae525d490b8cb6b37ac0c82331", func := "loop.example/g01334/laws.FnExactShelfHeights", spec := "fnExactShelfHeights", unfollowed := true, recurses := true, apart := false, narrowed := true }
def FnExactShelfHeightsUptoSaid : Prop := fnExactShelfHeightsUptoRow.holds Try.pinned (OpenSpec.upto fnExactShelfHeightsSpec)

/-- 'laws.FnExactShelfWidths', WHERE WHAT IT READS IS OF BULK AT MOST 1048576: true; the input reads as it did. -/
def fnExactShelfWidthsUptoRow : OpenClaim := { program := "ytmdeijjlcebmaaa", sum := "f84a22bfd325e52263cf1a630d83ec1d095c30ae525d490b8cb6b37ac0c82331", func := "loop.example/g01334/laws.FnExactShelfWidths", spec := "fnExactShelfWidths", unfollowed := true, recurses := true, apart := false, narrowed := true }
def FnExactShelfWidthsUptoSaid : Prop := fnExactShelfWidthsUptoRow.holds Try.pinned (OpenSpec.upto fnExactShelfWidthsSpec)

/-- 'laws.FnExactHeightOfCase', WHERE WHAT IT READS IS OF BULK AT MOST 1048576: true; the input reads as it did. -/
def fnExactHeightOfCaseUptoRow : OpenClaim := { program := "ytmdeijjlcebmaaa", sum := "f84a22bfd325e52263cf1a630d83ec1d095c30ae525d490b8cb6b37ac0c82331", func := "loop.example/g01334/laws.FnExactHeightOfCase", spec := "fnExactHeightOfCase", unfollowed := true, recurses := true, apart := false, narrowed := true }
def FnExactHeightOfCaseUptoSaid : Prop := fnExactHeightOfCaseUptoRow.holds Try.pinned (OpenSpec.upto fnExactHeightOfCaseSpec)

/-- 'laws.FnExactRoughnessOf', WHERE WHAT IT READS IS OF BULK AT MOST 1048576: true; the input reads as it did. -/
def fnExactRoughnessOfUptoRow : OpenClaim := { program := "ytmdeijjlcebmaaa", sum := "f84a22bfd325e52263cf1a630d83ec1d095c30ae525d490b8cb6b37ac0c82331", func := "loop.example/g01334/laws.FnExactRoughnessOf", spec := "fnExactRoughnessOf", unfollowed := true, recurses := true, apart := false, narrowed := true }
def FnExactRoughnessOfUptoSaid : Prop := fnExactRoughnessOfUptoRow.holds Try.pinned (OpenSpec.upto fnExactRoughnessOfSpec)

/-- 'laws.FnExactLeastWidth', WHERE WHAT IT READS IS OF BULK AT MOST 1048576: true; the input reads as it did. -/
def fnExactLeastWidthUptoRow : OpenClaim := { program := "ytmdeijjlcebmaaa", sum := "f84a22bfd325e52263cf1a630d83ec1d095c30ae525d490b8cb6b37ac0c82331", func := "loop.example/g01334/laws.FnExactLeastWidth", spec := "fnExactLeastWidth", unfollowed := true, recurses := true, apart := false, narrowed := true }
def FnExactLeastWidthUptoSaid : Prop := fnExactLeastWidthUptoRow.holds Try.pinned (OpenSpec.upto fnExactLeastWidthSpec)

/-- 'laws.FnExactShelfOfBook', WHERE WHAT IT READS IS OF BULK AT MOST 1048576: true; the input reads as it did. -/
def fnExactShelfOfBookUptoRow : OpenClaim := { program := "ytmdeijjlcebmaaa", sum := "f84a22bfd325e52263cf1a630d83ec1d095c30ae525d490b8cb6b37ac0c82331", func := "loop.example/g01334/laws.FnExactShelfOfBook", spec := "fnExactShelfOfBook", unfollowed := true, recurses := true, apart := false, narrowed := true }
def FnExactShelfOfBookUptoSaid : Prop := fnExactShelfOfBookUptoRow.holds Try.pinned (OpenSpec.upto fnExactShelfOfBookSpec)

end Rows
end Go.Proofs.Ytmdeijjlcebmaaa
