/-
  No cell of these rows narrows 'for every input' (looked for: loops, veiled, ifaces, maps, wideKeys, modest, calm, conditions, laid).
  DERIVED. THE GIVEN ROWS OF THIS SEAT. 12 by the template 'for every input the law returns true; each argument reads behind the call as it read before'; 0 by the template 'total and deterministic' (their statements: YtjnfaikcimlkdaaTotals.lean).
  GIVEN WITH THE SEED: the statements are not yours to turn. If you find one false, say at which input.
  Laid BY PROGRAM, IN A SANDBOX (cutbox-rows.mjs): the forced cells as the released guide's own fill.sh prints them over the translation 10124b95b10bb92e… (all of the seat's roots in one cut). By AI agents, Wed Nov 11 2026. No macro, syntax, notation, axiom, sorry.
-/
import Derived.Test.YtjnfaikcimlkdaaChecked
import GoSem.Claim
import GoSem.ClaimJoined
import GoSem.ClaimMapViews
import Derived.JoinedTies
import Derived.KernelRfl
namespace Go.Proofs.Ytjnfaikcimlkdaa
/- THE CELL 'sum', in the pinned program and in every row, IS THE sha256 OF THE DUMP (.gsa) THAT YtjnfaikcimlkdaaProg.lean LOADS. Nothing in Lean hashes anything: it is a label: what it is worth is what the hold of that sum in a sandbox is worth. -/
noncomputable def Try.pinned : Pinned := { name := "ytjnfaikcimlkdaa", sum := "10124b95b10bb92e3a4e766133ab2c766be16be62322be6e087a8f67144e3c5d", checked := Try.checked }
namespace Rows
def none {H : Type} : Left H := { results := [], args := [] }

/-- 'laws.FnExactAreThings': WHATEVER THE INPUT: true; the input reads as it did. -/
def fnExactAreThingsSpec : ChangeSpec := { name := "fnExactAreThings", fn := fun _ => fun
  | [d] => { results := [.lit (.bool true)], args := [d] }
  | _ => none }
def fnExactAreThingsRow : OpenClaim := { program := "ytjnfaikcimlkdaa", sum := "10124b95b10bb92e3a4e766133ab2c766be16be62322be6e087a8f67144e3c5d", func := "loop.example/g01334/laws.FnExactAreThings", spec := "fnExactAreThings", apart := false }
def FnExactAreThingsSaid : Prop := fnExactAreThingsRow.holds Try.pinned (OpenSpec.ofChange fnExactAreThingsSpec)

/-- ITS FALSE NEIGHBOUR: 'it returns false'. Refute it at one input. -/
def fnExactAreThingsWrong : ChangeSpec := { name := "fnExactAreThings", fn := fun _ => fun
  | [d] => { results := [.lit (.bool false)], args := [d] }
  | _ => none }
def FnExactAreThingsWrongFalsely : Prop := fnExactAreThingsRow.holds Try.pinned (OpenSpec.ofChange fnExactAreThingsWrong)

/-- 'laws.FnExactNextFit': WHATEVER THE INPUT: true; the input reads as it did. -/
def fnExactNextFitSpec : ChangeSpec := { name := "fnExactNextFit", fn := fun _ => fun
  | [d1, d2] => { results := [.lit (.bool true)], args := [d1, d2] }
  | _ => none }
def fnExactNextFitRow : OpenClaim := { program := "ytjnfaikcimlkdaa", sum := "10124b95b10bb92e3a4e766133ab2c766be16be62322be6e087a8f67144e3c5d", func := "loop.example/g01334/laws.FnExactNextFit", spec := "fnExactNextFit", unfollowed := true, recurses := true, apart := false }
def FnExactNextFitSaid : Prop := fnExactNextFitRow.holds Try.pinned (OpenSpec.ofChange fnExactNextFitSpec)

/-- ITS FALSE NEIGHBOUR: 'it returns false'. Refute it at one input. -/
def fnExactNextFitWrong : ChangeSpec := { name := "fnExactNextFit", fn := fun _ => fun
  | [d1, d2] => { results := [.lit (.bool false)], args := [d1, d2] }
  | _ => none }
def FnExactNextFitWrongFalsely : Prop := fnExactNextFitRow.holds Try.pinned (OpenSpec.ofChange fnExactNextFitWrong)

/-- 'laws.FnExactFirstFit': WHATEVER THE INPUT: true; the input reads as it did. -/
def fnExactFirstFitSpec : ChangeSpec := { name := "fnExactFirstFit", fn := fun _ => fun
  | [d1, d2] => { results := [.lit (.bool true)], args := [d1, d2] }
  | _ => none }
def fnExactFirstFitRow : OpenClaim := { program := "ytjnfaikcimlkdaa", sum := "10124b95b10bb92e3a4e766133ab2c766be16be62322be6e087a8f67144e3c5d", func := "loop.example/g01334/laws.FnExactFirstFit", spec := "fnExactFirstFit", unfollowed := true, recurses := true, apart := false }
def FnExactFirstFitSaid : Prop := fnExactFirstFitRow.holds Try.pinned (OpenSpec.ofChange fnExactFirstFitSpec)

/-- ITS FALSE NEIGHBOUR: 'it returns false'. Refute it at one input. -/
def fnExactFirstFitWrong : ChangeSpec := { name := "fnExactFirstFit", fn := fun _ => fun
  | [d1, d2] => { results := [.lit (.bool false)], args := [d1, d2] }
  | _ => none }
def FnExactFirstFitWrongFalsely : Prop := fnExactFirstFitRow.holds Try.pinned (OpenSpec.ofChange fnExactFirstFitWrong)

/-- 'laws.FnExactBestFit': WHATEVER THE INPUT: true; the input reads as it did. -/
def fnExactBestFitSpec : ChangeSpec := { name := "fnExactBestFit", fn := fun _ => fun
  | [d1, d2] => { results := [.lit (.bool true)], args := [d1, d2] }
  | _ => none }
def fnExactBestFitRow : OpenClaim := { program := "ytjnfaikcimlkdaa", sum := "10124b95b10bb92e3a4e766133ab2c766be16be62322be6e087a8f67144e3c5d", func := "loop.example/g01334/laws.FnExactBestFit", spec := "fnExactBestFit", unfollowed := true, recurses := true, apart := false }
def FnExactBestFitSaid : Prop := fnExactBestFitRow.holds Try.pinned (OpenSpec.ofChange fnExactBestFitSpec)

/-- ITS FALSE NEIGHBOUR: 'it returns false'. Refute it at one input. -/
def fnExactBestFitWrong : ChangeSpec := { name := "fnExactBestFit", fn := fun _ => fun
  | [d1, d2] => { results := [.lit (.bool false)], args := [d1, d2] }
  | _ => none }
def FnExactBestFitWrongFalsely : Prop := fnExactBestFitRow.holds Try.pinned (OpenSpec.ofChange fnExactBestFitWrong)

/-- 'laws.FnExactWorstFit': WHATEVER THE INPUT: true; the input reads as it did. -/
def fnExactWorstFitSpec : ChangeSpec := { name := "fnExactWorstFit", fn := fun _ => fun
  | [d1, d2] => { results := [.lit (.bool true)], args := [d1, d2] }
  | _ => none }
def fnExactWorstFitRow : OpenClaim := { program := "ytjnfaikcimlkdaa", sum := "10124b95b10bb92e3a4e766133ab2c766be16be62322be6e087a8f67144e3c5d", func := "loop.example/g01334/laws.FnExactWorstFit", spec := "fnExactWorstFit", unfollowed := true, recurses := true, apart := false }
def FnExactWorstFitSaid : Prop := fnExactWorstFitRow.holds Try.pinned (OpenSpec.ofChange fnExactWorstFitSpec)

/-- ITS FALSE NEIGHBOUR: 'it returns false'. Refute it at one input. -/
def fnExactWorstFitWrong : ChangeSpec := { name := "fnExactWorstFit", fn := fun _ => fun
  | [d1, d2] => { results := [.lit (.bool false)], args := [d1, d2] }
  | _ => none }
def FnExactWorstFitWrongFalsely : Prop := fnExactWorstFitRow.holds Try.pinned (OpenSpec.ofChange fnExactWorstFitWrong)

/-- 'laws.FnExactGreatestFirst': WHATEVER THE INPUT: true; the input reads as it did. -/
def fnExactGreatestFirstSpec : ChangeSpec := { name := "fnExactGreatestFirst", fn := fun _ => fun
  | [d1, d2] => { results := [.lit (.bool true)], args := [d1, d2] }
  | _ => none }
def fnExactGreatestFirstRow : OpenClaim := { program := "ytjnfaikcimlkdaa", sum := "10124b95b10bb92e3a4e766133ab2c766be16be62322be6e087a8f67144e3c5d", func := "loop.example/g01334/laws.FnExactGreatestFirst", spec := "fnExactGreatestFirst", unfollowed := true, recurses := true, apart := false }
def FnExactGreatestFirstSaid : Prop := fnExactGreatestFirstRow.holds Try.pinned (OpenSpec.ofChange fnExactGreatestFirstSpec)

/-- ITS FALSE NEIGHBOUR: 'it returns false'. Refute it at one input. -/
def fnExactGreatestFirstWrong : ChangeSpec := { name := "fnExactGreatestFirst", fn := fun _ => fun
  | [d1, d2] => { results := [.lit (.bool false)], args := [d1, d2] }
  | _ => none }
def FnExactGreatestFirstWrongFalsely : Prop := fnExactGreatestFirstRow.holds Try.pinned (OpenSpec.ofChange fnExactGreatestFirstWrong)

/-- 'laws.FnExactIsPacking': WHATEVER THE INPUT: true; the input reads as it did. -/
def fnExactIsPackingSpec : ChangeSpec := { name := "fnExactIsPacking", fn := fun _ => fun
  | [d1, d2, d3] => { results := [.lit (.bool true)], args := [d1, d2, d3] }
  | _ => none }
def fnExactIsPackingRow : OpenClaim := { program := "ytjnfaikcimlkdaa", sum := "10124b95b10bb92e3a4e766133ab2c766be16be62322be6e087a8f67144e3c5d", func := "loop.example/g01334/laws.FnExactIsPacking", spec := "fnExactIsPacking", apart := false }
def FnExactIsPackingSaid : Prop := fnExactIsPackingRow.holds Try.pinned (OpenSpec.ofChange fnExactIsPackingSpec)

/-- ITS FALSE NEIGHBOUR: 'it returns false'. Refute it at one input. -/
def fnExactIsPackingWrong : ChangeSpec := { name := "fnExactIsPacking", fn := fun _ => fun
  | [d1, d2, d3] => { results := [.lit (.bool false)], args := [d1, d2, d3] }
  | _ => none }
def FnExactIsPackingWrongFalsely : Prop := fnExactIsPackingRow.holds Try.pinned (OpenSpec.ofChange fnExactIsPackingWrong)

/-- 'laws.FnExactLoadsOf': WHATEVER THE INPUT: true; the input reads as it did. -/
def fnExactLoadsOfSpec : ChangeSpec := { name := "fnExactLoadsOf", fn := fun _ => fun
  | [d1, d2, d3] => { results := [.lit (.bool true)], args := [d1, d2, d3] }
  | _ => none }
def fnExactLoadsOfRow : OpenClaim := { program := "ytjnfaikcimlkdaa", sum := "10124b95b10bb92e3a4e766133ab2c766be16be62322be6e087a8f67144e3c5d", func := "loop.example/g01334/laws.FnExactLoadsOf", spec := "fnExactLoadsOf", apart := false }
def FnExactLoadsOfSaid : Prop := fnExactLoadsOfRow.holds Try.pinned (OpenSpec.ofChange fnExactLoadsOfSpec)

/-- ITS FALSE NEIGHBOUR: 'it returns false'. Refute it at one input. -/
def fnExactLoadsOfWrong : ChangeSpec := { name := "fnExactLoadsOf", fn := fun _ => fun
  | [d1, d2, d3] => { results := [.lit (.bool false)], args := [d1, d2, d3] }
  | _ => none }
def FnExactLoadsOfWrongFalsely : Prop := fnExactLoadsOfRow.holds Try.pinned (OpenSpec.ofChange fnExactLoadsOfWrong)

/-- 'laws.FnExactBoxesOf': WHATEVER THE INPUT: true; the input reads as it did. -/
def fnExactBoxesOfSpec : ChangeSpec := { name := "fnExactBoxesOf", fn := fun _ => fun
  | [d1, d2, d3] => { results := [.lit (.bool true)], args := [d1, d2, d3] }
  | _ => none }
def fnExactBoxesOfRow : OpenClaim := { program := "ytjnfaikcimlkdaa", sum := "10124b95b10bb92e3a4e766133ab2c766be16be62322be6e087a8f67144e3c5d", func := "loop.example/g01334/laws.FnExactBoxesOf", spec := "fnExactBoxesOf", apart := false }
def FnExactBoxesOfSaid : Prop := fnExactBoxesOfRow.holds Try.pinned (OpenSpec.ofChange fnExactBoxesOfSpec)

/-- ITS FALSE NEIGHBOUR: 'it returns false'. Refute it at one input. -/
def fnExactBoxesOfWrong : ChangeSpec := { name := "fnExactBoxesOf", fn := fun _ => fun
  | [d1, d2, d3] => { results := [.lit (.bool false)], args := [d1, d2, d3] }
  | _ => none }
def FnExactBoxesOfWrongFalsely : Prop := fnExactBoxesOfRow.holds Try.pinned (OpenSpec.ofChange fnExactBoxesOfWrong)

/-- 'laws.FnExactFewestBoxes': WHATEVER THE INPUT: true; the input reads as it did. -/
def fnExactFewestBoxesSpec : ChangeSpec := { name := "fnExactFewestBoxes", fn := fun _ => fun
  | [d1, d2] => { results := [.lit (.bool true)], args := [d1, d2] }
  | _ => none }
def fnExactFewestBoxesRow : OpenClaim := { program := "ytjnfaikcimlkdaa", sum := "10124b95b10bb92e3a4e766133ab2c766be16be62322be6e087a8f67144e3c5d", func := "loop.example/g01334/laws.FnExactFewestBoxes", spec := "fnExactFewestBoxes", unfollowed := true, recurses := true, apart := false }
def FnExactFewestBoxesSaid : Prop := fnExactFewestBoxesRow.holds Try.pinned (OpenSpec.ofChange fnExactFewestBoxesSpec)

/-- ITS FALSE NEIGHBOUR: 'it returns false'. Refute it at one input. -/
def fnExactFewestBoxesWrong : ChangeSpec := { name := "fnExactFewestBoxes", fn := fun _ => fun
  | [d1, d2] => { results := [.lit (.bool false)], args := [d1, d2] }
  | _ => none }
def FnExactFewestBoxesWrongFalsely : Prop := fnExactFewestBoxesRow.holds Try.pinned (OpenSpec.ofChange fnExactFewestBoxesWrong)

/-- 'laws.FnExactFirstPacking': WHATEVER THE INPUT: true; the input reads as it did. -/
def fnExactFirstPackingSpec : ChangeSpec := { name := "fnExactFirstPacking", fn := fun _ => fun
  | [d1, d2] => { results := [.lit (.bool true)], args := [d1, d2] }
  | _ => none }
def fnExactFirstPackingRow : OpenClaim := { program := "ytjnfaikcimlkdaa", sum := "10124b95b10bb92e3a4e766133ab2c766be16be62322be6e087a8f67144e3c5d", func := "loop.example/g01334/laws.FnExactFirstPacking", spec := "fnExactFirstPacking", unfollowed := true, recurses := true, apart := false }
def FnExactFirstPackingSaid : Prop := fnExactFirstPackingRow.holds Try.pinned (OpenSpec.ofChange fnExactFirstPackingSpec)

/-- ITS FALSE NEIGHBOUR: 'it returns false'. Refute it at one input. -/
def fnExactFirstPackingWrong : ChangeSpec := { name := "fnExactFirstPacking", fn := fun _ => fun
  | [d1, d2] => { results := [.lit (.bool false)], args := [d1, d2] }
  | _ => none }
def FnExactFirstPackingWrongFalsely : Prop := fnExactFirstPackingRow.holds Try.pinned (OpenSpec.ofChange fnExactFirstPackingWrong)

/-- 'laws.FnExactCountPackings': WHATEVER THE INPUT: true; the input reads as it did. -/
def fnExactCountPackingsSpec : ChangeSpec := { name := "fnExactCountPackings", fn := fun _ => fun
  | [d1, d2] => { results := [.lit (.bool true)], args := [d1, d2] }
  | _ => none }
def fnExactCountPackingsRow : OpenClaim := { program := "ytjnfaikcimlkdaa", sum := "10124b95b10bb92e3a4e766133ab2c766be16be62322be6e087a8f67144e3c5d", func := "loop.example/g01334/laws.FnExactCountPackings", spec := "fnExactCountPackings", unfollowed := true, recurses := true, apart := false }
def FnExactCountPackingsSaid : Prop := fnExactCountPackingsRow.holds Try.pinned (OpenSpec.ofChange fnExactCountPackingsSpec)

/-- ITS FALSE NEIGHBOUR: 'it returns false'. Refute it at one input. -/
def fnExactCountPackingsWrong : ChangeSpec := { name := "fnExactCountPackings", fn := fun _ => fun
  | [d1, d2] => { results := [.lit (.bool false)], args := [d1, d2] }
  | _ => none }
def FnExactCountPackingsWrongFalsely : Prop := fnExactCountPackingsRow.holds Try.pinned (OpenSpec.ofChange fnExactCountPackingsWrong)

/- THE SECOND FORM. 'bulk': how many values and letters a reading holds, each counted each time it is reached (what is shared counts as often as it is met; a slice's spare places count too). A statement '..UptoSaid' is the law's where the arguments, and the package variables that the reading takes, are together of bulk at most 1048576: NARROWER than '..Said'. Prove '..Said' where nothing that the law and all that it calls make is longer than what came in: it says more and counts as full. Else prove '..UptoSaid'. A law counts once. -/
mutual
def uptoBulk {H : Type} : DataW H → Nat
  | .lit (.string bytes) => bytes.length + 1
  | .lit _ => 1
  | .nil => 1
  | .ptr d => uptoBulk d + 1
  | .slice elems spare => uptoBulkAll elems + uptoBulkAll spare + 1
  | .agg parts => uptoBulkAll parts + 1
  | .iface _ d => uptoBulk d + 1
  | .map entries => uptoBulkEntries entries + 1
  | .held _ => 1
def uptoBulkAll {H : Type} : List (DataW H) → Nat
  | [] => 0
  | d :: r => uptoBulk d + uptoBulkAll r
def uptoBulkEntries {H : Type} : List (Lit × DataW H) → Nat
  | [] => 0
  | x :: r => uptoBulkEntry x + uptoBulkEntries r
def uptoBulkEntry {H : Type} : Lit × DataW H → Nat
  | (.string bytes, d) => bytes.length + uptoBulk d + 1
  | (_, d) => uptoBulk d + 1
 end
def uptoSmall : (H : Type) → List (DataW H) → Bool := fun _ ds => decide (uptoBulkAll ds ≤ 1048576)
def OpenSpec.upto (s : _root_.Go.ChangeSpec) : _root_.Go.OpenSpec := { _root_.Go.OpenSpec.ofChange s with cond := some uptoSmall }

/-- 'laws.FnExactAreThings', WHERE WHAT IT READS IS OF BULK AT MOST 1048576: true; the input reads as it did. -/
def fnExactAreThingsUptoRow : OpenClaim := { program := "ytjnfaikcimlkdaa", sum := "10124b95b10bb92e3a4e766133ab2c766be16be62322be6e087a8f67144e3c5d", func := "loop.example/g01334/laws.FnExactAreThings", spec := "fnExactAreThings", apart := false, narrowed := true }
def FnExactAreThingsUptoSaid : Prop := fnExactAreThingsUptoRow.holds Try.pinned (OpenSpec.upto fnExactAreThingsSpec)

/-- 'laws.FnExactNextFit', WHERE WHAT IT READS IS OF BULK AT MOST 1048576: true; the input reads as it did. -/
def fnExactNextFitUptoRow : OpenClaim := { program := "ytjnfaikcimlkdaa", sum := "10124b95b10bb92e3a4e766133ab2c766be16be62322be6e087a8f67144e3c5d", func := "loop.example/g01334/laws.FnExactNextFit", spec := "fnExactNextFit", unfollowed := true, recurses := true, apart := false, narrowed := true }
def FnExactNextFitUptoSaid : Prop := fnExactNextFitUptoRow.holds Try.pinned (OpenSpec.upto fnExactNextFitSpec)

/-- 'laws.FnExactFirstFit', WHERE WHAT IT READS IS OF BULK AT MOST 1048576: true; the input reads as it did. -/
def fnExactFirstFitUptoRow : OpenClaim := { program := "ytjnfaikcimlkdaa", sum := "10124b95b10bb92e3a4e766133ab2c766be16be62322be6e087a8f67144e3c5d", func := "loop.example/g01334/laws.FnExactFirstFit", spec := "fnExactFirstFit", unfollowed := true, recurses := true, apart := false, narrowed := true }
def FnExactFirstFitUptoSaid : Prop := fnExactFirstFitUptoRow.holds Try.pinned (OpenSpec.upto fnExactFirstFitSpec)

/-- 'laws.FnExactBestFit', WHERE WHAT IT READS IS OF BULK AT MOST 1048576: true; the input reads as it did. -/
def fnExactBestFitUptoRow : OpenClaim := { program := "ytjnfaikcimlkdaa", sum := "10124b95b10bb92e3a4e766133ab2c766be16be62322be6e087a8f67144e3c5d", func := "loop.example/g01334/laws.FnExactBestFit", spec := "fnExactBestFit", unfollowed := true, recurses := true, apart := false, narrowed := true }
def FnExactBestFitUptoSaid : Prop := fnExactBestFitUptoRow.holds Try.pinned (OpenSpec.upto fnExactBestFitSpec)

/-- 'laws.FnExactWorstFit', WHERE WHAT IT READS IS OF BULK AT MOST 1048576: true; the input reads as it did. -/
def fnExactWorstFitUptoRow : OpenClaim := { program := "ytjnfaikcimlkdaa", sum := "10124b95b10bb92e3a4e766133ab2c766be16be62322be6e087a8f67144e3c5d", func := "loop.example/g01334/laws.FnExactWorstFit", spec := "fnExactWorstFit", unfollowed := true, recurses := true, apart := false, narrowed := true }
def FnExactWorstFitUptoSaid : Prop := fnExactWorstFitUptoRow.holds Try.pinned (OpenSpec.upto fnExactWorstFitSpec)

/-- 'laws.FnExactGreatestFirst', WHERE WHAT IT READS IS OF BULK AT MOST 1048576: true; the input reads as it did. -/
def fnExactGreatestFirstUptoRow : OpenClaim := { program := "ytjnfaikcimlkdaa", sum := "10124b95b10bb92e3a4e766133ab2c766be16be62322be6e087a8f67144e3c5d", func := "loop.example/g01334/laws.FnExactGreatestFirst", spec := "fnExactGreatestFirst", unfollowed := true, recurses := true, apart := false, narrowed := true }
def FnExactGreatestFirstUptoSaid : Prop := fnExactGreatestFirstUptoRow.holds Try.pinned (OpenSpec.upto fnExactGreatestFirstSpec)

/-- 'laws.FnExactIsPacking', WHERE WHAT IT READS IS OF BULK AT MOST 1048576: true; the input reads as it did. -/
def fnExactIsPackingUptoRow : OpenClaim := { program := "ytjnfaikcimlkdaa", sum := "10124b95b10bb92e3a4e766133ab2c766be16be62322be6e087a8f67144e3c5d", func := "loop.example/g01334/laws.FnExactIsPacking", spec := "fnExactIsPacking", apart := false, narrowed := true }
def FnExactIsPackingUptoSaid : Prop := fnExactIsPackingUptoRow.holds Try.pinned (OpenSpec.upto fnExactIsPackingSpec)

/-- 'laws.FnExactLoadsOf', WHERE WHAT IT READS IS OF BULK AT MOST 1048576: true; the input reads as it did. -/
def fnExactLoadsOfUptoRow : OpenClaim := { program := "ytjnfaikcimlkdaa", sum := "10124b95b10bb92e3a4e766133ab2c766be16be62322be6e087a8f67144e3c5d", func := "loop.example/g01334/laws.FnExactLoadsOf", spec := "fnExactLoadsOf", apart := false, narrowed := true }
def FnExactLoadsOfUptoSaid : Prop := fnExactLoadsOfUptoRow.holds Try.pinned (OpenSpec.upto fnExactLoadsOfSpec)

/-- 'laws.FnExactBoxesOf', WHERE WHAT IT READS IS OF BULK AT MOST 1048576: true; the input reads as it did. -/
def fnExactBoxesOfUptoRow : OpenClaim := { program := "ytjnfaikcimlkdaa", sum := "10124b95b10bb92e3a4e766133ab2c766be16be62322be6e087a8f67144e3c5d", func := "loop.example/g01334/laws.FnExactBoxesOf", spec := "fnExactBoxesOf", apart := false, narrowed := true }
def FnExactBoxesOfUptoSaid : Prop := fnExactBoxesOfUptoRow.holds Try.pinned (OpenSpec.upto fnExactBoxesOfSpec)

/-- 'laws.FnExactFewestBoxes', WHERE WHAT IT READS IS OF BULK AT MOST 1048576: true; the input reads as it did. -/
def fnExactFewestBoxesUptoRow : OpenClaim := { program := "ytjnfaikcimlkdaa", sum := "10124b95b10bb92e3a4e766133ab2c766be16be62322be6e087a8f67144e3c5d", func := "loop.example/g01334/laws.FnExactFewestBoxes", spec := "fnExactFewestBoxes", unfollowed := true, recurses := true, apart := false, narrowed := true }
def FnExactFewestBoxesUptoSaid : Prop := fnExactFewestBoxesUptoRow.holds Try.pinned (OpenSpec.upto fnExactFewestBoxesSpec)

/-- 'laws.FnExactFirstPacking', WHERE WHAT IT READS IS OF BULK AT MOST 1048576: true; the input reads as it did. -/
def fnExactFirstPackingUptoRow : OpenClaim := { program := "ytjnfaikcimlkdaa", sum := "10124b95b10bb92e3a4e766133ab2c766be16be62322be6e087a8f67144e3c5d", func := "loop.example/g01334/laws.FnExactFirstPacking", spec := "fnExactFirstPacking", unfollowed := true, recurses := true, apart := false, narrowed := true }
def FnExactFirstPackingUptoSaid : Prop := fnExactFirstPackingUptoRow.holds Try.pinned (OpenSpec.upto fnExactFirstPackingSpec)

/-- 'laws.FnExactCountPackings', WHERE WHAT IT READS IS OF BULK AT MOST 1048576: true; the input reads as it did. -/
def fnExactCountPackingsUptoRow : OpenClaim := { program := "ytjnfaikcimlkdaa", sum := "10124b95b10bb92e3a4e766133ab2c766be16be62322be6e087a8f67144e3c5d", func := "loop.example/g01334/laws.FnExactCountPackings", spec := "fnExactCountPackings", unfollowed := true, recurses := true, apart := false, narrowed := true }
def FnExactCountPackingsUptoSaid : Prop := fnExactCountPackingsUptoRow.holds Try.pinned (OpenSpec.upto fnExactCountPackingsSpec)

end Rows
end Go.Proofs.Ytjnfaikcimlkdaa
