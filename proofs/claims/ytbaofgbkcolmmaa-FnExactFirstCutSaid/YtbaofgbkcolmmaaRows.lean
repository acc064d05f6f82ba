/-
  No cell of these rows narrows 'for every input' (looked for: loops, veiled, ifaces, maps, wideKeys, modest, calm, conditions, laid).
  DERIVED. THE GIVEN ROWS OF THIS SEAT. 14 by the template 'for every input the law returns true; each argument reads behind the call as it read before'; 0 by the template 'total and deterministic' (their statements: YtbaofgbkcolmmaaTotals.lean).
  GIVEN WITH THE SEED: the statements are not yours to turn. If you find one false, say at which input.
  Laid BY PROGRAM, IN A SANDBOX (cutbox-rows.mjs): the forced cells as the released guide's own fill.sh prints them over the translation 4a20b1903a0f5322… (all of the seat's roots in one cut). By AI agents, Wed Nov 11 2026. No macro, syntax, notation, axiom, sorry.
-/
import Derived.Test.YtbaofgbkcolmmaaChecked
import GoSem.Claim
import GoSem.ClaimJoined
import GoSem.ClaimMapViews
import Derived.JoinedTies
import Derived.KernelRfl
namespace Go.Proofs.Ytbaofgbkcolmmaa
/- THE CELL 'sum', in the pinned program and in every row, IS THE sha256 OF THE DUMP (.gsa) THAT YtbaofgbkcolmmaaProg.lean LOADS. Nothing in Lean hashes anything: it is a label: what it is worth is what the hold of that sum in a sandbox is worth. -/
noncomputable def Try.pinned : Pinned := { name := "ytbaofgbkcolmmaa", sum := "4a20b1903a0f5322e3574f3e75b8be78999fe09fcf0aeee4e5a3fa01c76e8349", checked := Try.checked }
namespace Rows
def none {H : Type} : Left H := { results := [], args := [] }

/-- 'laws.FnExactArePieces': WHATEVER THE INPUT: true; the input reads as it did. -/
def fnExactArePiecesSpec : ChangeSpec := { name := "fnExactArePieces", fn := fun _ => fun
  | [d] => { results := [.lit (.bool true)], args := [d] }
  | _ => none }
def fnExactArePiecesRow : OpenClaim := { program := "ytbaofgbkcolmmaa", sum := "4a20b1903a0f5322e3574f3e75b8be78999fe09fcf0aeee4e5a3fa01c76e8349", func := "loop.example/g01334/laws.FnExactArePieces", spec := "fnExactArePieces", apart := false }
def FnExactArePiecesSaid : Prop := fnExactArePiecesRow.holds Try.pinned (OpenSpec.ofChange fnExactArePiecesSpec)

/-- ITS FALSE NEIGHBOUR: 'it returns false'. Refute it at one input. -/
def fnExactArePiecesWrong : ChangeSpec := { name := "fnExactArePieces", fn := fun _ => fun
  | [d] => { results := [.lit (.bool false)], args := [d] }
  | _ => none }
def FnExactArePiecesWrongFalsely : Prop := fnExactArePiecesRow.holds Try.pinned (OpenSpec.ofChange fnExactArePiecesWrong)

/-- 'laws.FnExactEuclidSquares': WHATEVER THE INPUT: true; the input reads as it did. -/
def fnExactEuclidSquaresSpec : ChangeSpec := { name := "fnExactEuclidSquares", fn := fun _ => fun
  | [d1, d2] => { results := [.lit (.bool true)], args := [d1, d2] }
  | _ => none }
def fnExactEuclidSquaresRow : OpenClaim := { program := "ytbaofgbkcolmmaa", sum := "4a20b1903a0f5322e3574f3e75b8be78999fe09fcf0aeee4e5a3fa01c76e8349", func := "loop.example/g01334/laws.FnExactEuclidSquares", spec := "fnExactEuclidSquares", apart := false }
def FnExactEuclidSquaresSaid : Prop := fnExactEuclidSquaresRow.holds Try.pinned (OpenSpec.ofChange fnExactEuclidSquaresSpec)

/-- ITS FALSE NEIGHBOUR: 'it returns false'. Refute it at one input. -/
def fnExactEuclidSquaresWrong : ChangeSpec := { name := "fnExactEuclidSquares", fn := fun _ => fun
  | [d1, d2] => { results := [.lit (.bool false)], args := [d1, d2] }
  | _ => none }
def FnExactEuclidSquaresWrongFalsely : Prop := fnExactEuclidSquaresRow.holds Try.pinned (OpenSpec.ofChange fnExactEuclidSquaresWrong)

/-- 'laws.FnExactGreatestTiles': WHATEVER THE INPUT: true; the input reads as it did. -/
def fnExactGreatestTilesSpec : ChangeSpec := { name := "fnExactGreatestTiles", fn := fun _ => fun
  | [d1, d2] => { results := [.lit (.bool true)], args := [d1, d2] }
  | _ => none }
def fnExactGreatestTilesRow : OpenClaim := { program := "ytbaofgbkcolmmaa", sum := "4a20b1903a0f5322e3574f3e75b8be78999fe09fcf0aeee4e5a3fa01c76e8349", func := "loop.example/g01334/laws.FnExactGreatestTiles", spec := "fnExactGreatestTiles", apart := false }
def FnExactGreatestTilesSaid : Prop := fnExactGreatestTilesRow.holds Try.pinned (OpenSpec.ofChange fnExactGreatestTilesSpec)

/-- ITS FALSE NEIGHBOUR: 'it returns false'. Refute it at one input. -/
def fnExactGreatestTilesWrong : ChangeSpec := { name := "fnExactGreatestTiles", fn := fun _ => fun
  | [d1, d2] => { results := [.lit (.bool false)], args := [d1, d2] }
  | _ => none }
def FnExactGreatestTilesWrongFalsely : Prop := fnExactGreatestTilesRow.holds Try.pinned (OpenSpec.ofChange fnExactGreatestTilesWrong)

/-- 'laws.FnExactTurnPieces': WHATEVER THE INPUT: true; the input reads as it did. -/
def fnExactTurnPiecesSpec : ChangeSpec := { name := "fnExactTurnPieces", fn := fun _ => fun
  | [d] => { results := [.lit (.bool true)], args := [d] }
  | _ => none }
def fnExactTurnPiecesRow : OpenClaim := { program := "ytbaofgbkcolmmaa", sum := "4a20b1903a0f5322e3574f3e75b8be78999fe09fcf0aeee4e5a3fa01c76e8349", func := "loop.example/g01334/laws.FnExactTurnPieces", spec := "fnExactTurnPieces", apart := false }
def FnExactTurnPiecesSaid : Prop := fnExactTurnPiecesRow.holds Try.pinned (OpenSpec.ofChange fnExactTurnPiecesSpec)

/-- ITS FALSE NEIGHBOUR: 'it returns false'. Refute it at one input. -/
def fnExactTurnPiecesWrong : ChangeSpec := { name := "fnExactTurnPieces", fn := fun _ => fun
  | [d] => { results := [.lit (.bool false)], args := [d] }
  | _ => none }
def FnExactTurnPiecesWrongFalsely : Prop := fnExactTurnPiecesRow.holds Try.pinned (OpenSpec.ofChange fnExactTurnPiecesWrong)

/-- 'laws.FnExactFewestSquares': WHATEVER THE INPUT: true; the input reads as it did. -/
def fnExactFewestSquaresSpec : ChangeSpec := { name := "fnExactFewestSquares", fn := fun _ => fun
  | [d1, d2] => { results := [.lit (.bool true)], args := [d1, d2] }
  | _ => none }
def fnExactFewestSquaresRow : OpenClaim := { program := "ytbaofgbkcolmmaa", sum := "4a20b1903a0f5322e3574f3e75b8be78999fe09fcf0aeee4e5a3fa01c76e8349", func := "loop.example/g01334/laws.FnExactFewestSquares", spec := "fnExactFewestSquares", unfollowed := true, recurses := true, apart := false }
def FnExactFewestSquaresSaid : Prop := fnExactFewestSquaresRow.holds Try.pinned (OpenSpec.ofChange fnExactFewestSquaresSpec)

/-- ITS FALSE NEIGHBOUR: 'it returns false'. Refute it at one input. -/
def fnExactFewestSquaresWrong : ChangeSpec := { name := "fnExactFewestSquares", fn := fun _ => fun
  | [d1, d2] => { results := [.lit (.bool false)], args := [d1, d2] }
  | _ => none }
def FnExactFewestSquaresWrongFalsely : Prop := fnExactFewestSquaresRow.holds Try.pinned (OpenSpec.ofChange fnExactFewestSquaresWrong)

/-- 'laws.FnExactCutsToSquares': WHATEVER THE INPUT: true; the input reads as it did. -/
def fnExactCutsToSquaresSpec : ChangeSpec := { name := "fnExactCutsToSquares", fn := fun _ => fun
  | [d1, d2] => { results := [.lit (.bool true)], args := [d1, d2] }
  | _ => none }
def fnExactCutsToSquaresRow : OpenClaim := { program := "ytbaofgbkcolmmaa", sum := "4a20b1903a0f5322e3574f3e75b8be78999fe09fcf0aeee4e5a3fa01c76e8349", func := "loop.example/g01334/laws.FnExactCutsToSquares", spec := "fnExactCutsToSquares", unfollowed := true, recurses := true, apart := false }
def FnExactCutsToSquaresSaid : Prop := fnExactCutsToSquaresRow.holds Try.pinned (OpenSpec.ofChange fnExactCutsToSquaresSpec)

/-- ITS FALSE NEIGHBOUR: 'it returns false'. Refute it at one input. -/
def fnExactCutsToSquaresWrong : ChangeSpec := { name := "fnExactCutsToSquares", fn := fun _ => fun
  | [d1, d2] => { results := [.lit (.bool false)], args := [d1, d2] }
  | _ => none }
def FnExactCutsToSquaresWrongFalsely : Prop := fnExactCutsToSquaresRow.holds Try.pinned (OpenSpec.ofChange fnExactCutsToSquaresWrong)

/-- 'laws.FnExactCountCuttings': WHATEVER THE INPUT: true; the input reads as it did. -/
def fnExactCountCuttingsSpec : ChangeSpec := { name := "fnExactCountCuttings", fn := fun _ => fun
  | [d1, d2] => { results := [.lit (.bool true)], args := [d1, d2] }
  | _ => none }
def fnExactCountCuttingsRow : OpenClaim := { program := "ytbaofgbkcolmmaa", sum := "4a20b1903a0f5322e3574f3e75b8be78999fe09fcf0aeee4e5a3fa01c76e8349", func := "loop.example/g01334/laws.FnExactCountCuttings", spec := "fnExactCountCuttings", unfollowed := true, recurses := true, apart := false }
def FnExactCountCuttingsSaid : Prop := fnExactCountCuttingsRow.holds Try.pinned (OpenSpec.ofChange fnExactCountCuttingsSpec)

/-- ITS FALSE NEIGHBOUR: 'it returns false'. Refute it at one input. -/
def fnExactCountCuttingsWrong : ChangeSpec := { name := "fnExactCountCuttings", fn := fun _ => fun
  | [d1, d2] => { results := [.lit (.bool false)], args := [d1, d2] }
  | _ => none }
def FnExactCountCuttingsWrongFalsely : Prop := fnExactCountCuttingsRow.holds Try.pinned (OpenSpec.ofChange fnExactCountCuttingsWrong)

/-- 'laws.FnExactSquaresByCuts': WHATEVER THE INPUT: true; the input reads as it did. -/
def fnExactSquaresByCutsSpec : ChangeSpec := { name := "fnExactSquaresByCuts", fn := fun _ => fun
  | [d1, d2] => { results := [.lit (.bool true)], args := [d1, d2] }
  | _ => none }
def fnExactSquaresByCutsRow : OpenClaim := { program := "ytbaofgbkcolmmaa", sum := "4a20b1903a0f5322e3574f3e75b8be78999fe09fcf0aeee4e5a3fa01c76e8349", func := "loop.example/g01334/laws.FnExactSquaresByCuts", spec := "fnExactSquaresByCuts", unfollowed := true, recurses := true, apart := false }
def FnExactSquaresByCutsSaid : Prop := fnExactSquaresByCutsRow.holds Try.pinned (OpenSpec.ofChange fnExactSquaresByCutsSpec)

/-- ITS FALSE NEIGHBOUR: 'it returns false'. Refute it at one input. -/
def fnExactSquaresByCutsWrong : ChangeSpec := { name := "fnExactSquaresByCuts", fn := fun _ => fun
  | [d1, d2] => { results := [.lit (.bool false)], args := [d1, d2] }
  | _ => none }
def FnExactSquaresByCutsWrongFalsely : Prop := fnExactSquaresByCutsRow.holds Try.pinned (OpenSpec.ofChange fnExactSquaresByCutsWrong)

/-- 'laws.FnExactBestValue': WHATEVER THE INPUT: true; the input reads as it did. -/
def fnExactBestValueSpec : ChangeSpec := { name := "fnExactBestValue", fn := fun _ => fun
  | [d1, d2, d3, d4] => { results := [.lit (.bool true)], args := [d1, d2, d3, d4] }
  | _ => none }
def fnExactBestValueRow : OpenClaim := { program := "ytbaofgbkcolmmaa", sum := "4a20b1903a0f5322e3574f3e75b8be78999fe09fcf0aeee4e5a3fa01c76e8349", func := "loop.example/g01334/laws.FnExactBestValue", spec := "fnExactBestValue", unfollowed := true, recurses := true, apart := false }
def FnExactBestValueSaid : Prop := fnExactBestValueRow.holds Try.pinned (OpenSpec.ofChange fnExactBestValueSpec)

/-- ITS FALSE NEIGHBOUR: 'it returns false'. Refute it at one input. -/
def fnExactBestValueWrong : ChangeSpec := { name := "fnExactBestValue", fn := fun _ => fun
  | [d1, d2, d3, d4] => { results := [.lit (.bool false)], args := [d1, d2, d3, d4] }
  | _ => none }
def FnExactBestValueWrongFalsely : Prop := fnExactBestValueRow.holds Try.pinned (OpenSpec.ofChange fnExactBestValueWrong)

/-- 'laws.FnExactValueTable': WHATEVER THE INPUT: true; the input reads as it did. -/
def fnExactValueTableSpec : ChangeSpec := { name := "fnExactValueTable", fn := fun _ => fun
  | [d1, d2, d3] => { results := [.lit (.bool true)], args := [d1, d2, d3] }
  | _ => none }
def fnExactValueTableRow : OpenClaim := { program := "ytbaofgbkcolmmaa", sum := "4a20b1903a0f5322e3574f3e75b8be78999fe09fcf0aeee4e5a3fa01c76e8349", func := "loop.example/g01334/laws.FnExactValueTable", spec := "fnExactValueTable", unfollowed := true, recurses := true, apart := false }
def FnExactValueTableSaid : Prop := fnExactValueTableRow.holds Try.pinned (OpenSpec.ofChange fnExactValueTableSpec)

/-- ITS FALSE NEIGHBOUR: 'it returns false'. Refute it at one input. -/
def fnExactValueTableWrong : ChangeSpec := { name := "fnExactValueTable", fn := fun _ => fun
  | [d1, d2, d3] => { results := [.lit (.bool false)], args := [d1, d2, d3] }
  | _ => none }
def FnExactValueTableWrongFalsely : Prop := fnExactValueTableRow.holds Try.pinned (OpenSpec.ofChange fnExactValueTableWrong)

/-- 'laws.FnExactCanCutAll': WHATEVER THE INPUT: true; the input reads as it did. -/
def fnExactCanCutAllSpec : ChangeSpec := { name := "fnExactCanCutAll", fn := fun _ => fun
  | [d1, d2, d3, d4] => { results := [.lit (.bool true)], args := [d1, d2, d3, d4] }
  | _ => none }
def fnExactCanCutAllRow : OpenClaim := { program := "ytbaofgbkcolmmaa", sum := "4a20b1903a0f5322e3574f3e75b8be78999fe09fcf0aeee4e5a3fa01c76e8349", func := "loop.example/g01334/laws.FnExactCanCutAll", spec := "fnExactCanCutAll", unfollowed := true, recurses := true, apart := false }
def FnExactCanCutAllSaid : Prop := fnExactCanCutAllRow.holds Try.pinned (OpenSpec.ofChange fnExactCanCutAllSpec)

/-- ITS FALSE NEIGHBOUR: 'it returns false'. Refute it at one input. -/
def fnExactCanCutAllWrong : ChangeSpec := { name := "fnExactCanCutAll", fn := fun _ => fun
  | [d1, d2, d3, d4] => { results := [.lit (.bool false)], args := [d1, d2, d3, d4] }
  | _ => none }
def FnExactCanCutAllWrongFalsely : Prop := fnExactCanCutAllRow.holds Try.pinned (OpenSpec.ofChange fnExactCanCutAllWrong)

/-- 'laws.FnExactFirstCut': WHATEVER THE INPUT: true; the input reads as it did. -/
def fnExactFirstCutSpec : ChangeSpec := { name := "fnExactFirstCut", fn := fun _ => fun
  | [d1, d2, d3, d4] => { results := [.lit (.bool true)], args := [d1, d2, d3, d4] }
  | _ => none }
def fnExactFirstCutRow : OpenClaim := { program := "ytbaofgbkcolmmaa", sum := "4a20b1903a0f5322e3574f3e75b8be78999fe09fcf0aeee4e5a3fa01c76e8349", func := "loop.example/g01334/laws.FnExactFirstCut", spec := "fnExactFirstCut", unfollowed := true, recurses := true, apart := false }
def FnExactFirstCutSaid : Prop := fnExactFirstCutRow.holds Try.pinned (OpenSpec.ofChange fnExactFirstCutSpec)

/-- ITS FALSE NEIGHBOUR: 'it returns false'. Refute it at one input. -/
def fnExactFirstCutWrong : ChangeSpec := { name := "fnExactFirstCut", fn := fun _ => fun
  | [d1, d2, d3, d4] => { results := [.lit (.bool false)], args := [d1, d2, d3, d4] }
  | _ => none }
def FnExactFirstCutWrongFalsely : Prop := fnExactFirstCutRow.holds Try.pinned (OpenSpec.ofChange fnExactFirstCutWrong)

/-- 'laws.FnExactPiecesCut': WHATEVER THE INPUT: true; the input reads as it did. -/
def fnExactPiecesCutSpec : ChangeSpec := { name := "fnExactPiecesCut", fn := fun _ => fun
  | [d1, d2, d3, d4] => { results := [.lit (.bool true)], args := [d1, d2, d3, d4] }
  | _ => none }
def fnExactPiecesCutRow : OpenClaim := { program := "ytbaofgbkcolmmaa", sum := "4a20b1903a0f5322e3574f3e75b8be78999fe09fcf0aeee4e5a3fa01c76e8349", func := "loop.example/g01334/laws.FnExactPiecesCut", spec := "fnExactPiecesCut", unfollowed := true, recurses := true, apart := false }
def FnExactPiecesCutSaid : Prop := fnExactPiecesCutRow.holds Try.pinned (OpenSpec.ofChange fnExactPiecesCutSpec)

/-- ITS FALSE NEIGHBOUR: 'it returns false'. Refute it at one input. -/
def fnExactPiecesCutWrong : ChangeSpec := { name := "fnExactPiecesCut", fn := fun _ => fun
  | [d1, d2, d3, d4] => { results := [.lit (.bool false)], args := [d1, d2, d3, d4] }
  | _ => none }
def FnExactPiecesCutWrongFalsely : Prop := fnExactPiecesCutRow.holds Try.pinned (OpenSpec.ofChange fnExactPiecesCutWrong)

/-- 'laws.FnExactWasteOf': WHATEVER THE INPUT: true; the input reads as it did. -/
def fnExactWasteOfSpec : ChangeSpec := { name := "fnExactWasteOf", fn := fun _ => fun
  | [d1, d2, d3, d4] => { results := [.lit (.bool true)], args := [d1, d2, d3, d4] }
  | _ => none }
def fnExactWasteOfRow : OpenClaim := { program := "ytbaofgbkcolmmaa", sum := "4a20b1903a0f5322e3574f3e75b8be78999fe09fcf0aeee4e5a3fa01c76e8349", func := "loop.example/g01334/laws.FnExactWasteOf", spec := "fnExactWasteOf", unfollowed := true, recurses := true, apart := false }
def FnExactWasteOfSaid : Prop := fnExactWasteOfRow.holds Try.pinned (OpenSpec.ofChange fnExactWasteOfSpec)

/-- ITS FALSE NEIGHBOUR: 'it returns false'. Refute it at one input. -/
def fnExactWasteOfWrong : ChangeSpec := { name := "fnExactWasteOf", fn := fun _ => fun
  | [d1, d2, d3, d4] => { results := [.lit (.bool false)], args := [d1, d2, d3, d4] }
  | _ => none }
def FnExactWasteOfWrongFalsely : Prop := fnExactWasteOfRow.holds Try.pinned (OpenSpec.ofChange fnExactWasteOfWrong)

/- THE SECOND FORM. 'bulk': how many values and letters a reading holds, each counted each time it is reached (what is shared counts as often as it is met; a slice's spare places count too). A statement '..UptoSaid' is the law's where the arguments, and the package variables that the reading takes, are together of bulk at most 1048576: NARROWER than '..Said'. Prove '..Said' where nothing that the law and all that it calls make is longer than what came in: it says more and counts as full. Else prove '..UptoSaid'. A law counts once. -/
mutual
def uptoBulk {H : Type} : DataW H → Nat
  | .lit (.string bytes) => bytes.length + 1
  | .lit _ => 1
  | .nil => 1
  | .ptr d => uptoBulk d + 1
  | .slice elems spare => uptoBulkAll elems + uptoBulkAll spare + 1
  | .agg parts => uptoBulkAll parts + 1
  | .iface _ d => uptoBulk d + 1
  | .map entries => uptoBulkEntries entries + 1
  | .held _ => 1
def uptoBulkAll {H : Type} : List (DataW H) → Nat
  | [] => 0
  | d :: r => uptoBulk d + uptoBulkAll r
def uptoBulkEntries {H : Type} : List (Lit × DataW H) → Nat
  | [] => 0
  | x :: r => uptoBulkEntry x + uptoBulkEntries r
def uptoBulkEntry {H : Type} : Lit × DataW H → Nat
  | (.string bytes, d) => bytes.length + uptoBulk d + 1
  | (_, d) => uptoBulk d + 1
 end
def uptoSmall : (H : Type) → List (DataW H) → Bool := fun _ ds => decide (uptoBulkAll ds ≤ 1048576)
def OpenSpec.upto (s : _root_.Go.ChangeSpec) : _root_.Go.OpenSpec := { _root_.Go.OpenSpec.ofChange s with cond := some uptoSmall }

/-- 'laws.FnExactArePieces', WHERE WHAT IT READS IS OF BULK AT MOST 1048576: true; the input reads as it did. -/
def fnExactArePiecesUptoRow : OpenClaim := { program := "ytbaofgbkcolmmaa", sum := "4a20b1903a0f5322e3574f3e75b8be78999fe09fcf0aeee4e5a3fa01c76e8349", func := "loop.example/g01334/laws.FnExactArePieces", spec := "fnExactArePieces", apart := false, narrowed := true }
def FnExactArePiecesUptoSaid : Prop := fnExactArePiecesUptoRow.holds Try.pinned (OpenSpec.upto fnExactArePiecesSpec)

/-- 'laws.FnExactEuclidSquares', WHERE WHAT IT READS IS OF BULK AT MOST 1048576: true; the input reads as it did. -/
def fnExactEuclidSquaresUptoRow : OpenClaim := { program := "ytbaofgbkcolmmaa", sum := "4a20b1903a0f5322e3574f3e75b8be78999fe09fcf0aeee4e5a3fa01c76e8349", func := "loop.example/g01334/laws.FnExactEuclidSquares", spec := "fnExactEuclidSquares", apart := false, narrowed := true }
def FnExactEuclidSquaresUptoSaid : Prop := fnExactEuclidSquaresUptoRow.holds Try.pinned (OpenSpec.upto fnExactEuclidSquaresSpec)

/-- 'laws.FnExactGreatestTiles', WHERE WHAT IT READS IS OF BULK AT MOST 1048576: true; the input reads as it did. -/
def fnExactGreatestTilesUptoRow : OpenClaim := { program := "ytbaofgbkcolmmaa", sum := "4a20b1903a0f5322e3574f3e75b8be78999fe09fcf0aeee4e5a3fa01c76e8349", func := "loop.example/g01334/laws.FnExactGreatestTiles", spec := "fnExactGreatestTiles", apart := false, narrowed := true }
def FnExactGreatestTilesUptoSaid : Prop := fnExactGreatestTilesUptoRow.holds Try.pinned (OpenSpec.upto fnExactGreatestTilesSpec)

/-- 'laws.FnExactTurnPieces', WHERE WHAT IT READS IS OF BULK AT MOST 1048576: true; the input reads as it did. -/
def fnExactTurnPiecesUptoRow : OpenClaim := { program := "ytbaofgbkcolmmaa", sum := "4a20b1903a0f5322e3574f3e75b8be78999fe09fcf0aeee4e5a3fa01c76e8349", func := "loop.example/g01334/laws.FnExactTurnPieces", spec := "fnExactTurnPieces", apart := false, narrowed := true }
def FnExactTurnPiecesUptoSaid : Prop := fnExactTurnPiecesUptoRow.holds Try.pinned (OpenSpec.upto fnExactTurnPiecesSpec)

/-- 'laws.FnExactFewestSquares', WHERE WHAT IT READS IS OF BULK AT MOST 1048576: true; the input reads as it did. -/
def fnExactFewestSquaresUptoRow : OpenClaim := { program := "ytbaofgbkcolmmaa", sum := "4a20b1903a0f5322e3574f3e75b8be78999fe09fcf0aeee4e5a3fa01c76e8349", func := "loop.example/g01334/laws.FnExactFewestSquares", spec := "fnExactFewestSquares", unfollowed := true, recurses := true, apart := false, narrowed := true }
def FnExactFewestSquaresUptoSaid : Prop := fnExactFewestSquaresUptoRow.holds Try.pinned (OpenSpec.upto fnExactFewestSquaresSpec)

/-- 'laws.FnExactCutsToSquares', WHERE WHAT IT READS IS OF BULK AT MOST 1048576: true; the input reads as it did. -/
def fnExactCutsToSquaresUptoRow : OpenClaim := { program := "ytbaofgbkcolmmaa", sum := "4a20b1903a0f5322e3574f3e75b8be78999fe09fcf0aeee4e5a3fa01c76e8349", func := "loop.example/g01334/laws.FnExactCutsToSquares", spec := "fnExactCutsToSquares", unfollowed := true, recurses := true, apart := false, narrowed := true }
def FnExactCutsToSquaresUptoSaid : Prop := fnExactCutsToSquaresUptoRow.holds Try.pinned (OpenSpec.upto fnExactCutsToSquaresSpec)

/-- 'laws.FnExactCountCuttings', WHERE WHAT IT READS IS OF BULK AT MOST 1048576: true; the input reads as it did. -/
def fnExactCountCuttingsUptoRow : OpenClaim := { program := "ytbaofgbkcolmmaa", sum := "4a20b1903a0f5322e3574f3e75b8be78999fe09fcf0aeee4e5a3fa01c76e8349", func := "loop.example/g01334/laws.FnExactCountCuttings", spec := "fnExactCountCuttings", unfollowed := true, recurses := true, apart := false, narrowed := true }
def FnExactCountCuttingsUptoSaid : Prop := fnExactCountCuttingsUptoRow.holds Try.pinned (OpenSpec.upto fnExactCountCuttingsSpec)

/-- 'laws.FnExactSquaresByCuts', WHERE WHAT IT READS IS OF BULK AT MOST 1048576: true; the input reads as it did. -/
def fnExactSquaresByCutsUptoRow : OpenClaim := { program := "ytbaofgbkcolmmaa", sum := "4a20b1903a0f5322e3574f3e75b8be78999fe09fcf0aeee4e5a3fa01c76e8349", func := "loop.example/g01334/laws.FnExactSquaresByCuts", spec := "fnExactSquaresByCuts", unfollowed := true, recurses := true, apart := false, narrowed := true }
def FnExactSquaresByCutsUptoSaid : Prop := fnExactSquaresByCutsUptoRow.holds Try.pinned (OpenSpec.upto fnExactSquaresByCutsSpec)

/-- 'laws.FnExactBestValue', WHERE WHAT IT READS IS OF BULK AT MOST 1048576: true; the input reads as it did. -/
def fnExactBestValueUptoRow : OpenClaim := { program := "ytbaofgbkcolmmaa", sum := "4a20b1903a0f5322e3574f3e75b8be78999fe09fcf0aeee4e5a3fa01c76e8349", func := "loop.example/g01334/laws.FnExactBestValue", spec := "fnExactBestValue", unfollowed := true, recurses := true, apart := false, narrowed := true }
def FnExactBestValueUptoSaid : Prop := fnExactBestValueUptoRow.holds Try.pinned (OpenSpec.upto fnExactBestValueSpec)

/-- 'laws.FnExactValueTable', WHERE WHAT IT READS IS OF BULK AT MOST 1048576: true; the input reads as it did. -/
def fnExactValueTableUptoRow : OpenClaim := { program := "ytbaofgbkcolmmaa", sum := "4a20b1903a0f5322e3574f3e75b8be78999fe09fcf0aeee4e5a3fa01c76e8349", func := "loop.example/g01334/laws.FnExactValueTable", spec := "fnExactValueTable", unfollowed := true, recurses := true, apart := false, narrowed := true }
def FnExactValueTableUptoSaid : Prop := fnExactValueTableUptoRow.holds Try.pinned (OpenSpec.upto fnExactValueTableSpec)

/-- 'laws.FnExactCanCutAll', WHERE WHAT IT READS IS OF BULK AT MOST 1048576: true; the input reads as it did. -/
def fnExactCanCutAllUptoRow : OpenClaim := { program := "ytbaofgbkcolmmaa", sum := "4a20b1903a0f5322e3574f3e75b8be78999fe09fcf0aeee4e5a3fa01c76e8349", func := "loop.example/g01334/laws.FnExactCanCutAll", spec := "fnExactCanCutAll", unfollowed := true, recurses := true, apart := false, narrowed := true }
def FnExactCanCutAllUptoSaid : Prop := fnExactCanCutAllUptoRow.holds Try.pinned (OpenSpec.upto fnExactCanCutAllSpec)

/-- 'laws.FnExactFirstCut', WHERE WHAT IT READS IS OF BULK AT MOST 1048576: true; the input reads as it did. -/
def fnExactFirstCutUptoRow : OpenClaim := { program := "ytbaofgbkcolmmaa", sum := "4a20b1903a0f5322e3574f3e75b8be78999fe09fcf0aeee4e5a3fa01c76e8349", func := "loop.example/g01334/laws.FnExactFirstCut", spec := "fnExactFirstCut", unfollowed := true, recurses := true, apart := false, narrowed := true }
def FnExactFirstCutUptoSaid : Prop := fnExactFirstCutUptoRow.holds Try.pinned (OpenSpec.upto fnExactFirstCutSpec)

/-- 'laws.FnExactPiecesCut', WHERE WHAT IT READS IS OF BULK AT MOST 1048576: true; the input reads as it did. -/
def fnExactPiecesCutUptoRow : OpenClaim := { program := "ytbaofgbkcolmmaa", sum := "4a20b1903a0f5322e3574f3e75b8be78999fe09fcf0aeee4e5a3fa01c76e8349", func := "loop.example/g01334/laws.FnExactPiecesCut", spec := "fnExactPiecesCut", unfollowed := true, recurses := true, apart := false, narrowed := true }
def FnExactPiecesCutUptoSaid : Prop := fnExactPiecesCutUptoRow.holds Try.pinned (OpenSpec.upto fnExactPiecesCutSpec)

/-- 'laws.FnExactWasteOf', WHERE WHAT IT READS IS OF BULK AT MOST 1048576: true; the input reads as it did. -/
def fnExactWasteOfUptoRow : OpenClaim := { program := "ytbaofgbkcolmmaa", sum := "4a20b1903a0f5322e3574f3e75b8be78999fe09fcf0aeee4e5a3fa01c76e8349", func := "loop.example/g01334/laws.FnExactWasteOf", spec := "fnExactWasteOf", unfollowed := true, recurses := true, apart := false, narrowed := true }
def FnExactWasteOfUptoSaid : Prop := fnExactWasteOfUptoRow.holds Try.pinned (OpenSpec.upto fnExactWasteOfSpec)

end Rows
end Go.Proofs.Ytbaofgbkcolmmaa
