/-
  No cell of these rows narrows 'for every input' (looked for: loops, veiled, ifaces, maps, wideKeys, modest, calm, conditions, laid).
  DERIVED. THE GIVEN ROWS OF THIS SEAT. 7 by the template 'for every input the law returns true; each argument reads behind the call as it read before'; 0 by the template 'total and deterministic' (their statements: YtjpejhpilfjheaaTotals.lean).
  GIVEN WITH THE SEED: the statements are not yours to turn. If you find one false, say at which input.
  Laid BY PROGRAM, IN A SANDBOX (cutbox-rows.mjs): the forced cells as the released guide's own fill.sh prints them over the translation c0c0c8551ff56f40… (all of the seat's roots in one cut). By AI agents, Wed Nov 11 2026. No macro, syntax, notation, axiom, sorry.
-/
import Derived.Test.YtjpejhpilfjheaaChecked
import GoSem.Claim
import GoSem.ClaimJoined
import GoSem.ClaimMapViews
import Derived.JoinedTies
import Derived.KernelRfl
namespace Go.Proofs.Ytjpejhpilfjheaa
/- THE CELL 'sum', in the pinned program and in every row, IS THE sha256 OF THE DUMP (.gsa) THAT YtjpejhpilfjheaaProg.lean LOADS. Nothing in Lean hashes anything: it is a label: what it is worth is what the hold of that sum in a sandbox is worth. -/
noncomputable def Try.pinned : Pinned := { name := "ytjpejhpilfjheaa", sum := "c0c0c8551ff56f400483796105b9845037ac8797e5fee5cfab3655d2642096bb", checked := Try.checked }
namespace Rows
def none {H : Type} : Left H := { results := [], args := [] }

/-- 'laws.FnExactMostOfOne': WHATEVER THE INPUT: true; the input reads as it did. -/
def fnExactMostOfOneSpec : ChangeSpec := { name := "fnExactMostOfOne", fn := fun _ => fun
  | [d1, d2, d3, d4] => { results := [.lit (.bool true)], args := [d1, d2, d3, d4] }
  | _ => none }
def fnExactMostOfOneRow : OpenClaim := { program := "ytjpejhpilfjheaa", sum := "c0c0c8551ff56f400483796105b9845037ac8797e5fee5cfab3655d2642096bb", func := "loop.example/g01334/laws.FnExactMostOfOne", spec := "fnExactMostOfOne", unfollowed := true, recurses := true, apart := false }
def FnExactMostOfOneSaid : Prop := fnExactMostOfOneRow.holds Try.pinned (OpenSpec.ofChange fnExactMostOfOneSpec)

/-- ITS FALSE NEIGHBOUR: 'it returns false'. Refute it at one input. -/
def fnExactMostOfOneWrong : ChangeSpec := { name := "fnExactMostOfOne", fn := fun _ => fun
  | [d1, d2, d3, d4] => { results := [.lit (.bool false)], args := [d1, d2, d3, d4] }
  | _ => none }
def FnExactMostOfOneWrongFalsely : Prop := fnExactMostOfOneRow.holds Try.pinned (OpenSpec.ofChange fnExactMostOfOneWrong)

/-- 'laws.FnExactPiecesCut': WHATEVER THE INPUT: true; the input reads as it did. -/
def fnExactPiecesCutSpec : ChangeSpec := { name := "fnExactPiecesCut", fn := fun _ => fun
  | [d1, d2, d3, d4] => { results := [.lit (.bool true)], args := [d1, d2, d3, d4] }
  | _ => none }
def fnExactPiecesCutRow : OpenClaim := { program := "ytjpejhpilfjheaa", sum := "c0c0c8551ff56f400483796105b9845037ac8797e5fee5cfab3655d2642096bb", func := "loop.example/g01334/laws.FnExactPiecesCut", spec := "fnExactPiecesCut", unfollowed := true, recurses := true, apart := false }
def FnExactPiecesCutSaid : Prop := fnExactPiecesCutRow.holds Try.pinned (OpenSpec.ofChange fnExactPiecesCutSpec)

/-- ITS FALSE NEIGHBOUR: 'it returns false'. Refute it at one input. -/
def fnExactPiecesCutWrong : ChangeSpec := { name := "fnExactPiecesCut", fn := fun _ => fun
  | [d1, d2, d3, d4] => { results := [.lit (.bool false)], args := [d1, d2, d3, d4] }
  | _ => none }
def FnExactPiecesCutWrongFalsely : Prop := fnExactPiecesCutRow.holds Try.pinned (OpenSpec.ofChange fnExactPiecesCutWrong)

/-- 'laws.FnExactWasteOf': WHATEVER THE INPUT: true; the input reads as it did. -/
def fnExactWasteOfSpec : ChangeSpec := { name := "fnExactWasteOf", fn := fun _ => fun
  | [d1, d2, d3, d4] => { results := [.lit (.bool true)], args := [d1, d2, d3, d4] }
  | _ => none }
def fnExactWasteOfRow : OpenClaim := { program := "ytjpejhpilfjheaa", sum := "c0c0c8551ff56f400483796105b9845037ac8797e5fee5cfab3655d2642096bb", func := "loop.example/g01334/laws.FnExactWasteOf", spec := "fnExactWasteOf", unfollowed := true, recurses := true, apart := false }
def FnExactWasteOfSaid : Prop := fnExactWasteOfRow.holds Try.pinned (OpenSpec.ofChange fnExactWasteOfSpec)

/-- ITS FALSE NEIGHBOUR: 'it returns false'. Refute it at one input. -/
def fnExactWasteOfWrong : ChangeSpec := { name := "fnExactWasteOf", fn := fun _ => fun
  | [d1, d2, d3, d4] => { results := [.lit (.bool false)], args := [d1, d2, d3, d4] }
  | _ => none }
def FnExactWasteOfWrongFalsely : Prop := fnExactWasteOfRow.holds Try.pinned (OpenSpec.ofChange fnExactWasteOfWrong)

/-- 'laws.FnExactSquaresByCuts': WHATEVER THE INPUT: true; the input reads as it did. -/
def fnExactSquaresByCutsSpec : ChangeSpec := { name := "fnExactSquaresByCuts", fn := fun _ => fun
  | [d1, d2] => { results := [.lit (.bool true)], args := [d1, d2] }
  | _ => none }
def fnExactSquaresByCutsRow : OpenClaim := { program := "ytjpejhpilfjheaa", sum := "c0c0c8551ff56f400483796105b9845037ac8797e5fee5cfab3655d2642096bb", func := "loop.example/g01334/laws.FnExactSquaresByCuts", spec := "fnExactSquaresByCuts", unfollowed := true, recurses := true, apart := false }
def FnExactSquaresByCutsSaid : Prop := fnExactSquaresByCutsRow.holds Try.pinned (OpenSpec.ofChange fnExactSquaresByCutsSpec)

/-- ITS FALSE NEIGHBOUR: 'it returns false'. Refute it at one input. -/
def fnExactSquaresByCutsWrong : ChangeSpec := { name := "fnExactSquaresByCuts", fn := fun _ => fun
  | [d1, d2] => { results := [.lit (.bool false)], args := [d1, d2] }
  | _ => none }
def FnExactSquaresByCutsWrongFalsely : Prop := fnExactSquaresByCutsRow.holds Try.pinned (OpenSpec.ofChange fnExactSquaresByCutsWrong)

/-- 'laws.FnExactFirstCut': WHATEVER THE INPUT: true; the input reads as it did. -/
def fnExactFirstCutSpec : ChangeSpec := { name := "fnExactFirstCut", fn := fun _ => fun
  | [d1, d2, d3, d4] => { results := [.lit (.bool true)], args := [d1, d2, d3, d4] }
  | _ => none }
def fnExactFirstCutRow : OpenClaim := { program := "ytjpejhpilfjheaa", sum := "c0c0c8551ff56f400483796105b9845037ac8797e5fee5cfab3655d2642096bb", func := "loop.example/g01334/laws.FnExactFirstCut", spec := "fnExactFirstCut", unfollowed := true, recurses := true, apart := false }
def FnExactFirstCutSaid : Prop := fnExactFirstCutRow.holds Try.pinned (OpenSpec.ofChange fnExactFirstCutSpec)

/-- ITS FALSE NEIGHBOUR: 'it returns false'. Refute it at one input. -/
def fnExactFirstCutWrong : ChangeSpec := { name := "fnExactFirstCut", fn := fun _ => fun
  | [d1, d2, d3, d4] => { results := [.lit (.bool false)], args := [d1, d2, d3, d4] }
  | _ => none }
def FnExactFirstCutWrongFalsely : Prop := fnExactFirstCutRow.holds Try.pinned (OpenSpec.ofChange fnExactFirstCutWrong)

/-- 'laws.FnExactCanCutAll': WHATEVER THE INPUT: true; the input reads as it did. -/
def fnExactCanCutAllSpec : ChangeSpec := { name := "fnExactCanCutAll", fn := fun _ => fun
  | [d1, d2, d3, d4] => { results := [.lit (.bool true)], args := [d1, d2, d3, d4] }
  | _ => none }
def fnExactCanCutAllRow : OpenClaim := { program := "ytjpejhpilfjheaa", sum := "c0c0c8551ff56f400483796105b9845037ac8797e5fee5cfab3655d2642096bb", func := "loop.example/g01334/laws.FnExactCanCutAll", spec := "fnExactCanCutAll", unfollowed := true, recurses := true, apart := false }
def FnExactCanCutAllSaid : Prop := fnExactCanCutAllRow.holds Try.pinned (OpenSpec.ofChange fnExactCanCutAllSpec)

/-- ITS FALSE NEIGHBOUR: 'it returns false'. Refute it at one input. -/
def fnExactCanCutAllWrong : ChangeSpec := { name := "fnExactCanCutAll", fn := fun _ => fun
  | [d1, d2, d3, d4] => { results := [.lit (.bool false)], args := [d1, d2, d3, d4] }
  | _ => none }
def FnExactCanCutAllWrongFalsely : Prop := fnExactCanCutAllRow.holds Try.pinned (OpenSpec.ofChange fnExactCanCutAllWrong)

/-- 'laws.FnExactBestValue': WHATEVER THE INPUT: true; the input reads as it did. -/
def fnExactBestValueSpec : ChangeSpec := { name := "fnExactBestValue", fn := fun _ => fun
  | [d1, d2, d3, d4] => { results := [.lit (.bool true)], args := [d1, d2, d3, d4] }
  | _ => none }
def fnExactBestValueRow : OpenClaim := { program := "ytjpejhpilfjheaa", sum := "c0c0c8551ff56f400483796105b9845037ac8797e5fee5cfab3655d2642096bb", func := "loop.example/g01334/laws.FnExactBestValue", spec := "fnExactBestValue", unfollowed := true, recurses := true, apart := false }
def FnExactBestValueSaid : Prop := fnExactBestValueRow.holds Try.pinned (OpenSpec.ofChange fnExactBestValueSpec)

/-- ITS FALSE NEIGHBOUR: 'it returns false'. Refute it at one input. -/
def fnExactBestValueWrong : ChangeSpec := { name := "fnExactBestValue", fn := fun _ => fun
  | [d1, d2, d3, d4] => { results := [.lit (.bool false)], args := [d1, d2, d3, d4] }
  | _ => none }
def FnExactBestValueWrongFalsely : Prop := fnExactBestValueRow.holds Try.pinned (OpenSpec.ofChange fnExactBestValueWrong)

/- THE SECOND FORM. 'bulk': how many values and letters a reading holds, each counted each time it is reached (what is shared counts as often as it is met; a slice's spare places count too). A statement '..UptoSaid' is the law's where the arguments, and the package variables that the reading takes, are together of bulk at most 1048576: NARROWER than '..Said'. Prove '..Said' where nothing that the law and all that it calls make is longer than what came in: it says more and counts as full. Else prove '..UptoSaid'. A law counts once. -/
mutual
def uptoBulk {H : Type} : DataW H → Nat
  | .lit (.string bytes) => bytes.length + 1
  | .lit _ => 1
  | .nil => 1
  | .ptr d => uptoBulk d + 1
  | .slice elems spare => uptoBulkAll elems + uptoBulkAll spare + 1
  | .agg parts => uptoBulkAll parts + 1
  | .iface _ d => uptoBulk d + 1
  | .map entries => uptoBulkEntries entries + 1
  | .held _ => 1
def uptoBulkAll {H : Type} : List (DataW H) → Nat
  | [] => 0
  | d :: r => uptoBulk d + uptoBulkAll r
def uptoBulkEntries {H : Type} : List (Lit × DataW H) → Nat
  | [] => 0
  | x :: r => uptoBulkEntry x + uptoBulkEntries r
def uptoBulkEntry {H : Type} : Lit × DataW H → Nat
  | (.string bytes, d) => bytes.length + uptoBulk d + 1
  | (_, d) => uptoBulk d + 1
 end
def uptoSmall : (H : Type) → List (DataW H) → Bool := fun _ ds => decide (uptoBulkAll ds ≤ 1048576)
def OpenSpec.upto (s : _root_.Go.ChangeSpec) : _root_.Go.OpenSpec := { _root_.Go.OpenSpec.ofChange s with cond := some uptoSmall }

/-- 'laws.FnExactMostOfOne', WHERE WHAT IT READS IS OF BULK AT MOST 1048576: true; the input reads as it did. -/
def fnExactMostOfOneUptoRow : OpenClaim := { program := "ytjpejhpilfjheaa", sum := "c0c0c8551ff56f400483796105b9845037ac8797e5fee5cfab3655d2642096bb", func := "loop.example/g01334/laws.FnExactMostOfOne", spec := "fnExactMostOfOne", unfollowed := true, recurses := true, apart := false, narrowed := true }
def FnExactMostOfOneUptoSaid : Prop := fnExactMostOfOneUptoRow.holds Try.pinned (OpenSpec.upto fnExactMostOfOneSpec)

/-- 'laws.FnExactPiecesCut', WHERE WHAT IT READS IS OF BULK AT MOST 1048576: true; the input reads as it did. -/
def fnExactPiecesCutUptoRow : OpenClaim := { program := "ytjpejhpilfjheaa", sum := "c0c0c8551ff56f400483796105b9845037ac8797e5fee5cfab3655d2642096bb", func := "loop.example/g01334/laws.FnExactPiecesCut", spec := "fnExactPiecesCut", unfollowed := true, recurses := true, apart := false, narrowed := true }
def FnExactPiecesCutUptoSaid : Prop := fnExactPiecesCutUptoRow.holds Try.pinned (OpenSpec.upto fnExactPiecesCutSpec)

/-- 'laws.FnExactWasteOf', WHERE WHAT IT READS IS OF BULK AT MOST 1048576: true; the input reads as it did. -/
def fnExactWasteOfUptoRow : OpenClaim := { program := "ytjpejhpilfjheaa", sum := "c0c0c8551ff56f400483796105b9845037ac8797e5fee5cfab3655d2642096bb", func := "loop.example/g01334/laws.FnExactWasteOf", spec := "fnExactWasteOf", unfollowed := true, recurses := true, apart := false, narrowed := true }
def FnExactWasteOfUptoSaid : Prop := fnExactWasteOfUptoRow.holds Try.pinned (OpenSpec.upto fnExactWasteOfSpec)

/-- 'laws.FnExactSquaresByCuts', WHERE WHAT IT READS IS OF BULK AT MOST 1048576: true; the input reads as it did. -/
def fnExactSquaresByCutsUptoRow : OpenClaim := { program := "ytjpejhpilfjheaa", sum := "c0c0c8551ff56f400483796105b9845037ac8797e5fee5cfab3655d2642096bb", func := "loop.example/g01334/laws.FnExactSquaresByCuts", spec := "fnExactSquaresByCuts", unfollowed := true, recurses := true, apart := false, narrowed := true }
def FnExactSquaresByCutsUptoSaid : Prop := fnExactSquaresByCutsUptoRow.holds Try.pinned (OpenSpec.upto fnExactSquaresByCutsSpec)

/-- 'laws.FnExactFirstCut', WHERE WHAT IT READS IS OF BULK AT MOST 1048576: true; the input reads as it did. -/
def fnExactFirstCutUptoRow : OpenClaim := { program := "ytjpejhpilfjheaa", sum := "c0c0c8551ff56f400483796105b9845037ac8797e5fee5cfab3655d2642096bb", func := "loop.example/g01334/laws.FnExactFirstCut", spec := "fnExactFirstCut", unfollowed := true, recurses := true, apart := false, narrowed := true }
def FnExactFirstCutUptoSaid : Prop := fnExactFirstCutUptoRow.holds Try.pinned (OpenSpec.upto fnExactFirstCutSpec)

/-- 'laws.FnExactCanCutAll', WHERE WHAT IT READS IS OF BULK AT MOST 1048576: true; the input reads as it did. -/
def fnExactCanCutAllUptoRow : OpenClaim := { program := "ytjpejhpilfjheaa", sum := "c0c0c8551ff56f400483796105b9845037ac8797e5fee5cfab3655d2642096bb", func := "loop.example/g01334/laws.FnExactCanCutAll", spec := "fnExactCanCutAll", unfollowed := true, recurses := true, apart := false, narrowed := true }
def FnExactCanCutAllUptoSaid : Prop := fnExactCanCutAllUptoRow.holds Try.pinned (OpenSpec.upto fnExactCanCutAllSpec)

/-- 'laws.FnExactBestValue', WHERE WHAT IT READS IS OF BULK AT MOST 1048576: true; the input reads as it did. -/
def fnExactBestValueUptoRow : OpenClaim := { program := "ytjpejhpilfjheaa", sum := "c0c0c8551ff56f400483796105b9845037ac8797e5fee5cfab3655d2642096bb", func := "loop.example/g01334/laws.FnExactBestValue", spec := "fnExactBestValue", unfollowed := true, recurses := true, apart := false, narrowed := true }
def FnExactBestValueUptoSaid : Prop := fnExactBestValueUptoRow.holds Try.pinned (OpenSpec.upto fnExactBestValueSpec)

end Rows
end Go.Proofs.Ytjpejhpilfjheaa
