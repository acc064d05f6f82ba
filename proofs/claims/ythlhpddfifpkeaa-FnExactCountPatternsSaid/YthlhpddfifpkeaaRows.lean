/-
  No cell of these rows narrows 'for every input' (looked for: loops, veiled, ifaces, maps, wideKeys, modest, calm, conditions, laid).
  DERIVED. THE GIVEN ROWS OF THIS SEAT. 12 by the template 'for every input the law returns true; each argument reads behind the call as it read before'; 0 by the template 'total and deterministic' (their statements: YthlhpddfifpkeaaTotals.lean).
  GIVEN WITH THE SEED: the statements are not yours to turn. If you find one false, say at which input.
  Laid BY PROGRAM, IN A SANDBOX (cutbox-rows.mjs): the forced cells as the released guide's own fill.sh prints them over the translation 4abe1833f2c7e154… (all of the seat's roots in one cut). By AI agents, Wed Nov 11 2026. No macro, syntax, notation, axiom, sorry.
-/
import Derived.Test.YthlhpddfifpkeaaChecked
import GoSem.Claim
import GoSem.ClaimJoined
import GoSem.ClaimMapViews
import Derived.JoinedTies
import Derived.KernelRfl
namespace Go.Proofs.Ythlhpddfifpkeaa
/- THE CELL 'sum', in the pinned program and in every row, IS THE sha256 OF THE DUMP (.gsa) THAT YthlhpddfifpkeaaProg.lean LOADS. Nothing in Lean hashes anything: it is a label: what it is worth is what the hold of that sum in a sandbox is worth. -/
noncomputable def Try.pinned : Pinned := { name := "ythlhpddfifpkeaa", sum := "4abe1833f2c7e15486330c980a7edbb84ee71c495539f7bdb33ef977edaf7e63", checked := Try.checked }
namespace Rows
def none {H : Type} : Left H := { results := [], args := [] }

/-- 'laws.FnExactAreLengths': WHATEVER THE INPUT: true; the input reads as it did. -/
def fnExactAreLengthsSpec : ChangeSpec := { name := "fnExactAreLengths", fn := fun _ => fun
  | [d] => { results := [.lit (.bool true)], args := [d] }
  | _ => none }
def fnExactAreLengthsRow : OpenClaim := { program := "ythlhpddfifpkeaa", sum := "4abe1833f2c7e15486330c980a7edbb84ee71c495539f7bdb33ef977edaf7e63", func := "loop.example/g01334/laws.FnExactAreLengths", spec := "fnExactAreLengths", plainKeys := false, apart := false }
def FnExactAreLengthsSaid : Prop := fnExactAreLengthsRow.holds Try.pinned (OpenSpec.ofChange fnExactAreLengthsSpec)

/-- ITS FALSE NEIGHBOUR: 'it returns false'. Refute it at one input. -/
def fnExactAreLengthsWrong : ChangeSpec := { name := "fnExactAreLengths", fn := fun _ => fun
  | [d] => { results := [.lit (.bool false)], args := [d] }
  | _ => none }
def FnExactAreLengthsWrongFalsely : Prop := fnExactAreLengthsRow.holds Try.pinned (OpenSpec.ofChange fnExactAreLengthsWrong)

/-- 'laws.FnExactIsRodPattern': WHATEVER THE INPUT: true; the input reads as it did. -/
def fnExactIsRodPatternSpec : ChangeSpec := { name := "fnExactIsRodPattern", fn := fun _ => fun
  | [d1, d2, d3] => { results := [.lit (.bool true)], args := [d1, d2, d3] }
  | _ => none }
def fnExactIsRodPatternRow : OpenClaim := { program := "ythlhpddfifpkeaa", sum := "4abe1833f2c7e15486330c980a7edbb84ee71c495539f7bdb33ef977edaf7e63", func := "loop.example/g01334/laws.FnExactIsRodPattern", spec := "fnExactIsRodPattern", plainKeys := false, apart := false }
def FnExactIsRodPatternSaid : Prop := fnExactIsRodPatternRow.holds Try.pinned (OpenSpec.ofChange fnExactIsRodPatternSpec)

/-- ITS FALSE NEIGHBOUR: 'it returns false'. Refute it at one input. -/
def fnExactIsRodPatternWrong : ChangeSpec := { name := "fnExactIsRodPattern", fn := fun _ => fun
  | [d1, d2, d3] => { results := [.lit (.bool false)], args := [d1, d2, d3] }
  | _ => none }
def FnExactIsRodPatternWrongFalsely : Prop := fnExactIsRodPatternRow.holds Try.pinned (OpenSpec.ofChange fnExactIsRodPatternWrong)

/-- 'laws.FnExactUsedOf': WHATEVER THE INPUT: true; the input reads as it did. -/
def fnExactUsedOfSpec : ChangeSpec := { name := "fnExactUsedOf", fn := fun _ => fun
  | [d1, d2, d3] => { results := [.lit (.bool true)], args := [d1, d2, d3] }
  | _ => none }
def fnExactUsedOfRow : OpenClaim := { program := "ythlhpddfifpkeaa", sum := "4abe1833f2c7e15486330c980a7edbb84ee71c495539f7bdb33ef977edaf7e63", func := "loop.example/g01334/laws.FnExactUsedOf", spec := "fnExactUsedOf", plainKeys := false, apart := false }
def FnExactUsedOfSaid : Prop := fnExactUsedOfRow.holds Try.pinned (OpenSpec.ofChange fnExactUsedOfSpec)

/-- ITS FALSE NEIGHBOUR: 'it returns false'. Refute it at one input. -/
def fnExactUsedOfWrong : ChangeSpec := { name := "fnExactUsedOf", fn := fun _ => fun
  | [d1, d2, d3] => { results := [.lit (.bool false)], args := [d1, d2, d3] }
  | _ => none }
def FnExactUsedOfWrongFalsely : Prop := fnExactUsedOfRow.holds Try.pinned (OpenSpec.ofChange fnExactUsedOfWrong)

/-- 'laws.FnExactWasteOfPattern': WHATEVER THE INPUT: true; the input reads as it did. -/
def fnExactWasteOfPatternSpec : ChangeSpec := { name := "fnExactWasteOfPattern", fn := fun _ => fun
  | [d1, d2, d3] => { results := [.lit (.bool true)], args := [d1, d2, d3] }
  | _ => none }
def fnExactWasteOfPatternRow : OpenClaim := { program := "ythlhpddfifpkeaa", sum := "4abe1833f2c7e15486330c980a7edbb84ee71c495539f7bdb33ef977edaf7e63", func := "loop.example/g01334/laws.FnExactWasteOfPattern", spec := "fnExactWasteOfPattern", plainKeys := false, apart := false }
def FnExactWasteOfPatternSaid : Prop := fnExactWasteOfPatternRow.holds Try.pinned (OpenSpec.ofChange fnExactWasteOfPatternSpec)

/-- ITS FALSE NEIGHBOUR: 'it returns false'. Refute it at one input. -/
def fnExactWasteOfPatternWrong : ChangeSpec := { name := "fnExactWasteOfPattern", fn := fun _ => fun
  | [d1, d2, d3] => { results := [.lit (.bool false)], args := [d1, d2, d3] }
  | _ => none }
def FnExactWasteOfPatternWrongFalsely : Prop := fnExactWasteOfPatternRow.holds Try.pinned (OpenSpec.ofChange fnExactWasteOfPatternWrong)

/-- 'laws.FnExactIsFullPattern': WHATEVER THE INPUT: true; the input reads as it did. -/
def fnExactIsFullPatternSpec : ChangeSpec := { name := "fnExactIsFullPattern", fn := fun _ => fun
  | [d1, d2, d3] => { results := [.lit (.bool true)], args := [d1, d2, d3] }
  | _ => none }
def fnExactIsFullPatternRow : OpenClaim := { program := "ythlhpddfifpkeaa", sum := "4abe1833f2c7e15486330c980a7edbb84ee71c495539f7bdb33ef977edaf7e63", func := "loop.example/g01334/laws.FnExactIsFullPattern", spec := "fnExactIsFullPattern", plainKeys := false, apart := false }
def FnExactIsFullPatternSaid : Prop := fnExactIsFullPatternRow.holds Try.pinned (OpenSpec.ofChange fnExactIsFullPatternSpec)

/-- ITS FALSE NEIGHBOUR: 'it returns false'. Refute it at one input. -/
def fnExactIsFullPatternWrong : ChangeSpec := { name := "fnExactIsFullPattern", fn := fun _ => fun
  | [d1, d2, d3] => { results := [.lit (.bool false)], args := [d1, d2, d3] }
  | _ => none }
def FnExactIsFullPatternWrongFalsely : Prop := fnExactIsFullPatternRow.holds Try.pinned (OpenSpec.ofChange fnExactIsFullPatternWrong)

/-- 'laws.FnExactCountOrders': WHATEVER THE INPUT: true; the input reads as it did. -/
def fnExactCountOrdersSpec : ChangeSpec := { name := "fnExactCountOrders", fn := fun _ => fun
  | [d] => { results := [.lit (.bool true)], args := [d] }
  | _ => none }
def fnExactCountOrdersRow : OpenClaim := { program := "ythlhpddfifpkeaa", sum := "4abe1833f2c7e15486330c980a7edbb84ee71c495539f7bdb33ef977edaf7e63", func := "loop.example/g01334/laws.FnExactCountOrders", spec := "fnExactCountOrders", plainKeys := false, apart := false }
def FnExactCountOrdersSaid : Prop := fnExactCountOrdersRow.holds Try.pinned (OpenSpec.ofChange fnExactCountOrdersSpec)

/-- ITS FALSE NEIGHBOUR: 'it returns false'. Refute it at one input. -/
def fnExactCountOrdersWrong : ChangeSpec := { name := "fnExactCountOrders", fn := fun _ => fun
  | [d] => { results := [.lit (.bool false)], args := [d] }
  | _ => none }
def FnExactCountOrdersWrongFalsely : Prop := fnExactCountOrdersRow.holds Try.pinned (OpenSpec.ofChange fnExactCountOrdersWrong)

/-- 'laws.FnExactRodsBound': WHATEVER THE INPUT: true; the input reads as it did. -/
def fnExactRodsBoundSpec : ChangeSpec := { name := "fnExactRodsBound", fn := fun _ => fun
  | [d1, d2, d3] => { results := [.lit (.bool true)], args := [d1, d2, d3] }
  | _ => none }
def fnExactRodsBoundRow : OpenClaim := { program := "ythlhpddfifpkeaa", sum := "4abe1833f2c7e15486330c980a7edbb84ee71c495539f7bdb33ef977edaf7e63", func := "loop.example/g01334/laws.FnExactRodsBound", spec := "fnExactRodsBound", plainKeys := false, apart := false }
def FnExactRodsBoundSaid : Prop := fnExactRodsBoundRow.holds Try.pinned (OpenSpec.ofChange fnExactRodsBoundSpec)

/-- ITS FALSE NEIGHBOUR: 'it returns false'. Refute it at one input. -/
def fnExactRodsBoundWrong : ChangeSpec := { name := "fnExactRodsBound", fn := fun _ => fun
  | [d1, d2, d3] => { results := [.lit (.bool false)], args := [d1, d2, d3] }
  | _ => none }
def FnExactRodsBoundWrongFalsely : Prop := fnExactRodsBoundRow.holds Try.pinned (OpenSpec.ofChange fnExactRodsBoundWrong)

/-- 'laws.FnExactCountPatterns': WHATEVER THE INPUT: true; the input reads as it did. -/
def fnExactCountPatternsSpec : ChangeSpec := { name := "fnExactCountPatterns", fn := fun _ => fun
  | [d1, d2] => { results := [.lit (.bool true)], args := [d1, d2] }
  | _ => none }
def fnExactCountPatternsRow : OpenClaim := { program := "ythlhpddfifpkeaa", sum := "4abe1833f2c7e15486330c980a7edbb84ee71c495539f7bdb33ef977edaf7e63", func := "loop.example/g01334/laws.FnExactCountPatterns", spec := "fnExactCountPatterns", unfollowed := true, recurses := true, plainKeys := false, apart := false }
def FnExactCountPatternsSaid : Prop := fnExactCountPatternsRow.holds Try.pinned (OpenSpec.ofChange fnExactCountPatternsSpec)

/-- ITS FALSE NEIGHBOUR: 'it returns false'. Refute it at one input. -/
def fnExactCountPatternsWrong : ChangeSpec := { name := "fnExactCountPatterns", fn := fun _ => fun
  | [d1, d2] => { results := [.lit (.bool false)], args := [d1, d2] }
  | _ => none }
def FnExactCountPatternsWrongFalsely : Prop := fnExactCountPatternsRow.holds Try.pinned (OpenSpec.ofChange fnExactCountPatternsWrong)

/-- 'laws.FnExactLeftOver': WHATEVER THE INPUT: true; the input reads as it did. -/
def fnExactLeftOverSpec : ChangeSpec := { name := "fnExactLeftOver", fn := fun _ => fun
  | [d1, d2] => { results := [.lit (.bool true)], args := [d1, d2] }
  | _ => none }
def fnExactLeftOverRow : OpenClaim := { program := "ythlhpddfifpkeaa", sum := "4abe1833f2c7e15486330c980a7edbb84ee71c495539f7bdb33ef977edaf7e63", func := "loop.example/g01334/laws.FnExactLeftOver", spec := "fnExactLeftOver", plainKeys := false, apart := false }
def FnExactLeftOverSaid : Prop := fnExactLeftOverRow.holds Try.pinned (OpenSpec.ofChange fnExactLeftOverSpec)

/-- ITS FALSE NEIGHBOUR: 'it returns false'. Refute it at one input. -/
def fnExactLeftOverWrong : ChangeSpec := { name := "fnExactLeftOver", fn := fun _ => fun
  | [d1, d2] => { results := [.lit (.bool false)], args := [d1, d2] }
  | _ => none }
def FnExactLeftOverWrongFalsely : Prop := fnExactLeftOverRow.holds Try.pinned (OpenSpec.ofChange fnExactLeftOverWrong)

/-- 'laws.FnExactWorthOfCut': WHATEVER THE INPUT: true; the input reads as it did. -/
def fnExactWorthOfCutSpec : ChangeSpec := { name := "fnExactWorthOfCut", fn := fun _ => fun
  | [d1, d2] => { results := [.lit (.bool true)], args := [d1, d2] }
  | _ => none }
def fnExactWorthOfCutRow : OpenClaim := { program := "ythlhpddfifpkeaa", sum := "4abe1833f2c7e15486330c980a7edbb84ee71c495539f7bdb33ef977edaf7e63", func := "loop.example/g01334/laws.FnExactWorthOfCut", spec := "fnExactWorthOfCut", plainKeys := false, apart := false }
def FnExactWorthOfCutSaid : Prop := fnExactWorthOfCutRow.holds Try.pinned (OpenSpec.ofChange fnExactWorthOfCutSpec)

/-- ITS FALSE NEIGHBOUR: 'it returns false'. Refute it at one input. -/
def fnExactWorthOfCutWrong : ChangeSpec := { name := "fnExactWorthOfCut", fn := fun _ => fun
  | [d1, d2] => { results := [.lit (.bool false)], args := [d1, d2] }
  | _ => none }
def FnExactWorthOfCutWrongFalsely : Prop := fnExactWorthOfCutRow.holds Try.pinned (OpenSpec.ofChange fnExactWorthOfCutWrong)

/-- 'laws.FnExactBestRodValue': WHATEVER THE INPUT: true; the input reads as it did. -/
def fnExactBestRodValueSpec : ChangeSpec := { name := "fnExactBestRodValue", fn := fun _ => fun
  | [d1, d2] => { results := [.lit (.bool true)], args := [d1, d2] }
  | _ => none }
def fnExactBestRodValueRow : OpenClaim := { program := "ythlhpddfifpkeaa", sum := "4abe1833f2c7e15486330c980a7edbb84ee71c495539f7bdb33ef977edaf7e63", func := "loop.example/g01334/laws.FnExactBestRodValue", spec := "fnExactBestRodValue", plainKeys := false, apart := false }
def FnExactBestRodValueSaid : Prop := fnExactBestRodValueRow.holds Try.pinned (OpenSpec.ofChange fnExactBestRodValueSpec)

/-- ITS FALSE NEIGHBOUR: 'it returns false'. Refute it at one input. -/
def fnExactBestRodValueWrong : ChangeSpec := { name := "fnExactBestRodValue", fn := fun _ => fun
  | [d1, d2] => { results := [.lit (.bool false)], args := [d1, d2] }
  | _ => none }
def FnExactBestRodValueWrongFalsely : Prop := fnExactBestRodValueRow.holds Try.pinned (OpenSpec.ofChange fnExactBestRodValueWrong)

/-- 'laws.FnExactCountBestCuts': WHATEVER THE INPUT: true; the input reads as it did. -/
def fnExactCountBestCutsSpec : ChangeSpec := { name := "fnExactCountBestCuts", fn := fun _ => fun
  | [d1, d2] => { results := [.lit (.bool true)], args := [d1, d2] }
  | _ => none }
def fnExactCountBestCutsRow : OpenClaim := { program := "ythlhpddfifpkeaa", sum := "4abe1833f2c7e15486330c980a7edbb84ee71c495539f7bdb33ef977edaf7e63", func := "loop.example/g01334/laws.FnExactCountBestCuts", spec := "fnExactCountBestCuts", plainKeys := false, apart := false }
def FnExactCountBestCutsSaid : Prop := fnExactCountBestCutsRow.holds Try.pinned (OpenSpec.ofChange fnExactCountBestCutsSpec)

/-- ITS FALSE NEIGHBOUR: 'it returns false'. Refute it at one input. -/
def fnExactCountBestCutsWrong : ChangeSpec := { name := "fnExactCountBestCuts", fn := fun _ => fun
  | [d1, d2] => { results := [.lit (.bool false)], args := [d1, d2] }
  | _ => none }
def FnExactCountBestCutsWrongFalsely : Prop := fnExactCountBestCutsRow.holds Try.pinned (OpenSpec.ofChange fnExactCountBestCutsWrong)

/- THE SECOND FORM. 'bulk': how many values and letters a reading holds, each counted each time it is reached (what is shared counts as often as it is met; a slice's spare places count too). A statement '..UptoSaid' is the law's where the arguments, and the package variables that the reading takes, are together of bulk at most 1048576: NARROWER than '..Said'. Prove '..Said' where nothing that the law and all that it calls make is longer than what came in: it says more and counts as full. Else prove '..UptoSaid'. A law counts once. -/
mutual
def uptoBulk {H : Type} : DataW H → Nat
  | .lit (.string bytes) => bytes.length + 1
  | .lit _ => 1
  | .nil => 1
  | .ptr d => uptoBulk d + 1
  | .slice elems spare => uptoBulkAll elems + uptoBulkAll spare + 1
  | .agg parts => uptoBulkAll parts + 1
  | .iface _ d => uptoBulk d + 1
  | .map entries => uptoBulkEntries entries + 1
  | .held _ => 1
def uptoBulkAll {H : Type} : List (DataW H) → Nat
  | [] => 0
  | d :: r => uptoBulk d + uptoBulkAll r
def uptoBulkEntries {H : Type} : List (Lit × DataW H) → Nat
  | [] => 0
  | x :: r => uptoBulkEntry x + uptoBulkEntries r
def uptoBulkEntry {H : Type} : Lit × DataW H → Nat
  | (.string bytes, d) => bytes.length + uptoBulk d + 1
  | (_, d) => uptoBulk d + 1
 end
def uptoSmall : (H : Type) → List (DataW H) → Bool := fun _ ds => decide (uptoBulkAll ds ≤ 1048576)
def OpenSpec.upto (s : _root_.Go.ChangeSpec) : _root_.Go.OpenSpec := { _root_.Go.OpenSpec.ofChange s with cond := some uptoSmall }

/-- 'laws.FnExactAreLengths', WHERE WHAT IT READS IS OF BULK AT MOST 1048576: true; the input reads as it did. -/
def fnExactAreLengthsUptoRow : OpenClaim := { program := "ythlhpddfifpkeaa", sum := "4abe1833f2c7e15486330c980a7edbb84ee71c495539f7bdb33ef977edaf7e63", func := "loop.example/g01334/laws.FnExactAreLengths", spec := "fnExactAreLengths", plainKeys := false, apart := false, narrowed := true }
def FnExactAreLengthsUptoSaid : Prop := fnExactAreLengthsUptoRow.holds Try.pinned (OpenSpec.upto fnExactAreLengthsSpec)

/-- 'laws.FnExactIsRodPattern', WHERE WHAT IT READS IS OF BULK AT MOST 1048576: true; the input reads as it did. -/
def fnExactIsRodPatternUptoRow : OpenClaim := { program := "ythlhpddfifpkeaa", sum := "4abe1833f2c7e15486330c980a7edbb84ee71c495539f7bdb33ef977edaf7e63", func := "loop.example/g01334/laws.FnExactIsRodPattern", spec := "fnExactIsRodPattern", plainKeys := false, apart := false, narrowed := true }
def FnExactIsRodPatternUptoSaid : Prop := fnExactIsRodPatternUptoRow.holds Try.pinned (OpenSpec.upto fnExactIsRodPatternSpec)

/-- 'laws.FnExactUsedOf', WHERE WHAT IT READS IS OF BULK AT MOST 1048576: true; the input reads as it did. -/
def fnExactUsedOfUptoRow : OpenClaim := { program := "ythlhpddfifpkeaa", sum := "4abe1833f2c7e15486330c980a7edbb84ee71c495539f7bdb33ef977edaf7e63", func := "loop.example/g01334/laws.FnExactUsedOf", spec := "fnExactUsedOf", plainKeys := false, apart := false, narrowed := true }
def FnExactUsedOfUptoSaid : Prop := fnExactUsedOfUptoRow.holds Try.pinned (OpenSpec.upto fnExactUsedOfSpec)

/-- 'laws.FnExactWasteOfPattern', WHERE WHAT IT READS IS OF BULK AT MOST 1048576: true; the input reads as it did. -/
def fnExactWasteOfPatternUptoRow : OpenClaim := { program := "ythlhpddfifpkeaa", sum := "4abe1833f2c7e15486330c980a7edbb84ee71c495539f7bdb33ef977edaf7e63", func := "loop.example/g01334/laws.FnExactWasteOfPattern", spec := "fnExactWasteOfPattern", plainKeys := false, apart := false, narrowed := true }
def FnExactWasteOfPatternUptoSaid : Prop := fnExactWasteOfPatternUptoRow.holds Try.pinned (OpenSpec.upto fnExactWasteOfPatternSpec)

/-- 'laws.FnExactIsFullPattern', WHERE WHAT IT READS IS OF BULK AT MOST 1048576: true; the input reads as it did. -/
def fnExactIsFullPatternUptoRow : OpenClaim := { program := "ythlhpddfifpkeaa", sum := "4abe1833f2c7e15486330c980a7edbb84ee71c495539f7bdb33ef977edaf7e63", func := "loop.example/g01334/laws.FnExactIsFullPattern", spec := "fnExactIsFullPattern", plainKeys := false, apart := false, narrowed := true }
def FnExactIsFullPatternUptoSaid : Prop := fnExactIsFullPatternUptoRow.holds Try.pinned (OpenSpec.upto fnExactIsFullPatternSpec)

/-- 'laws.FnExactCountOrders', WHERE WHAT IT READS IS OF BULK AT MOST 1048576: true; the input reads as it did. -/
def fnExactCountOrdersUptoRow : OpenClaim := { program := "ythlhpddfifpkeaa", sum := "4abe1833f2c7e15486330c980a7edbb84ee71c495539f7bdb33ef977edaf7e63", func := "loop.example/g01334/laws.FnExactCountOrders", spec := "fnExactCountOrders", plainKeys := false, apart := false, narrowed := true }
def FnExactCountOrdersUptoSaid : Prop := fnExactCountOrdersUptoRow.holds Try.pinned (OpenSpec.upto fnExactCountOrdersSpec)

/-- 'laws.FnExactRodsBound', WHERE WHAT IT READS IS OF BULK AT MOST 1048576: true; the input reads as it did. -/
def fnExactRodsBoundUptoRow : OpenClaim := { program := "ythlhpddfifpkeaa", sum := "4abe1833f2c7e15486330c980a7edbb84ee71c495539f7bdb33ef977edaf7e63", func := "loop.example/g01334/laws.FnExactRodsBound", spec := "fnExactRodsBound", plainKeys := false, apart := false, narrowed := true }
def FnExactRodsBoundUptoSaid : Prop := fnExactRodsBoundUptoRow.holds Try.pinned (OpenSpec.upto fnExactRodsBoundSpec)

/-- 'laws.FnExactCountPatterns', WHERE WHAT IT READS IS OF BULK AT MOST 1048576: true; the input reads as it did. -/
def fnExactCountPatternsUptoRow : OpenClaim := { program := "ythlhpddfifpkeaa", sum := "4abe1833f2c7e15486330c980a7edbb84ee71c495539f7bdb33ef977edaf7e63", func := "loop.example/g01334/laws.FnExactCountPatterns", spec := "fnExactCountPatterns", unfollowed := true, recurses := true, plainKeys := false, apart := false, narrowed := true }
def FnExactCountPatternsUptoSaid : Prop := fnExactCountPatternsUptoRow.holds Try.pinned (OpenSpec.upto fnExactCountPatternsSpec)

/-- 'laws.FnExactLeftOver', WHERE WHAT IT READS IS OF BULK AT MOST 1048576: true; the input reads as it did. -/
def fnExactLeftOverUptoRow : OpenClaim := { program := "ythlhpddfifpkeaa", sum := "4abe1833f2c7e15486330c980a7edbb84ee71c495539f7bdb33ef977edaf7e63", func := "loop.example/g01334/laws.FnExactLeftOver", spec := "fnExactLeftOver", plainKeys := false, apart := false, narrowed := true }
def FnExactLeftOverUptoSaid : Prop := fnExactLeftOverUptoRow.holds Try.pinned (OpenSpec.upto fnExactLeftOverSpec)

/-- 'laws.FnExactWorthOfCut', WHERE WHAT IT READS IS OF BULK AT MOST 1048576: true; the input reads as it did. -/
def fnExactWorthOfCutUptoRow : OpenClaim := { program := "ythlhpddfifpkeaa", sum := "4abe1833f2c7e15486330c980a7edbb84ee71c495539f7bdb33ef977edaf7e63", func := "loop.example/g01334/laws.FnExactWorthOfCut", spec := "fnExactWorthOfCut", plainKeys := false, apart := false, narrowed := true }
def FnExactWorthOfCutUptoSaid : Prop := fnExactWorthOfCutUptoRow.holds Try.pinned (OpenSpec.upto fnExactWorthOfCutSpec)

/-- 'laws.FnExactBestRodValue', WHERE WHAT IT READS IS OF BULK AT MOST 1048576: true; the input reads as it did. -/
def fnExactBestRodValueUptoRow : OpenClaim := { program := "ythlhpddfifpkeaa", sum := "4abe1833f2c7e15486330c980a7edbb84ee71c495539f7bdb33ef977edaf7e63", func := "loop.example/g01334/laws.FnExactBestRodValue", spec := "fnExactBestRodValue", plainKeys := false, apart := false, narrowed := true }
def FnExactBestRodValueUptoSaid : Prop := fnExactBestRodValueUptoRow.holds Try.pinned (OpenSpec.upto fnExactBestRodValueSpec)

/-- 'laws.FnExactCountBestCuts', WHERE WHAT IT READS IS OF BULK AT MOST 1048576: true; the input reads as it did. -/
def fnExactCountBestCutsUptoRow : OpenClaim := { program := "ythlhpddfifpkeaa", sum := "4abe1833f2c7e15486330c980a7edbb84ee71c495539f7bdb33ef977edaf7e63", func := "loop.example/g01334/laws.FnExactCountBestCuts", spec := "fnExactCountBestCuts", plainKeys := false, apart := false, narrowed := true }
def FnExactCountBestCutsUptoSaid : Prop := fnExactCountBestCutsUptoRow.holds Try.pinned (OpenSpec.upto fnExactCountBestCutsSpec)

end Rows
end Go.Proofs.Ythlhpddfifpkeaa
