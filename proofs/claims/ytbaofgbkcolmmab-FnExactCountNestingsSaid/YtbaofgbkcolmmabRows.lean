/-
  No cell of these rows narrows 'for every input' (looked for: loops, veiled, ifaces, maps, wideKeys, modest, calm, conditions, laid).
  DERIVED. THE GIVEN ROWS OF THIS SEAT. 8 by the template 'for every input the law returns true; each argument reads behind the call as it read before'; 0 by the template 'total and deterministic' (their statements: YtbaofgbkcolmmabTotals.lean).
  GIVEN WITH THE SEED: the statements are not yours to turn. If you find one false, say at which input.
  Laid BY PROGRAM, IN A SANDBOX (cutbox-rows.mjs): the forced cells as the released guide's own fill.sh prints them over the translation 1673886b4a12a603… (all of the seat's roots in one cut). By AI agents, Wed Nov 11 2026. No macro, syntax, notation, axiom, sorry.
-/
import Derived.Test.YtbaofgbkcolmmabChecked
import GoSem.Claim
import GoSem.ClaimJoined
import GoSem.ClaimMapViews
import Derived.JoinedTies
import Derived.KernelRfl
namespace Go.Proofs.Ytbaofgbkcolmmab
/- THE CELL 'sum', in the pinned program and in every row, IS THE sha256 OF THE DUMP (.gsa) THAT YtbaofgbkcolmmabProg.lean LOADS. Nothing in Lean hashes anything: it is a label: what it is worth is what the hold of that sum in a sandbox is worth. -/
noncomputable def Try.pinned : Pinned := { name := "ytbaofgbkcolmmab", sum := "1673886b4a12a603a1fa478ac5da6b117bfb0ed7903cfc4c4cd78c8bce8c1310", checked := Try.checked }
namespace Rows
def none {H : Type} : Left H := { results := [], args := [] }

/-- 'laws.FnExactFewestOuter': WHATEVER THE INPUT: true; the input reads as it did. -/
def fnExactFewestOuterSpec : ChangeSpec := { name := "fnExactFewestOuter", fn := fun _ => fun
  | [d] => { results := [.lit (.bool true)], args := [d] }
  | _ => none }
def fnExactFewestOuterRow : OpenClaim := { program := "ytbaofgbkcolmmab", sum := "1673886b4a12a603a1fa478ac5da6b117bfb0ed7903cfc4c4cd78c8bce8c1310", func := "loop.example/g01334/laws.FnExactFewestOuter", spec := "fnExactFewestOuter", unfollowed := true, recurses := true, plainKeys := false, apart := false }
def FnExactFewestOuterSaid : Prop := fnExactFewestOuterRow.holds Try.pinned (OpenSpec.ofChange fnExactFewestOuterSpec)

/-- ITS FALSE NEIGHBOUR: 'it returns false'. Refute it at one input. -/
def fnExactFewestOuterWrong : ChangeSpec := { name := "fnExactFewestOuter", fn := fun _ => fun
  | [d] => { results := [.lit (.bool false)], args := [d] }
  | _ => none }
def FnExactFewestOuterWrongFalsely : Prop := fnExactFewestOuterRow.holds Try.pinned (OpenSpec.ofChange fnExactFewestOuterWrong)

/-- 'laws.FnExactFirstNesting': WHATEVER THE INPUT: true; the input reads as it did. -/
def fnExactFirstNestingSpec : ChangeSpec := { name := "fnExactFirstNesting", fn := fun _ => fun
  | [d] => { results := [.lit (.bool true)], args := [d] }
  | _ => none }
def fnExactFirstNestingRow : OpenClaim := { program := "ytbaofgbkcolmmab", sum := "1673886b4a12a603a1fa478ac5da6b117bfb0ed7903cfc4c4cd78c8bce8c1310", func := "loop.example/g01334/laws.FnExactFirstNesting", spec := "fnExactFirstNesting", unfollowed := true, recurses := true, plainKeys := false, apart := false }
def FnExactFirstNestingSaid : Prop := fnExactFirstNestingRow.holds Try.pinned (OpenSpec.ofChange fnExactFirstNestingSpec)

/-- ITS FALSE NEIGHBOUR: 'it returns false'. Refute it at one input. -/
def fnExactFirstNestingWrong : ChangeSpec := { name := "fnExactFirstNesting", fn := fun _ => fun
  | [d] => { results := [.lit (.bool false)], args := [d] }
  | _ => none }
def FnExactFirstNestingWrongFalsely : Prop := fnExactFirstNestingRow.holds Try.pinned (OpenSpec.ofChange fnExactFirstNestingWrong)

/-- 'laws.FnExactCountNestings': WHATEVER THE INPUT: true; the input reads as it did. -/
def fnExactCountNestingsSpec : ChangeSpec := { name := "fnExactCountNestings", fn := fun _ => fun
  | [d] => { results := [.lit (.bool true)], args := [d] }
  | _ => none }
def fnExactCountNestingsRow : OpenClaim := { program := "ytbaofgbkcolmmab", sum := "1673886b4a12a603a1fa478ac5da6b117bfb0ed7903cfc4c4cd78c8bce8c1310", func := "loop.example/g01334/laws.FnExactCountNestings", spec := "fnExactCountNestings", unfollowed := true, recurses := true, plainKeys := false, apart := false }
def FnExactCountNestingsSaid : Prop := fnExactCountNestingsRow.holds Try.pinned (OpenSpec.ofChange fnExactCountNestingsSpec)

/-- ITS FALSE NEIGHBOUR: 'it returns false'. Refute it at one input. -/
def fnExactCountNestingsWrong : ChangeSpec := { name := "fnExactCountNestings", fn := fun _ => fun
  | [d] => { results := [.lit (.bool false)], args := [d] }
  | _ => none }
def FnExactCountNestingsWrongFalsely : Prop := fnExactCountNestingsRow.holds Try.pinned (OpenSpec.ofChange fnExactCountNestingsWrong)

/-- 'laws.FnExactLeastOuterVolume': WHATEVER THE INPUT: true; the input reads as it did. -/
def fnExactLeastOuterVolumeSpec : ChangeSpec := { name := "fnExactLeastOuterVolume", fn := fun _ => fun
  | [d] => { results := [.lit (.bool true)], args := [d] }
  | _ => none }
def fnExactLeastOuterVolumeRow : OpenClaim := { program := "ytbaofgbkcolmmab", sum := "1673886b4a12a603a1fa478ac5da6b117bfb0ed7903cfc4c4cd78c8bce8c1310", func := "loop.example/g01334/laws.FnExactLeastOuterVolume", spec := "fnExactLeastOuterVolume", unfollowed := true, recurses := true, plainKeys := false, apart := false }
def FnExactLeastOuterVolumeSaid : Prop := fnExactLeastOuterVolumeRow.holds Try.pinned (OpenSpec.ofChange fnExactLeastOuterVolumeSpec)

/-- ITS FALSE NEIGHBOUR: 'it returns false'. Refute it at one input. -/
def fnExactLeastOuterVolumeWrong : ChangeSpec := { name := "fnExactLeastOuterVolume", fn := fun _ => fun
  | [d] => { results := [.lit (.bool false)], args := [d] }
  | _ => none }
def FnExactLeastOuterVolumeWrongFalsely : Prop := fnExactLeastOuterVolumeRow.holds Try.pinned (OpenSpec.ofChange fnExactLeastOuterVolumeWrong)

/-- 'laws.FnExactPackByValue': WHATEVER THE INPUT: true; the input reads as it did. -/
def fnExactPackByValueSpec : ChangeSpec := { name := "fnExactPackByValue", fn := fun _ => fun
  | [d1, d2] => { results := [.lit (.bool true)], args := [d1, d2] }
  | _ => none }
def fnExactPackByValueRow : OpenClaim := { program := "ytbaofgbkcolmmab", sum := "1673886b4a12a603a1fa478ac5da6b117bfb0ed7903cfc4c4cd78c8bce8c1310", func := "loop.example/g01334/laws.FnExactPackByValue", spec := "fnExactPackByValue", unfollowed := true, recurses := true, plainKeys := false, apart := false }
def FnExactPackByValueSaid : Prop := fnExactPackByValueRow.holds Try.pinned (OpenSpec.ofChange fnExactPackByValueSpec)

/-- ITS FALSE NEIGHBOUR: 'it returns false'. Refute it at one input. -/
def fnExactPackByValueWrong : ChangeSpec := { name := "fnExactPackByValue", fn := fun _ => fun
  | [d1, d2] => { results := [.lit (.bool false)], args := [d1, d2] }
  | _ => none }
def FnExactPackByValueWrongFalsely : Prop := fnExactPackByValueRow.holds Try.pinned (OpenSpec.ofChange fnExactPackByValueWrong)

/-- 'laws.FnExactPackByRatio': WHATEVER THE INPUT: true; the input reads as it did. -/
def fnExactPackByRatioSpec : ChangeSpec := { name := "fnExactPackByRatio", fn := fun _ => fun
  | [d1, d2] => { results := [.lit (.bool true)], args := [d1, d2] }
  | _ => none }
def fnExactPackByRatioRow : OpenClaim := { program := "ytbaofgbkcolmmab", sum := "1673886b4a12a603a1fa478ac5da6b117bfb0ed7903cfc4c4cd78c8bce8c1310", func := "loop.example/g01334/laws.FnExactPackByRatio", spec := "fnExactPackByRatio", unfollowed := true, recurses := true, plainKeys := false, apart := false }
def FnExactPackByRatioSaid : Prop := fnExactPackByRatioRow.holds Try.pinned (OpenSpec.ofChange fnExactPackByRatioSpec)

/-- ITS FALSE NEIGHBOUR: 'it returns false'. Refute it at one input. -/
def fnExactPackByRatioWrong : ChangeSpec := { name := "fnExactPackByRatio", fn := fun _ => fun
  | [d1, d2] => { results := [.lit (.bool false)], args := [d1, d2] }
  | _ => none }
def FnExactPackByRatioWrongFalsely : Prop := fnExactPackByRatioRow.holds Try.pinned (OpenSpec.ofChange fnExactPackByRatioWrong)

/-- 'laws.FnExactBestExchange': WHATEVER THE INPUT: true; the input reads as it did. -/
def fnExactBestExchangeSpec : ChangeSpec := { name := "fnExactBestExchange", fn := fun _ => fun
  | [d1, d2, d3] => { results := [.lit (.bool true)], args := [d1, d2, d3] }
  | _ => none }
def fnExactBestExchangeRow : OpenClaim := { program := "ytbaofgbkcolmmab", sum := "1673886b4a12a603a1fa478ac5da6b117bfb0ed7903cfc4c4cd78c8bce8c1310", func := "loop.example/g01334/laws.FnExactBestExchange", spec := "fnExactBestExchange", unfollowed := true, recurses := true, plainKeys := false, apart := false }
def FnExactBestExchangeSaid : Prop := fnExactBestExchangeRow.holds Try.pinned (OpenSpec.ofChange fnExactBestExchangeSpec)

/-- ITS FALSE NEIGHBOUR: 'it returns false'. Refute it at one input. -/
def fnExactBestExchangeWrong : ChangeSpec := { name := "fnExactBestExchange", fn := fun _ => fun
  | [d1, d2, d3] => { results := [.lit (.bool false)], args := [d1, d2, d3] }
  | _ => none }
def FnExactBestExchangeWrongFalsely : Prop := fnExactBestExchangeRow.holds Try.pinned (OpenSpec.ofChange fnExactBestExchangeWrong)

/-- 'laws.FnExactFullPatterns': WHATEVER THE INPUT: true; the input reads as it did. -/
def fnExactFullPatternsSpec : ChangeSpec := { name := "fnExactFullPatterns", fn := fun _ => fun
  | [d1, d2] => { results := [.lit (.bool true)], args := [d1, d2] }
  | _ => none }
def fnExactFullPatternsRow : OpenClaim := { program := "ytbaofgbkcolmmab", sum := "1673886b4a12a603a1fa478ac5da6b117bfb0ed7903cfc4c4cd78c8bce8c1310", func := "loop.example/g01334/laws.FnExactFullPatterns", spec := "fnExactFullPatterns", unfollowed := true, recurses := true, plainKeys := false, apart := false }
def FnExactFullPatternsSaid : Prop := fnExactFullPatternsRow.holds Try.pinned (OpenSpec.ofChange fnExactFullPatternsSpec)

/-- ITS FALSE NEIGHBOUR: 'it returns false'. Refute it at one input. -/
def fnExactFullPatternsWrong : ChangeSpec := { name := "fnExactFullPatterns", fn := fun _ => fun
  | [d1, d2] => { results := [.lit (.bool false)], args := [d1, d2] }
  | _ => none }
def FnExactFullPatternsWrongFalsely : Prop := fnExactFullPatternsRow.holds Try.pinned (OpenSpec.ofChange fnExactFullPatternsWrong)

/- THE SECOND FORM. 'bulk': how many values and letters a reading holds, each counted each time it is reached (what is shared counts as often as it is met; a slice's spare places count too). A statement '..UptoSaid' is the law's where the arguments, and the package variables that the reading takes, are together of bulk at most 1048576: NARROWER than '..Said'. Prove '..Said' where nothing that the law and all that it calls make is longer than what came in: it says more and counts as full. Else prove '..UptoSaid'. A law counts once. -/
mutual
def uptoBulk {H : Type} : DataW H → Nat
  | .lit (.string bytes) => bytes.length + 1
  | .lit _ => 1
  | .nil => 1
  | .ptr d => uptoBulk d + 1
  | .slice elems spare => uptoBulkAll elems + uptoBulkAll spare + 1
  | .agg parts => uptoBulkAll parts + 1
  | .iface _ d => uptoBulk d + 1
  | .map entries => uptoBulkEntries entries + 1
  | .held _ => 1
def uptoBulkAll {H : Type} : List (DataW H) → Nat
  | [] => 0
  | d :: r => uptoBulk d + uptoBulkAll r
def uptoBulkEntries {H : Type} : List (Lit × DataW H) → Nat
  | [] => 0
  | x :: r => uptoBulkEntry x + uptoBulkEntries r
def uptoBulkEntry {H : Type} : Lit × DataW H → Nat
  | (.string bytes, d) => bytes.length + uptoBulk d + 1
  | (_, d) => uptoBulk d + 1
 end
def uptoSmall : (H : Type) → List (DataW H) → Bool := fun _ ds => decide (uptoBulkAll ds ≤ 1048576)
def OpenSpec.upto (s : _root_.Go.ChangeSpec) : _root_.Go.OpenSpec := { _root_.Go.OpenSpec.ofChange s with cond := some uptoSmall }

/-- 'laws.FnExactFewestOuter', WHERE WHAT IT READS IS OF BULK AT MOST 1048576: true; the input reads as it did. -/
def fnExactFewestOuterUptoRow : OpenClaim := { program := "ytbaofgbkcolmmab", sum := "1673886b4a12a603a1fa478ac5da6b117bfb0ed7903cfc4c4cd78c8bce8c1310", func := "loop.example/g01334/laws.FnExactFewestOuter", spec := "fnExactFewestOuter", unfollowed := true, recurses := true, plainKeys := false, apart := false, narrowed := true }
def FnExactFewestOuterUptoSaid : Prop := fnExactFewestOuterUptoRow.holds Try.pinned (OpenSpec.upto fnExactFewestOuterSpec)

/-- 'laws.FnExactFirstNesting', WHERE WHAT IT READS IS OF BULK AT MOST 1048576: true; the input reads as it did. -/
def fnExactFirstNestingUptoRow : OpenClaim := { program := "ytbaofgbkcolmmab", sum := "1673886b4a12a603a1fa478ac5da6b117bfb0ed7903cfc4c4cd78c8bce8c1310", func := "loop.example/g01334/laws.FnExactFirstNesting", spec := "fnExactFirstNesting", unfollowed := true, recurses := true, plainKeys := false, apart := false, narrowed := true }
def FnExactFirstNestingUptoSaid : Prop := fnExactFirstNestingUptoRow.holds Try.pinned (OpenSpec.upto fnExactFirstNestingSpec)

/-- 'laws.FnExactCountNestings', WHERE WHAT IT READS IS OF BULK AT MOST 1048576: true; the input reads as it did. -/
def fnExactCountNestingsUptoRow : OpenClaim := { program := "ytbaofgbkcolmmab", sum := "1673886b4a12a603a1fa478ac5da6b117bfb0ed7903cfc4c4cd78c8bce8c1310", func := "loop.example/g01334/laws.FnExactCountNestings", spec := "fnExactCountNestings", unfollowed := true, recurses := true, plainKeys := false, apart := false, narrowed := true }
def FnExactCountNestingsUptoSaid : Prop := fnExactCountNestingsUptoRow.holds Try.pinned (OpenSpec.upto fnExactCountNestingsSpec)

/-- 'laws.FnExactLeastOuterVolume', WHERE WHAT IT READS IS OF BULK AT MOST 1048576: true; the input reads as it did. -/
def fnExactLeastOuterVolumeUptoRow : OpenClaim := { program := "ytbaofgbkcolmmab", sum := "1673886b4a12a603a1fa478ac5da6b117bfb0ed7903cfc4c4cd78c8bce8c1310", func := "loop.example/g01334/laws.FnExactLeastOuterVolume", spec := "fnExactLeastOuterVolume", unfollowed := true, recurses := true, plainKeys := false, apart := false, narrowed := true }
def FnExactLeastOuterVolumeUptoSaid : Prop := fnExactLeastOuterVolumeUptoRow.holds Try.pinned (OpenSpec.upto fnExactLeastOuterVolumeSpec)

/-- 'laws.FnExactPackByValue', WHERE WHAT IT READS IS OF BULK AT MOST 1048576: true; the input reads as it did. -/
def fnExactPackByValueUptoRow : OpenClaim := { program := "ytbaofgbkcolmmab", sum := "1673886b4a12a603a1fa478ac5da6b117bfb0ed7903cfc4c4cd78c8bce8c1310", func := "loop.example/g01334/laws.FnExactPackByValue", spec := "fnExactPackByValue", unfollowed := true, recurses := true, plainKeys := false, apart := false, narrowed := true }
def FnExactPackByValueUptoSaid : Prop := fnExactPackByValueUptoRow.holds Try.pinned (OpenSpec.upto fnExactPackByValueSpec)

/-- 'laws.FnExactPackByRatio', WHERE WHAT IT READS IS OF BULK AT MOST 1048576: true; the input reads as it did. -/
def fnExactPackByRatioUptoRow : OpenClaim := { program := "ytbaofgbkcolmmab", sum := "1673886b4a12a603a1fa478ac5da6b117bfb0ed7903cfc4c4cd78c8bce8c1310", func := "loop.example/g01334/laws.FnExactPackByRatio", spec := "fnExactPackByRatio", unfollowed := true, recurses := true, plainKeys := false, apart := false, narrowed := true }
def FnExactPackByRatioUptoSaid : Prop := fnExactPackByRatioUptoRow.holds Try.pinned (OpenSpec.upto fnExactPackByRatioSpec)

/-- 'laws.FnExactBestExchange', WHERE WHAT IT READS IS OF BULK AT MOST 1048576: true; the input reads as it did. -/
def fnExactBestExchangeUptoRow : OpenClaim := { program := "ytbaofgbkcolmmab", sum := "1673886b4a12a603a1fa478ac5da6b117bfb0ed7903cfc4c4cd78c8bce8c1310", func := "loop.example/g01334/laws.FnExactBestExchange", spec := "fnExactBestExchange", unfollowed := true, recurses := true, plainKeys := false, apart := false, narrowed := true }
def FnExactBestExchangeUptoSaid : Prop := fnExactBestExchangeUptoRow.holds Try.pinned (OpenSpec.upto fnExactBestExchangeSpec)

/-- 'laws.FnExactFullPatterns', WHERE WHAT IT READS IS OF BULK AT MOST 1048576: true; the input reads as it did. -/
def fnExactFullPatternsUptoRow : OpenClaim := { program := "ytbaofgbkcolmmab", sum := "1673886b4a12a603a1fa478ac5da6b117bfb0ed7903cfc4c4cd78c8bce8c1310", func := "loop.example/g01334/laws.FnExactFullPatterns", spec := "fnExactFullPatterns", unfollowed := true, recurses := true, plainKeys := false, apart := false, narrowed := true }
def FnExactFullPatternsUptoSaid : Prop := fnExactFullPatternsUptoRow.holds Try.pinned (OpenSpec.upto fnExactFullPatternsSpec)

end Rows
end Go.Proofs.Ytbaofgbkcolmmab
