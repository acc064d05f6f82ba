/-
  No cell of these rows narrows 'for every input' (looked for: loops, veiled, ifaces, maps, wideKeys, modest, calm, conditions, laid).
  DERIVED. THE GIVEN ROWS OF THIS SEAT. 6 by the template 'for every input the law returns true; each argument reads behind the call as it read before'; 0 by the template 'total and deterministic' (their statements: YtjpejhpilfjheabTotals.lean).
  GIVEN WITH THE SEED: the statements are not yours to turn. If you find one false, say at which input.
  Laid BY PROGRAM, IN A SANDBOX (cutbox-rows.mjs): the forced cells as the released guide's own fill.sh prints them over the translation d877b253affba176… (all of the seat's roots in one cut). By AI agents, Wed Nov 11 2026. No macro, syntax, notation, axiom, sorry.
-/
import Derived.Test.YtjpejhpilfjheabChecked
import GoSem.Claim
import GoSem.ClaimJoined
import GoSem.ClaimMapViews
import Derived.JoinedTies
import Derived.KernelRfl
namespace Go.Proofs.Ytjpejhpilfjheab
/- THE CELL 'sum', in the pinned program and in every row, IS THE sha256 OF THE DUMP (.gsa) THAT YtjpejhpilfjheabProg.lean LOADS. Nothing in Lean hashes anything: it is a label: what it is worth is what the hold of that sum in a sandbox is worth. -/
noncomputable def Try.pinned : Pinned := { name := "ytjpejhpilfjheab", sum := "d877b253affba17624d670cb0cc4f9f2d7bec360e6734b6da806e884e89b09dd", checked := Try.checked }
namespace Rows
def none {H : Type} : Left H := { results := [], args := [] }

/-- 'laws.FnExactLeftOver': WHATEVER THE INPUT: true; the input reads as it did. -/
def fnExactLeftOverSpec : ChangeSpec := { name := "fnExactLeftOver", fn := fun _ => fun
  | [d1, d2] => { results := [.lit (.bool true)], args := [d1, d2] }
  | _ => none }
def fnExactLeftOverRow : OpenClaim := { program := "ytjpejhpilfjheab", sum := "d877b253affba17624d670cb0cc4f9f2d7bec360e6734b6da806e884e89b09dd", func := "loop.example/g01334/laws.FnExactLeftOver", spec := "fnExactLeftOver", plainKeys := false, apart := false }
def FnExactLeftOverSaid : Prop := fnExactLeftOverRow.holds Try.pinned (OpenSpec.ofChange fnExactLeftOverSpec)

/-- ITS FALSE NEIGHBOUR: 'it returns false'. Refute it at one input. -/
def fnExactLeftOverWrong : ChangeSpec := { name := "fnExactLeftOver", fn := fun _ => fun
  | [d1, d2] => { results := [.lit (.bool false)], args := [d1, d2] }
  | _ => none }
def FnExactLeftOverWrongFalsely : Prop := fnExactLeftOverRow.holds Try.pinned (OpenSpec.ofChange fnExactLeftOverWrong)

/-- 'laws.FnExactBestExchange': WHATEVER THE INPUT: true; the input reads as it did. -/
def fnExactBestExchangeSpec : ChangeSpec := { name := "fnExactBestExchange", fn := fun _ => fun
  | [d1, d2, d3] => { results := [.lit (.bool true)], args := [d1, d2, d3] }
  | _ => none }
def fnExactBestExchangeRow : OpenClaim := { program := "ytjpejhpilfjheab", sum := "d877b253affba17624d670cb0cc4f9f2d7bec360e6734b6da806e884e89b09dd", func := "loop.example/g01334/laws.FnExactBestExchange", spec := "fnExactBestExchange", unfollowed := true, recurses := true, plainKeys := false, apart := false }
def FnExactBestExchangeSaid : Prop := fnExactBestExchangeRow.holds Try.pinned (OpenSpec.ofChange fnExactBestExchangeSpec)

/-- ITS FALSE NEIGHBOUR: 'it returns false'. Refute it at one input. -/
def fnExactBestExchangeWrong : ChangeSpec := { name := "fnExactBestExchange", fn := fun _ => fun
  | [d1, d2, d3] => { results := [.lit (.bool false)], args := [d1, d2, d3] }
  | _ => none }
def FnExactBestExchangeWrongFalsely : Prop := fnExactBestExchangeRow.holds Try.pinned (OpenSpec.ofChange fnExactBestExchangeWrong)

/-- 'laws.FnExactPackByValue': WHATEVER THE INPUT: true; the input reads as it did. -/
def fnExactPackByValueSpec : ChangeSpec := { name := "fnExactPackByValue", fn := fun _ => fun
  | [d1, d2] => { results := [.lit (.bool true)], args := [d1, d2] }
  | _ => none }
def fnExactPackByValueRow : OpenClaim := { program := "ytjpejhpilfjheab", sum := "d877b253affba17624d670cb0cc4f9f2d7bec360e6734b6da806e884e89b09dd", func := "loop.example/g01334/laws.FnExactPackByValue", spec := "fnExactPackByValue", unfollowed := true, recurses := true, plainKeys := false, apart := false }
def FnExactPackByValueSaid : Prop := fnExactPackByValueRow.holds Try.pinned (OpenSpec.ofChange fnExactPackByValueSpec)

/-- ITS FALSE NEIGHBOUR: 'it returns false'. Refute it at one input. -/
def fnExactPackByValueWrong : ChangeSpec := { name := "fnExactPackByValue", fn := fun _ => fun
  | [d1, d2] => { results := [.lit (.bool false)], args := [d1, d2] }
  | _ => none }
def FnExactPackByValueWrongFalsely : Prop := fnExactPackByValueRow.holds Try.pinned (OpenSpec.ofChange fnExactPackByValueWrong)

/-- 'laws.FnExactPackByRatio': WHATEVER THE INPUT: true; the input reads as it did. -/
def fnExactPackByRatioSpec : ChangeSpec := { name := "fnExactPackByRatio", fn := fun _ => fun
  | [d1, d2] => { results := [.lit (.bool true)], args := [d1, d2] }
  | _ => none }
def fnExactPackByRatioRow : OpenClaim := { program := "ytjpejhpilfjheab", sum := "d877b253affba17624d670cb0cc4f9f2d7bec360e6734b6da806e884e89b09dd", func := "loop.example/g01334/laws.FnExactPackByRatio", spec := "fnExactPackByRatio", unfollowed := true, recurses := true, plainKeys := false, apart := false }
def FnExactPackByRatioSaid : Prop := fnExactPackByRatioRow.holds Try.pinned (OpenSpec.ofChange fnExactPackByRatioSpec)

/-- ITS FALSE NEIGHBOUR: 'it returns false'. Refute it at one input. -/
def fnExactPackByRatioWrong : ChangeSpec := { name := "fnExactPackByRatio", fn := fun _ => fun
  | [d1, d2] => { results := [.lit (.bool false)], args := [d1, d2] }
  | _ => none }
def FnExactPackByRatioWrongFalsely : Prop := fnExactPackByRatioRow.holds Try.pinned (OpenSpec.ofChange fnExactPackByRatioWrong)

/-- 'laws.FnExactFullPatterns': WHATEVER THE INPUT: true; the input reads as it did. -/
def fnExactFullPatternsSpec : ChangeSpec := { name := "fnExactFullPatterns", fn := fun _ => fun
  | [d1, d2] => { results := [.lit (.bool true)], args := [d1, d2] }
  | _ => none }
def fnExactFullPatternsRow : OpenClaim := { program := "ytjpejhpilfjheab", sum := "d877b253affba17624d670cb0cc4f9f2d7bec360e6734b6da806e884e89b09dd", func := "loop.example/g01334/laws.FnExactFullPatterns", spec := "fnExactFullPatterns", unfollowed := true, recurses := true, plainKeys := false, apart := false }
def FnExactFullPatternsSaid : Prop := fnExactFullPatternsRow.holds Try.pinned (OpenSpec.ofChange fnExactFullPatternsSpec)

/-- ITS FALSE NEIGHBOUR: 'it returns false'. Refute it at one input. -/
def fnExactFullPatternsWrong : ChangeSpec := { name := "fnExactFullPatterns", fn := fun _ => fun
  | [d1, d2] => { results := [.lit (.bool false)], args := [d1, d2] }
  | _ => none }
def FnExactFullPatternsWrongFalsely : Prop := fnExactFullPatternsRow.holds Try.pinned (OpenSpec.ofChange fnExactFullPatternsWrong)

/-- 'laws.FnExactLongestFirstRods': WHATEVER THE INPUT: true; the input reads as it did. -/
def fnExactLongestFirstRodsSpec : ChangeSpec := { name := "fnExactLongestFirstRods", fn := fun _ => fun
  | [d1, d2, d3] => { results := [.lit (.bool true)], args := [d1, d2, d3] }
  | _ => none }
def fnExactLongestFirstRodsRow : OpenClaim := { program := "ytjpejhpilfjheab", sum := "d877b253affba17624d670cb0cc4f9f2d7bec360e6734b6da806e884e89b09dd", func := "loop.example/g01334/laws.FnExactLongestFirstRods", spec := "fnExactLongestFirstRods", unfollowed := true, recurses := true, plainKeys := false, apart := false }
def FnExactLongestFirstRodsSaid : Prop := fnExactLongestFirstRodsRow.holds Try.pinned (OpenSpec.ofChange fnExactLongestFirstRodsSpec)

/-- ITS FALSE NEIGHBOUR: 'it returns false'. Refute it at one input. -/
def fnExactLongestFirstRodsWrong : ChangeSpec := { name := "fnExactLongestFirstRods", fn := fun _ => fun
  | [d1, d2, d3] => { results := [.lit (.bool false)], args := [d1, d2, d3] }
  | _ => none }
def FnExactLongestFirstRodsWrongFalsely : Prop := fnExactLongestFirstRodsRow.holds Try.pinned (OpenSpec.ofChange fnExactLongestFirstRodsWrong)

/- THE SECOND FORM. 'bulk': how many values and letters a reading holds, each counted each time it is reached (what is shared counts as often as it is met; a slice's spare places count too). A statement '..UptoSaid' is the law's where the arguments, and the package variables that the reading takes, are together of bulk at most 1048576: NARROWER than '..Said'. Prove '..Said' where nothing that the law and all that it calls make is longer than what came in: it says more and counts as full. Else prove '..UptoSaid'. A law counts once. -/
mutual
def uptoBulk {H : Type} : DataW H → Nat
  | .lit (.string bytes) => bytes.length + 1
  | .lit _ => 1
  | .nil => 1
  | .ptr d => uptoBulk d + 1
  | .slice elems spare => uptoBulkAll elems + uptoBulkAll spare + 1
  | .agg parts => uptoBulkAll parts + 1
  | .iface _ d => uptoBulk d + 1
  | .map entries => uptoBulkEntries entries + 1
  | .held _ => 1
def uptoBulkAll {H : Type} : List (DataW H) → Nat
  | [] => 0
  | d :: r => uptoBulk d + uptoBulkAll r
def uptoBulkEntries {H : Type} : List (Lit × DataW H) → Nat
  | [] => 0
  | x :: r => uptoBulkEntry x + uptoBulkEntries r
def uptoBulkEntry {H : Type} : Lit × DataW H → Nat
  | (.string bytes, d) => bytes.length + uptoBulk d + 1
  | (_, d) => uptoBulk d + 1
 end
def uptoSmall : (H : Type) → List (DataW H) → Bool := fun _ ds => decide (uptoBulkAll ds ≤ 1048576)
def OpenSpec.upto (s : _root_.Go.ChangeSpec) : _root_.Go.OpenSpec := { _root_.Go.OpenSpec.ofChange s with cond := some uptoSmall }

/-- 'laws.FnExactLeftOver', WHERE WHAT IT READS IS OF BULK AT MOST 1048576: true; the input reads as it did. -/
def fnExactLeftOverUptoRow : OpenClaim := { program := "ytjpejhpilfjheab", sum := "d877b253affba17624d670cb0cc4f9f2d7bec360e6734b6da806e884e89b09dd", func := "loop.example/g01334/laws.FnExactLeftOver", spec := "fnExactLeftOver", plainKeys := false, apart := false, narrowed := true }
def FnExactLeftOverUptoSaid : Prop := fnExactLeftOverUptoRow.holds Try.pinned (OpenSpec.upto fnExactLeftOverSpec)

/-- 'laws.FnExactBestExchange', WHERE WHAT IT READS IS OF BULK AT MOST 1048576: true; the input reads as it did. -/
def fnExactBestExchangeUptoRow : OpenClaim := { program := "ytjpejhpilfjheab", sum := "d877b253affba17624d670cb0cc4f9f2d7bec360e6734b6da806e884e89b09dd", func := "loop.example/g01334/laws.FnExactBestExchange", spec := "fnExactBestExchange", unfollowed := true, recurses := true, plainKeys := false, apart := false, narrowed := true }
def FnExactBestExchangeUptoSaid : Prop := fnExactBestExchangeUptoRow.holds Try.pinned (OpenSpec.upto fnExactBestExchangeSpec)

/-- 'laws.FnExactPackByValue', WHERE WHAT IT READS IS OF BULK AT MOST 1048576: true; the input reads as it did. -/
def fnExactPackByValueUptoRow : OpenClaim := { program := "ytjpejhpilfjheab", sum := "d877b253affba17624d670cb0cc4f9f2d7bec360e6734b6da806e884e89b09dd", func := "loop.example/g01334/laws.FnExactPackByValue", spec := "fnExactPackByValue", unfollowed := true, recurses := true, plainKeys := false, apart := false, narrowed := true }
def FnExactPackByValueUptoSaid : Prop := fnExactPackByValueUptoRow.holds Try.pinned (OpenSpec.upto fnExactPackByValueSpec)

/-- 'laws.FnExactPackByRatio', WHERE WHAT IT READS IS OF BULK AT MOST 1048576: true; the input reads as it did. -/
def fnExactPackByRatioUptoRow : OpenClaim := { program := "ytjpejhpilfjheab", sum := "d877b253affba17624d670cb0cc4f9f2d7bec360e6734b6da806e884e89b09dd", func := "loop.example/g01334/laws.FnExactPackByRatio", spec := "fnExactPackByRatio", unfollowed := true, recurses := true, plainKeys := false, apart := false, narrowed := true }
def FnExactPackByRatioUptoSaid : Prop := fnExactPackByRatioUptoRow.holds Try.pinned (OpenSpec.upto fnExactPackByRatioSpec)

/-- 'laws.FnExactFullPatterns', WHERE WHAT IT READS IS OF BULK AT MOST 1048576: true; the input reads as it did. -/
def fnExactFullPatternsUptoRow : OpenClaim := { program := "ytjpejhpilfjheab", sum := "d877b253affba17624d670cb0cc4f9f2d7bec360e6734b6da806e884e89b09dd", func := "loop.example/g01334/laws.FnExactFullPatterns", spec := "fnExactFullPatterns", unfollowed := true, recurses := true, plainKeys := false, apart := false, narrowed := true }
def FnExactFullPatternsUptoSaid : Prop := fnExactFullPatternsUptoRow.holds Try.pinned (OpenSpec.upto fnExactFullPatternsSpec)

/-- 'laws.FnExactLongestFirstRods', WHERE WHAT IT READS IS OF BULK AT MOST 1048576: true; the input reads as it did. -/
def fnExactLongestFirstRodsUptoRow : OpenClaim := { program := "ytjpejhpilfjheab", sum := "d877b253affba17624d670cb0cc4f9f2d7bec360e6734b6da806e884e89b09dd", func := "loop.example/g01334/laws.FnExactLongestFirstRods", spec := "fnExactLongestFirstRods", unfollowed := true, recurses := true, plainKeys := false, apart := false, narrowed := true }
def FnExactLongestFirstRodsUptoSaid : Prop := fnExactLongestFirstRodsUptoRow.holds Try.pinned (OpenSpec.upto fnExactLongestFirstRodsSpec)

end Rows
end Go.Proofs.Ytjpejhpilfjheab
