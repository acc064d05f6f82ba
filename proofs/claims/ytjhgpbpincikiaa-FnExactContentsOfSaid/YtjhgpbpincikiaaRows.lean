/-
  No cell of these rows narrows 'for every input' (looked for: loops, veiled, ifaces, maps, wideKeys, modest, calm, conditions, laid).
  DERIVED. THE GIVEN ROWS OF THIS SEAT. 8 by the template 'for every input the law returns true; each argument reads behind the call as it read before'; 0 by the template 'total and deterministic' (their statements: YtjhgpbpincikiaaTotals.lean).
  GIVEN WITH THE SEED: the statements are not yours to turn. If you find one false, say at which input.
  Laid BY PROGRAM, IN A SANDBOX (cutbox-rows.mjs): the forced cells as the released guide's own fill.sh prints them over the translation c85574d38ce41b0b… (all of the seat's roots in one cut). By AI agents, Wed Nov 11 2026. No macro, syntax, notation, axiom, sorry.
-/
import Derived.Test.YtjhgpbpincikiaaChecked
import GoSem.Claim
import GoSem.ClaimJoined
import GoSem.ClaimMapViews
import Derived.JoinedTies
import Derived.KernelRfl
namespace Go.Proofs.Ytjhgpbpincikiaa
/- THE CELL 'sum', in the pinned program and in every row, IS THE sha256 OF THE DUMP (.gsa) THAT YtjhgpbpincikiaaProg.lean LOADS. Nothing in Lean hashes anything: it is a label: what it is worth is what the hold of that sum in a sandbox is worth. -/
noncomputable def Try.pinned : Pinned := { name := "ytjhgpbpincikiaa", sum := "c85574d38ce41b0bd5ae56b911e65f554b0fa30899e57aa38799452a97c3a3aa", checked := Try.checked }
namespace Rows
def none {H : Type} : Left H := { results := [], args := [] }

/-- 'laws.FnExactFewestOuter': WHATEVER THE INPUT: true; the input reads as it did. -/
def fnExactFewestOuterSpec : ChangeSpec := { name := "fnExactFewestOuter", fn := fun _ => fun
  | [d] => { results := [.lit (.bool true)], args := [d] }
  | _ => none }
def fnExactFewestOuterRow : OpenClaim := { program := "ytjhgpbpincikiaa", sum := "c85574d38ce41b0bd5ae56b911e65f554b0fa30899e57aa38799452a97c3a3aa", func := "loop.example/g01334/laws.FnExactFewestOuter", spec := "fnExactFewestOuter", unfollowed := true, recurses := true, plainKeys := false, apart := false }
def FnExactFewestOuterSaid : Prop := fnExactFewestOuterRow.holds Try.pinned (OpenSpec.ofChange fnExactFewestOuterSpec)

/-- ITS FALSE NEIGHBOUR: 'it returns false'. Refute it at one input. -/
def fnExactFewestOuterWrong : ChangeSpec := { name := "fnExactFewestOuter", fn := fun _ => fun
  | [d] => { results := [.lit (.bool false)], args := [d] }
  | _ => none }
def FnExactFewestOuterWrongFalsely : Prop := fnExactFewestOuterRow.holds Try.pinned (OpenSpec.ofChange fnExactFewestOuterWrong)

/-- 'laws.FnExactFirstNesting': WHATEVER THE INPUT: true; the input reads as it did. -/
def fnExactFirstNestingSpec : ChangeSpec := { name := "fnExactFirstNesting", fn := fun _ => fun
  | [d] => { results := [.lit (.bool true)], args := [d] }
  | _ => none }
def fnExactFirstNestingRow : OpenClaim := { program := "ytjhgpbpincikiaa", sum := "c85574d38ce41b0bd5ae56b911e65f554b0fa30899e57aa38799452a97c3a3aa", func := "loop.example/g01334/laws.FnExactFirstNesting", spec := "fnExactFirstNesting", unfollowed := true, recurses := true, plainKeys := false, apart := false }
def FnExactFirstNestingSaid : Prop := fnExactFirstNestingRow.holds Try.pinned (OpenSpec.ofChange fnExactFirstNestingSpec)

/-- ITS FALSE NEIGHBOUR: 'it returns false'. Refute it at one input. -/
def fnExactFirstNestingWrong : ChangeSpec := { name := "fnExactFirstNesting", fn := fun _ => fun
  | [d] => { results := [.lit (.bool false)], args := [d] }
  | _ => none }
def FnExactFirstNestingWrongFalsely : Prop := fnExactFirstNestingRow.holds Try.pinned (OpenSpec.ofChange fnExactFirstNestingWrong)

/-- 'laws.FnExactCountNestings': WHATEVER THE INPUT: true; the input reads as it did. -/
def fnExactCountNestingsSpec : ChangeSpec := { name := "fnExactCountNestings", fn := fun _ => fun
  | [d] => { results := [.lit (.bool true)], args := [d] }
  | _ => none }
def fnExactCountNestingsRow : OpenClaim := { program := "ytjhgpbpincikiaa", sum := "c85574d38ce41b0bd5ae56b911e65f554b0fa30899e57aa38799452a97c3a3aa", func := "loop.example/g01334/laws.FnExactCountNestings", spec := "fnExactCountNestings", unfollowed := true, recurses := true, plainKeys := false, apart := false }
def FnExactCountNestingsSaid : Prop := fnExactCountNestingsRow.holds Try.pinned (OpenSpec.ofChange fnExactCountNestingsSpec)

/-- ITS FALSE NEIGHBOUR: 'it returns false'. Refute it at one input. -/
def fnExactCountNestingsWrong : ChangeSpec := { name := "fnExactCountNestings", fn := fun _ => fun
  | [d] => { results := [.lit (.bool false)], args := [d] }
  | _ => none }
def FnExactCountNestingsWrongFalsely : Prop := fnExactCountNestingsRow.holds Try.pinned (OpenSpec.ofChange fnExactCountNestingsWrong)

/-- 'laws.FnExactLeastOuterVolume': WHATEVER THE INPUT: true; the input reads as it did. -/
def fnExactLeastOuterVolumeSpec : ChangeSpec := { name := "fnExactLeastOuterVolume", fn := fun _ => fun
  | [d] => { results := [.lit (.bool true)], args := [d] }
  | _ => none }
def fnExactLeastOuterVolumeRow : OpenClaim := { program := "ytjhgpbpincikiaa", sum := "c85574d38ce41b0bd5ae56b911e65f554b0fa30899e57aa38799452a97c3a3aa", func := "loop.example/g01334/laws.FnExactLeastOuterVolume", spec := "fnExactLeastOuterVolume", unfollowed := true, recurses := true, plainKeys := false, apart := false }
def FnExactLeastOuterVolumeSaid : Prop := fnExactLeastOuterVolumeRow.holds Try.pinned (OpenSpec.ofChange fnExactLeastOuterVolumeSpec)

/-- ITS FALSE NEIGHBOUR: 'it returns false'. Refute it at one input. -/
def fnExactLeastOuterVolumeWrong : ChangeSpec := { name := "fnExactLeastOuterVolume", fn := fun _ => fun
  | [d] => { results := [.lit (.bool false)], args := [d] }
  | _ => none }
def FnExactLeastOuterVolumeWrongFalsely : Prop := fnExactLeastOuterVolumeRow.holds Try.pinned (OpenSpec.ofChange fnExactLeastOuterVolumeWrong)

/-- 'laws.FnExactContentsOf': WHATEVER THE INPUT: true; the input reads as it did. -/
def fnExactContentsOfSpec : ChangeSpec := { name := "fnExactContentsOf", fn := fun _ => fun
  | [d1, d2, d3] => { results := [.lit (.bool true)], args := [d1, d2, d3] }
  | _ => none }
def fnExactContentsOfRow : OpenClaim := { program := "ytjhgpbpincikiaa", sum := "c85574d38ce41b0bd5ae56b911e65f554b0fa30899e57aa38799452a97c3a3aa", func := "loop.example/g01334/laws.FnExactContentsOf", spec := "fnExactContentsOf", recurses := true, plainKeys := false, apart := false }
def FnExactContentsOfSaid : Prop := fnExactContentsOfRow.holds Try.pinned (OpenSpec.ofChange fnExactContentsOfSpec)

/-- ITS FALSE NEIGHBOUR: 'it returns false'. Refute it at one input. -/
def fnExactContentsOfWrong : ChangeSpec := { name := "fnExactContentsOf", fn := fun _ => fun
  | [d1, d2, d3] => { results := [.lit (.bool false)], args := [d1, d2, d3] }
  | _ => none }
def FnExactContentsOfWrongFalsely : Prop := fnExactContentsOfRow.holds Try.pinned (OpenSpec.ofChange fnExactContentsOfWrong)

/-- 'laws.FnExactFullPatterns': WHATEVER THE INPUT: true; the input reads as it did. -/
def fnExactFullPatternsSpec : ChangeSpec := { name := "fnExactFullPatterns", fn := fun _ => fun
  | [d1, d2] => { results := [.lit (.bool true)], args := [d1, d2] }
  | _ => none }
def fnExactFullPatternsRow : OpenClaim := { program := "ytjhgpbpincikiaa", sum := "c85574d38ce41b0bd5ae56b911e65f554b0fa30899e57aa38799452a97c3a3aa", func := "loop.example/g01334/laws.FnExactFullPatterns", spec := "fnExactFullPatterns", unfollowed := true, recurses := true, plainKeys := false, apart := false }
def FnExactFullPatternsSaid : Prop := fnExactFullPatternsRow.holds Try.pinned (OpenSpec.ofChange fnExactFullPatternsSpec)

/-- ITS FALSE NEIGHBOUR: 'it returns false'. Refute it at one input. -/
def fnExactFullPatternsWrong : ChangeSpec := { name := "fnExactFullPatterns", fn := fun _ => fun
  | [d1, d2] => { results := [.lit (.bool false)], args := [d1, d2] }
  | _ => none }
def FnExactFullPatternsWrongFalsely : Prop := fnExactFullPatternsRow.holds Try.pinned (OpenSpec.ofChange fnExactFullPatternsWrong)

/-- 'laws.FnExactLeftOver': WHATEVER THE INPUT: true; the input reads as it did. -/
def fnExactLeftOverSpec : ChangeSpec := { name := "fnExactLeftOver", fn := fun _ => fun
  | [d1, d2] => { results := [.lit (.bool true)], args := [d1, d2] }
  | _ => none }
def fnExactLeftOverRow : OpenClaim := { program := "ytjhgpbpincikiaa", sum := "c85574d38ce41b0bd5ae56b911e65f554b0fa30899e57aa38799452a97c3a3aa", func := "loop.example/g01334/laws.FnExactLeftOver", spec := "fnExactLeftOver", plainKeys := false, apart := false }
def FnExactLeftOverSaid : Prop := fnExactLeftOverRow.holds Try.pinned (OpenSpec.ofChange fnExactLeftOverSpec)

/-- ITS FALSE NEIGHBOUR: 'it returns false'. Refute it at one input. -/
def fnExactLeftOverWrong : ChangeSpec := { name := "fnExactLeftOver", fn := fun _ => fun
  | [d1, d2] => { results := [.lit (.bool false)], args := [d1, d2] }
  | _ => none }
def FnExactLeftOverWrongFalsely : Prop := fnExactLeftOverRow.holds Try.pinned (OpenSpec.ofChange fnExactLeftOverWrong)

/-- 'laws.FnExactLongestFirstRods': WHATEVER THE INPUT: true; the input reads as it did. -/
def fnExactLongestFirstRodsSpec : ChangeSpec := { name := "fnExactLongestFirstRods", fn := fun _ => fun
  | [d1, d2, d3] => { results := [.lit (.bool true)], args := [d1, d2, d3] }
  | _ => none }
def fnExactLongestFirstRodsRow : OpenClaim := { program := "ytjhgpbpincikiaa", sum := "c85574d38ce41b0bd5ae56b911e65f554b0fa30899e57aa38799452a97c3a3aa", func := "loop.example/g01334/laws.FnExactLongestFirstRods", spec := "fnExactLongestFirstRods", unfollowed := true, recurses := true, plainKeys := false, apart := false }
def FnExactLongestFirstRodsSaid : Prop := fnExactLongestFirstRodsRow.holds Try.pinned (OpenSpec.ofChange fnExactLongestFirstRodsSpec)

/-- ITS FALSE NEIGHBOUR: 'it returns false'. Refute it at one input. -/
def fnExactLongestFirstRodsWrong : ChangeSpec := { name := "fnExactLongestFirstRods", fn := fun _ => fun
  | [d1, d2, d3] => { results := [.lit (.bool false)], args := [d1, d2, d3] }
  | _ => none }
def FnExactLongestFirstRodsWrongFalsely : Prop := fnExactLongestFirstRodsRow.holds Try.pinned (OpenSpec.ofChange fnExactLongestFirstRodsWrong)

/- THE SECOND FORM. 'bulk': how many values and letters a reading holds, each counted each time it is reached (what is shared counts as often as it is met; a slice's spare places count too). A statement '..UptoSaid' is the law's where the arguments, and the package variables that the reading takes, are together of bulk at most 1048576: NARROWER than '..Said'. Prove '..Said' where nothing that the law and all that it calls make is longer than what came in: it says more and counts as full. Else prove '..UptoSaid'. A law counts once. -/
mutual
def uptoBulk {H : Type} : DataW H → Nat
  | .lit (.string bytes) => bytes.length + 1
  | .lit _ => 1
  | .nil => 1
  | .ptr d => uptoBulk d + 1
  | .slice elems spare => uptoBulkAll elems + uptoBulkAll spare + 1
  | .agg parts => uptoBulkAll parts + 1
  | .iface _ d => uptoBulk d + 1
  | .map entries => uptoBulkEntries entries + 1
  | .held _ => 1
def uptoBulkAll {H : Type} : List (DataW H) → Nat
  | [] => 0
  | d :: r => uptoBulk d + uptoBulkAll r
def uptoBulkEntries {H : Type} : List (Lit × DataW H) → Nat
  | [] => 0
  | x :: r => uptoBulkEntry x + uptoBulkEntries r
def uptoBulkEntry {H : Type} : Lit × DataW H → Nat
  | (.string bytes, d) => bytes.length + uptoBulk d + 1
  | (_, d) => uptoBulk d + 1
 end
def uptoSmall : (H : Type) → List (DataW H) → Bool := fun _ ds => decide (uptoBulkAll ds ≤ 1048576)
def OpenSpec.upto (s : _root_.Go.ChangeSpec) : _root_.Go.OpenSpec := { _root_.Go.OpenSpec.ofChange s with cond := some uptoSmall }

/-- 'laws.FnExactFewestOuter', WHERE WHAT IT READS IS OF BULK AT MOST 1048576: true; the input reads as it did. -/
def fnExactFewestOuterUptoRow : OpenClaim := { program := "ytjhgpbpincikiaa", sum := "c85574d38ce41b0bd5ae56b911e65f554b0fa30899e57aa38799452a97c3a3aa", func := "loop.example/g01334/laws.FnExactFewestOuter", spec := "fnExactFewestOuter", unfollowed := true, recurses := true, plainKeys := false, apart := false, narrowed := true }
def FnExactFewestOuterUptoSaid : Prop := fnExactFewestOuterUptoRow.holds Try.pinned (OpenSpec.upto fnExactFewestOuterSpec)

/-- 'laws.FnExactFirstNesting', WHERE WHAT IT READS IS OF BULK AT MOST 1048576: true; the input reads as it did. -/
def fnExactFirstNestingUptoRow : OpenClaim := { program := "ytjhgpbpincikiaa", sum := "c85574d38ce41b0bd5ae56b911e65f554b0fa30899e57aa38799452a97c3a3aa", func := "loop.example/g01334/laws.FnExactFirstNesting", spec := "fnExactFirstNesting", unfollowed := true, recurses := true, plainKeys := false, apart := false, narrowed := true }
def FnExactFirstNestingUptoSaid : Prop := fnExactFirstNestingUptoRow.holds Try.pinned (OpenSpec.upto fnExactFirstNestingSpec)

/-- 'laws.FnExactCountNestings', WHERE WHAT IT READS IS OF BULK AT MOST 1048576: true; the input reads as it did. -/
def fnExactCountNestingsUptoRow : OpenClaim := { program := "ytjhgpbpincikiaa", sum := "c85574d38ce41b0bd5ae56b911e65f554b0fa30899e57aa38799452a97c3a3aa", func := "loop.example/g01334/laws.FnExactCountNestings", spec := "fnExactCountNestings", unfollowed := true, recurses := true, plainKeys := false, apart := false, narrowed := true }
def FnExactCountNestingsUptoSaid : Prop := fnExactCountNestingsUptoRow.holds Try.pinned (OpenSpec.upto fnExactCountNestingsSpec)

/-- 'laws.FnExactLeastOuterVolume', WHERE WHAT IT READS IS OF BULK AT MOST 1048576: true; the input reads as it did. -/
def fnExactLeastOuterVolumeUptoRow : OpenClaim := { program := "ytjhgpbpincikiaa", sum := "c85574d38ce41b0bd5ae56b911e65f554b0fa30899e57aa38799452a97c3a3aa", func := "loop.example/g01334/laws.FnExactLeastOuterVolume", spec := "fnExactLeastOuterVolume", unfollowed := true, recurses := true, plainKeys := false, apart := false, narrowed := true }
def FnExactLeastOuterVolumeUptoSaid : Prop := fnExactLeastOuterVolumeUptoRow.holds Try.pinned (OpenSpec.upto fnExactLeastOuterVolumeSpec)

/-- 'laws.FnExactContentsOf', WHERE WHAT IT READS IS OF BULK AT MOST 1048576: true; the input reads as it did. -/
def fnExactContentsOfUptoRow : OpenClaim := { program := "ytjhgpbpincikiaa", sum := "c85574d38ce41b0bd5ae56b911e65f554b0fa30899e57aa38799452a97c3a3aa", func := "loop.example/g01334/laws.FnExactContentsOf", spec := "fnExactContentsOf", recurses := true, plainKeys := false, apart := false, narrowed := true }
def FnExactContentsOfUptoSaid : Prop := fnExactContentsOfUptoRow.holds Try.pinned (OpenSpec.upto fnExactContentsOfSpec)

/-- 'laws.FnExactFullPatterns', WHERE WHAT IT READS IS OF BULK AT MOST 1048576: true; the input reads as it did. -/
def fnExactFullPatternsUptoRow : OpenClaim := { program := "ytjhgpbpincikiaa", sum := "c85574d38ce41b0bd5ae56b911e65f554b0fa30899e57aa38799452a97c3a3aa", func := "loop.example/g01334/laws.FnExactFullPatterns", spec := "fnExactFullPatterns", unfollowed := true, recurses := true, plainKeys := false, apart := false, narrowed := true }
def FnExactFullPatternsUptoSaid : Prop := fnExactFullPatternsUptoRow.holds Try.pinned (OpenSpec.upto fnExactFullPatternsSpec)

/-- 'laws.FnExactLeftOver', WHERE WHAT IT READS IS OF BULK AT MOST 1048576: true; the input reads as it did. -/
def fnExactLeftOverUptoRow : OpenClaim := { program := "ytjhgpbpincikiaa", sum := "c85574d38ce41b0bd5ae56b911e65f554b0fa30899e57aa38799452a97c3a3aa", func := "loop.example/g01334/laws.FnExactLeftOver", spec := "fnExactLeftOver", plainKeys := false, apart := false, narrowed := true }
def FnExactLeftOverUptoSaid : Prop := fnExactLeftOverUptoRow.holds Try.pinned (OpenSpec.upto fnExactLeftOverSpec)

/-- 'laws.FnExactLongestFirstRods', WHERE WHAT IT READS IS OF BULK AT MOST 1048576: true; the input reads as it did. -/
def fnExactLongestFirstRodsUptoRow : OpenClaim := { program := "ytjhgpbpincikiaa", sum := "c85574d38ce41b0bd5ae56b911e65f554b0fa30899e57aa38799452a97c3a3aa", func := "loop.example/g01334/laws.FnExactLongestFirstRods", spec := "fnExactLongestFirstRods", unfollowed := true, recurses := true, plainKeys := false, apart := false, narrowed := true }
def FnExactLongestFirstRodsUptoSaid : Prop := fnExactLongestFirstRodsUptoRow.holds Try.pinned (OpenSpec.upto fnExactLongestFirstRodsSpec)

end Rows
end Go.Proofs.Ytjhgpbpincikiaa
