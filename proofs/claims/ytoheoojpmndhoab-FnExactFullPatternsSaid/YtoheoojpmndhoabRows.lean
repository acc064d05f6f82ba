/-
  No cell of these rows narrows 'for every input' (looked for: loops, veiled, ifaces, maps, wideKeys, modest, calm, conditions, laid).
  DERIVED. THE GIVEN ROWS OF THIS SEAT. 3 by the template 'for every input the law returns true; each argument reads behind the call as it read before'; 0 by the template 'total and deterministic' (their statements: YtoheoojpmndhoabTotals.lean).
  GIVEN WITH THE SEED: the statements are not yours to turn. If you find one false, say at which input.
  Laid BY PROGRAM, IN A SANDBOX (cutbox-rows.mjs): the forced cells as the released guide's own fill.sh prints them over the translation d22bb152e996d25f… (all of the seat's roots in one cut). By AI agents, Wed Nov 11 2026. No macro, syntax, notation, axiom, sorry.
-/
import Derived.Test.YtoheoojpmndhoabChecked
import GoSem.Claim
import GoSem.ClaimJoined
import GoSem.ClaimMapViews
import Derived.JoinedTies
import Derived.KernelRfl
namespace Go.Proofs.Ytoheoojpmndhoab
/- THE CELL 'sum', in the pinned program and in every row, IS THE sha256 OF THE DUMP (.gsa) THAT YtoheoojpmndhoabProg.lean LOADS. Nothing in Lean hashes anything: it is a label: what it is worth is what the hold of that sum in a sandbox is worth. -/
noncomputable def Try.pinned : Pinned := { name := "ytoheoojpmndhoab", sum := "d22bb152e996d25f6cffd8fde8669cfad67364728392741a1767ff772f90c1eb", checked := Try.checked }
namespace Rows
def none {H : Type} : Left H := { results := [], args := [] }

/-- 'laws.FnExactLongestFirstRods': WHATEVER THE INPUT: true; the input reads as it did. -/
def fnExactLongestFirstRodsSpec : ChangeSpec := { name := "fnExactLongestFirstRods", fn := fun _ => fun
  | [d1, d2, d3] => { results := [.lit (.bool true)], args := [d1, d2, d3] }
  | _ => none }
def fnExactLongestFirstRodsRow : OpenClaim := { program := "ytoheoojpmndhoab", sum := "d22bb152e996d25f6cffd8fde8669cfad67364728392741a1767ff772f90c1eb", func := "loop.example/g01334/laws.FnExactLongestFirstRods", spec := "fnExactLongestFirstRods", unfollowed := true, recurses := true, plainKeys := false, apart := false }
def FnExactLongestFirstRodsSaid : Prop := fnExactLongestFirstRodsRow.holds Try.pinned (OpenSpec.ofChange fnExactLongestFirstRodsSpec)

/-- ITS FALSE NEIGHBOUR: 'it returns false'. Refute it at one input. -/
def fnExactLongestFirstRodsWrong : ChangeSpec := { name := "fnExactLongestFirstRods", fn := fun _ => fun
  | [d1, d2, d3] => { results := [.lit (.bool false)], args := [d1, d2, d3] }
  | _ => none }
def FnExactLongestFirstRodsWrongFalsely : Prop := fnExactLongestFirstRodsRow.holds Try.pinned (OpenSpec.ofChange fnExactLongestFirstRodsWrong)

/-- 'laws.FnExactFewestRods': WHATEVER THE INPUT: true; the input reads as it did. -/
def fnExactFewestRodsSpec : ChangeSpec := { name := "fnExactFewestRods", fn := fun _ => fun
  | [d1, d2, d3] => { results := [.lit (.bool true)], args := [d1, d2, d3] }
  | _ => none }
def fnExactFewestRodsRow : OpenClaim := { program := "ytoheoojpmndhoab", sum := "d22bb152e996d25f6cffd8fde8669cfad67364728392741a1767ff772f90c1eb", func := "loop.example/g01334/laws.FnExactFewestRods", spec := "fnExactFewestRods", unfollowed := true, recurses := true, plainKeys := false, apart := false }
def FnExactFewestRodsSaid : Prop := fnExactFewestRodsRow.holds Try.pinned (OpenSpec.ofChange fnExactFewestRodsSpec)

/-- ITS FALSE NEIGHBOUR: 'it returns false'. Refute it at one input. -/
def fnExactFewestRodsWrong : ChangeSpec := { name := "fnExactFewestRods", fn := fun _ => fun
  | [d1, d2, d3] => { results := [.lit (.bool false)], args := [d1, d2, d3] }
  | _ => none }
def FnExactFewestRodsWrongFalsely : Prop := fnExactFewestRodsRow.holds Try.pinned (OpenSpec.ofChange fnExactFewestRodsWrong)

/-- 'laws.FnExactFullPatterns': WHATEVER THE INPUT: true; the input reads as it did. -/
def fnExactFullPatternsSpec : ChangeSpec := { name := "fnExactFullPatterns", fn := fun _ => fun
  | [d1, d2] => { results := [.lit (.bool true)], args := [d1, d2] }
  | _ => none }
def fnExactFullPatternsRow : OpenClaim := { program := "ytoheoojpmndhoab", sum := "d22bb152e996d25f6cffd8fde8669cfad67364728392741a1767ff772f90c1eb", func := "loop.example/g01334/laws.FnExactFullPatterns", spec := "fnExactFullPatterns", unfollowed := true, recurses := true, plainKeys := false, apart := false }
def FnExactFullPatternsSaid : Prop := fnExactFullPatternsRow.holds Try.pinned (OpenSpec.ofChange fnExactFullPatternsSpec)

/-- ITS FALSE NEIGHBOUR: 'it returns false'. Refute it at one input. -/
def fnExactFullPatternsWrong : ChangeSpec := { name := "fnExactFullPatterns", fn := fun _ => fun
  | [d1, d2] => { results := [.lit (.bool false)], args := [d1, d2] }
  | _ => none }
def FnExactFullPatternsWrongFalsely : Prop := fnExactFullPatternsRow.holds Try.pinned (OpenSpec.ofChange fnExactFullPatternsWrong)

/- THE SECOND FORM. 'bulk': how many values and letters a reading holds, each counted each time it is reached (what is shared counts as often as it is met; a slice's spare places count too). A statement '..UptoSaid' is the law's where the arguments, and the package variables that the reading takes, are together of bulk at most 1048576: NARROWER than '..Said'. Prove '..Said' where nothing that the law and all that it calls make is longer than what came in: it says more and counts as full. Else prove '..UptoSaid'. A law counts once. -/
mutual
def uptoBulk {H : Type} : DataW H → Nat
  | .lit (.string bytes) => bytes.length + 1
  | .lit _ => 1
  | .nil => 1
  | .ptr d => uptoBulk d + 1
  | .slice elems spare => uptoBulkAll elems + uptoBulkAll spare + 1
  | .agg parts => uptoBulkAll parts + 1
  | .iface _ d => uptoBulk d + 1
  | .map entries => uptoBulkEntries entries + 1
  | .held _ => 1
def uptoBulkAll {H : Type} : List (DataW H) → Nat
  | [] => 0
  | d :: r => uptoBulk d + uptoBulkAll r
def uptoBulkEntries {H : Type} : List (Lit × DataW H) → Nat
  | [] => 0
  | x :: r => uptoBulkEntry x + uptoBulkEntries r
def uptoBulkEntry {H : Type} : Lit × DataW H → Nat
  | (.string bytes, d) => bytes.length + uptoBulk d + 1
  | (_, d) => uptoBulk d + 1
 end
def uptoSmall : (H : Type) → List (DataW H) → Bool := fun _ ds => decide (uptoBulkAll ds ≤ 1048576)
def OpenSpec.upto (s : _root_.Go.ChangeSpec) : _root_.Go.OpenSpec := { _root_.Go.OpenSpec.ofChange s with cond := some uptoSmall }

/-- 'laws.FnExactLongestFirstRods', WHERE WHAT IT READS IS OF BULK AT MOST 1048576: true; the input reads as it did. -/
def fnExactLongestFirstRodsUptoRow : OpenClaim := { program := "ytoheoojpmndhoab", sum := "d22bb152e996d25f6cffd8fde8669cfad67364728392741a1767ff772f90c1eb", func := "loop.example/g01334/laws.FnExactLongestFirstRods", spec := "fnExactLongestFirstRods", unfollowed := true, recurses := true, plainKeys := false, apart := false, narrowed := true }
def FnExactLongestFirstRodsUptoSaid : Prop := fnExactLongestFirstRodsUptoRow.holds Try.pinned (OpenSpec.upto fnExactLongestFirstRodsSpec)

/-- 'laws.FnExactFewestRods', WHERE WHAT IT READS IS OF BULK AT MOST 1048576: true; the input reads as it did. -/
def fnExactFewestRodsUptoRow : OpenClaim := { program := "ytoheoojpmndhoab", sum := "d22bb152e996d25f6cffd8fde8669cfad67364728392741a1767ff772f90c1eb", func := "loop.example/g01334/laws.FnExactFewestRods", spec := "fnExactFewestRods", unfollowed := true, recurses := true, plainKeys := false, apart := false, narrowed := true }
def FnExactFewestRodsUptoSaid : Prop := fnExactFewestRodsUptoRow.holds Try.pinned (OpenSpec.upto fnExactFewestRodsSpec)

/-- 'laws.FnExactFullPatterns', WHERE WHAT IT READS IS OF BULK AT MOST 1048576: true; the input reads as it did. -/
def fnExactFullPatternsUptoRow : OpenClaim := { program := "ytoheoojpmndhoab", sum := "d22bb152e996d25f6cffd8fde8669cfad67364728392741a1767ff772f90c1eb", func := "loop.example/g01334/laws.FnExactFullPatterns", spec := "fnExactFullPatterns", unfollowed := true, recurses := true, plainKeys := false, apart := false, narrowed := true }
def FnExactFullPatternsUptoSaid : Prop := fnExactFullPatternsUptoRow.holds Try.pinned (OpenSpec.upto fnExactFullPatternsSpec)

end Rows
end Go.Proofs.Ytoheoojpmndhoab
