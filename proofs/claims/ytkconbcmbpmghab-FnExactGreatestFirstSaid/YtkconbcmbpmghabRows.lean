/-
  No cell of these rows narrows 'for every input' (looked for: loops, veiled, ifaces, maps, wideKeys, modest, calm, conditions, laid).
  DERIVED. THE GIVEN ROWS OF THIS SEAT. 12 by the template 'for every input the law returns true; each argument reads behind the call as it read before'; 0 by the template 'total and deterministic' (their statements: YtkconbcmbpmghabTotals.lean).
  GIVEN WITH THE SEED: the statements are not yours to turn. If you find one false, say at which input.
  Laid BY PROGRAM, IN A SANDBOX (cutbox-rows.mjs): the forced cells as the released guide's own fill.sh prints them over the translation e8b0228be90b2f76… (all of the seat's roots in one cut). By AI agents, Wed Nov 11 2026. No macro, syntax, notation, axiom, sorry.
-/
import Derived.Test.YtkconbcmbpmghabChecked
import GoSem.Claim
import GoSem.ClaimJoined
import GoSem.ClaimMapViews
import Derived.JoinedTies
import Derived.KernelRfl
namespace Go.Proofs.Ytkconbcmbpmghab
/- THE CELL 'sum', in the pinned program and in every row, IS THE sha256 OF THE DUMP (.gsa) THAT YtkconbcmbpmghabProg.lean LOADS. Nothing in Lean hashes anything: it is a label: what it is worth is what the hold of that sum in a sandbox is worth. -/
noncomputable def Try.pinned : Pinned := { name := "ytkconbcmbpmghab", sum := "e8b0228be90b2f762ef036bc232860a9f703257a050d4a8bd27b001d62954033", checked := Try.checked }
namespace Rows
def none {H : Type} : Left H := { results := [], args := [] }

/-- 'laws.FnExactFewestOuter': WHATEVER THE INPUT: true; the input reads as it did. -/
def fnExactFewestOuterSpec : ChangeSpec := { name := "fnExactFewestOuter", fn := fun _ => fun
  | [d] => { results := [.lit (.bool true)], args := [d] }
  | _ => none }
def fnExactFewestOuterRow : OpenClaim := { program := "ytkconbcmbpmghab", sum := "e8b0228be90b2f762ef036bc232860a9f703257a050d4a8bd27b001d62954033", func := "loop.example/g01334/laws.FnExactFewestOuter", spec := "fnExactFewestOuter", unfollowed := true, recurses := true, plainKeys := false, apart := false }
def FnExactFewestOuterSaid : Prop := fnExactFewestOuterRow.holds Try.pinned (OpenSpec.ofChange fnExactFewestOuterSpec)

/-- ITS FALSE NEIGHBOUR: 'it returns false'. Refute it at one input. -/
def fnExactFewestOuterWrong : ChangeSpec := { name := "fnExactFewestOuter", fn := fun _ => fun
  | [d] => { results := [.lit (.bool false)], args := [d] }
  | _ => none }
def FnExactFewestOuterWrongFalsely : Prop := fnExactFewestOuterRow.holds Try.pinned (OpenSpec.ofChange fnExactFewestOuterWrong)

/-- 'laws.FnExactFirstNesting': WHATEVER THE INPUT: true; the input reads as it did. -/
def fnExactFirstNestingSpec : ChangeSpec := { name := "fnExactFirstNesting", fn := fun _ => fun
  | [d] => { results := [.lit (.bool true)], args := [d] }
  | _ => none }
def fnExactFirstNestingRow : OpenClaim := { program := "ytkconbcmbpmghab", sum := "e8b0228be90b2f762ef036bc232860a9f703257a050d4a8bd27b001d62954033", func := "loop.example/g01334/laws.FnExactFirstNesting", spec := "fnExactFirstNesting", unfollowed := true, recurses := true, plainKeys := false, apart := false }
def FnExactFirstNestingSaid : Prop := fnExactFirstNestingRow.holds Try.pinned (OpenSpec.ofChange fnExactFirstNestingSpec)

/-- ITS FALSE NEIGHBOUR: 'it returns false'. Refute it at one input. -/
def fnExactFirstNestingWrong : ChangeSpec := { name := "fnExactFirstNesting", fn := fun _ => fun
  | [d] => { results := [.lit (.bool false)], args := [d] }
  | _ => none }
def FnExactFirstNestingWrongFalsely : Prop := fnExactFirstNestingRow.holds Try.pinned (OpenSpec.ofChange fnExactFirstNestingWrong)

/-- 'laws.FnExactCountNestings': WHATEVER THE INPUT: true; the input reads as it did. -/
def fnExactCountNestingsSpec : ChangeSpec := { name := "fnExactCountNestings", fn := fun _ => fun
  | [d] => { results := [.lit (.bool true)], args := [d] }
  | _ => none }
def fnExactCountNestingsRow : OpenClaim := { program := "ytkconbcmbpmghab", sum := "e8b0228be90b2f762ef036bc232860a9f703257a050d4a8bd27b001d62954033", func := "loop.example/g01334/laws.FnExactCountNestings", spec := "fnExactCountNestings", unfollowed := true, recurses := true, plainKeys := false, apart := false }
def FnExactCountNestingsSaid : Prop := fnExactCountNestingsRow.holds Try.pinned (OpenSpec.ofChange fnExactCountNestingsSpec)

/-- ITS FALSE NEIGHBOUR: 'it returns false'. Refute it at one input. -/
def fnExactCountNestingsWrong : ChangeSpec := { name := "fnExactCountNestings", fn := fun _ => fun
  | [d] => { results := [.lit (.bool false)], args := [d] }
  | _ => none }
def FnExactCountNestingsWrongFalsely : Prop := fnExactCountNestingsRow.holds Try.pinned (OpenSpec.ofChange fnExactCountNestingsWrong)

/-- 'laws.FnExactLeastOuterVolume': WHATEVER THE INPUT: true; the input reads as it did. -/
def fnExactLeastOuterVolumeSpec : ChangeSpec := { name := "fnExactLeastOuterVolume", fn := fun _ => fun
  | [d] => { results := [.lit (.bool true)], args := [d] }
  | _ => none }
def fnExactLeastOuterVolumeRow : OpenClaim := { program := "ytkconbcmbpmghab", sum := "e8b0228be90b2f762ef036bc232860a9f703257a050d4a8bd27b001d62954033", func := "loop.example/g01334/laws.FnExactLeastOuterVolume", spec := "fnExactLeastOuterVolume", unfollowed := true, recurses := true, plainKeys := false, apart := false }
def FnExactLeastOuterVolumeSaid : Prop := fnExactLeastOuterVolumeRow.holds Try.pinned (OpenSpec.ofChange fnExactLeastOuterVolumeSpec)

/-- ITS FALSE NEIGHBOUR: 'it returns false'. Refute it at one input. -/
def fnExactLeastOuterVolumeWrong : ChangeSpec := { name := "fnExactLeastOuterVolume", fn := fun _ => fun
  | [d] => { results := [.lit (.bool false)], args := [d] }
  | _ => none }
def FnExactLeastOuterVolumeWrongFalsely : Prop := fnExactLeastOuterVolumeRow.holds Try.pinned (OpenSpec.ofChange fnExactLeastOuterVolumeWrong)

/-- 'laws.FnExactGreatestFirst': WHATEVER THE INPUT: true; the input reads as it did. -/
def fnExactGreatestFirstSpec : ChangeSpec := { name := "fnExactGreatestFirst", fn := fun _ => fun
  | [d1, d2] => { results := [.lit (.bool true)], args := [d1, d2] }
  | _ => none }
def fnExactGreatestFirstRow : OpenClaim := { program := "ytkconbcmbpmghab", sum := "e8b0228be90b2f762ef036bc232860a9f703257a050d4a8bd27b001d62954033", func := "loop.example/g01334/laws.FnExactGreatestFirst", spec := "fnExactGreatestFirst", unfollowed := true, recurses := true, plainKeys := false, apart := false }
def FnExactGreatestFirstSaid : Prop := fnExactGreatestFirstRow.holds Try.pinned (OpenSpec.ofChange fnExactGreatestFirstSpec)

/-- ITS FALSE NEIGHBOUR: 'it returns false'. Refute it at one input. -/
def fnExactGreatestFirstWrong : ChangeSpec := { name := "fnExactGreatestFirst", fn := fun _ => fun
  | [d1, d2] => { results := [.lit (.bool false)], args := [d1, d2] }
  | _ => none }
def FnExactGreatestFirstWrongFalsely : Prop := fnExactGreatestFirstRow.holds Try.pinned (OpenSpec.ofChange fnExactGreatestFirstWrong)

/-- 'laws.FnExactWorstOrder': WHATEVER THE INPUT: true; the input reads as it did. -/
def fnExactWorstOrderSpec : ChangeSpec := { name := "fnExactWorstOrder", fn := fun _ => fun
  | [d1, d2] => { results := [.lit (.bool true)], args := [d1, d2] }
  | _ => none }
def fnExactWorstOrderRow : OpenClaim := { program := "ytkconbcmbpmghab", sum := "e8b0228be90b2f762ef036bc232860a9f703257a050d4a8bd27b001d62954033", func := "loop.example/g01334/laws.FnExactWorstOrder", spec := "fnExactWorstOrder", unfollowed := true, recurses := true, plainKeys := false, apart := false }
def FnExactWorstOrderSaid : Prop := fnExactWorstOrderRow.holds Try.pinned (OpenSpec.ofChange fnExactWorstOrderSpec)

/-- ITS FALSE NEIGHBOUR: 'it returns false'. Refute it at one input. -/
def fnExactWorstOrderWrong : ChangeSpec := { name := "fnExactWorstOrder", fn := fun _ => fun
  | [d1, d2] => { results := [.lit (.bool false)], args := [d1, d2] }
  | _ => none }
def FnExactWorstOrderWrongFalsely : Prop := fnExactWorstOrderRow.holds Try.pinned (OpenSpec.ofChange fnExactWorstOrderWrong)

/-- 'laws.FnExactBestOrder': WHATEVER THE INPUT: true; the input reads as it did. -/
def fnExactBestOrderSpec : ChangeSpec := { name := "fnExactBestOrder", fn := fun _ => fun
  | [d1, d2] => { results := [.lit (.bool true)], args := [d1, d2] }
  | _ => none }
def fnExactBestOrderRow : OpenClaim := { program := "ytkconbcmbpmghab", sum := "e8b0228be90b2f762ef036bc232860a9f703257a050d4a8bd27b001d62954033", func := "loop.example/g01334/laws.FnExactBestOrder", spec := "fnExactBestOrder", unfollowed := true, recurses := true, plainKeys := false, apart := false }
def FnExactBestOrderSaid : Prop := fnExactBestOrderRow.holds Try.pinned (OpenSpec.ofChange fnExactBestOrderSpec)

/-- ITS FALSE NEIGHBOUR: 'it returns false'. Refute it at one input. -/
def fnExactBestOrderWrong : ChangeSpec := { name := "fnExactBestOrder", fn := fun _ => fun
  | [d1, d2] => { results := [.lit (.bool false)], args := [d1, d2] }
  | _ => none }
def FnExactBestOrderWrongFalsely : Prop := fnExactBestOrderRow.holds Try.pinned (OpenSpec.ofChange fnExactBestOrderWrong)

/-- 'laws.FnExactLowestCase': WHATEVER THE INPUT: true; the input reads as it did. -/
def fnExactLowestCaseSpec : ChangeSpec := { name := "fnExactLowestCase", fn := fun _ => fun
  | [d1, d2] => { results := [.lit (.bool true)], args := [d1, d2] }
  | _ => none }
def fnExactLowestCaseRow : OpenClaim := { program := "ytkconbcmbpmghab", sum := "e8b0228be90b2f762ef036bc232860a9f703257a050d4a8bd27b001d62954033", func := "loop.example/g01334/laws.FnExactLowestCase", spec := "fnExactLowestCase", unfollowed := true, recurses := true, plainKeys := false, apart := false }
def FnExactLowestCaseSaid : Prop := fnExactLowestCaseRow.holds Try.pinned (OpenSpec.ofChange fnExactLowestCaseSpec)

/-- ITS FALSE NEIGHBOUR: 'it returns false'. Refute it at one input. -/
def fnExactLowestCaseWrong : ChangeSpec := { name := "fnExactLowestCase", fn := fun _ => fun
  | [d1, d2] => { results := [.lit (.bool false)], args := [d1, d2] }
  | _ => none }
def FnExactLowestCaseWrongFalsely : Prop := fnExactLowestCaseRow.holds Try.pinned (OpenSpec.ofChange fnExactLowestCaseWrong)

/-- 'laws.FnExactFirstLowest': WHATEVER THE INPUT: true; the input reads as it did. -/
def fnExactFirstLowestSpec : ChangeSpec := { name := "fnExactFirstLowest", fn := fun _ => fun
  | [d1, d2] => { results := [.lit (.bool true)], args := [d1, d2] }
  | _ => none }
def fnExactFirstLowestRow : OpenClaim := { program := "ytkconbcmbpmghab", sum := "e8b0228be90b2f762ef036bc232860a9f703257a050d4a8bd27b001d62954033", func := "loop.example/g01334/laws.FnExactFirstLowest", spec := "fnExactFirstLowest", unfollowed := true, recurses := true, plainKeys := false, apart := false }
def FnExactFirstLowestSaid : Prop := fnExactFirstLowestRow.holds Try.pinned (OpenSpec.ofChange fnExactFirstLowestSpec)

/-- ITS FALSE NEIGHBOUR: 'it returns false'. Refute it at one input. -/
def fnExactFirstLowestWrong : ChangeSpec := { name := "fnExactFirstLowest", fn := fun _ => fun
  | [d1, d2] => { results := [.lit (.bool false)], args := [d1, d2] }
  | _ => none }
def FnExactFirstLowestWrongFalsely : Prop := fnExactFirstLowestRow.holds Try.pinned (OpenSpec.ofChange fnExactFirstLowestWrong)

/-- 'laws.FnExactCountLowest': WHATEVER THE INPUT: true; the input reads as it did. -/
def fnExactCountLowestSpec : ChangeSpec := { name := "fnExactCountLowest", fn := fun _ => fun
  | [d1, d2] => { results := [.lit (.bool true)], args := [d1, d2] }
  | _ => none }
def fnExactCountLowestRow : OpenClaim := { program := "ytkconbcmbpmghab", sum := "e8b0228be90b2f762ef036bc232860a9f703257a050d4a8bd27b001d62954033", func := "loop.example/g01334/laws.FnExactCountLowest", spec := "fnExactCountLowest", unfollowed := true, recurses := true, plainKeys := false, apart := false }
def FnExactCountLowestSaid : Prop := fnExactCountLowestRow.holds Try.pinned (OpenSpec.ofChange fnExactCountLowestSpec)

/-- ITS FALSE NEIGHBOUR: 'it returns false'. Refute it at one input. -/
def fnExactCountLowestWrong : ChangeSpec := { name := "fnExactCountLowest", fn := fun _ => fun
  | [d1, d2] => { results := [.lit (.bool false)], args := [d1, d2] }
  | _ => none }
def FnExactCountLowestWrongFalsely : Prop := fnExactCountLowestRow.holds Try.pinned (OpenSpec.ofChange fnExactCountLowestWrong)

/-- 'laws.FnExactSmoothestCase': WHATEVER THE INPUT: true; the input reads as it did. -/
def fnExactSmoothestCaseSpec : ChangeSpec := { name := "fnExactSmoothestCase", fn := fun _ => fun
  | [d1, d2] => { results := [.lit (.bool true)], args := [d1, d2] }
  | _ => none }
def fnExactSmoothestCaseRow : OpenClaim := { program := "ytkconbcmbpmghab", sum := "e8b0228be90b2f762ef036bc232860a9f703257a050d4a8bd27b001d62954033", func := "loop.example/g01334/laws.FnExactSmoothestCase", spec := "fnExactSmoothestCase", unfollowed := true, recurses := true, plainKeys := false, apart := false }
def FnExactSmoothestCaseSaid : Prop := fnExactSmoothestCaseRow.holds Try.pinned (OpenSpec.ofChange fnExactSmoothestCaseSpec)

/-- ITS FALSE NEIGHBOUR: 'it returns false'. Refute it at one input. -/
def fnExactSmoothestCaseWrong : ChangeSpec := { name := "fnExactSmoothestCase", fn := fun _ => fun
  | [d1, d2] => { results := [.lit (.bool false)], args := [d1, d2] }
  | _ => none }
def FnExactSmoothestCaseWrongFalsely : Prop := fnExactSmoothestCaseRow.holds Try.pinned (OpenSpec.ofChange fnExactSmoothestCaseWrong)

/-- 'laws.FnExactCountShelvings': WHATEVER THE INPUT: true; the input reads as it did. -/
def fnExactCountShelvingsSpec : ChangeSpec := { name := "fnExactCountShelvings", fn := fun _ => fun
  | [d1, d2] => { results := [.lit (.bool true)], args := [d1, d2] }
  | _ => none }
def fnExactCountShelvingsRow : OpenClaim := { program := "ytkconbcmbpmghab", sum := "e8b0228be90b2f762ef036bc232860a9f703257a050d4a8bd27b001d62954033", func := "loop.example/g01334/laws.FnExactCountShelvings", spec := "fnExactCountShelvings", recurses := true, plainKeys := false, apart := false }
def FnExactCountShelvingsSaid : Prop := fnExactCountShelvingsRow.holds Try.pinned (OpenSpec.ofChange fnExactCountShelvingsSpec)

/-- ITS FALSE NEIGHBOUR: 'it returns false'. Refute it at one input. -/
def fnExactCountShelvingsWrong : ChangeSpec := { name := "fnExactCountShelvings", fn := fun _ => fun
  | [d1, d2] => { results := [.lit (.bool false)], args := [d1, d2] }
  | _ => none }
def FnExactCountShelvingsWrongFalsely : Prop := fnExactCountShelvingsRow.holds Try.pinned (OpenSpec.ofChange fnExactCountShelvingsWrong)

/- THE SECOND FORM. 'bulk': how many values and letters a reading holds, each counted each time it is reached (what is shared counts as often as it is met; a slice's spare places count too). A statement '..UptoSaid' is the law's where the arguments, and the package variables that the reading takes, are together of bulk at most 1048576: NARROWER than '..Said'. Prove '..Said' where nothing that the law and all that it calls make is longer than what came in: it says more and counts as full. Else prove '..UptoSaid'. A law counts once. -/
mutual
def uptoBulk {H : Type} : DataW H → Nat
  | .lit (.string bytes) => bytes.length + 1
  | .lit _ => 1
  | .nil => 1
  | .ptr d => uptoBulk d + 1
  | .slice elems spare => uptoBulkAll elems + uptoBulkAll spare + 1
  | .agg parts => uptoBulkAll parts + 1
  | .iface _ d => uptoBulk d + 1
  | .map entries => uptoBulkEntries entries + 1
  | .held _ => 1
def uptoBulkAll {H : Type} : List (DataW H) → Nat
  | [] => 0
  | d :: r => uptoBulk d + uptoBulkAll r
def uptoBulkEntries {H : Type} : List (Lit × DataW H) → Nat
  | [] => 0
  | x :: r => uptoBulkEntry x + uptoBulkEntries r
def uptoBulkEntry {H : Type} : Lit × DataW H → Nat
  | (.string bytes, d) => bytes.length + uptoBulk d + 1
  | (_, d) => uptoBulk d + 1
 end
def uptoSmall : (H : Type) → List (DataW H) → Bool := fun _ ds => decide (uptoBulkAll ds ≤ 1048576)
def OpenSpec.upto (s : _root_.Go.ChangeSpec) : _root_.Go.OpenSpec := { _root_.Go.OpenSpec.ofChange s with cond := some uptoSmall }

/-- 'laws.FnExactFewestOuter', WHERE WHAT IT READS IS OF BULK AT MOST 1048576: true; the input reads as it did. -/
def fnExactFewestOuterUptoRow : OpenClaim := { program := "ytkconbcmbpmghab", sum := "e8b0228be90b2f762ef036bc232860a9f703257a050d4a8bd27b001d62954033", func := "loop.example/g01334/laws.FnExactFewestOuter", spec := "fnExactFewestOuter", unfollowed := true, recurses := true, plainKeys := false, apart := false, narrowed := true }
def FnExactFewestOuterUptoSaid : Prop := fnExactFewestOuterUptoRow.holds Try.pinned (OpenSpec.upto fnExactFewestOuterSpec)

/-- 'laws.FnExactFirstNesting', WHERE WHAT IT READS IS OF BULK AT MOST 1048576: true; the input reads as it did. -/
def fnExactFirstNestingUptoRow : OpenClaim := { program := "ytkconbcmbpmghab", sum := "e8b0228be90b2f762ef036bc232860a9f703257a050d4a8bd27b001d62954033", func := "loop.example/g01334/laws.FnExactFirstNesting", spec := "fnExactFirstNesting", unfollowed := true, recurses := true, plainKeys := false, apart := false, narrowed := true }
def FnExactFirstNestingUptoSaid : Prop := fnExactFirstNestingUptoRow.holds Try.pinned (OpenSpec.upto fnExactFirstNestingSpec)

/-- 'laws.FnExactCountNestings', WHERE WHAT IT READS IS OF BULK AT MOST 1048576: true; the input reads as it did. -/
def fnExactCountNestingsUptoRow : OpenClaim := { program := "ytkconbcmbpmghab", sum := "e8b0228be90b2f762ef036bc232860a9f703257a050d4a8bd27b001d62954033", func := "loop.example/g01334/laws.FnExactCountNestings", spec := "fnExactCountNestings", unfollowed := true, recurses := true, plainKeys := false, apart := false, narrowed := true }
def FnExactCountNestingsUptoSaid : Prop := fnExactCountNestingsUptoRow.holds Try.pinned (OpenSpec.upto fnExactCountNestingsSpec)

/-- 'laws.FnExactLeastOuterVolume', WHERE WHAT IT READS IS OF BULK AT MOST 1048576: true; the input reads as it did. -/
def fnExactLeastOuterVolumeUptoRow : OpenClaim := { program := "ytkconbcmbpmghab", sum := "e8b0228be90b2f762ef036bc232860a9f703257a050d4a8bd27b001d62954033", func := "loop.example/g01334/laws.FnExactLeastOuterVolume", spec := "fnExactLeastOuterVolume", unfollowed := true, recurses := true, plainKeys := false, apart := false, narrowed := true }
def FnExactLeastOuterVolumeUptoSaid : Prop := fnExactLeastOuterVolumeUptoRow.holds Try.pinned (OpenSpec.upto fnExactLeastOuterVolumeSpec)

/-- 'laws.FnExactGreatestFirst', WHERE WHAT IT READS IS OF BULK AT MOST 1048576: true; the input reads as it did. -/
def fnExactGreatestFirstUptoRow : OpenClaim := { program := "ytkconbcmbpmghab", sum := "e8b0228be90b2f762ef036bc232860a9f703257a050d4a8bd27b001d62954033", func := "loop.example/g01334/laws.FnExactGreatestFirst", spec := "fnExactGreatestFirst", unfollowed := true, recurses := true, plainKeys := false, apart := false, narrowed := true }
def FnExactGreatestFirstUptoSaid : Prop := fnExactGreatestFirstUptoRow.holds Try.pinned (OpenSpec.upto fnExactGreatestFirstSpec)

/-- 'laws.FnExactWorstOrder', WHERE WHAT IT READS IS OF BULK AT MOST 1048576: true; the input reads as it did. -/
def fnExactWorstOrderUptoRow : OpenClaim := { program := "ytkconbcmbpmghab", sum := "e8b0228be90b2f762ef036bc232860a9f703257a050d4a8bd27b001d62954033", func := "loop.example/g01334/laws.FnExactWorstOrder", spec := "fnExactWorstOrder", unfollowed := true, recurses := true, plainKeys := false, apart := false, narrowed := true }
def FnExactWorstOrderUptoSaid : Prop := fnExactWorstOrderUptoRow.holds Try.pinned (OpenSpec.upto fnExactWorstOrderSpec)

/-- 'laws.FnExactBestOrder', WHERE WHAT IT READS IS OF BULK AT MOST 1048576: true; the input reads as it did. -/
def fnExactBestOrderUptoRow : OpenClaim := { program := "ytkconbcmbpmghab", sum := "e8b0228be90b2f762ef036bc232860a9f703257a050d4a8bd27b001d62954033", func := "loop.example/g01334/laws.FnExactBestOrder", spec := "fnExactBestOrder", unfollowed := true, recurses := true, plainKeys := false, apart := false, narrowed := true }
def FnExactBestOrderUptoSaid : Prop := fnExactBestOrderUptoRow.holds Try.pinned (OpenSpec.upto fnExactBestOrderSpec)

/-- 'laws.FnExactLowestCase', WHERE WHAT IT READS IS OF BULK AT MOST 1048576: true; the input reads as it did. -/
def fnExactLowestCaseUptoRow : OpenClaim := { program := "ytkconbcmbpmghab", sum := "e8b0228be90b2f762ef036bc232860a9f703257a050d4a8bd27b001d62954033", func := "loop.example/g01334/laws.FnExactLowestCase", spec := "fnExactLowestCase", unfollowed := true, recurses := true, plainKeys := false, apart := false, narrowed := true }
def FnExactLowestCaseUptoSaid : Prop := fnExactLowestCaseUptoRow.holds Try.pinned (OpenSpec.upto fnExactLowestCaseSpec)

/-- 'laws.FnExactFirstLowest', WHERE WHAT IT READS IS OF BULK AT MOST 1048576: true; the input reads as it did. -/
def fnExactFirstLowestUptoRow : OpenClaim := { program := "ytkconbcmbpmghab", sum := "e8b0228be90b2f762ef036bc232860a9f703257a050d4a8bd27b001d62954033", func := "loop.example/g01334/laws.FnExactFirstLowest", spec := "fnExactFirstLowest", unfollowed := true, recurses := true, plainKeys := false, apart := false, narrowed := true }
def FnExactFirstLowestUptoSaid : Prop := fnExactFirstLowestUptoRow.holds Try.pinned (OpenSpec.upto fnExactFirstLowestSpec)

/-- 'laws.FnExactCountLowest', WHERE WHAT IT READS IS OF BULK AT MOST 1048576: true; the input reads as it did. -/
def fnExactCountLowestUptoRow : OpenClaim := { program := "ytkconbcmbpmghab", sum := "e8b0228be90b2f762ef036bc232860a9f703257a050d4a8bd27b001d62954033", func := "loop.example/g01334/laws.FnExactCountLowest", spec := "fnExactCountLowest", unfollowed := true, recurses := true, plainKeys := false, apart := false, narrowed := true }
def FnExactCountLowestUptoSaid : Prop := fnExactCountLowestUptoRow.holds Try.pinned (OpenSpec.upto fnExactCountLowestSpec)

/-- 'laws.FnExactSmoothestCase', WHERE WHAT IT READS IS OF BULK AT MOST 1048576: true; the input reads as it did. -/
def fnExactSmoothestCaseUptoRow : OpenClaim := { program := "ytkconbcmbpmghab", sum := "e8b0228be90b2f762ef036bc232860a9f703257a050d4a8bd27b001d62954033", func := "loop.example/g01334/laws.FnExactSmoothestCase", spec := "fnExactSmoothestCase", unfollowed := true, recurses := true, plainKeys := false, apart := false, narrowed := true }
def FnExactSmoothestCaseUptoSaid : Prop := fnExactSmoothestCaseUptoRow.holds Try.pinned (OpenSpec.upto fnExactSmoothestCaseSpec)

/-- 'laws.FnExactCountShelvings', WHERE WHAT IT READS IS OF BULK AT MOST 1048576: true; the input reads as it did. -/
def fnExactCountShelvingsUptoRow : OpenClaim := { program := "ytkconbcmbpmghab", sum := "e8b0228be90b2f762ef036bc232860a9f703257a050d4a8bd27b001d62954033", func := "loop.example/g01334/laws.FnExactCountShelvings", spec := "fnExactCountShelvings", recurses := true, plainKeys := false, apart := false, narrowed := true }
def FnExactCountShelvingsUptoSaid : Prop := fnExactCountShelvingsUptoRow.holds Try.pinned (OpenSpec.upto fnExactCountShelvingsSpec)

end Rows
end Go.Proofs.Ytkconbcmbpmghab
