/-
  NARROWER THAN 'FOR EVERY INPUT', by the rows' own cells (each row's printed sentence says how): FnExactLeastWaste: calm · FnExactFirstRods: calm.
  DERIVED. THE GIVEN ROWS OF THIS SEAT. 12 by the template 'for every input the law returns true; each argument reads behind the call as it read before'; 0 by the template 'total and deterministic' (their statements: YthlhpddfifpkeabTotals.lean).
  GIVEN WITH THE SEED: the statements are not yours to turn. If you find one false, say at which input.
  Laid BY PROGRAM, IN A SANDBOX (cutbox-rows.mjs): the forced cells as the released guide's own fill.sh prints them over the translation 207040fd046a1890… (all of the seat's roots in one cut). By AI agents, Wed Nov 11 2026. No macro, syntax, notation, axiom, sorry.
-/
import Derived.Test.YthlhpddfifpkeabChecked
import GoSem.Claim
import GoSem.ClaimJoined
import GoSem.ClaimMapViews
import Derived.JoinedTies
import Derived.KernelRfl
namespace Go.Proofs.Ythlhpddfifpkeab
/- THE CELL 'sum', in the pinned program and in every row, IS THE sha256 OF THE DUMP (.gsa) THAT YthlhpddfifpkeabProg.lean LOADS. Nothing in Lean hashes anything: it is a label: what it is worth is what the hold of that sum in a sandbox is worth. -/
noncomputable def Try.pinned : Pinned := { name := "ythlhpddfifpkeab", sum := "207040fd046a1890a4b149e211e9862a299570815f6316f089ed3bc65265b929", checked := Try.checked }
namespace Rows
def none {H : Type} : Left H := { results := [], args := [] }

/-- 'laws.FnExactFullPatterns': WHATEVER THE INPUT: true; the input reads as it did. -/
def fnExactFullPatternsSpec : ChangeSpec := { name := "fnExactFullPatterns", fn := fun _ => fun
  | [d1, d2] => { results := [.lit (.bool true)], args := [d1, d2] }
  | _ => none }
def fnExactFullPatternsRow : OpenClaim := { program := "ythlhpddfifpkeab", sum := "207040fd046a1890a4b149e211e9862a299570815f6316f089ed3bc65265b929", func := "loop.example/g01334/laws.FnExactFullPatterns", spec := "fnExactFullPatterns", unfollowed := true, recurses := true, plainKeys := false, leaving := true, apart := false }
def FnExactFullPatternsSaid : Prop := fnExactFullPatternsRow.holds Try.pinned (OpenSpec.ofChange fnExactFullPatternsSpec)

/-- ITS FALSE NEIGHBOUR: 'it returns false'. Refute it at one input. -/
def fnExactFullPatternsWrong : ChangeSpec := { name := "fnExactFullPatterns", fn := fun _ => fun
  | [d1, d2] => { results := [.lit (.bool false)], args := [d1, d2] }
  | _ => none }
def FnExactFullPatternsWrongFalsely : Prop := fnExactFullPatternsRow.holds Try.pinned (OpenSpec.ofChange fnExactFullPatternsWrong)

/-- 'laws.FnExactLeastWaste': WHATEVER THE INPUT: true; the input reads as it did. -/
def fnExactLeastWasteSpec : ChangeSpec := { name := "fnExactLeastWaste", fn := fun _ => fun
  | [d1, d2] => { results := [.lit (.bool true)], args := [d1, d2] }
  | _ => none }
def fnExactLeastWasteRow : OpenClaim := { program := "ythlhpddfifpkeab", sum := "207040fd046a1890a4b149e211e9862a299570815f6316f089ed3bc65265b929", func := "loop.example/g01334/laws.FnExactLeastWaste", spec := "fnExactLeastWaste", inPlace := ["(*internal/sync.Mutex).Lock", "internal/race.Disable", "sync/atomic.CompareAndSwapInt32", "internal/race.Enable", "internal/race.Acquire", "(*internal/sync.Mutex).lockSlow", "internal/sync.runtime_canSpin", "internal/sync.runtime_doSpin", "internal/sync.throw", "internal/sync.runtime_nanotime", "internal/sync.runtime_SemacquireMutex", "sync/atomic.AddInt32", "(*internal/sync.Mutex).Unlock", "internal/race.ReleaseMerge", "(*internal/sync.Mutex).unlockSlow", "internal/sync.fatal", "internal/sync.runtime_Semrelease", "(*sync.WaitGroup).Go", "(*sync.WaitGroup).Add", "internal/synctest.IsInBubble", "internal/synctest.Associate[sync.WaitGroup]", "sync.fatal", "sync/atomic.OrUint64", "sync/atomic.AddUint64", "internal/race.Read", "sync/atomic.LoadUint64", "sync/atomic.StoreUint64", "internal/synctest.Disassociate[sync.WaitGroup]", "sync.runtime_Semrelease", "(*sync.WaitGroup).Go$1", "(*sync.WaitGroup).Go$1$1", "(*sync.WaitGroup).Done", "(*sync.WaitGroup).Wait", "internal/synctest.IsAssociated[sync.WaitGroup]", "sync/atomic.CompareAndSwapUint64", "internal/race.Write", "sync.runtime_SemacquireWaitGroup"], unfollowed := true, recurses := true, plainKeys := false, leaving := true, apart := false, calm := true, outside := [.timePasses] }
def FnExactLeastWasteSaid : Prop := fnExactLeastWasteRow.holds Try.pinned (OpenSpec.ofChange fnExactLeastWasteSpec)

/-- ITS FALSE NEIGHBOUR: 'it returns false'. Refute it at one input. -/
def fnExactLeastWasteWrong : ChangeSpec := { name := "fnExactLeastWaste", fn := fun _ => fun
  | [d1, d2] => { results := [.lit (.bool false)], args := [d1, d2] }
  | _ => none }
def FnExactLeastWasteWrongFalsely : Prop := fnExactLeastWasteRow.holds Try.pinned (OpenSpec.ofChange fnExactLeastWasteWrong)

/-- 'laws.FnExactFewestRods': WHATEVER THE INPUT: true; the input reads as it did. -/
def fnExactFewestRodsSpec : ChangeSpec := { name := "fnExactFewestRods", fn := fun _ => fun
  | [d1, d2, d3] => { results := [.lit (.bool true)], args := [d1, d2, d3] }
  | _ => none }
def fnExactFewestRodsRow : OpenClaim := { program := "ythlhpddfifpkeab", sum := "207040fd046a1890a4b149e211e9862a299570815f6316f089ed3bc65265b929", func := "loop.example/g01334/laws.FnExactFewestRods", spec := "fnExactFewestRods", unfollowed := true, recurses := true, plainKeys := false, leaving := true, apart := false }
def FnExactFewestRodsSaid : Prop := fnExactFewestRodsRow.holds Try.pinned (OpenSpec.ofChange fnExactFewestRodsSpec)

/-- ITS FALSE NEIGHBOUR: 'it returns false'. Refute it at one input. -/
def fnExactFewestRodsWrong : ChangeSpec := { name := "fnExactFewestRods", fn := fun _ => fun
  | [d1, d2, d3] => { results := [.lit (.bool false)], args := [d1, d2, d3] }
  | _ => none }
def FnExactFewestRodsWrongFalsely : Prop := fnExactFewestRodsRow.holds Try.pinned (OpenSpec.ofChange fnExactFewestRodsWrong)

/-- 'laws.FnExactFirstRods': WHATEVER THE INPUT: true; the input reads as it did. -/
def fnExactFirstRodsSpec : ChangeSpec := { name := "fnExactFirstRods", fn := fun _ => fun
  | [d1, d2, d3] => { results := [.lit (.bool true)], args := [d1, d2, d3] }
  | _ => none }
def fnExactFirstRodsRow : OpenClaim := { program := "ythlhpddfifpkeab", sum := "207040fd046a1890a4b149e211e9862a299570815f6316f089ed3bc65265b929", func := "loop.example/g01334/laws.FnExactFirstRods", spec := "fnExactFirstRods", inPlace := ["(*internal/sync.Mutex).Lock", "internal/race.Disable", "sync/atomic.CompareAndSwapInt32", "internal/race.Enable", "internal/race.Acquire", "(*internal/sync.Mutex).lockSlow", "internal/sync.runtime_canSpin", "internal/sync.runtime_doSpin", "internal/sync.throw", "internal/sync.runtime_nanotime", "internal/sync.runtime_SemacquireMutex", "sync/atomic.AddInt32", "(*internal/sync.Mutex).Unlock", "internal/race.ReleaseMerge", "(*internal/sync.Mutex).unlockSlow", "internal/sync.fatal", "internal/sync.runtime_Semrelease", "(*sync.WaitGroup).Go", "(*sync.WaitGroup).Add", "internal/synctest.IsInBubble", "internal/synctest.Associate[sync.WaitGroup]", "sync.fatal", "sync/atomic.OrUint64", "sync/atomic.AddUint64", "internal/race.Read", "sync/atomic.LoadUint64", "sync/atomic.StoreUint64", "internal/synctest.Disassociate[sync.WaitGroup]", "sync.runtime_Semrelease", "(*sync.WaitGroup).Go$1", "(*sync.WaitGroup).Go$1$1", "(*sync.WaitGroup).Done", "(*sync.WaitGroup).Wait", "internal/synctest.IsAssociated[sync.WaitGroup]", "sync/atomic.CompareAndSwapUint64", "internal/race.Write", "sync.runtime_SemacquireWaitGroup"], unfollowed := true, recurses := true, plainKeys := false, leaving := true, apart := false, calm := true, outside := [.timePasses] }
def FnExactFirstRodsSaid : Prop := fnExactFirstRodsRow.holds Try.pinned (OpenSpec.ofChange fnExactFirstRodsSpec)

/-- ITS FALSE NEIGHBOUR: 'it returns false'. Refute it at one input. -/
def fnExactFirstRodsWrong : ChangeSpec := { name := "fnExactFirstRods", fn := fun _ => fun
  | [d1, d2, d3] => { results := [.lit (.bool false)], args := [d1, d2, d3] }
  | _ => none }
def FnExactFirstRodsWrongFalsely : Prop := fnExactFirstRodsRow.holds Try.pinned (OpenSpec.ofChange fnExactFirstRodsWrong)

/-- 'laws.FnExactLongestFirstRods': WHATEVER THE INPUT: true; the input reads as it did. -/
def fnExactLongestFirstRodsSpec : ChangeSpec := { name := "fnExactLongestFirstRods", fn := fun _ => fun
  | [d1, d2, d3] => { results := [.lit (.bool true)], args := [d1, d2, d3] }
  | _ => none }
def fnExactLongestFirstRodsRow : OpenClaim := { program := "ythlhpddfifpkeab", sum := "207040fd046a1890a4b149e211e9862a299570815f6316f089ed3bc65265b929", func := "loop.example/g01334/laws.FnExactLongestFirstRods", spec := "fnExactLongestFirstRods", unfollowed := true, recurses := true, plainKeys := false, leaving := true, apart := false }
def FnExactLongestFirstRodsSaid : Prop := fnExactLongestFirstRodsRow.holds Try.pinned (OpenSpec.ofChange fnExactLongestFirstRodsSpec)

/-- ITS FALSE NEIGHBOUR: 'it returns false'. Refute it at one input. -/
def fnExactLongestFirstRodsWrong : ChangeSpec := { name := "fnExactLongestFirstRods", fn := fun _ => fun
  | [d1, d2, d3] => { results := [.lit (.bool false)], args := [d1, d2, d3] }
  | _ => none }
def FnExactLongestFirstRodsWrongFalsely : Prop := fnExactLongestFirstRodsRow.holds Try.pinned (OpenSpec.ofChange fnExactLongestFirstRodsWrong)

/-- 'laws.FnExactFirstBestCut': WHATEVER THE INPUT: true; the input reads as it did. -/
def fnExactFirstBestCutSpec : ChangeSpec := { name := "fnExactFirstBestCut", fn := fun _ => fun
  | [d1, d2] => { results := [.lit (.bool true)], args := [d1, d2] }
  | _ => none }
def fnExactFirstBestCutRow : OpenClaim := { program := "ythlhpddfifpkeab", sum := "207040fd046a1890a4b149e211e9862a299570815f6316f089ed3bc65265b929", func := "loop.example/g01334/laws.FnExactFirstBestCut", spec := "fnExactFirstBestCut", plainKeys := false, apart := false }
def FnExactFirstBestCutSaid : Prop := fnExactFirstBestCutRow.holds Try.pinned (OpenSpec.ofChange fnExactFirstBestCutSpec)

/-- ITS FALSE NEIGHBOUR: 'it returns false'. Refute it at one input. -/
def fnExactFirstBestCutWrong : ChangeSpec := { name := "fnExactFirstBestCut", fn := fun _ => fun
  | [d1, d2] => { results := [.lit (.bool false)], args := [d1, d2] }
  | _ => none }
def FnExactFirstBestCutWrongFalsely : Prop := fnExactFirstBestCutRow.holds Try.pinned (OpenSpec.ofChange fnExactFirstBestCutWrong)

/-- 'laws.FnExactCountAllCuts': WHATEVER THE INPUT: true; the input reads as it did. -/
def fnExactCountAllCutsSpec : ChangeSpec := { name := "fnExactCountAllCuts", fn := fun _ => fun
  | [d] => { results := [.lit (.bool true)], args := [d] }
  | _ => none }
def fnExactCountAllCutsRow : OpenClaim := { program := "ythlhpddfifpkeab", sum := "207040fd046a1890a4b149e211e9862a299570815f6316f089ed3bc65265b929", func := "loop.example/g01334/laws.FnExactCountAllCuts", spec := "fnExactCountAllCuts", plainKeys := false, apart := false }
def FnExactCountAllCutsSaid : Prop := fnExactCountAllCutsRow.holds Try.pinned (OpenSpec.ofChange fnExactCountAllCutsSpec)

/-- ITS FALSE NEIGHBOUR: 'it returns false'. Refute it at one input. -/
def fnExactCountAllCutsWrong : ChangeSpec := { name := "fnExactCountAllCuts", fn := fun _ => fun
  | [d] => { results := [.lit (.bool false)], args := [d] }
  | _ => none }
def FnExactCountAllCutsWrongFalsely : Prop := fnExactCountAllCutsRow.holds Try.pinned (OpenSpec.ofChange fnExactCountAllCutsWrong)

/-- 'laws.FnExactContentsOf': WHATEVER THE INPUT: true; the input reads as it did. -/
def fnExactContentsOfSpec : ChangeSpec := { name := "fnExactContentsOf", fn := fun _ => fun
  | [d1, d2, d3] => { results := [.lit (.bool true)], args := [d1, d2, d3] }
  | _ => none }
def fnExactContentsOfRow : OpenClaim := { program := "ythlhpddfifpkeab", sum := "207040fd046a1890a4b149e211e9862a299570815f6316f089ed3bc65265b929", func := "loop.example/g01334/laws.FnExactContentsOf", spec := "fnExactContentsOf", recurses := true, plainKeys := false, apart := false }
def FnExactContentsOfSaid : Prop := fnExactContentsOfRow.holds Try.pinned (OpenSpec.ofChange fnExactContentsOfSpec)

/-- ITS FALSE NEIGHBOUR: 'it returns false'. Refute it at one input. -/
def fnExactContentsOfWrong : ChangeSpec := { name := "fnExactContentsOf", fn := fun _ => fun
  | [d1, d2, d3] => { results := [.lit (.bool false)], args := [d1, d2, d3] }
  | _ => none }
def FnExactContentsOfWrongFalsely : Prop := fnExactContentsOfRow.holds Try.pinned (OpenSpec.ofChange fnExactContentsOfWrong)

/-- 'laws.FnExactWorstOrder': WHATEVER THE INPUT: true; the input reads as it did. -/
def fnExactWorstOrderSpec : ChangeSpec := { name := "fnExactWorstOrder", fn := fun _ => fun
  | [d1, d2] => { results := [.lit (.bool true)], args := [d1, d2] }
  | _ => none }
def fnExactWorstOrderRow : OpenClaim := { program := "ythlhpddfifpkeab", sum := "207040fd046a1890a4b149e211e9862a299570815f6316f089ed3bc65265b929", func := "loop.example/g01334/laws.FnExactWorstOrder", spec := "fnExactWorstOrder", unfollowed := true, recurses := true, plainKeys := false, leaving := true, apart := false }
def FnExactWorstOrderSaid : Prop := fnExactWorstOrderRow.holds Try.pinned (OpenSpec.ofChange fnExactWorstOrderSpec)

/-- ITS FALSE NEIGHBOUR: 'it returns false'. Refute it at one input. -/
def fnExactWorstOrderWrong : ChangeSpec := { name := "fnExactWorstOrder", fn := fun _ => fun
  | [d1, d2] => { results := [.lit (.bool false)], args := [d1, d2] }
  | _ => none }
def FnExactWorstOrderWrongFalsely : Prop := fnExactWorstOrderRow.holds Try.pinned (OpenSpec.ofChange fnExactWorstOrderWrong)

/-- 'laws.FnExactBestOrder': WHATEVER THE INPUT: true; the input reads as it did. -/
def fnExactBestOrderSpec : ChangeSpec := { name := "fnExactBestOrder", fn := fun _ => fun
  | [d1, d2] => { results := [.lit (.bool true)], args := [d1, d2] }
  | _ => none }
def fnExactBestOrderRow : OpenClaim := { program := "ythlhpddfifpkeab", sum := "207040fd046a1890a4b149e211e9862a299570815f6316f089ed3bc65265b929", func := "loop.example/g01334/laws.FnExactBestOrder", spec := "fnExactBestOrder", unfollowed := true, recurses := true, plainKeys := false, leaving := true, apart := false }
def FnExactBestOrderSaid : Prop := fnExactBestOrderRow.holds Try.pinned (OpenSpec.ofChange fnExactBestOrderSpec)

/-- ITS FALSE NEIGHBOUR: 'it returns false'. Refute it at one input. -/
def fnExactBestOrderWrong : ChangeSpec := { name := "fnExactBestOrder", fn := fun _ => fun
  | [d1, d2] => { results := [.lit (.bool false)], args := [d1, d2] }
  | _ => none }
def FnExactBestOrderWrongFalsely : Prop := fnExactBestOrderRow.holds Try.pinned (OpenSpec.ofChange fnExactBestOrderWrong)

/-- 'laws.FnExactFewestOuter': WHATEVER THE INPUT: true; the input reads as it did. -/
def fnExactFewestOuterSpec : ChangeSpec := { name := "fnExactFewestOuter", fn := fun _ => fun
  | [d] => { results := [.lit (.bool true)], args := [d] }
  | _ => none }
def fnExactFewestOuterRow : OpenClaim := { program := "ythlhpddfifpkeab", sum := "207040fd046a1890a4b149e211e9862a299570815f6316f089ed3bc65265b929", func := "loop.example/g01334/laws.FnExactFewestOuter", spec := "fnExactFewestOuter", unfollowed := true, recurses := true, plainKeys := false, leaving := true, apart := false }
def FnExactFewestOuterSaid : Prop := fnExactFewestOuterRow.holds Try.pinned (OpenSpec.ofChange fnExactFewestOuterSpec)

/-- ITS FALSE NEIGHBOUR: 'it returns false'. Refute it at one input. -/
def fnExactFewestOuterWrong : ChangeSpec := { name := "fnExactFewestOuter", fn := fun _ => fun
  | [d] => { results := [.lit (.bool false)], args := [d] }
  | _ => none }
def FnExactFewestOuterWrongFalsely : Prop := fnExactFewestOuterRow.holds Try.pinned (OpenSpec.ofChange fnExactFewestOuterWrong)

/-- 'laws.FnExactCountNestings': WHATEVER THE INPUT: true; the input reads as it did. -/
def fnExactCountNestingsSpec : ChangeSpec := { name := "fnExactCountNestings", fn := fun _ => fun
  | [d] => { results := [.lit (.bool true)], args := [d] }
  | _ => none }
def fnExactCountNestingsRow : OpenClaim := { program := "ythlhpddfifpkeab", sum := "207040fd046a1890a4b149e211e9862a299570815f6316f089ed3bc65265b929", func := "loop.example/g01334/laws.FnExactCountNestings", spec := "fnExactCountNestings", unfollowed := true, recurses := true, plainKeys := false, leaving := true, apart := false }
def FnExactCountNestingsSaid : Prop := fnExactCountNestingsRow.holds Try.pinned (OpenSpec.ofChange fnExactCountNestingsSpec)

/-- ITS FALSE NEIGHBOUR: 'it returns false'. Refute it at one input. -/
def fnExactCountNestingsWrong : ChangeSpec := { name := "fnExactCountNestings", fn := fun _ => fun
  | [d] => { results := [.lit (.bool false)], args := [d] }
  | _ => none }
def FnExactCountNestingsWrongFalsely : Prop := fnExactCountNestingsRow.holds Try.pinned (OpenSpec.ofChange fnExactCountNestingsWrong)

/- THE SECOND FORM. 'bulk': how many values and letters a reading holds, each counted each time it is reached (what is shared counts as often as it is met; a slice's spare places count too). A statement '..UptoSaid' is the law's where the arguments, and the package variables that the reading takes, are together of bulk at most 1048576: NARROWER than '..Said'. Prove '..Said' where nothing that the law and all that it calls make is longer than what came in: it says more and counts as full. Else prove '..UptoSaid'. A law counts once. -/
mutual
def uptoBulk {H : Type} : DataW H → Nat
  | .lit (.string bytes) => bytes.length + 1
  | .lit _ => 1
  | .nil => 1
  | .ptr d => uptoBulk d + 1
  | .slice elems spare => uptoBulkAll elems + uptoBulkAll spare + 1
  | .agg parts => uptoBulkAll parts + 1
  | .iface _ d => uptoBulk d + 1
  | .map entries => uptoBulkEntries entries + 1
  | .held _ => 1
def uptoBulkAll {H : Type} : List (DataW H) → Nat
  | [] => 0
  | d :: r => uptoBulk d + uptoBulkAll r
def uptoBulkEntries {H : Type} : List (Lit × DataW H) → Nat
  | [] => 0
  | x :: r => uptoBulkEntry x + uptoBulkEntries r
def uptoBulkEntry {H : Type} : Lit × DataW H → Nat
  | (.string bytes, d) => bytes.length + uptoBulk d + 1
  | (_, d) => uptoBulk d + 1
 end
def uptoSmall : (H : Type) → List (DataW H) → Bool := fun _ ds => decide (uptoBulkAll ds ≤ 1048576)
def OpenSpec.upto (s : _root_.Go.ChangeSpec) : _root_.Go.OpenSpec := { _root_.Go.OpenSpec.ofChange s with cond := some uptoSmall }

/-- 'laws.FnExactFullPatterns', WHERE WHAT IT READS IS OF BULK AT MOST 1048576: true; the input reads as it did. -/
def fnExactFullPatternsUptoRow : OpenClaim := { program := "ythlhpddfifpkeab", sum := "207040fd046a1890a4b149e211e9862a299570815f6316f089ed3bc65265b929", func := "loop.example/g01334/laws.FnExactFullPatterns", spec := "fnExactFullPatterns", unfollowed := true, recurses := true, plainKeys := false, leaving := true, apart := false, narrowed := true }
def FnExactFullPatternsUptoSaid : Prop := fnExactFullPatternsUptoRow.holds Try.pinned (OpenSpec.upto fnExactFullPatternsSpec)

/-- 'laws.FnExactLeastWaste', WHERE WHAT IT READS IS OF BULK AT MOST 1048576: true; the input reads as it did. -/
def fnExactLeastWasteUptoRow : OpenClaim := { program := "ythlhpddfifpkeab", sum := "207040fd046a1890a4b149e211e9862a299570815f6316f089ed3bc65265b929", func := "loop.example/g01334/laws.FnExactLeastWaste", spec := "fnExactLeastWaste", inPlace := ["(*internal/sync.Mutex).Lock", "internal/race.Disable", "sync/atomic.CompareAndSwapInt32", "internal/race.Enable", "internal/race.Acquire", "(*internal/sync.Mutex).lockSlow", "internal/sync.runtime_canSpin", "internal/sync.runtime_doSpin", "internal/sync.throw", "internal/sync.runtime_nanotime", "internal/sync.runtime_SemacquireMutex", "sync/atomic.AddInt32", "(*internal/sync.Mutex).Unlock", "internal/race.ReleaseMerge", "(*internal/sync.Mutex).unlockSlow", "internal/sync.fatal", "internal/sync.runtime_Semrelease", "(*sync.WaitGroup).Go", "(*sync.WaitGroup).Add", "internal/synctest.IsInBubble", "internal/synctest.Associate[sync.WaitGroup]", "sync.fatal", "sync/atomic.OrUint64", "sync/atomic.AddUint64", "internal/race.Read", "sync/atomic.LoadUint64", "sync/atomic.StoreUint64", "internal/synctest.Disassociate[sync.WaitGroup]", "sync.runtime_Semrelease", "(*sync.WaitGroup).Go$1", "(*sync.WaitGroup).Go$1$1", "(*sync.WaitGroup).Done", "(*sync.WaitGroup).Wait", "internal/synctest.IsAssociated[sync.WaitGroup]", "sync/atomic.CompareAndSwapUint64", "internal/race.Write", "sync.runtime_SemacquireWaitGroup"], unfollowed := true, recurses := true, plainKeys := false, leaving := true, apart := false, calm := true, outside := [.timePasses], narrowed := true }
def FnExactLeastWasteUptoSaid : Prop := fnExactLeastWasteUptoRow.holds Try.pinned (OpenSpec.upto fnExactLeastWasteSpec)

/-- 'laws.FnExactFewestRods', WHERE WHAT IT READS IS OF BULK AT MOST 1048576: true; the input reads as it did. -/
def fnExactFewestRodsUptoRow : OpenClaim := { program := "ythlhpddfifpkeab", sum := "207040fd046a1890a4b149e211e9862a299570815f6316f089ed3bc65265b929", func := "loop.example/g01334/laws.FnExactFewestRods", spec := "fnExactFewestRods", unfollowed := true, recurses := true, plainKeys := false, leaving := true, apart := false, narrowed := true }
def FnExactFewestRodsUptoSaid : Prop := fnExactFewestRodsUptoRow.holds Try.pinned (OpenSpec.upto fnExactFewestRodsSpec)

/-- 'laws.FnExactFirstRods', WHERE WHAT IT READS IS OF BULK AT MOST 1048576: true; the input reads as it did. -/
def fnExactFirstRodsUptoRow : OpenClaim := { program := "ythlhpddfifpkeab", sum := "207040fd046a1890a4b149e211e9862a299570815f6316f089ed3bc65265b929", func := "loop.example/g01334/laws.FnExactFirstRods", spec := "fnExactFirstRods", inPlace := ["(*internal/sync.Mutex).Lock", "internal/race.Disable", "sync/atomic.CompareAndSwapInt32", "internal/race.Enable", "internal/race.Acquire", "(*internal/sync.Mutex).lockSlow", "internal/sync.runtime_canSpin", "internal/sync.runtime_doSpin", "internal/sync.throw", "internal/sync.runtime_nanotime", "internal/sync.runtime_SemacquireMutex", "sync/atomic.AddInt32", "(*internal/sync.Mutex).Unlock", "internal/race.ReleaseMerge", "(*internal/sync.Mutex).unlockSlow", "internal/sync.fatal", "internal/sync.runtime_Semrelease", "(*sync.WaitGroup).Go", "(*sync.WaitGroup).Add", "internal/synctest.IsInBubble", "internal/synctest.Associate[sync.WaitGroup]", "sync.fatal", "sync/atomic.OrUint64", "sync/atomic.AddUint64", "internal/race.Read", "sync/atomic.LoadUint64", "sync/atomic.StoreUint64", "internal/synctest.Disassociate[sync.WaitGroup]", "sync.runtime_Semrelease", "(*sync.WaitGroup).Go$1", "(*sync.WaitGroup).Go$1$1", "(*sync.WaitGroup).Done", "(*sync.WaitGroup).Wait", "internal/synctest.IsAssociated[sync.WaitGroup]", "sync/atomic.CompareAndSwapUint64", "internal/race.Write", "sync.runtime_SemacquireWaitGroup"], unfollowed := true, recurses := true, plainKeys := false, leaving := true, apart := false, calm := true, outside := [.timePasses], narrowed := true }
def FnExactFirstRodsUptoSaid : Prop := fnExactFirstRodsUptoRow.holds Try.pinned (OpenSpec.upto fnExactFirstRodsSpec)

/-- 'laws.FnExactLongestFirstRods', WHERE WHAT IT READS IS OF BULK AT MOST 1048576: true; the input reads as it did. -/
def fnExactLongestFirstRodsUptoRow : OpenClaim := { program := "ythlhpddfifpkeab", sum := "207040fd046a1890a4b149e211e9862a299570815f6316f089ed3bc65265b929", func := "loop.example/g01334/laws.FnExactLongestFirstRods", spec := "fnExactLongestFirstRods", unfollowed := true, recurses := true, plainKeys := false, leaving := true, apart := false, narrowed := true }
def FnExactLongestFirstRodsUptoSaid : Prop := fnExactLongestFirstRodsUptoRow.holds Try.pinned (OpenSpec.upto fnExactLongestFirstRodsSpec)

/-- 'laws.FnExactFirstBestCut', WHERE WHAT IT READS IS OF BULK AT MOST 1048576: true; the input reads as it did. -/
def fnExactFirstBestCutUptoRow : OpenClaim := { program := "ythlhpddfifpkeab", sum := "207040fd046a1890a4b149e211e9862a299570815f6316f089ed3bc65265b929", func := "loop.example/g01334/laws.FnExactFirstBestCut", spec := "fnExactFirstBestCut", plainKeys := false, apart := false, narrowed := true }
def FnExactFirstBestCutUptoSaid : Prop := fnExactFirstBestCutUptoRow.holds Try.pinned (OpenSpec.upto fnExactFirstBestCutSpec)

/-- 'laws.FnExactCountAllCuts', WHERE WHAT IT READS IS OF BULK AT MOST 1048576: true; the input reads as it did. -/
def fnExactCountAllCutsUptoRow : OpenClaim := { program := "ythlhpddfifpkeab", sum := "207040fd046a1890a4b149e211e9862a299570815f6316f089ed3bc65265b929", func := "loop.example/g01334/laws.FnExactCountAllCuts", spec := "fnExactCountAllCuts", plainKeys := false, apart := false, narrowed := true }
def FnExactCountAllCutsUptoSaid : Prop := fnExactCountAllCutsUptoRow.holds Try.pinned (OpenSpec.upto fnExactCountAllCutsSpec)

/-- 'laws.FnExactContentsOf', WHERE WHAT IT READS IS OF BULK AT MOST 1048576: true; the input reads as it did. -/
def fnExactContentsOfUptoRow : OpenClaim := { program := "ythlhpddfifpkeab", sum := "207040fd046a1890a4b149e211e9862a299570815f6316f089ed3bc65265b929", func := "loop.example/g01334/laws.FnExactContentsOf", spec := "fnExactContentsOf", recurses := true, plainKeys := false, apart := false, narrowed := true }
def FnExactContentsOfUptoSaid : Prop := fnExactContentsOfUptoRow.holds Try.pinned (OpenSpec.upto fnExactContentsOfSpec)

/-- 'laws.FnExactWorstOrder', WHERE WHAT IT READS IS OF BULK AT MOST 1048576: true; the input reads as it did. -/
def fnExactWorstOrderUptoRow : OpenClaim := { program := "ythlhpddfifpkeab", sum := "207040fd046a1890a4b149e211e9862a299570815f6316f089ed3bc65265b929", func := "loop.example/g01334/laws.FnExactWorstOrder", spec := "fnExactWorstOrder", unfollowed := true, recurses := true, plainKeys := false, leaving := true, apart := false, narrowed := true }
def FnExactWorstOrderUptoSaid : Prop := fnExactWorstOrderUptoRow.holds Try.pinned (OpenSpec.upto fnExactWorstOrderSpec)

/-- 'laws.FnExactBestOrder', WHERE WHAT IT READS IS OF BULK AT MOST 1048576: true; the input reads as it did. -/
def fnExactBestOrderUptoRow : OpenClaim := { program := "ythlhpddfifpkeab", sum := "207040fd046a1890a4b149e211e9862a299570815f6316f089ed3bc65265b929", func := "loop.example/g01334/laws.FnExactBestOrder", spec := "fnExactBestOrder", unfollowed := true, recurses := true, plainKeys := false, leaving := true, apart := false, narrowed := true }
def FnExactBestOrderUptoSaid : Prop := fnExactBestOrderUptoRow.holds Try.pinned (OpenSpec.upto fnExactBestOrderSpec)

/-- 'laws.FnExactFewestOuter', WHERE WHAT IT READS IS OF BULK AT MOST 1048576: true; the input reads as it did. -/
def fnExactFewestOuterUptoRow : OpenClaim := { program := "ythlhpddfifpkeab", sum := "207040fd046a1890a4b149e211e9862a299570815f6316f089ed3bc65265b929", func := "loop.example/g01334/laws.FnExactFewestOuter", spec := "fnExactFewestOuter", unfollowed := true, recurses := true, plainKeys := false, leaving := true, apart := false, narrowed := true }
def FnExactFewestOuterUptoSaid : Prop := fnExactFewestOuterUptoRow.holds Try.pinned (OpenSpec.upto fnExactFewestOuterSpec)

/-- 'laws.FnExactCountNestings', WHERE WHAT IT READS IS OF BULK AT MOST 1048576: true; the input reads as it did. -/
def fnExactCountNestingsUptoRow : OpenClaim := { program := "ythlhpddfifpkeab", sum := "207040fd046a1890a4b149e211e9862a299570815f6316f089ed3bc65265b929", func := "loop.example/g01334/laws.FnExactCountNestings", spec := "fnExactCountNestings", unfollowed := true, recurses := true, plainKeys := false, leaving := true, apart := false, narrowed := true }
def FnExactCountNestingsUptoSaid : Prop := fnExactCountNestingsUptoRow.holds Try.pinned (OpenSpec.upto fnExactCountNestingsSpec)

end Rows
end Go.Proofs.Ythlhpddfifpkeab
