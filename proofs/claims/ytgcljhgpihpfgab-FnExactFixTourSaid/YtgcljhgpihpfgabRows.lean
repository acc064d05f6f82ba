/-
  No cell of these rows narrows 'for every input' (looked for: loops, veiled, ifaces, maps, wideKeys, modest, calm, conditions, laid).
  DERIVED. THE GIVEN ROWS OF THIS SEAT. 10 by the template 'for every input the law returns true; each argument reads behind the call as it read before'; 0 by the template 'total and deterministic' (their statements: YtgcljhgpihpfgabTotals.lean).
  GIVEN WITH THE SEED: the statements are not yours to turn. If you find one false, say at which input.
  Laid BY PROGRAM, IN A SANDBOX (cutbox-rows.mjs): the forced cells as the released guide's own fill.sh prints them over the translation 27a1f408e1514bb6… (all of the seat's roots in one cut). By AI agents, Wed Nov 11 2026. No macro, syntax, notation, axiom, sorry.
-/
import Derived.Test.YtgcljhgpihpfgabChecked
import GoSem.Claim
import GoSem.ClaimJoined
import GoSem.ClaimMapViews
import Derived.JoinedTies
import Derived.KernelRfl
namespace Go.Proofs.Ytgcljhgpihpfgab
/- THE CELL 'sum', in the pinned program and in every row, IS THE sha256 OF THE DUMP (.gsa) THAT YtgcljhgpihpfgabProg.lean LOADS. Nothing in Lean hashes anything: it is a label: what it is worth is what the hold of that sum in a sandbox is worth. -/
noncomputable def Try.pinned : Pinned := { name := "ytgcljhgpihpfgab", sum := "27a1f408e1514bb6429f738c1432f8bbdb3c47b5f47dbbadeb47b9dac8d2bd7d", checked := Try.checked }
namespace Rows
def none {H : Type} : Left H := { results := [], args := [] }

/-- 'laws.FnExactIsTour': WHATEVER THE INPUT: true; the input reads as it did. -/
def fnExactIsTourSpec : ChangeSpec := { name := "fnExactIsTour", fn := fun _ => fun
  | [d] => { results := [.lit (.bool true)], args := [d] }
  | _ => none }
def fnExactIsTourRow : OpenClaim := { program := "ytgcljhgpihpfgab", sum := "27a1f408e1514bb6429f738c1432f8bbdb3c47b5f47dbbadeb47b9dac8d2bd7d", func := "loop.example/g01334/laws.FnExactIsTour", spec := "fnExactIsTour", inPlace := ["internal/bytealg.IndexByteString", "internal/bytealg.IndexString", "internal/bytealg.IndexByte"], named := ["internal/bytealg.MaxLen"], apart := false }
def FnExactIsTourSaid : Prop := fnExactIsTourRow.holds Try.pinned (OpenSpec.ofChange fnExactIsTourSpec)

/-- ITS FALSE NEIGHBOUR: 'it returns false'. Refute it at one input. -/
def fnExactIsTourWrong : ChangeSpec := { name := "fnExactIsTour", fn := fun _ => fun
  | [d] => { results := [.lit (.bool false)], args := [d] }
  | _ => none }
def FnExactIsTourWrongFalsely : Prop := fnExactIsTourRow.holds Try.pinned (OpenSpec.ofChange fnExactIsTourWrong)

/-- 'laws.FnExactIsServed': WHATEVER THE INPUT: true; the input reads as it did. -/
def fnExactIsServedSpec : ChangeSpec := { name := "fnExactIsServed", fn := fun _ => fun
  | [d] => { results := [.lit (.bool true)], args := [d] }
  | _ => none }
def fnExactIsServedRow : OpenClaim := { program := "ytgcljhgpihpfgab", sum := "27a1f408e1514bb6429f738c1432f8bbdb3c47b5f47dbbadeb47b9dac8d2bd7d", func := "loop.example/g01334/laws.FnExactIsServed", spec := "fnExactIsServed", inPlace := ["internal/bytealg.IndexByteString", "internal/bytealg.IndexString", "internal/bytealg.IndexByte"], named := ["internal/bytealg.MaxLen"], apart := false }
def FnExactIsServedSaid : Prop := fnExactIsServedRow.holds Try.pinned (OpenSpec.ofChange fnExactIsServedSpec)

/-- ITS FALSE NEIGHBOUR: 'it returns false'. Refute it at one input. -/
def fnExactIsServedWrong : ChangeSpec := { name := "fnExactIsServed", fn := fun _ => fun
  | [d] => { results := [.lit (.bool false)], args := [d] }
  | _ => none }
def FnExactIsServedWrongFalsely : Prop := fnExactIsServedRow.holds Try.pinned (OpenSpec.ofChange fnExactIsServedWrong)

/-- 'laws.FnExactFullestOf': WHATEVER THE INPUT: true; the input reads as it did. -/
def fnExactFullestOfSpec : ChangeSpec := { name := "fnExactFullestOf", fn := fun _ => fun
  | [d] => { results := [.lit (.bool true)], args := [d] }
  | _ => none }
def fnExactFullestOfRow : OpenClaim := { program := "ytgcljhgpihpfgab", sum := "27a1f408e1514bb6429f738c1432f8bbdb3c47b5f47dbbadeb47b9dac8d2bd7d", func := "loop.example/g01334/laws.FnExactFullestOf", spec := "fnExactFullestOf", inPlace := ["internal/bytealg.IndexByteString", "internal/bytealg.IndexString", "internal/bytealg.IndexByte"], named := ["internal/bytealg.MaxLen"], apart := false }
def FnExactFullestOfSaid : Prop := fnExactFullestOfRow.holds Try.pinned (OpenSpec.ofChange fnExactFullestOfSpec)

/-- ITS FALSE NEIGHBOUR: 'it returns false'. Refute it at one input. -/
def fnExactFullestOfWrong : ChangeSpec := { name := "fnExactFullestOf", fn := fun _ => fun
  | [d] => { results := [.lit (.bool false)], args := [d] }
  | _ => none }
def FnExactFullestOfWrongFalsely : Prop := fnExactFullestOfRow.holds Try.pinned (OpenSpec.ofChange fnExactFullestOfWrong)

/-- 'laws.FnExactOpenAfter': WHATEVER THE INPUT: true; the input reads as it did. -/
def fnExactOpenAfterSpec : ChangeSpec := { name := "fnExactOpenAfter", fn := fun _ => fun
  | [d1, d2] => { results := [.lit (.bool true)], args := [d1, d2] }
  | _ => none }
def fnExactOpenAfterRow : OpenClaim := { program := "ytgcljhgpihpfgab", sum := "27a1f408e1514bb6429f738c1432f8bbdb3c47b5f47dbbadeb47b9dac8d2bd7d", func := "loop.example/g01334/laws.FnExactOpenAfter", spec := "fnExactOpenAfter", inPlace := ["internal/bytealg.IndexByteString", "internal/bytealg.IndexString", "internal/bytealg.IndexByte"], named := ["internal/bytealg.MaxLen"], apart := false }
def FnExactOpenAfterSaid : Prop := fnExactOpenAfterRow.holds Try.pinned (OpenSpec.ofChange fnExactOpenAfterSpec)

/-- ITS FALSE NEIGHBOUR: 'it returns false'. Refute it at one input. -/
def fnExactOpenAfterWrong : ChangeSpec := { name := "fnExactOpenAfter", fn := fun _ => fun
  | [d1, d2] => { results := [.lit (.bool false)], args := [d1, d2] }
  | _ => none }
def FnExactOpenAfterWrongFalsely : Prop := fnExactOpenAfterRow.holds Try.pinned (OpenSpec.ofChange fnExactOpenAfterWrong)

/-- 'laws.FnExactBackTour': WHATEVER THE INPUT: true; the input reads as it did. -/
def fnExactBackTourSpec : ChangeSpec := { name := "fnExactBackTour", fn := fun _ => fun
  | [d] => { results := [.lit (.bool true)], args := [d] }
  | _ => none }
def fnExactBackTourRow : OpenClaim := { program := "ytgcljhgpihpfgab", sum := "27a1f408e1514bb6429f738c1432f8bbdb3c47b5f47dbbadeb47b9dac8d2bd7d", func := "loop.example/g01334/laws.FnExactBackTour", spec := "fnExactBackTour", inPlace := ["internal/bytealg.IndexByteString", "internal/bytealg.IndexString", "internal/bytealg.IndexByte"], named := ["internal/bytealg.MaxLen"], apart := false }
def FnExactBackTourSaid : Prop := fnExactBackTourRow.holds Try.pinned (OpenSpec.ofChange fnExactBackTourSpec)

/-- ITS FALSE NEIGHBOUR: 'it returns false'. Refute it at one input. -/
def fnExactBackTourWrong : ChangeSpec := { name := "fnExactBackTour", fn := fun _ => fun
  | [d] => { results := [.lit (.bool false)], args := [d] }
  | _ => none }
def FnExactBackTourWrongFalsely : Prop := fnExactBackTourRow.holds Try.pinned (OpenSpec.ofChange fnExactBackTourWrong)

/-- 'laws.FnExactFixTour': WHATEVER THE INPUT: true; the input reads as it did. -/
def fnExactFixTourSpec : ChangeSpec := { name := "fnExactFixTour", fn := fun _ => fun
  | [d] => { results := [.lit (.bool true)], args := [d] }
  | _ => none }
def fnExactFixTourRow : OpenClaim := { program := "ytgcljhgpihpfgab", sum := "27a1f408e1514bb6429f738c1432f8bbdb3c47b5f47dbbadeb47b9dac8d2bd7d", func := "loop.example/g01334/laws.FnExactFixTour", spec := "fnExactFixTour", inPlace := ["internal/bytealg.IndexByteString", "internal/bytealg.IndexString", "internal/bytealg.IndexByte", "internal/abi.NoEscape"], named := ["internal/bytealg.MaxLen"], apart := false }
def FnExactFixTourSaid : Prop := fnExactFixTourRow.holds Try.pinned (OpenSpec.ofChange fnExactFixTourSpec)

/-- ITS FALSE NEIGHBOUR: 'it returns false'. Refute it at one input. -/
def fnExactFixTourWrong : ChangeSpec := { name := "fnExactFixTour", fn := fun _ => fun
  | [d] => { results := [.lit (.bool false)], args := [d] }
  | _ => none }
def FnExactFixTourWrongFalsely : Prop := fnExactFixTourRow.holds Try.pinned (OpenSpec.ofChange fnExactFixTourWrong)

/-- 'laws.FnExactFirstServed': WHATEVER THE INPUT: true; the input reads as it did. -/
def fnExactFirstServedSpec : ChangeSpec := { name := "fnExactFirstServed", fn := fun _ => fun
  | [d] => { results := [.lit (.bool true)], args := [d] }
  | _ => none }
def fnExactFirstServedRow : OpenClaim := { program := "ytgcljhgpihpfgab", sum := "27a1f408e1514bb6429f738c1432f8bbdb3c47b5f47dbbadeb47b9dac8d2bd7d", func := "loop.example/g01334/laws.FnExactFirstServed", spec := "fnExactFirstServed", inPlace := ["internal/abi.NoEscape"], apart := false }
def FnExactFirstServedSaid : Prop := fnExactFirstServedRow.holds Try.pinned (OpenSpec.ofChange fnExactFirstServedSpec)

/-- ITS FALSE NEIGHBOUR: 'it returns false'. Refute it at one input. -/
def fnExactFirstServedWrong : ChangeSpec := { name := "fnExactFirstServed", fn := fun _ => fun
  | [d] => { results := [.lit (.bool false)], args := [d] }
  | _ => none }
def FnExactFirstServedWrongFalsely : Prop := fnExactFirstServedRow.holds Try.pinned (OpenSpec.ofChange fnExactFirstServedWrong)

/-- 'laws.FnExactExtraMoves': WHATEVER THE INPUT: true; the input reads as it did. -/
def fnExactExtraMovesSpec : ChangeSpec := { name := "fnExactExtraMoves", fn := fun _ => fun
  | [d] => { results := [.lit (.bool true)], args := [d] }
  | _ => none }
def fnExactExtraMovesRow : OpenClaim := { program := "ytgcljhgpihpfgab", sum := "27a1f408e1514bb6429f738c1432f8bbdb3c47b5f47dbbadeb47b9dac8d2bd7d", func := "loop.example/g01334/laws.FnExactExtraMoves", spec := "fnExactExtraMoves", inPlace := ["internal/bytealg.IndexByte", "(*sync.WaitGroup).Go", "(*sync.WaitGroup).Add", "internal/race.ReleaseMerge", "internal/race.Disable", "internal/race.Enable", "internal/synctest.IsInBubble", "internal/synctest.Associate[sync.WaitGroup]", "sync.fatal", "sync/atomic.OrUint64", "sync/atomic.AddUint64", "internal/race.Read", "sync/atomic.LoadUint64", "sync/atomic.StoreUint64", "internal/synctest.Disassociate[sync.WaitGroup]", "sync.runtime_Semrelease", "(*sync.WaitGroup).Go$1", "(*sync.WaitGroup).Go$1$1", "(*sync.WaitGroup).Done", "(*sync.WaitGroup).Wait", "internal/race.Acquire", "internal/synctest.IsAssociated[sync.WaitGroup]", "sync/atomic.CompareAndSwapUint64", "internal/race.Write", "sync.runtime_SemacquireWaitGroup"], unfollowed := true, recurses := true, leaving := true, apart := false }
def FnExactExtraMovesSaid : Prop := fnExactExtraMovesRow.holds Try.pinned (OpenSpec.ofChange fnExactExtraMovesSpec)

/-- ITS FALSE NEIGHBOUR: 'it returns false'. Refute it at one input. -/
def fnExactExtraMovesWrong : ChangeSpec := { name := "fnExactExtraMoves", fn := fun _ => fun
  | [d] => { results := [.lit (.bool false)], args := [d] }
  | _ => none }
def FnExactExtraMovesWrongFalsely : Prop := fnExactExtraMovesRow.holds Try.pinned (OpenSpec.ofChange fnExactExtraMovesWrong)

/-- 'laws.FnExactAfterStop': WHATEVER THE INPUT: true; the input reads as it did. -/
def fnExactAfterStopSpec : ChangeSpec := { name := "fnExactAfterStop", fn := fun _ => fun
  | [d1, d2] => { results := [.lit (.bool true)], args := [d1, d2] }
  | _ => none }
def fnExactAfterStopRow : OpenClaim := { program := "ytgcljhgpihpfgab", sum := "27a1f408e1514bb6429f738c1432f8bbdb3c47b5f47dbbadeb47b9dac8d2bd7d", func := "loop.example/g01334/laws.FnExactAfterStop", spec := "fnExactAfterStop", inPlace := ["internal/bytealg.IndexByte", "(*sync.WaitGroup).Go", "(*sync.WaitGroup).Add", "internal/race.ReleaseMerge", "internal/race.Disable", "internal/race.Enable", "internal/synctest.IsInBubble", "internal/synctest.Associate[sync.WaitGroup]", "sync.fatal", "sync/atomic.OrUint64", "sync/atomic.AddUint64", "internal/race.Read", "sync/atomic.LoadUint64", "sync/atomic.StoreUint64", "internal/synctest.Disassociate[sync.WaitGroup]", "sync.runtime_Semrelease", "(*sync.WaitGroup).Go$1", "(*sync.WaitGroup).Go$1$1", "(*sync.WaitGroup).Done", "(*sync.WaitGroup).Wait", "internal/race.Acquire", "internal/synctest.IsAssociated[sync.WaitGroup]", "sync/atomic.CompareAndSwapUint64", "internal/race.Write", "sync.runtime_SemacquireWaitGroup"], unfollowed := true, recurses := true, leaving := true, apart := false }
def FnExactAfterStopSaid : Prop := fnExactAfterStopRow.holds Try.pinned (OpenSpec.ofChange fnExactAfterStopSpec)

/-- ITS FALSE NEIGHBOUR: 'it returns false'. Refute it at one input. -/
def fnExactAfterStopWrong : ChangeSpec := { name := "fnExactAfterStop", fn := fun _ => fun
  | [d1, d2] => { results := [.lit (.bool false)], args := [d1, d2] }
  | _ => none }
def FnExactAfterStopWrongFalsely : Prop := fnExactAfterStopRow.holds Try.pinned (OpenSpec.ofChange fnExactAfterStopWrong)

/-- 'laws.FnExactExtraBySorting': WHATEVER THE INPUT: true; the input reads as it did. -/
def fnExactExtraBySortingSpec : ChangeSpec := { name := "fnExactExtraBySorting", fn := fun _ => fun
  | [d] => { results := [.lit (.bool true)], args := [d] }
  | _ => none }
def fnExactExtraBySortingRow : OpenClaim := { program := "ytgcljhgpihpfgab", sum := "27a1f408e1514bb6429f738c1432f8bbdb3c47b5f47dbbadeb47b9dac8d2bd7d", func := "loop.example/g01334/laws.FnExactExtraBySorting", spec := "fnExactExtraBySorting", inPlace := ["internal/bytealg.IndexByte", "(*sync.WaitGroup).Go", "(*sync.WaitGroup).Add", "internal/race.ReleaseMerge", "internal/race.Disable", "internal/race.Enable", "internal/synctest.IsInBubble", "internal/synctest.Associate[sync.WaitGroup]", "sync.fatal", "sync/atomic.OrUint64", "sync/atomic.AddUint64", "internal/race.Read", "sync/atomic.LoadUint64", "sync/atomic.StoreUint64", "internal/synctest.Disassociate[sync.WaitGroup]", "sync.runtime_Semrelease", "(*sync.WaitGroup).Go$1", "(*sync.WaitGroup).Go$1$1", "(*sync.WaitGroup).Done", "(*sync.WaitGroup).Wait", "internal/race.Acquire", "internal/synctest.IsAssociated[sync.WaitGroup]", "sync/atomic.CompareAndSwapUint64", "internal/race.Write", "sync.runtime_SemacquireWaitGroup"], unfollowed := true, recurses := true, leaving := true, apart := false }
def FnExactExtraBySortingSaid : Prop := fnExactExtraBySortingRow.holds Try.pinned (OpenSpec.ofChange fnExactExtraBySortingSpec)

/-- ITS FALSE NEIGHBOUR: 'it returns false'. Refute it at one input. -/
def fnExactExtraBySortingWrong : ChangeSpec := { name := "fnExactExtraBySorting", fn := fun _ => fun
  | [d] => { results := [.lit (.bool false)], args := [d] }
  | _ => none }
def FnExactExtraBySortingWrongFalsely : Prop := fnExactExtraBySortingRow.holds Try.pinned (OpenSpec.ofChange fnExactExtraBySortingWrong)

/- THE SECOND FORM. 'bulk': how many values and letters a reading holds, each counted each time it is reached (what is shared counts as often as it is met; a slice's spare places count too). A statement '..UptoSaid' is the law's where the arguments, and the package variables that the reading takes, are together of bulk at most 1048576: NARROWER than '..Said'. Prove '..Said' where nothing that the law and all that it calls make is longer than what came in: it says more and counts as full. Else prove '..UptoSaid'. A law counts once. -/
mutual
def uptoBulk {H : Type} : DataW H → Nat
  | .lit (.string bytes) => bytes.length + 1
  | .lit _ => 1
  | .nil => 1
  | .ptr d => uptoBulk d + 1
  | .slice elems spare => uptoBulkAll elems + uptoBulkAll spare + 1
  | .agg parts => uptoBulkAll parts + 1
  | .iface _ d => uptoBulk d + 1
  | .map entries => uptoBulkEntries entries + 1
  | .held _ => 1
def uptoBulkAll {H : Type} : List (DataW H) → Nat
  | [] => 0
  | d :: r => uptoBulk d + uptoBulkAll r
def uptoBulkEntries {H : Type} : List (Lit × DataW H) → Nat
  | [] => 0
  | x :: r => uptoBulkEntry x + uptoBulkEntries r
def uptoBulkEntry {H : Type} : Lit × DataW H → Nat
  | (.string bytes, d) => bytes.length + uptoBulk d + 1
  | (_, d) => uptoBulk d + 1
 end
def uptoSmall : (H : Type) → List (DataW H) → Bool := fun _ ds => decide (uptoBulkAll ds ≤ 1048576)
def OpenSpec.upto (s : _root_.Go.ChangeSpec) : _root_.Go.OpenSpec := { _root_.Go.OpenSpec.ofChange s with cond := some uptoSmall }

/-- 'laws.FnExactIsTour', WHERE WHAT IT READS IS OF BULK AT MOST 1048576: true; the input reads as it did. -/
def fnExactIsTourUptoRow : OpenClaim := { program := "ytgcljhgpihpfgab", sum := "27a1f408e1514bb6429f738c1432f8bbdb3c47b5f47dbbadeb47b9dac8d2bd7d", func := "loop.example/g01334/laws.FnExactIsTour", spec := "fnExactIsTour", inPlace := ["internal/bytealg.IndexByteString", "internal/bytealg.IndexString", "internal/bytealg.IndexByte"], named := ["internal/bytealg.MaxLen"], apart := false, narrowed := true }
def FnExactIsTourUptoSaid : Prop := fnExactIsTourUptoRow.holds Try.pinned (OpenSpec.upto fnExactIsTourSpec)

/-- 'laws.FnExactIsServed', WHERE WHAT IT READS IS OF BULK AT MOST 1048576: true; the input reads as it did. -/
def fnExactIsServedUptoRow : OpenClaim := { program := "ytgcljhgpihpfgab", sum := "27a1f408e1514bb6429f738c1432f8bbdb3c47b5f47dbbadeb47b9dac8d2bd7d", func := "loop.example/g01334/laws.FnExactIsServed", spec := "fnExactIsServed", inPlace := ["internal/bytealg.IndexByteString", "internal/bytealg.IndexString", "internal/bytealg.IndexByte"], named := ["internal/bytealg.MaxLen"], apart := false, narrowed := true }
def FnExactIsServedUptoSaid : Prop := fnExactIsServedUptoRow.holds Try.pinned (OpenSpec.upto fnExactIsServedSpec)

/-- 'laws.FnExactFullestOf', WHERE WHAT IT READS IS OF BULK AT MOST 1048576: true; the input reads as it did. -/
def fnExactFullestOfUptoRow : OpenClaim := { program := "ytgcljhgpihpfgab", sum := "27a1f408e1514bb6429f738c1432f8bbdb3c47b5f47dbbadeb47b9dac8d2bd7d", func := "loop.example/g01334/laws.FnExactFullestOf", spec := "fnExactFullestOf", inPlace := ["internal/bytealg.IndexByteString", "internal/bytealg.IndexString", "internal/bytealg.IndexByte"], named := ["internal/bytealg.MaxLen"], apart := false, narrowed := true }
def FnExactFullestOfUptoSaid : Prop := fnExactFullestOfUptoRow.holds Try.pinned (OpenSpec.upto fnExactFullestOfSpec)

/-- 'laws.FnExactOpenAfter', WHERE WHAT IT READS IS OF BULK AT MOST 1048576: true; the input reads as it did. -/
def fnExactOpenAfterUptoRow : OpenClaim := { program := "ytgcljhgpihpfgab", sum := "27a1f408e1514bb6429f738c1432f8bbdb3c47b5f47dbbadeb47b9dac8d2bd7d", func := "loop.example/g01334/laws.FnExactOpenAfter", spec := "fnExactOpenAfter", inPlace := ["internal/bytealg.IndexByteString", "internal/bytealg.IndexString", "internal/bytealg.IndexByte"], named := ["internal/bytealg.MaxLen"], apart := false, narrowed := true }
def FnExactOpenAfterUptoSaid : Prop := fnExactOpenAfterUptoRow.holds Try.pinned (OpenSpec.upto fnExactOpenAfterSpec)

/-- 'laws.FnExactBackTour', WHERE WHAT IT READS IS OF BULK AT MOST 1048576: true; the input reads as it did. -/
def fnExactBackTourUptoRow : OpenClaim := { program := "ytgcljhgpihpfgab", sum := "27a1f408e1514bb6429f738c1432f8bbdb3c47b5f47dbbadeb47b9dac8d2bd7d", func := "loop.example/g01334/laws.FnExactBackTour", spec := "fnExactBackTour", inPlace := ["internal/bytealg.IndexByteString", "internal/bytealg.IndexString", "internal/bytealg.IndexByte"], named := ["internal/bytealg.MaxLen"], apart := false, narrowed := true }
def FnExactBackTourUptoSaid : Prop := fnExactBackTourUptoRow.holds Try.pinned (OpenSpec.upto fnExactBackTourSpec)

/-- 'laws.FnExactFixTour', WHERE WHAT IT READS IS OF BULK AT MOST 1048576: true; the input reads as it did. -/
def fnExactFixTourUptoRow : OpenClaim := { program := "ytgcljhgpihpfgab", sum := "27a1f408e1514bb6429f738c1432f8bbdb3c47b5f47dbbadeb47b9dac8d2bd7d", func := "loop.example/g01334/laws.FnExactFixTour", spec := "fnExactFixTour", inPlace := ["internal/bytealg.IndexByteString", "internal/bytealg.IndexString", "internal/bytealg.IndexByte", "internal/abi.NoEscape"], named := ["internal/bytealg.MaxLen"], apart := false, narrowed := true }
def FnExactFixTourUptoSaid : Prop := fnExactFixTourUptoRow.holds Try.pinned (OpenSpec.upto fnExactFixTourSpec)

/-- 'laws.FnExactFirstServed', WHERE WHAT IT READS IS OF BULK AT MOST 1048576: true; the input reads as it did. -/
def fnExactFirstServedUptoRow : OpenClaim := { program := "ytgcljhgpihpfgab", sum := "27a1f408e1514bb6429f738c1432f8bbdb3c47b5f47dbbadeb47b9dac8d2bd7d", func := "loop.example/g01334/laws.FnExactFirstServed", spec := "fnExactFirstServed", inPlace := ["internal/abi.NoEscape"], apart := false, narrowed := true }
def FnExactFirstServedUptoSaid : Prop := fnExactFirstServedUptoRow.holds Try.pinned (OpenSpec.upto fnExactFirstServedSpec)

/-- 'laws.FnExactExtraMoves', WHERE WHAT IT READS IS OF BULK AT MOST 1048576: true; the input reads as it did. -/
def fnExactExtraMovesUptoRow : OpenClaim := { program := "ytgcljhgpihpfgab", sum := "27a1f408e1514bb6429f738c1432f8bbdb3c47b5f47dbbadeb47b9dac8d2bd7d", func := "loop.example/g01334/laws.FnExactExtraMoves", spec := "fnExactExtraMoves", inPlace := ["internal/bytealg.IndexByte", "(*sync.WaitGroup).Go", "(*sync.WaitGroup).Add", "internal/race.ReleaseMerge", "internal/race.Disable", "internal/race.Enable", "internal/synctest.IsInBubble", "internal/synctest.Associate[sync.WaitGroup]", "sync.fatal", "sync/atomic.OrUint64", "sync/atomic.AddUint64", "internal/race.Read", "sync/atomic.LoadUint64", "sync/atomic.StoreUint64", "internal/synctest.Disassociate[sync.WaitGroup]", "sync.runtime_Semrelease", "(*sync.WaitGroup).Go$1", "(*sync.WaitGroup).Go$1$1", "(*sync.WaitGroup).Done", "(*sync.WaitGroup).Wait", "internal/race.Acquire", "internal/synctest.IsAssociated[sync.WaitGroup]", "sync/atomic.CompareAndSwapUint64", "internal/race.Write", "sync.runtime_SemacquireWaitGroup"], unfollowed := true, recurses := true, leaving := true, apart := false, narrowed := true }
def FnExactExtraMovesUptoSaid : Prop := fnExactExtraMovesUptoRow.holds Try.pinned (OpenSpec.upto fnExactExtraMovesSpec)

/-- 'laws.FnExactAfterStop', WHERE WHAT IT READS IS OF BULK AT MOST 1048576: true; the input reads as it did. -/
def fnExactAfterStopUptoRow : OpenClaim := { program := "ytgcljhgpihpfgab", sum := "27a1f408e1514bb6429f738c1432f8bbdb3c47b5f47dbbadeb47b9dac8d2bd7d", func := "loop.example/g01334/laws.FnExactAfterStop", spec := "fnExactAfterStop", inPlace := ["internal/bytealg.IndexByte", "(*sync.WaitGroup).Go", "(*sync.WaitGroup).Add", "internal/race.ReleaseMerge", "internal/race.Disable", "internal/race.Enable", "internal/synctest.IsInBubble", "internal/synctest.Associate[sync.WaitGroup]", "sync.fatal", "sync/atomic.OrUint64", "sync/atomic.AddUint64", "internal/race.Read", "sync/atomic.LoadUint64", "sync/atomic.StoreUint64", "internal/synctest.Disassociate[sync.WaitGroup]", "sync.runtime_Semrelease", "(*sync.WaitGroup).Go$1", "(*sync.WaitGroup).Go$1$1", "(*sync.WaitGroup).Done", "(*sync.WaitGroup).Wait", "internal/race.Acquire", "internal/synctest.IsAssociated[sync.WaitGroup]", "sync/atomic.CompareAndSwapUint64", "internal/race.Write", "sync.runtime_SemacquireWaitGroup"], unfollowed := true, recurses := true, leaving := true, apart := false, narrowed := true }
def FnExactAfterStopUptoSaid : Prop := fnExactAfterStopUptoRow.holds Try.pinned (OpenSpec.upto fnExactAfterStopSpec)

/-- 'laws.FnExactExtraBySorting', WHERE WHAT IT READS IS OF BULK AT MOST 1048576: true; the input reads as it did. -/
def fnExactExtraBySortingUptoRow : OpenClaim := { program := "ytgcljhgpihpfgab", sum := "27a1f408e1514bb6429f738c1432f8bbdb3c47b5f47dbbadeb47b9dac8d2bd7d", func := "loop.example/g01334/laws.FnExactExtraBySorting", spec := "fnExactExtraBySorting", inPlace := ["internal/bytealg.IndexByte", "(*sync.WaitGroup).Go", "(*sync.WaitGroup).Add", "internal/race.ReleaseMerge", "internal/race.Disable", "internal/race.Enable", "internal/synctest.IsInBubble", "internal/synctest.Associate[sync.WaitGroup]", "sync.fatal", "sync/atomic.OrUint64", "sync/atomic.AddUint64", "internal/race.Read", "sync/atomic.LoadUint64", "sync/atomic.StoreUint64", "internal/synctest.Disassociate[sync.WaitGroup]", "sync.runtime_Semrelease", "(*sync.WaitGroup).Go$1", "(*sync.WaitGroup).Go$1$1", "(*sync.WaitGroup).Done", "(*sync.WaitGroup).Wait", "internal/race.Acquire", "internal/synctest.IsAssociated[sync.WaitGroup]", "sync/atomic.CompareAndSwapUint64", "internal/race.Write", "sync.runtime_SemacquireWaitGroup"], unfollowed := true, recurses := true, leaving := true, apart := false, narrowed := true }
def FnExactExtraBySortingUptoSaid : Prop := fnExactExtraBySortingUptoRow.holds Try.pinned (OpenSpec.upto fnExactExtraBySortingSpec)

end Rows
end Go.Proofs.Ytgcljhgpihpfgab
