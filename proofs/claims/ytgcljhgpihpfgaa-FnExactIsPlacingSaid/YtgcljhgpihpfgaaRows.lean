/-
  No cell of these rows narrows 'for every input' (looked for: loops, veiled, ifaces, maps, wideKeys, modest, calm, conditions, laid).
  DERIVED. THE GIVEN ROWS OF THIS SEAT. 10 by the template 'for every input the law returns true; each argument reads behind the call as it read before'; 0 by the template 'total and deterministic' (their statements: YtgcljhgpihpfgaaTotals.lean).
  GIVEN WITH THE SEED: the statements are not yours to turn. If you find one false, say at which input.
  Laid BY PROGRAM, IN A SANDBOX (cutbox-rows.mjs): the forced cells as the released guide's own fill.sh prints them over the translation cd053bf7f4f0876d… (all of the seat's roots in one cut). By AI agents, Wed Nov 11 2026. No macro, syntax, notation, axiom, sorry.
-/
import Derived.Test.YtgcljhgpihpfgaaChecked
import GoSem.Claim
import GoSem.ClaimJoined
import GoSem.ClaimMapViews
import Derived.JoinedTies
import Derived.KernelRfl
namespace Go.Proofs.Ytgcljhgpihpfgaa
/- THE CELL 'sum', in the pinned program and in every row, IS THE sha256 OF THE DUMP (.gsa) THAT YtgcljhgpihpfgaaProg.lean LOADS. Nothing in Lean hashes anything: it is a label: what it is worth is what the hold of that sum in a sandbox is worth. -/
noncomputable def Try.pinned : Pinned := { name := "ytgcljhgpihpfgaa", sum := "cd053bf7f4f0876d9686f2623d3e048f6e0e2f7bb8ed19b6e5d7d517aa31155b", checked := Try.checked }
namespace Rows
def none {H : Type} : Left H := { results := [], args := [] }

/-- 'laws.FnExactCountServed': WHATEVER THE INPUT: true; the input reads as it did. -/
def fnExactCountServedSpec : ChangeSpec := { name := "fnExactCountServed", fn := fun _ => fun
  | [d] => { results := [.lit (.bool true)], args := [d] }
  | _ => none }
def fnExactCountServedRow : OpenClaim := { program := "ytgcljhgpihpfgaa", sum := "cd053bf7f4f0876d9686f2623d3e048f6e0e2f7bb8ed19b6e5d7d517aa31155b", func := "loop.example/g01334/laws.FnExactCountServed", spec := "fnExactCountServed", recurses := true, apart := false }
def FnExactCountServedSaid : Prop := fnExactCountServedRow.holds Try.pinned (OpenSpec.ofChange fnExactCountServedSpec)

/-- ITS FALSE NEIGHBOUR: 'it returns false'. Refute it at one input. -/
def fnExactCountServedWrong : ChangeSpec := { name := "fnExactCountServed", fn := fun _ => fun
  | [d] => { results := [.lit (.bool false)], args := [d] }
  | _ => none }
def FnExactCountServedWrongFalsely : Prop := fnExactCountServedRow.holds Try.pinned (OpenSpec.ofChange fnExactCountServedWrong)

/-- 'laws.FnExactIsLoading': WHATEVER THE INPUT: true; the input reads as it did. -/
def fnExactIsLoadingSpec : ChangeSpec := { name := "fnExactIsLoading", fn := fun _ => fun
  | [d] => { results := [.lit (.bool true)], args := [d] }
  | _ => none }
def fnExactIsLoadingRow : OpenClaim := { program := "ytgcljhgpihpfgaa", sum := "cd053bf7f4f0876d9686f2623d3e048f6e0e2f7bb8ed19b6e5d7d517aa31155b", func := "loop.example/g01334/laws.FnExactIsLoading", spec := "fnExactIsLoading", apart := false }
def FnExactIsLoadingSaid : Prop := fnExactIsLoadingRow.holds Try.pinned (OpenSpec.ofChange fnExactIsLoadingSpec)

/-- ITS FALSE NEIGHBOUR: 'it returns false'. Refute it at one input. -/
def fnExactIsLoadingWrong : ChangeSpec := { name := "fnExactIsLoading", fn := fun _ => fun
  | [d] => { results := [.lit (.bool false)], args := [d] }
  | _ => none }
def FnExactIsLoadingWrongFalsely : Prop := fnExactIsLoadingRow.holds Try.pinned (OpenSpec.ofChange fnExactIsLoadingWrong)

/-- 'laws.FnExactPlacesOfBoxes': WHATEVER THE INPUT: true; the input reads as it did. -/
def fnExactPlacesOfBoxesSpec : ChangeSpec := { name := "fnExactPlacesOfBoxes", fn := fun _ => fun
  | [d] => { results := [.lit (.bool true)], args := [d] }
  | _ => none }
def fnExactPlacesOfBoxesRow : OpenClaim := { program := "ytgcljhgpihpfgaa", sum := "cd053bf7f4f0876d9686f2623d3e048f6e0e2f7bb8ed19b6e5d7d517aa31155b", func := "loop.example/g01334/laws.FnExactPlacesOfBoxes", spec := "fnExactPlacesOfBoxes", apart := false }
def FnExactPlacesOfBoxesSaid : Prop := fnExactPlacesOfBoxesRow.holds Try.pinned (OpenSpec.ofChange fnExactPlacesOfBoxesSpec)

/-- ITS FALSE NEIGHBOUR: 'it returns false'. Refute it at one input. -/
def fnExactPlacesOfBoxesWrong : ChangeSpec := { name := "fnExactPlacesOfBoxes", fn := fun _ => fun
  | [d] => { results := [.lit (.bool false)], args := [d] }
  | _ => none }
def FnExactPlacesOfBoxesWrongFalsely : Prop := fnExactPlacesOfBoxesRow.holds Try.pinned (OpenSpec.ofChange fnExactPlacesOfBoxesWrong)

/-- 'laws.FnExactFewestPlaces': WHATEVER THE INPUT: true; the input reads as it did. -/
def fnExactFewestPlacesSpec : ChangeSpec := { name := "fnExactFewestPlaces", fn := fun _ => fun
  | [d] => { results := [.lit (.bool true)], args := [d] }
  | _ => none }
def fnExactFewestPlacesRow : OpenClaim := { program := "ytgcljhgpihpfgaa", sum := "cd053bf7f4f0876d9686f2623d3e048f6e0e2f7bb8ed19b6e5d7d517aa31155b", func := "loop.example/g01334/laws.FnExactFewestPlaces", spec := "fnExactFewestPlaces", apart := false }
def FnExactFewestPlacesSaid : Prop := fnExactFewestPlacesRow.holds Try.pinned (OpenSpec.ofChange fnExactFewestPlacesSpec)

/-- ITS FALSE NEIGHBOUR: 'it returns false'. Refute it at one input. -/
def fnExactFewestPlacesWrong : ChangeSpec := { name := "fnExactFewestPlaces", fn := fun _ => fun
  | [d] => { results := [.lit (.bool false)], args := [d] }
  | _ => none }
def FnExactFewestPlacesWrongFalsely : Prop := fnExactFewestPlacesRow.holds Try.pinned (OpenSpec.ofChange fnExactFewestPlacesWrong)

/-- 'laws.FnExactIsPlacing': WHATEVER THE INPUT: true; the input reads as it did. -/
def fnExactIsPlacingSpec : ChangeSpec := { name := "fnExactIsPlacing", fn := fun _ => fun
  | [d1, d2] => { results := [.lit (.bool true)], args := [d1, d2] }
  | _ => none }
def fnExactIsPlacingRow : OpenClaim := { program := "ytgcljhgpihpfgaa", sum := "cd053bf7f4f0876d9686f2623d3e048f6e0e2f7bb8ed19b6e5d7d517aa31155b", func := "loop.example/g01334/laws.FnExactIsPlacing", spec := "fnExactIsPlacing", apart := false }
def FnExactIsPlacingSaid : Prop := fnExactIsPlacingRow.holds Try.pinned (OpenSpec.ofChange fnExactIsPlacingSpec)

/-- ITS FALSE NEIGHBOUR: 'it returns false'. Refute it at one input. -/
def fnExactIsPlacingWrong : ChangeSpec := { name := "fnExactIsPlacing", fn := fun _ => fun
  | [d1, d2] => { results := [.lit (.bool false)], args := [d1, d2] }
  | _ => none }
def FnExactIsPlacingWrongFalsely : Prop := fnExactIsPlacingRow.holds Try.pinned (OpenSpec.ofChange fnExactIsPlacingWrong)

/-- 'laws.FnExactStopsOf': WHATEVER THE INPUT: true; the input reads as it did. -/
def fnExactStopsOfSpec : ChangeSpec := { name := "fnExactStopsOf", fn := fun _ => fun
  | [d] => { results := [.lit (.bool true)], args := [d] }
  | _ => none }
def fnExactStopsOfRow : OpenClaim := { program := "ytgcljhgpihpfgaa", sum := "cd053bf7f4f0876d9686f2623d3e048f6e0e2f7bb8ed19b6e5d7d517aa31155b", func := "loop.example/g01334/laws.FnExactStopsOf", spec := "fnExactStopsOf", inPlace := ["internal/bytealg.IndexByteString"], apart := false }
def FnExactStopsOfSaid : Prop := fnExactStopsOfRow.holds Try.pinned (OpenSpec.ofChange fnExactStopsOfSpec)

/-- ITS FALSE NEIGHBOUR: 'it returns false'. Refute it at one input. -/
def fnExactStopsOfWrong : ChangeSpec := { name := "fnExactStopsOf", fn := fun _ => fun
  | [d] => { results := [.lit (.bool false)], args := [d] }
  | _ => none }
def FnExactStopsOfWrongFalsely : Prop := fnExactStopsOfRow.holds Try.pinned (OpenSpec.ofChange fnExactStopsOfWrong)

/-- 'laws.FnExactCountLoadings': WHATEVER THE INPUT: true; the input reads as it did. -/
def fnExactCountLoadingsSpec : ChangeSpec := { name := "fnExactCountLoadings", fn := fun _ => fun
  | [d] => { results := [.lit (.bool true)], args := [d] }
  | _ => none }
def fnExactCountLoadingsRow : OpenClaim := { program := "ytgcljhgpihpfgaa", sum := "cd053bf7f4f0876d9686f2623d3e048f6e0e2f7bb8ed19b6e5d7d517aa31155b", func := "loop.example/g01334/laws.FnExactCountLoadings", spec := "fnExactCountLoadings", inPlace := ["internal/bytealg.CountString", "internal/bytealg.IndexByteString", "internal/bytealg.IndexString"], named := ["internal/bytealg.MaxLen"], apart := false }
def FnExactCountLoadingsSaid : Prop := fnExactCountLoadingsRow.holds Try.pinned (OpenSpec.ofChange fnExactCountLoadingsSpec)

/-- ITS FALSE NEIGHBOUR: 'it returns false'. Refute it at one input. -/
def fnExactCountLoadingsWrong : ChangeSpec := { name := "fnExactCountLoadings", fn := fun _ => fun
  | [d] => { results := [.lit (.bool false)], args := [d] }
  | _ => none }
def FnExactCountLoadingsWrongFalsely : Prop := fnExactCountLoadingsRow.holds Try.pinned (OpenSpec.ofChange fnExactCountLoadingsWrong)

/-- 'laws.FnExactIsFreeLoading': WHATEVER THE INPUT: true; the input reads as it did. -/
def fnExactIsFreeLoadingSpec : ChangeSpec := { name := "fnExactIsFreeLoading", fn := fun _ => fun
  | [d] => { results := [.lit (.bool true)], args := [d] }
  | _ => none }
def fnExactIsFreeLoadingRow : OpenClaim := { program := "ytgcljhgpihpfgaa", sum := "cd053bf7f4f0876d9686f2623d3e048f6e0e2f7bb8ed19b6e5d7d517aa31155b", func := "loop.example/g01334/laws.FnExactIsFreeLoading", spec := "fnExactIsFreeLoading", recurses := true, apart := false }
def FnExactIsFreeLoadingSaid : Prop := fnExactIsFreeLoadingRow.holds Try.pinned (OpenSpec.ofChange fnExactIsFreeLoadingSpec)

/-- ITS FALSE NEIGHBOUR: 'it returns false'. Refute it at one input. -/
def fnExactIsFreeLoadingWrong : ChangeSpec := { name := "fnExactIsFreeLoading", fn := fun _ => fun
  | [d] => { results := [.lit (.bool false)], args := [d] }
  | _ => none }
def FnExactIsFreeLoadingWrongFalsely : Prop := fnExactIsFreeLoadingRow.holds Try.pinned (OpenSpec.ofChange fnExactIsFreeLoadingWrong)

/-- 'laws.FnExactBestLoading': WHATEVER THE INPUT: true; the input reads as it did. -/
def fnExactBestLoadingSpec : ChangeSpec := { name := "fnExactBestLoading", fn := fun _ => fun
  | [d] => { results := [.lit (.bool true)], args := [d] }
  | _ => none }
def fnExactBestLoadingRow : OpenClaim := { program := "ytgcljhgpihpfgaa", sum := "cd053bf7f4f0876d9686f2623d3e048f6e0e2f7bb8ed19b6e5d7d517aa31155b", func := "loop.example/g01334/laws.FnExactBestLoading", spec := "fnExactBestLoading", recurses := true, apart := false }
def FnExactBestLoadingSaid : Prop := fnExactBestLoadingRow.holds Try.pinned (OpenSpec.ofChange fnExactBestLoadingSpec)

/-- ITS FALSE NEIGHBOUR: 'it returns false'. Refute it at one input. -/
def fnExactBestLoadingWrong : ChangeSpec := { name := "fnExactBestLoading", fn := fun _ => fun
  | [d] => { results := [.lit (.bool false)], args := [d] }
  | _ => none }
def FnExactBestLoadingWrongFalsely : Prop := fnExactBestLoadingRow.holds Try.pinned (OpenSpec.ofChange fnExactBestLoadingWrong)

/-- 'laws.FnExactCountFree': WHATEVER THE INPUT: true; the input reads as it did. -/
def fnExactCountFreeSpec : ChangeSpec := { name := "fnExactCountFree", fn := fun _ => fun
  | [d] => { results := [.lit (.bool true)], args := [d] }
  | _ => none }
def fnExactCountFreeRow : OpenClaim := { program := "ytgcljhgpihpfgaa", sum := "cd053bf7f4f0876d9686f2623d3e048f6e0e2f7bb8ed19b6e5d7d517aa31155b", func := "loop.example/g01334/laws.FnExactCountFree", spec := "fnExactCountFree", recurses := true, apart := false }
def FnExactCountFreeSaid : Prop := fnExactCountFreeRow.holds Try.pinned (OpenSpec.ofChange fnExactCountFreeSpec)

/-- ITS FALSE NEIGHBOUR: 'it returns false'. Refute it at one input. -/
def fnExactCountFreeWrong : ChangeSpec := { name := "fnExactCountFree", fn := fun _ => fun
  | [d] => { results := [.lit (.bool false)], args := [d] }
  | _ => none }
def FnExactCountFreeWrongFalsely : Prop := fnExactCountFreeRow.holds Try.pinned (OpenSpec.ofChange fnExactCountFreeWrong)

/- THE SECOND FORM. 'bulk': how many values and letters a reading holds, each counted each time it is reached (what is shared counts as often as it is met; a slice's spare places count too). A statement '..UptoSaid' is the law's where the arguments, and the package variables that the reading takes, are together of bulk at most 1048576: NARROWER than '..Said'. Prove '..Said' where nothing that the law and all that it calls make is longer than what came in: it says more and counts as full. Else prove '..UptoSaid'. A law counts once. -/
mutual
def uptoBulk {H : Type} : DataW H → Nat
  | .lit (.string bytes) => bytes.length + 1
  | .lit _ => 1
  | .nil => 1
  | .ptr d => uptoBulk d + 1
  | .slice elems spare => uptoBulkAll elems + uptoBulkAll spare + 1
  | .agg parts => uptoBulkAll parts + 1
  | .iface _ d => uptoBulk d + 1
  | .map entries => uptoBulkEntries entries + 1
  | .held _ => 1
def uptoBulkAll {H : Type} : List (DataW H) → Nat
  | [] => 0
  | d :: r => uptoBulk d + uptoBulkAll r
def uptoBulkEntries {H : Type} : List (Lit × DataW H) → Nat
  | [] => 0
  | x :: r => uptoBulkEntry x + uptoBulkEntries r
def uptoBulkEntry {H : Type} : Lit × DataW H → Nat
  | (.string bytes, d) => bytes.length + uptoBulk d + 1
  | (_, d) => uptoBulk d + 1
 end
def uptoSmall : (H : Type) → List (DataW H) → Bool := fun _ ds => decide (uptoBulkAll ds ≤ 1048576)
def OpenSpec.upto (s : _root_.Go.ChangeSpec) : _root_.Go.OpenSpec := { _root_.Go.OpenSpec.ofChange s with cond := some uptoSmall }

/-- 'laws.FnExactCountServed', WHERE WHAT IT READS IS OF BULK AT MOST 1048576: true; the input reads as it did. -/
def fnExactCountServedUptoRow : OpenClaim := { program := "ytgcljhgpihpfgaa", sum := "cd053bf7f4f0876d9686f2623d3e048f6e0e2f7bb8ed19b6e5d7d517aa31155b", func := "loop.example/g01334/laws.FnExactCountServed", spec := "fnExactCountServed", recurses := true, apart := false, narrowed := true }
def FnExactCountServedUptoSaid : Prop := fnExactCountServedUptoRow.holds Try.pinned (OpenSpec.upto fnExactCountServedSpec)

/-- 'laws.FnExactIsLoading', WHERE WHAT IT READS IS OF BULK AT MOST 1048576: true; the input reads as it did. -/
def fnExactIsLoadingUptoRow : OpenClaim := { program := "ytgcljhgpihpfgaa", sum := "cd053bf7f4f0876d9686f2623d3e048f6e0e2f7bb8ed19b6e5d7d517aa31155b", func := "loop.example/g01334/laws.FnExactIsLoading", spec := "fnExactIsLoading", apart := false, narrowed := true }
def FnExactIsLoadingUptoSaid : Prop := fnExactIsLoadingUptoRow.holds Try.pinned (OpenSpec.upto fnExactIsLoadingSpec)

/-- 'laws.FnExactPlacesOfBoxes', WHERE WHAT IT READS IS OF BULK AT MOST 1048576: true; the input reads as it did. -/
def fnExactPlacesOfBoxesUptoRow : OpenClaim := { program := "ytgcljhgpihpfgaa", sum := "cd053bf7f4f0876d9686f2623d3e048f6e0e2f7bb8ed19b6e5d7d517aa31155b", func := "loop.example/g01334/laws.FnExactPlacesOfBoxes", spec := "fnExactPlacesOfBoxes", apart := false, narrowed := true }
def FnExactPlacesOfBoxesUptoSaid : Prop := fnExactPlacesOfBoxesUptoRow.holds Try.pinned (OpenSpec.upto fnExactPlacesOfBoxesSpec)

/-- 'laws.FnExactFewestPlaces', WHERE WHAT IT READS IS OF BULK AT MOST 1048576: true; the input reads as it did. -/
def fnExactFewestPlacesUptoRow : OpenClaim := { program := "ytgcljhgpihpfgaa", sum := "cd053bf7f4f0876d9686f2623d3e048f6e0e2f7bb8ed19b6e5d7d517aa31155b", func := "loop.example/g01334/laws.FnExactFewestPlaces", spec := "fnExactFewestPlaces", apart := false, narrowed := true }
def FnExactFewestPlacesUptoSaid : Prop := fnExactFewestPlacesUptoRow.holds Try.pinned (OpenSpec.upto fnExactFewestPlacesSpec)

/-- 'laws.FnExactIsPlacing', WHERE WHAT IT READS IS OF BULK AT MOST 1048576: true; the input reads as it did. -/
def fnExactIsPlacingUptoRow : OpenClaim := { program := "ytgcljhgpihpfgaa", sum := "cd053bf7f4f0876d9686f2623d3e048f6e0e2f7bb8ed19b6e5d7d517aa31155b", func := "loop.example/g01334/laws.FnExactIsPlacing", spec := "fnExactIsPlacing", apart := false, narrowed := true }
def FnExactIsPlacingUptoSaid : Prop := fnExactIsPlacingUptoRow.holds Try.pinned (OpenSpec.upto fnExactIsPlacingSpec)

/-- 'laws.FnExactStopsOf', WHERE WHAT IT READS IS OF BULK AT MOST 1048576: true; the input reads as it did. -/
def fnExactStopsOfUptoRow : OpenClaim := { program := "ytgcljhgpihpfgaa", sum := "cd053bf7f4f0876d9686f2623d3e048f6e0e2f7bb8ed19b6e5d7d517aa31155b", func := "loop.example/g01334/laws.FnExactStopsOf", spec := "fnExactStopsOf", inPlace := ["internal/bytealg.IndexByteString"], apart := false, narrowed := true }
def FnExactStopsOfUptoSaid : Prop := fnExactStopsOfUptoRow.holds Try.pinned (OpenSpec.upto fnExactStopsOfSpec)

/-- 'laws.FnExactCountLoadings', WHERE WHAT IT READS IS OF BULK AT MOST 1048576: true; the input reads as it did. -/
def fnExactCountLoadingsUptoRow : OpenClaim := { program := "ytgcljhgpihpfgaa", sum := "cd053bf7f4f0876d9686f2623d3e048f6e0e2f7bb8ed19b6e5d7d517aa31155b", func := "loop.example/g01334/laws.FnExactCountLoadings", spec := "fnExactCountLoadings", inPlace := ["internal/bytealg.CountString", "internal/bytealg.IndexByteString", "internal/bytealg.IndexString"], named := ["internal/bytealg.MaxLen"], apart := false, narrowed := true }
def FnExactCountLoadingsUptoSaid : Prop := fnExactCountLoadingsUptoRow.holds Try.pinned (OpenSpec.upto fnExactCountLoadingsSpec)

/-- 'laws.FnExactIsFreeLoading', WHERE WHAT IT READS IS OF BULK AT MOST 1048576: true; the input reads as it did. -/
def fnExactIsFreeLoadingUptoRow : OpenClaim := { program := "ytgcljhgpihpfgaa", sum := "cd053bf7f4f0876d9686f2623d3e048f6e0e2f7bb8ed19b6e5d7d517aa31155b", func := "loop.example/g01334/laws.FnExactIsFreeLoading", spec := "fnExactIsFreeLoading", recurses := true, apart := false, narrowed := true }
def FnExactIsFreeLoadingUptoSaid : Prop := fnExactIsFreeLoadingUptoRow.holds Try.pinned (OpenSpec.upto fnExactIsFreeLoadingSpec)

/-- 'laws.FnExactBestLoading', WHERE WHAT IT READS IS OF BULK AT MOST 1048576: true; the input reads as it did. -/
def fnExactBestLoadingUptoRow : OpenClaim := { program := "ytgcljhgpihpfgaa", sum := "cd053bf7f4f0876d9686f2623d3e048f6e0e2f7bb8ed19b6e5d7d517aa31155b", func := "loop.example/g01334/laws.FnExactBestLoading", spec := "fnExactBestLoading", recurses := true, apart := false, narrowed := true }
def FnExactBestLoadingUptoSaid : Prop := fnExactBestLoadingUptoRow.holds Try.pinned (OpenSpec.upto fnExactBestLoadingSpec)

/-- 'laws.FnExactCountFree', WHERE WHAT IT READS IS OF BULK AT MOST 1048576: true; the input reads as it did. -/
def fnExactCountFreeUptoRow : OpenClaim := { program := "ytgcljhgpihpfgaa", sum := "cd053bf7f4f0876d9686f2623d3e048f6e0e2f7bb8ed19b6e5d7d517aa31155b", func := "loop.example/g01334/laws.FnExactCountFree", spec := "fnExactCountFree", recurses := true, apart := false, narrowed := true }
def FnExactCountFreeUptoSaid : Prop := fnExactCountFreeUptoRow.holds Try.pinned (OpenSpec.upto fnExactCountFreeSpec)

end Rows
end Go.Proofs.Ytgcljhgpihpfgaa
