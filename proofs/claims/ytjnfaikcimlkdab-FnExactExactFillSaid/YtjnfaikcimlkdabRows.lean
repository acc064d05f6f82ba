/-
  No cell of these rows narrows 'for every input' (looked for: loops, veiled, ifaces, maps, wideKeys, modest, calm, conditions, laid).
  DERIVED. THE GIVEN ROWS OF THIS SEAT. 6 by the template 'for every input the law returns true; each argument reads behind the call as it read before'; 0 by the template 'total and deterministic' (their statements: YtjnfaikcimlkdabTotals.lean).
  GIVEN WITH THE SEED: the statements are not yours to turn. If you find one false, say at which input.
  Laid BY PROGRAM, IN A SANDBOX (cutbox-rows.mjs): the forced cells as the released guide's own fill.sh prints them over the translation 272912f66e2fb23b… (all of the seat's roots in one cut). By AI agents, Wed Nov 11 2026. No macro, syntax, notation, axiom, sorry.
-/
import Derived.Test.YtjnfaikcimlkdabChecked
import GoSem.Claim
import GoSem.ClaimJoined
import GoSem.ClaimMapViews
import Derived.JoinedTies
import Derived.KernelRfl
namespace Go.Proofs.Ytjnfaikcimlkdab
/- THE CELL 'sum', in the pinned program and in every row, IS THE sha256 OF THE DUMP (.gsa) THAT YtjnfaikcimlkdabProg.lean LOADS. Nothing in Lean hashes anything: it is a label: what it is worth is what the hold of that sum in a sandbox is worth. -/
noncomputable def Try.pinned : Pinned := { name := "ytjnfaikcimlkdab", sum := "272912f66e2fb23b8dd2e0f3ba7d051487c2b75461237158973f9fb5338fd003", checked := Try.checked }
namespace Rows
def none {H : Type} : Left H := { results := [], args := [] }

/-- 'laws.FnExactBoxesBound': WHATEVER THE INPUT: true; the input reads as it did. -/
def fnExactBoxesBoundSpec : ChangeSpec := { name := "fnExactBoxesBound", fn := fun _ => fun
  | [d1, d2] => { results := [.lit (.bool true)], args := [d1, d2] }
  | _ => none }
def fnExactBoxesBoundRow : OpenClaim := { program := "ytjnfaikcimlkdab", sum := "272912f66e2fb23b8dd2e0f3ba7d051487c2b75461237158973f9fb5338fd003", func := "loop.example/g01334/laws.FnExactBoxesBound", spec := "fnExactBoxesBound", apart := false }
def FnExactBoxesBoundSaid : Prop := fnExactBoxesBoundRow.holds Try.pinned (OpenSpec.ofChange fnExactBoxesBoundSpec)

/-- ITS FALSE NEIGHBOUR: 'it returns false'. Refute it at one input. -/
def fnExactBoxesBoundWrong : ChangeSpec := { name := "fnExactBoxesBound", fn := fun _ => fun
  | [d1, d2] => { results := [.lit (.bool false)], args := [d1, d2] }
  | _ => none }
def FnExactBoxesBoundWrongFalsely : Prop := fnExactBoxesBoundRow.holds Try.pinned (OpenSpec.ofChange fnExactBoxesBoundWrong)

/-- 'laws.FnExactRoomLeft': WHATEVER THE INPUT: true; the input reads as it did. -/
def fnExactRoomLeftSpec : ChangeSpec := { name := "fnExactRoomLeft", fn := fun _ => fun
  | [d1, d2, d3] => { results := [.lit (.bool true)], args := [d1, d2, d3] }
  | _ => none }
def fnExactRoomLeftRow : OpenClaim := { program := "ytjnfaikcimlkdab", sum := "272912f66e2fb23b8dd2e0f3ba7d051487c2b75461237158973f9fb5338fd003", func := "loop.example/g01334/laws.FnExactRoomLeft", spec := "fnExactRoomLeft", apart := false }
def FnExactRoomLeftSaid : Prop := fnExactRoomLeftRow.holds Try.pinned (OpenSpec.ofChange fnExactRoomLeftSpec)

/-- ITS FALSE NEIGHBOUR: 'it returns false'. Refute it at one input. -/
def fnExactRoomLeftWrong : ChangeSpec := { name := "fnExactRoomLeft", fn := fun _ => fun
  | [d1, d2, d3] => { results := [.lit (.bool false)], args := [d1, d2, d3] }
  | _ => none }
def FnExactRoomLeftWrongFalsely : Prop := fnExactRoomLeftRow.holds Try.pinned (OpenSpec.ofChange fnExactRoomLeftWrong)

/-- 'laws.FnExactLeastRoom': WHATEVER THE INPUT: true; the input reads as it did. -/
def fnExactLeastRoomSpec : ChangeSpec := { name := "fnExactLeastRoom", fn := fun _ => fun
  | [d1, d2] => { results := [.lit (.bool true)], args := [d1, d2] }
  | _ => none }
def fnExactLeastRoomRow : OpenClaim := { program := "ytjnfaikcimlkdab", sum := "272912f66e2fb23b8dd2e0f3ba7d051487c2b75461237158973f9fb5338fd003", func := "loop.example/g01334/laws.FnExactLeastRoom", spec := "fnExactLeastRoom", unfollowed := true, recurses := true, apart := false }
def FnExactLeastRoomSaid : Prop := fnExactLeastRoomRow.holds Try.pinned (OpenSpec.ofChange fnExactLeastRoomSpec)

/-- ITS FALSE NEIGHBOUR: 'it returns false'. Refute it at one input. -/
def fnExactLeastRoomWrong : ChangeSpec := { name := "fnExactLeastRoom", fn := fun _ => fun
  | [d1, d2] => { results := [.lit (.bool false)], args := [d1, d2] }
  | _ => none }
def FnExactLeastRoomWrongFalsely : Prop := fnExactLeastRoomRow.holds Try.pinned (OpenSpec.ofChange fnExactLeastRoomWrong)

/-- 'laws.FnExactWorstOrder': WHATEVER THE INPUT: true; the input reads as it did. -/
def fnExactWorstOrderSpec : ChangeSpec := { name := "fnExactWorstOrder", fn := fun _ => fun
  | [d1, d2] => { results := [.lit (.bool true)], args := [d1, d2] }
  | _ => none }
def fnExactWorstOrderRow : OpenClaim := { program := "ytjnfaikcimlkdab", sum := "272912f66e2fb23b8dd2e0f3ba7d051487c2b75461237158973f9fb5338fd003", func := "loop.example/g01334/laws.FnExactWorstOrder", spec := "fnExactWorstOrder", unfollowed := true, recurses := true, apart := false }
def FnExactWorstOrderSaid : Prop := fnExactWorstOrderRow.holds Try.pinned (OpenSpec.ofChange fnExactWorstOrderSpec)

/-- ITS FALSE NEIGHBOUR: 'it returns false'. Refute it at one input. -/
def fnExactWorstOrderWrong : ChangeSpec := { name := "fnExactWorstOrder", fn := fun _ => fun
  | [d1, d2] => { results := [.lit (.bool false)], args := [d1, d2] }
  | _ => none }
def FnExactWorstOrderWrongFalsely : Prop := fnExactWorstOrderRow.holds Try.pinned (OpenSpec.ofChange fnExactWorstOrderWrong)

/-- 'laws.FnExactBestOrder': WHATEVER THE INPUT: true; the input reads as it did. -/
def fnExactBestOrderSpec : ChangeSpec := { name := "fnExactBestOrder", fn := fun _ => fun
  | [d1, d2] => { results := [.lit (.bool true)], args := [d1, d2] }
  | _ => none }
def fnExactBestOrderRow : OpenClaim := { program := "ytjnfaikcimlkdab", sum := "272912f66e2fb23b8dd2e0f3ba7d051487c2b75461237158973f9fb5338fd003", func := "loop.example/g01334/laws.FnExactBestOrder", spec := "fnExactBestOrder", unfollowed := true, recurses := true, apart := false }
def FnExactBestOrderSaid : Prop := fnExactBestOrderRow.holds Try.pinned (OpenSpec.ofChange fnExactBestOrderSpec)

/-- ITS FALSE NEIGHBOUR: 'it returns false'. Refute it at one input. -/
def fnExactBestOrderWrong : ChangeSpec := { name := "fnExactBestOrder", fn := fun _ => fun
  | [d1, d2] => { results := [.lit (.bool false)], args := [d1, d2] }
  | _ => none }
def FnExactBestOrderWrongFalsely : Prop := fnExactBestOrderRow.holds Try.pinned (OpenSpec.ofChange fnExactBestOrderWrong)

/-- 'laws.FnExactExactFill': WHATEVER THE INPUT: true; the input reads as it did. -/
def fnExactExactFillSpec : ChangeSpec := { name := "fnExactExactFill", fn := fun _ => fun
  | [d1, d2] => { results := [.lit (.bool true)], args := [d1, d2] }
  | _ => none }
def fnExactExactFillRow : OpenClaim := { program := "ytjnfaikcimlkdab", sum := "272912f66e2fb23b8dd2e0f3ba7d051487c2b75461237158973f9fb5338fd003", func := "loop.example/g01334/laws.FnExactExactFill", spec := "fnExactExactFill", recurses := true, apart := false }
def FnExactExactFillSaid : Prop := fnExactExactFillRow.holds Try.pinned (OpenSpec.ofChange fnExactExactFillSpec)

/-- ITS FALSE NEIGHBOUR: 'it returns false'. Refute it at one input. -/
def fnExactExactFillWrong : ChangeSpec := { name := "fnExactExactFill", fn := fun _ => fun
  | [d1, d2] => { results := [.lit (.bool false)], args := [d1, d2] }
  | _ => none }
def FnExactExactFillWrongFalsely : Prop := fnExactExactFillRow.holds Try.pinned (OpenSpec.ofChange fnExactExactFillWrong)

/- THE SECOND FORM. 'bulk': how many values and letters a reading holds, each counted each time it is reached (what is shared counts as often as it is met; a slice's spare places count too). A statement '..UptoSaid' is the law's where the arguments, and the package variables that the reading takes, are together of bulk at most 1048576: NARROWER than '..Said'. Prove '..Said' where nothing that the law and all that it calls make is longer than what came in: it says more and counts as full. Else prove '..UptoSaid'. A law counts once. -/
mutual
def uptoBulk {H : Type} : DataW H → Nat
  | .lit (.string bytes) => bytes.length + 1
  | .lit _ => 1
  | .nil => 1
  | .ptr d => uptoBulk d + 1
  | .slice elems spare => uptoBulkAll elems + uptoBulkAll spare + 1
  | .agg parts => uptoBulkAll parts + 1
  | .iface _ d => uptoBulk d + 1
  | .map entries => uptoBulkEntries entries + 1
  | .held _ => 1
def uptoBulkAll {H : Type} : List (DataW H) → Nat
  | [] => 0
  | d :: r => uptoBulk d + uptoBulkAll r
def uptoBulkEntries {H : Type} : List (Lit × DataW H) → Nat
  | [] => 0
  | x :: r => uptoBulkEntry x + uptoBulkEntries r
def uptoBulkEntry {H : Type} : Lit × DataW H → Nat
  | (.string bytes, d) => bytes.length + uptoBulk d + 1
  | (_, d) => uptoBulk d + 1
 end
def uptoSmall : (H : Type) → List (DataW H) → Bool := fun _ ds => decide (uptoBulkAll ds ≤ 1048576)
def OpenSpec.upto (s : _root_.Go.ChangeSpec) : _root_.Go.OpenSpec := { _root_.Go.OpenSpec.ofChange s with cond := some uptoSmall }

/-- 'laws.FnExactBoxesBound', WHERE WHAT IT READS IS OF BULK AT MOST 1048576: true; the input reads as it did. -/
def fnExactBoxesBoundUptoRow : OpenClaim := { program := "ytjnfaikcimlkdab", sum := "272912f66e2fb23b8dd2e0f3ba7d051487c2b75461237158973f9fb5338fd003", func := "loop.example/g01334/laws.FnExactBoxesBound", spec := "fnExactBoxesBound", apart := false, narrowed := true }
def FnExactBoxesBoundUptoSaid : Prop := fnExactBoxesBoundUptoRow.holds Try.pinned (OpenSpec.upto fnExactBoxesBoundSpec)

/-- 'laws.FnExactRoomLeft', WHERE WHAT IT READS IS OF BULK AT MOST 1048576: true; the input reads as it did. -/
def fnExactRoomLeftUptoRow : OpenClaim := { program := "ytjnfaikcimlkdab", sum := "272912f66e2fb23b8dd2e0f3ba7d051487c2b75461237158973f9fb5338fd003", func := "loop.example/g01334/laws.FnExactRoomLeft", spec := "fnExactRoomLeft", apart := false, narrowed := true }
def FnExactRoomLeftUptoSaid : Prop := fnExactRoomLeftUptoRow.holds Try.pinned (OpenSpec.upto fnExactRoomLeftSpec)

/-- 'laws.FnExactLeastRoom', WHERE WHAT IT READS IS OF BULK AT MOST 1048576: true; the input reads as it did. -/
def fnExactLeastRoomUptoRow : OpenClaim := { program := "ytjnfaikcimlkdab", sum := "272912f66e2fb23b8dd2e0f3ba7d051487c2b75461237158973f9fb5338fd003", func := "loop.example/g01334/laws.FnExactLeastRoom", spec := "fnExactLeastRoom", unfollowed := true, recurses := true, apart := false, narrowed := true }
def FnExactLeastRoomUptoSaid : Prop := fnExactLeastRoomUptoRow.holds Try.pinned (OpenSpec.upto fnExactLeastRoomSpec)

/-- 'laws.FnExactWorstOrder', WHERE WHAT IT READS IS OF BULK AT MOST 1048576: true; the input reads as it did. -/
def fnExactWorstOrderUptoRow : OpenClaim := { program := "ytjnfaikcimlkdab", sum := "272912f66e2fb23b8dd2e0f3ba7d051487c2b75461237158973f9fb5338fd003", func := "loop.example/g01334/laws.FnExactWorstOrder", spec := "fnExactWorstOrder", unfollowed := true, recurses := true, apart := false, narrowed := true }
def FnExactWorstOrderUptoSaid : Prop := fnExactWorstOrderUptoRow.holds Try.pinned (OpenSpec.upto fnExactWorstOrderSpec)

/-- 'laws.FnExactBestOrder', WHERE WHAT IT READS IS OF BULK AT MOST 1048576: true; the input reads as it did. -/
def fnExactBestOrderUptoRow : OpenClaim := { program := "ytjnfaikcimlkdab", sum := "272912f66e2fb23b8dd2e0f3ba7d051487c2b75461237158973f9fb5338fd003", func := "loop.example/g01334/laws.FnExactBestOrder", spec := "fnExactBestOrder", unfollowed := true, recurses := true, apart := false, narrowed := true }
def FnExactBestOrderUptoSaid : Prop := fnExactBestOrderUptoRow.holds Try.pinned (OpenSpec.upto fnExactBestOrderSpec)

/-- 'laws.FnExactExactFill', WHERE WHAT IT READS IS OF BULK AT MOST 1048576: true; the input reads as it did. -/
def fnExactExactFillUptoRow : OpenClaim := { program := "ytjnfaikcimlkdab", sum := "272912f66e2fb23b8dd2e0f3ba7d051487c2b75461237158973f9fb5338fd003", func := "loop.example/g01334/laws.FnExactExactFill", spec := "fnExactExactFill", recurses := true, apart := false, narrowed := true }
def FnExactExactFillUptoSaid : Prop := fnExactExactFillUptoRow.holds Try.pinned (OpenSpec.upto fnExactExactFillSpec)

end Rows
end Go.Proofs.Ytjnfaikcimlkdab
