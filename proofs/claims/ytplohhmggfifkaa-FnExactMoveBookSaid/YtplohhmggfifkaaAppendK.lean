/-
  A copy of books.
  Conditions: none.
-/
import Derived.Test.YtplohhmggfifkaaInsM
import Derived.Test.YtplohhmggfifkaaAppendFlat
import Derived.Lib.SliceRun
namespace Go.Proofs.Ytplohhmggfifkaa
set_option linter.unusedVariables false
open Go.RowKit

/-- Its own new row of books. -/
def RetRow (bs : List (Int × Int)) (w : World) (e : Ending) (w' : World) : Prop :=
  ∃ v n, e = .returned v ∧ w'.ownsRow w.heap.size 51 2 v n (vals bs) ∧ Below w.heap.size w w'

set_option maxHeartbeats 400000 in
theorem slicesCloneK_any (a : Addr) (n c : Nat) (bs : List (Int × Int)) (lo hi : Nat) (w : World) (hn : bs.length = n) (hlen : n ≤ 1048576) (hs : Seg w lo hi (some a) (flat bs)) (hB : hi ≤ w.heap.size) :
    Calls Try.prog 74 #[.slice (some a) n c] w fun e w' =>
      ∃ v, e = .returned v ∧ w'.ownsRow w.heap.size 51 2 v n (vals bs) ∧ Below w.heap.size w w' := by
  obtain ⟨i0, hi0, hz0, hz1, hz2⟩ := info_parts book_info
  have HN := Lib.hid hn
  have hlit := World.ownsRow_lit (base := w.heap.size) (e := 51) (size := 2) w #[] 0 (Nat.le_refl _) (Nat.zero_le _) rfl
  have hs1 := hs.below ((Below.refl w.heap.size w).alloc (Nat.le_refl _) (.cells #[] 51)) hB
  have hnil : ∀ (w : World) (a : Option Addr) (n c n' c' : Nat), (binOp .eql 25 (.slice a n c) (.slice none n' c')).run Try.prog w = .ok (.bool a.isNone) w := fun w a n c n' c' => Lib.run_eql_slice_nil w _ _ a n c n' c' Try.underlying25
  have HLIT := Lib.hid hlit
  have HSEG := Lib.hid hs1
  clear hn hlit hs1
  go_enter Try.func74, Try.ntmps74
  go_wp2_with (at_builtin; refine wpList_append_flat _ rfl _ _ 25 rfl w.heap.size 51 i0 Try.underlying25 hi0 hz0 hz1 hz2 _ 0 _ rfl HLIT.out (some a) n c bs lo hi rfl HN.out HSEG.out (by omega) (by simp) ?_; intro v' w2 hown2 hgrow2; have hown3 : w2.ownsRow w.heap.size 51 2 v' n (vals bs) := (by simpa using hown2); clear hown2)
  go_ret
  exact ⟨_, rfl, hown3, ((Below.refl w.heap.size w).alloc (Nat.le_refl _) _).grown hgrow2 (by simp) (fun g hg => (HLIT.out.lt g hg).1)⟩
end Go.Proofs.Ytplohhmggfifkaa
