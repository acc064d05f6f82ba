/-
  The library's clone of a list of whole numbers; the written program's list of first books; both programs' filled shelves.
  Conditions: at most twelve books.
-/
import Derived.Test.YtmdeijjlcebmaaaShelfFill
import Derived.Test.YtmdeijjlcebmaaaAppend
import Derived.Lib.SliceRun
namespace Go.Proofs.Ytmdeijjlcebmaaa
set_option linter.unusedVariables false
open Go.RowKit

set_option maxHeartbeats 400000 in
theorem slicesClone_any (a : Addr) (n c : Nat) (xs : List Int) (lo hi : Nat) (w : World) (hn : xs.length = n) (hlen : n ≤ 1048576) (hs : Seg w lo hi (some a) xs) (hB : hi ≤ w.heap.size) :
    Calls Try.prog 42 #[.slice (some a) n c] w (RetFill xs w) := by
  obtain ⟨i0, hi0, hz0, hz1, hz2⟩ := info_parts int_info
  have HN := Lib.hid hn
  have hlit := World.ownsRow_lit (base := w.heap.size) (e := 3) (size := 1) w #[] 0 (Nat.le_refl _) (Nat.zero_le _) rfl
  have hs1 := hs.below ((Below.refl w.heap.size w).alloc (Nat.le_refl _) (.cells #[] 3)) hB
  have hnil : ∀ (w : World) (a : Option Addr) (n c n' c' : Nat), (binOp .eql 23 (.slice a n c) (.slice none n' c')).run Try.prog w = .ok (.bool a.isNone) w := fun w a n c n' c' => Lib.run_eql_slice_nil w _ _ a n c n' c' Try.underlying23
  have HLIT := Lib.hid hlit
  have HSEG := Lib.hid hs1
  clear hn hlit hs1
  go_enter Try.func42, Try.ntmps42
  go_wp2_with (at_builtin; refine wpList_append_seg _ rfl _ _ 23 rfl w.heap.size 3 i0 Try.underlying23 hi0 hz0 hz1 hz2 _ 0 _ rfl HLIT.out (some a) n c xs lo hi rfl HN.out HSEG.out (by omega) (by simp) ?_; intro v' w2 hown2 hgrow2; have hown3 : w2.ownsRow w.heap.size 3 1 v' n (xs.map (Value.int .i64)) := (by simpa using hown2); clear hown2; obtain ⟨A2, c2, rfl⟩ := ownsRow_form hown3)
  go_ret
  have ho := ownsRow_own (ys := xs) (by rw [HN.out]; exact hown3)
  exact ⟨A2, n, c2, rfl, HN.out, ho.2, ((Below.refl w.heap.size w).alloc (Nat.le_refl _) _).grown hgrow2 (by simp) (fun g hg => (HLIT.out.lt g hg).1)⟩

theorem slice12 (g off m : Nat) (hm : m ≤ 12) (W : World) : (Instr.sliceAt 49 (.pointer (some ⟨g, off, none⟩)) none (some (.int .i64 (m : Int))) none).run Try.prog W = .ok (.slice (some ⟨g, off, none⟩) m 12) W := by
  have hu : Try.prog.underlying 49 = some (.array (Try.prog.arrayLen 49) (Try.prog.elem 49)) := by kernel_rfl
  have hl : Try.prog.arrayLen 49 = 12 := by kernel_rfl
  have hs : (sizeOf (Try.prog.elem 49)).run Try.prog W = .ok 1 W := by kernel_rfl
  rw [run_sliceAt_array_h W _ ⟨g, off, none⟩ hu .i64 (m : Int) (by omega) (by rw [hl]; omega), hs]
  simp [Result.andThen, slicedAt, hl, Addr.add]

/-- The first books of a shelving in memory are a list. -/
theorem seg_firsts {w : World} {g T : Nat} {xs : List Int} {v0 v1 v2 v3 v4 v5 v6 v7 v8 v9 v10 v11 v12 : Int} (h : w.heap[g]? = some (.cells #[.int .i64 v0, .int .i64 v1, .int .i64 v2, .int .i64 v3, .int .i64 v4, .int .i64 v5, .int .i64 v6, .int .i64 v7, .int .i64 v8, .int .i64 v9, .int .i64 v10, .int .i64 v11, .int .i64 v12] T (0, 0))) (hx : shL xs = [v0, v1, v2, v3, v4, v5, v6, v7, v8, v9, v10, v11, v12]) :
    Seg w g (g + 1) (some ⟨g, 1, none⟩) xs := by
  have hc : ((shL xs).map (Value.int .i64)).toArray = #[.int .i64 v0, .int .i64 v1, .int .i64 v2, .int .i64 v3, .int .i64 v4, .int .i64 v5, .int .i64 v6, .int .i64 v7, .int .i64 v8, .int .i64 v9, .int .i64 v10, .int .i64 v11, .int .i64 v12] := by rw [hx]; rfl
  refine .inr ⟨g, 1, rfl, Nat.le_refl _, Nat.lt_succ_self _, fun k hk => ?_⟩
  rw [cell_of h, ← hc]
  have h2 := shL_at (List.getElem?_eq_getElem hk)
  rw [List.getElem?_toArray, List.getElem?_map, h2]
  simp [List.getD, hk]

/-- A number, if it is asked for. -/
def numL (p : Bool) (x : Int) : Int := if p = true then x else 0

theorem fill_no (ys : List Int) : (listL false ys).length ≤ 1048576 := by simp [listL]
theorem fill_yes {bs : List (Int × Int)} {width : Int} (h : FillOk bs width) : (listL true (fillL bs width)).length ≤ 1048576 := by
  have := fillL_len h
  simp [listL]
  omega

section
variable (A : Option Addr) (n c : Nat) (bs : List (Int × Int)) (width : Int) (lo hi : Nat) (w : World) (hn : bs.length = n) (hlen : n ≤ 1048576)
    (hs : Seg w lo hi A (flat bs)) (hB : hi ≤ w.heap.size) (q : Bool) (hq : askedK bs width = q)
include hn hlen hs hB hq

end
end Go.Proofs.Ytmdeijjlcebmaaa
