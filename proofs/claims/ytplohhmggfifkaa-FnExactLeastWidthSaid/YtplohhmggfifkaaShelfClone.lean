/-
  The library's clone of a list of whole numbers; the written program's list of first books; both programs' filled shelves.
  Conditions: at most twelve books.
-/
import Derived.Test.YtplohhmggfifkaaShelfFill
import Derived.Test.YtplohhmggfifkaaAppend
import Derived.Lib.SliceRun
namespace Go.Proofs.Ytplohhmggfifkaa
set_option linter.unusedVariables false
open Go.RowKit

set_option maxHeartbeats 400000 in
theorem slicesClone_any (a : Addr) (n c : Nat) (xs : List Int) (lo hi : Nat) (w : World) (hn : xs.length = n) (hlen : n ≤ 1048576) (hs : Seg w lo hi (some a) xs) (hB : hi ≤ w.heap.size) :
    Calls Try.prog 59 #[.slice (some a) n c] w (RetFill xs w) := by
  obtain ⟨i0, hi0, hz0, hz1, hz2⟩ := info_parts int_info
  have HN := Lib.hid hn
  have hlit := World.ownsRow_lit (base := w.heap.size) (e := 3) (size := 1) w #[] 0 (Nat.le_refl _) (Nat.zero_le _) rfl
  have hs1 := hs.below ((Below.refl w.heap.size w).alloc (Nat.le_refl _) (.cells #[] 3)) hB
  have hnil : ∀ (w : World) (a : Option Addr) (n c n' c' : Nat), (binOp .eql 29 (.slice a n c) (.slice none n' c')).run Try.prog w = .ok (.bool a.isNone) w := fun w a n c n' c' => Lib.run_eql_slice_nil w _ _ a n c n' c' Try.underlying29
  have HLIT := Lib.hid hlit
  have HSEG := Lib.hid hs1
  clear hn hlit hs1
  go_enter Try.func59, Try.ntmps59
  go_wp2_with (at_builtin; refine wpList_append_seg _ rfl _ _ 29 rfl w.heap.size 3 i0 Try.underlying29 hi0 hz0 hz1 hz2 _ 0 _ rfl HLIT.out (some a) n c xs lo hi rfl HN.out HSEG.out (by omega) (by simp) ?_; intro v' w2 hown2 hgrow2; have hown3 : w2.ownsRow w.heap.size 3 1 v' n (xs.map (Value.int .i64)) := (by simpa using hown2); clear hown2; obtain ⟨A2, c2, rfl⟩ := ownsRow_form hown3)
  go_ret
  have ho := ownsRow_own (ys := xs) (by rw [HN.out]; exact hown3)
  exact ⟨A2, n, c2, rfl, HN.out, ho.2, ((Below.refl w.heap.size w).alloc (Nat.le_refl _) _).grown hgrow2 (by simp) (fun g hg => (HLIT.out.lt g hg).1)⟩

theorem slice12 (g off m : Nat) (hm : m ≤ 12) (W : World) : (Instr.sliceAt 57 (.pointer (some ⟨g, off, none⟩)) none (some (.int .i64 (m : Int))) none).run Try.prog W = .ok (.slice (some ⟨g, off, none⟩) m 12) W := by
  have hu : Try.prog.underlying 57 = some (.array (Try.prog.arrayLen 57) (Try.prog.elem 57)) := by kernel_rfl
  have hl : Try.prog.arrayLen 57 = 12 := by kernel_rfl
  have hs : (sizeOf (Try.prog.elem 57)).run Try.prog W = .ok 1 W := by kernel_rfl
  rw [run_sliceAt_array_h W _ ⟨g, off, none⟩ hu .i64 (m : Int) (by omega) (by rw [hl]; omega), hs]
  simp [Result.andThen, slicedAt, hl, Addr.add]

/-- The first books of a shelving in memory are a list. -/
theorem seg_firsts {w : World} {g T : Nat} {xs : List Int} {v0 v1 v2 v3 v4 v5 v6 v7 v8 v9 v10 v11 v12 : Int} (h : w.heap[g]? = some (.cells #[.int .i64 v0, .int .i64 v1, .int .i64 v2, .int .i64 v3, .int .i64 v4, .int .i64 v5, .int .i64 v6, .int .i64 v7, .int .i64 v8, .int .i64 v9, .int .i64 v10, .int .i64 v11, .int .i64 v12] T (0, 0))) (hx : shL xs = [v0, v1, v2, v3, v4, v5, v6, v7, v8, v9, v10, v11, v12]) :
    Seg w g (g + 1) (some ⟨g, 1, none⟩) xs := by
  have hc : ((shL xs).map (Value.int .i64)).toArray = #[.int .i64 v0, .int .i64 v1, .int .i64 v2, .int .i64 v3, .int .i64 v4, .int .i64 v5, .int .i64 v6, .int .i64 v7, .int .i64 v8, .int .i64 v9, .int .i64 v10, .int .i64 v11, .int .i64 v12] := by rw [hx]; rfl
  refine .inr ⟨g, 1, rfl, Nat.le_refl _, Nat.lt_succ_self _, fun k hk => ?_⟩
  rw [cell_of h, ← hc]
  have h2 := shL_at (List.getElem?_eq_getElem hk)
  rw [List.getElem?_toArray, List.getElem?_map, h2]
  simp [List.getD, hk]

set_option maxHeartbeats 1000000 in
theorem list_any (xs : List Int) (v0 v1 v2 v3 v4 v5 v6 v7 v8 v9 v10 v11 v12 : Int) (w : World) (hx : shL xs = [v0, v1, v2, v3, v4, v5, v6, v7, v8, v9, v10, v11, v12]) (hl : xs.length ≤ 12) :
    Calls Try.prog 67 #[.agg #[.int .i64 v0, .int .i64 v1, .int .i64 v2, .int .i64 v3, .int .i64 v4, .int .i64 v5, .int .i64 v6, .int .i64 v7, .int .i64 v8, .int .i64 v9, .int .i64 v10, .int .i64 v11, .int .i64 v12]] w (RetFill xs w) := by
  obtain ⟨m, hm⟩ : ∃ m, xs.length = m := ⟨_, rfl⟩
  obtain rfl : (m : Int) = v0 := by
    have : (shL xs)[0]? = some v0 := by rw [hx]; rfl
    rw [shL_zero, hm] at this
    injection this
  have hseg := seg_firsts (heap_alloc_new w (.cells #[.int .i64 (m : Int), .int .i64 v1, .int .i64 v2, .int .i64 v3, .int .i64 v4, .int .i64 v5, .int .i64 v6, .int .i64 v7, .int .i64 v8, .int .i64 v9, .int .i64 v10, .int .i64 v11, .int .i64 v12] 59)) hx
  have HS := Lib.hid hseg
  have HM := Lib.hid hm
  rw [hm] at hl
  have hsl := slice12 w.heap.size 1 m hl
  clear hseg hm hx
  go_enter Try.func67, Try.ntmps67
  go_wp2_with fail
  refine (slicesClone_any _ _ _ xs _ _ _ HM.out (by omega) HS.out (by simp)).mono ?_
  rintro e w1 ⟨A1, n1, c1, rfl, hn1, hown, hb1⟩
  have hz := hb1.size
  simp at hz
  go_wp2
  go_ret
  exact ⟨_, _, _, rfl, hn1, hown.more (by simp) (Nat.le_refl _), ((Below.refl w.heap.size w).alloc (Nat.le_refl _) _).trans (hb1.mono (by simp))⟩

/-- A number, if it is asked for. -/
def numL (p : Bool) (x : Int) : Int := if p = true then x else 0

theorem fill_no (ys : List Int) : (listL false ys).length ≤ 1048576 := by simp [listL]
theorem fill_yes {bs : List (Int × Int)} {width : Int} (h : FillOk bs width) : (listL true (fillL bs width)).length ≤ 1048576 := by
  have := fillL_len h
  simp [listL]
  omega

section
variable (A : Option Addr) (n c : Nat) (bs : List (Int × Int)) (width : Int) (lo hi : Nat) (w : World) (hn : bs.length = n) (hlen : n ≤ 1048576)
    (hs : Seg w lo hi A (flat bs)) (hB : hi ≤ w.heap.size) (q : Bool) (hq : askedK bs width = q)
include hn hlen hs hB hq

set_option maxHeartbeats 1000000 in
theorem spec_FillShelves :
    Calls Try.prog 35 #[.slice A n c, .int .i64 width] w (RetL q (listL q (fillL bs width)) w) := by
  have HN := Lib.hid hn
  have HQ := Lib.hid hq
  clear hn hq
  cases q
  · go_enter Try.func35, Try.ntmps35
    go_wp2_with fail
    refine (shAsked_any _ _ _ bs width lo hi _ HN.out hlen hs hB _ HQ.out).mono ?_
    rintro e w1 ⟨rfl, hb1⟩
    go_wp2
    go_ret2
    exact ⟨_, _, _, rfl, rfl, Own.nil_, hb1⟩
  · go_enter Try.func35, Try.ntmps35
    go_wp2_with fail
    refine (shAsked_any _ _ _ bs width lo hi _ HN.out hlen hs hB _ HQ.out).mono ?_
    rintro e w1 ⟨rfl, hb1⟩
    go_wp2_with fail
    refine (shFill_any _ _ _ bs width lo hi _ HN.out (hs.below hb1 hB) (Nat.le_trans hB hb1.size) (asked_fill HQ.out)).mono ?_
    rintro e w2 ⟨A2, n2, c2, rfl, hn2, hown, hb2⟩
    go_wp2
    go_ret2
    exact ⟨_, _, _, rfl, hn2, hown.more hb1.size (Nat.le_refl _), hb1.trans (hb2.mono hb1.size)⟩

set_option maxHeartbeats 1000000 in
theorem impl_FillShelves :
    Calls Try.prog 36 #[.slice A n c, .int .i64 width] w (RetL q (listL q (fillL bs width)) w) := by
  have HN := Lib.hid hn
  have HQ := Lib.hid hq
  clear hn hq
  cases q
  · go_enter Try.func36, Try.ntmps36
    go_wp2_with fail
    refine (canBeShelved_any _ _ _ bs width lo hi _ HN.out hlen hs hB _ HQ.out).mono ?_
    rintro e w1 ⟨rfl, hb1⟩
    go_wp2
    go_ret2
    exact ⟨_, _, _, rfl, rfl, Own.nil_, hb1⟩
  · go_enter Try.func36, Try.ntmps36
    go_wp2_with fail
    refine (canBeShelved_any _ _ _ bs width lo hi _ HN.out hlen hs hB _ HQ.out).mono ?_
    rintro e w1 ⟨rfl, hb1⟩
    go_wp2_with fail
    refine (fillShelves_any _ _ _ bs width lo hi _ HN.out (hs.below hb1 hB) (Nat.le_trans hB hb1.size) (asked_fill HQ.out)).mono ?_
    rintro e w2 ⟨v0, v1, v2, v3, v4, v5, v6, v7, v8, v9, v10, v11, v12, rfl, hsl, hb2⟩
    have HSL := Lib.hid hsl
    clear hsl
    go_wp2_with fail
    refine (list_any (fillL bs width) _ _ _ _ _ _ _ _ _ _ _ _ _ _ HSL.out (fillL_len (asked_fill HQ.out))).mono ?_
    rintro e w3 ⟨A3, n3, c3, rfl, hn3, hown, hb3⟩
    have hbb := hb1.trans (hb2.mono hb1.size)
    go_wp2
    go_ret2
    exact ⟨_, _, _, rfl, hn3, hown.more hbb.size (Nat.le_refl _), hbb.trans (hb3.mono hbb.size)⟩

set_option maxHeartbeats 1000000 in
theorem spec_FewestShelves :
    Calls Try.prog 37 #[.slice A n c, .int .i64 width] w (RetI (numL q ((fillL bs width).length : Int)) q w) := by
  have HN := Lib.hid hn
  have HQ := Lib.hid hq
  clear hn hq
  cases q
  · go_enter Try.func37, Try.ntmps37
    go_wp2_with fail
    refine (shAsked_any _ _ _ bs width lo hi _ HN.out hlen hs hB _ HQ.out).mono ?_
    rintro e w1 ⟨rfl, hb1⟩
    go_wp2
    go_ret2
    exact ⟨rfl, hb1⟩
  · go_enter Try.func37, Try.ntmps37
    go_wp2_with fail
    refine (shAsked_any _ _ _ bs width lo hi _ HN.out hlen hs hB _ HQ.out).mono ?_
    rintro e w1 ⟨rfl, hb1⟩
    go_wp2_with fail
    refine (shFill_any _ _ _ bs width lo hi _ HN.out (hs.below hb1 hB) (Nat.le_trans hB hb1.size) (asked_fill HQ.out)).mono ?_
    rintro e w2 ⟨A2, n2, c2, rfl, hn2, hown, hb2⟩
    have HL := Lib.hid hn2
    clear hn2
    go_wp2
    go_ret2
    exact ⟨by rw [HL.out]; rfl, hb1.trans (hb2.mono hb1.size)⟩

set_option maxRecDepth 100000 in
set_option maxHeartbeats 1000000 in
theorem impl_FewestShelves :
    Calls Try.prog 38 #[.slice A n c, .int .i64 width] w (RetI (numL q ((fillL bs width).length : Int)) q w) := by
  have HN := Lib.hid hn
  have HQ := Lib.hid hq
  clear hn hq
  cases q
  · go_enter Try.func38, Try.ntmps38
    go_wp2_with fail
    refine (canBeShelved_any _ _ _ bs width lo hi _ HN.out hlen hs hB _ HQ.out).mono ?_
    rintro e w1 ⟨rfl, hb1⟩
    go_wp2
    go_ret2
    exact ⟨rfl, hb1⟩
  · go_enter Try.func38, Try.ntmps38
    go_wp2_with fail
    refine (canBeShelved_any _ _ _ bs width lo hi _ HN.out hlen hs hB _ HQ.out).mono ?_
    rintro e w1 ⟨rfl, hb1⟩
    go_wp2_with fail
    refine (fillShelves_any _ _ _ bs width lo hi _ HN.out (hs.below hb1 hB) (Nat.le_trans hB hb1.size) (asked_fill HQ.out)).mono ?_
    rintro e w2 ⟨v0, v1, v2, v3, v4, v5, v6, v7, v8, v9, v10, v11, v12, rfl, hsl, hb2⟩
    have h0 : ((fillL bs width).length : Int) = v0 := by
      have : (shL (fillL bs width))[0]? = some v0 := by rw [hsl]; rfl
      rw [shL_zero] at this
      injection this
    have HL := Lib.hid h0
    have hfd : ∀ W, (Instr.field 59 (.agg #[.int .i64 v0, .int .i64 v1, .int .i64 v2, .int .i64 v3, .int .i64 v4, .int .i64 v5, .int .i64 v6, .int .i64 v7, .int .i64 v8, .int .i64 v9, .int .i64 v10, .int .i64 v11, .int .i64 v12]) 0).run Try.prog W = .ok (.int .i64 v0) W := fun _ => by kernel_rfl
    clear hsl h0
    go_wp2
    go_ret2
    exact ⟨by rw [numL, if_pos rfl, HL.out]; rfl, hb1.trans (hb2.mono hb1.size)⟩
end
end Go.Proofs.Ytplohhmggfifkaa
