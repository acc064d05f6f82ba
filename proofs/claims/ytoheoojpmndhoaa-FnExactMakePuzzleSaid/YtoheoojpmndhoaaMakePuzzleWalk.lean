/-
  For every list of numbers and every two numbers the law of MakePuzzle returns true and leaves the list as it was.
  Conditions: none.
-/
import Derived.Test.YtoheoojpmndhoaaPzL
import Derived.Test.YtoheoojpmndhoaaPuz
import Derived.Test.YtoheoojpmndhoaaCopy
import Derived.Test.YtoheoojpmndhoaaEq
import Derived.Lib.SmallJoins
import Derived.Deep.RegionHeld3
import Derived.OpenShut
import Derived.ShutString
import Derived.ChangeOld
namespace Go.Proofs.Ytoheoojpmndhoaa
namespace LawMakePuzzle
open Go.ChangeShapes Go.WideShapes Go.ChangeAt Go.RowKit
open Go.Joins (open_agg2 open_agg4)
set_option linter.unusedVariables false
set_option linter.unusedSimpArgs false

theorem own : ownKnob Try.prog.godebug = none := by kernel_rfl
theorem laidOut : laidOutB Try.prog = true := by kernel_rfl

set_option maxHeartbeats 2000000 in
set_option maxRecDepth 100000 in
theorem walk {a0 : Option Addr} {len0 cap0 : Nat} {z0 : List Int} {a1 : Int} {a2 : Int} {w : World} (hn0 : z0.length = len0) (hs0 : Seg w 0 w.heap.size a0 z0) (hi1 : -9223372036854775808 ≤ a1 ∧ a1 ≤ 9223372036854775807) (hi2 : -9223372036854775808 ≤ a2 ∧ a2 ≤ 9223372036854775807) :
    Calls Try.prog 17 #[.slice a0 len0 cap0, .int .i64 a1, .int .i64 a2] w fun e w' => e = .returned (.bool true) ∧ Below w.heap.size w w' := by
  by_cases hbig0 : 1048576 < len0
  · clear hs0 hn0
    go_enter Try.func17, Try.ntmps17
    go_wp2
    go_ret
    exact ⟨rfl, Below.refl _ _⟩
  have hlen0 : len0 ≤ 1048576 := by omega
  have HN0 := Lib.hid hn0
  obtain ⟨q, hq⟩ : ∃ q, makeB z0 a1 a2 = q := ⟨_, rfl⟩
  have HQ := Lib.hid hq
  clear hq
  cases q
  case' false => have HYB := Lib.hid (listU_no (mkL z0 a1.toNat a2))
  case' true => have HYB := Lib.hid (listU_yes (bs := mkL z0 a1.toNat a2) (by have h := HQ.out; simp [makeB, inB_true] at h; rw [mkL_length]; omega))
  clear hn0
  · go_enter Try.func17, Try.ntmps17
    go_wp2_with fail
    refine (toIntS_any _ _ _ z0 w.heap.size _ HN0.out hlen0 hs0 (by omega)).mono ?_
    rintro e w1 ⟨rfl, ca, hb1⟩
    have hz1 := hb1.size
    have hB1 : Below w.heap.size w w1 := Below.trans (Below.refl _ _) (hb1.mono (by omega))
    have hs0_1 := hs0.below hb1 (by omega)
    clear hs0
    go_wp2_with fail
    refine (spec_MakePuzzle _ len0 _ a1 a2 z0 _ _ _ HN0.out hlen0 ca.seg (by omega) hi1 hi2 _ HQ.out).mono ?_
    rintro e w2 ⟨WA0, Wn0, Wc0, rfl, Wl0, Wo0, hb2⟩
    have hz2 := hb2.size
    have hB2 : Below w.heap.size w w2 := Below.trans hB1 (hb2.mono (by omega))
    have hs0_2 := hs0_1.below hb2 (by omega)
    clear hs0_1
    have ca_2 := ca.below hb2 (by omega)
    clear ca
    go_wp2_with fail
    obtain ⟨w3, hw3⟩ : ∃ wz, w2.alloc (.cells #[.int .i64 (intU true (len0 : Int)), .slice WA0 Wn0 Wc0] 35) = wz := ⟨_, rfl⟩
    have hb3 : Below w2.heap.size w2 w3 := by rw [← hw3]; exact (Below.refl _ _).alloc (Nat.le_refl _) _
    have hx3 : w3.heap.size = w2.heap.size + 1 := by rw [← hw3]; simp
    have Wb : w3.heap[w2.heap.size]? = some (.cells #[.int .i64 (intU true (len0 : Int)), .slice WA0 Wn0 Wc0] 35 (0, 0)) := by rw [← hw3]; exact new_at _ _ rfl
    have HW3 := Lib.hid hw3
    clear hw3
    have HX3 := Lib.hid hx3
    have hxx3 : w2.heap.size < w3.heap.size := by omega
    clear hx3
    have hz3 := hb3.size
    have hB3 : Below w.heap.size w w3 := Below.trans hB2 (hb3.mono (by omega))
    have hs0_3 := hs0_2.below hb3 (by omega)
    clear hs0_2
    have Wo0_3 := Wo0.below hb3 (by omega)
    clear Wo0
    rw [HW3.out]
    refine (toIntS_any _ _ _ z0 w.heap.size _ HN0.out hlen0 hs0_3 (by omega)).mono ?_
    rintro e w4 ⟨rfl, x0, hb4⟩
    have hz4 := hb4.size
    have hB4 : Below w.heap.size w w4 := Below.trans hB3 (hb4.mono (by omega))
    have hs0_4 := hs0_3.below hb4 (by omega)
    clear hs0_3
    have Wo0_4 := Wo0_3.below hb4 (by omega)
    clear Wo0_3
    have Wb_4 := (hb4.block _ (by omega)).trans Wb
    clear Wb
    go_wp2_with fail
    refine (impl_MakePuzzle _ len0 _ a1 a2 z0 _ _ _ HN0.out hlen0 x0.seg (by omega) hi1 hi2 _ HQ.out).mono ?_
    rintro e w5 ⟨GA0, Gn0, Gc0, rfl, Gl0, Go0, hb5⟩
    have hz5 := hb5.size
    have hB5 : Below w.heap.size w w5 := Below.trans hB4 (hb5.mono (by omega))
    have hs0_5 := hs0_4.below hb5 (by omega)
    clear hs0_4
    have Wo0_5 := Wo0_4.below hb5 (by omega)
    clear Wo0_4
    have Wb_5 := (hb5.block _ (by omega)).trans Wb_4
    clear Wb_4
    have x0_5 := x0.below hb5 (by omega)
    clear x0
    obtain rfl : Gn0 = Wn0 := Gl0.symm.trans Wl0
    have HY0 := Lib.hid Gl0
    have hy0 := HYB.out
    rw [Gl0] at hy0
    clear Wl0 Gl0
    have kl_Wb : w2.heap.size < w5.heap.size := by omega
    have kc_Wb0 := cell_of Wb_5 0
    have kc_Wb1 := cell_of Wb_5 1
    simp only [List.getElem?_toArray, List.getElem?_cons_zero, List.getElem?_cons_succ] at kc_Wb0 kc_Wb1
    go_wp2_with fail
    obtain ⟨w6, hw6⟩ : ∃ wz, w5.alloc (.cells #[.int .i64 (intU true (len0 : Int)), .slice GA0 Gn0 Gc0] 35) = wz := ⟨_, rfl⟩
    have hb6 : Below w5.heap.size w5 w6 := by rw [← hw6]; exact (Below.refl _ _).alloc (Nat.le_refl _) _
    have hx6 : w6.heap.size = w5.heap.size + 1 := by rw [← hw6]; simp
    have Gb : w6.heap[w5.heap.size]? = some (.cells #[.int .i64 (intU true (len0 : Int)), .slice GA0 Gn0 Gc0] 35 (0, 0)) := by rw [← hw6]; exact new_at _ _ rfl
    have HW6 := Lib.hid hw6
    clear hw6
    have HX6 := Lib.hid hx6
    have hxx6 : w5.heap.size < w6.heap.size := by omega
    clear hx6
    have hz6 := hb6.size
    have hB6 : Below w.heap.size w w6 := Below.trans hB5 (hb6.mono (by omega))
    have hs0_6 := hs0_5.below hb6 (by omega)
    clear hs0_5
    have Wo0_6 := Wo0_5.below hb6 (by omega)
    clear Wo0_5
    have Wb_6 := (hb6.block _ (by omega)).trans Wb_5
    clear Wb_5
    have x0_6 := x0_5.below hb6 (by omega)
    clear x0_5
    have Go0_6 := Go0.below hb6 (by omega)
    clear Go0
    rw [HW6.out]
    refine (eqPuzzle_any _ _ _ _ _ _ _ _ _ _ _ _ HY0.out (by omega) Go0_6.seg Wo0_6.seg (by omega) (by omega)).mono ?_
    rintro e w7 ⟨rfl, hb7⟩
    clear kl_Wb kc_Wb0 kc_Wb1
    have hz7 := hb7.size
    have hB7 : Below w.heap.size w w7 := Below.trans hB6 (hb7.mono (by omega))
    have hs0_7 := hs0_6.below hb7 (by omega)
    clear hs0_6
    have Wo0_7 := Wo0_6.below hb7 (by omega)
    clear Wo0_6
    have Wb_7 := (hb7.block _ (by omega)).trans Wb_6
    clear Wb_6
    have x0_7 := x0_6.below hb7 (by omega)
    clear x0_6
    have Go0_7 := Go0_6.below hb7 (by omega)
    clear Go0_6
    have Gb_7 := (hb7.block _ (by omega)).trans Gb
    clear Gb
    go_wp2_with fail
    refine (toIntS_any _ _ _ z0 w.heap.size _ HN0.out hlen0 hs0_7 (by omega)).mono ?_
    rintro e w8 ⟨rfl, cb, hb8⟩
    have hz8 := hb8.size
    have hB8 : Below w.heap.size w w8 := Below.trans hB7 (hb8.mono (by omega))
    have hs0_8 := hs0_7.below hb8 (by omega)
    clear hs0_7
    have Wo0_8 := Wo0_7.below hb8 (by omega)
    clear Wo0_7
    have Wb_8 := (hb8.block _ (by omega)).trans Wb_7
    clear Wb_7
    have x0_8 := x0_7.below hb8 (by omega)
    clear x0_7
    have Go0_8 := Go0_7.below hb8 (by omega)
    clear Go0_7
    have Gb_8 := (hb8.block _ (by omega)).trans Gb_7
    clear Gb_7
    go_wp2_with fail
    refine (eqIntS_b _ _ _ _ _ z0 _ _ _ _ _ HN0.out hlen0 x0_8.seg cb.seg).mono ?_
    rintro e w9 ⟨rfl, hb9⟩
    have hz9 := hb9.size
    have hB9 : Below w.heap.size w w9 := Below.trans hB8 (hb9.mono (by omega))
    have hs0_9 := hs0_8.below hb9 (by omega)
    clear hs0_8
    have Wo0_9 := Wo0_8.below hb9 (by omega)
    clear Wo0_8
    have Wb_9 := (hb9.block _ (by omega)).trans Wb_8
    clear Wb_8
    have x0_9 := x0_8.below hb9 (by omega)
    clear x0_8
    have Go0_9 := Go0_8.below hb9 (by omega)
    clear Go0_8
    have Gb_9 := (hb9.block _ (by omega)).trans Gb_8
    clear Gb_8
    have cb_9 := cb.below hb9 (by omega)
    clear cb
    go_wp2_with fail
    refine (markIntS_any _ _ _ _ z0 _ _ _ HN0.out hlen0 (by omega) (by omega) x0_9).mono ?_
    rintro e w10 ⟨rfl, x0_10, row10, hg10, hr10⟩
    have ho10 : Only (fun b => w3.heap.size ≤ b ∧ b < w4.heap.size) w9 w10 := only_of_grown hg10 hr10
    have hz10 := ho10.size
    have hB10 : Below w.heap.size w w10 := Below.trans hB9 (ho10.below (by omega) (fun b hb => by omega))
    have hs0_10 := hs0_9.only ho10 (by omega) (fun b hb => by omega)
    clear hs0_9
    have Wo0_10 := Wo0_9.only ho10 (by omega) (fun b hb => by omega)
    clear Wo0_9
    have Wb_10 := (ho10.block _ (by omega) (fun hs => by omega)).trans Wb_9
    clear Wb_9
    have Go0_10 := Go0_9.only ho10 (by omega) (fun b hb => by omega)
    clear Go0_9
    have Gb_10 := (ho10.block _ (by omega) (fun hs => by omega)).trans Gb_9
    clear Gb_9
    have kc_Gb0 := cell_of Gb_10 0
    have kc_Gb1 := cell_of Gb_10 1
    have kc_Wb0 := cell_of Wb_10 0
    have kc_Wb1 := cell_of Wb_10 1
    simp only [List.getElem?_toArray, List.getElem?_cons_zero, List.getElem?_cons_succ] at kc_Gb0 kc_Gb1 kc_Wb0 kc_Wb1
    go_wp2_with fail
    refine (eqPuzzle_any _ _ _ _ _ _ _ _ _ _ _ _ HY0.out (by omega) Go0_10.seg Wo0_10.seg (by omega) (by omega)).mono ?_
    rintro e w11 ⟨rfl, hb11⟩
    clear kc_Gb0 kc_Gb1 kc_Wb0 kc_Wb1
    have hz11 := hb11.size
    have hB11 : Below w.heap.size w w11 := Below.trans hB10 (hb11.mono (by omega))
    have hs0_11 := hs0_10.below hb11 (by omega)
    clear hs0_10
    have Wo0_11 := Wo0_10.below hb11 (by omega)
    clear Wo0_10
    have Wb_11 := (hb11.block _ (by omega)).trans Wb_10
    clear Wb_10
    have Go0_11 := Go0_10.below hb11 (by omega)
    clear Go0_10
    have Gb_11 := (hb11.block _ (by omega)).trans Gb_10
    clear Gb_10
    have kc_Gb0 := cell_of Gb_11 0
    have kc_Gb1 := cell_of Gb_11 1
    simp only [List.getElem?_toArray, List.getElem?_cons_zero, List.getElem?_cons_succ] at kc_Gb0 kc_Gb1
    go_wp2_with fail
    refine (markPuzzle_any _ _ _ _ _ _ _ _ _ HY0.out (by omega) (by omega) (by omega) Go0_11 (by omega)).mono ?_
    rintro e w12 ⟨rfl, Go0_12, ho12⟩
    clear kc_Gb0 kc_Gb1
    have hz12 := ho12.size
    have hB12 : Below w.heap.size w w12 := Below.trans hB11 (ho12.below (by omega) (fun b hb => by omega))
    have hs0_12 := hs0_11.only ho12 (by omega) (fun b hb => by omega)
    clear hs0_11
    have Wo0_12 := Wo0_11.only ho12 (by omega) (fun b hb => by omega)
    clear Wo0_11
    have Wb_12 := (ho12.block _ (by omega) (fun hs => by omega)).trans Wb_11
    clear Wb_11
    have Gb_12 := (ho12.block _ (by omega) (fun hs => by omega)).trans Gb_11
    clear Gb_11
    have kc_Gb0 := cell_of Gb_12 0
    have kc_Gb1 := cell_of Gb_12 1
    simp only [List.getElem?_toArray, List.getElem?_cons_zero, List.getElem?_cons_succ] at kc_Gb0 kc_Gb1
    go_wp2_with fail
    refine (heldPuzzle_any _ _ _ _ _ _ _ _ (by omega) (by omega) (by omega) Go0_12.seg (by omega)).mono ?_
    rintro e w13 ⟨rfl, hb13⟩
    clear kc_Gb0 kc_Gb1
    have hz13 := hb13.size
    have hB13 : Below w.heap.size w w13 := Below.trans hB12 (hb13.mono (by omega))
    have hs0_13 := hs0_12.below hb13 (by omega)
    clear hs0_12
    have Wo0_13 := Wo0_12.below hb13 (by omega)
    clear Wo0_12
    have Wb_13 := (hb13.block _ (by omega)).trans Wb_12
    clear Wb_12
    have Go0_13 := Go0_12.below hb13 (by omega)
    clear Go0_12
    have Gb_13 := (hb13.block _ (by omega)).trans Gb_12
    clear Gb_12
    go_wp2_with fail
    refine (toIntS_any _ _ _ z0 w.heap.size _ HN0.out hlen0 hs0_13 (by omega)).mono ?_
    rintro e w14 ⟨rfl, cc, hb14⟩
    have hz14 := hb14.size
    have hB14 : Below w.heap.size w w14 := Below.trans hB13 (hb14.mono (by omega))
    have hs0_14 := hs0_13.below hb14 (by omega)
    clear hs0_13
    have Wo0_14 := Wo0_13.below hb14 (by omega)
    clear Wo0_13
    have Wb_14 := (hb14.block _ (by omega)).trans Wb_13
    clear Wb_13
    have Go0_14 := Go0_13.below hb14 (by omega)
    clear Go0_13
    have Gb_14 := (hb14.block _ (by omega)).trans Gb_13
    clear Gb_13
    go_wp2_with fail
    refine (impl_MakePuzzle _ len0 _ a1 a2 z0 _ _ _ HN0.out hlen0 cc.seg (by omega) hi1 hi2 _ HQ.out).mono ?_
    rintro e w15 ⟨HA0, Hn0, Hc0, rfl, Hl0, Ho0, hb15⟩
    have hz15 := hb15.size
    have hB15 : Below w.heap.size w w15 := Below.trans hB14 (hb15.mono (by omega))
    have hs0_15 := hs0_14.below hb15 (by omega)
    clear hs0_14
    have Wo0_15 := Wo0_14.below hb15 (by omega)
    clear Wo0_14
    have Wb_15 := (hb15.block _ (by omega)).trans Wb_14
    clear Wb_14
    have Go0_15 := Go0_14.below hb15 (by omega)
    clear Go0_14
    have Gb_15 := (hb15.block _ (by omega)).trans Gb_14
    clear Gb_14
    have cc_15 := cc.below hb15 (by omega)
    clear cc
    obtain rfl : Hn0 = Gn0 := Hl0.symm.trans HY0.out
    clear Hl0
    have kl_Wb : w2.heap.size < w15.heap.size := by omega
    have kc_Wb0 := cell_of Wb_15 0
    have kc_Wb1 := cell_of Wb_15 1
    simp only [List.getElem?_toArray, List.getElem?_cons_zero, List.getElem?_cons_succ] at kc_Wb0 kc_Wb1
    go_wp2_with fail
    obtain ⟨w16, hw16⟩ : ∃ wz, w15.alloc (.cells #[.int .i64 (intU true (len0 : Int)), .slice HA0 Hn0 Hc0] 35) = wz := ⟨_, rfl⟩
    have hb16 : Below w15.heap.size w15 w16 := by rw [← hw16]; exact (Below.refl _ _).alloc (Nat.le_refl _) _
    have hx16 : w16.heap.size = w15.heap.size + 1 := by rw [← hw16]; simp
    have Hb : w16.heap[w15.heap.size]? = some (.cells #[.int .i64 (intU true (len0 : Int)), .slice HA0 Hn0 Hc0] 35 (0, 0)) := by rw [← hw16]; exact new_at _ _ rfl
    have HW16 := Lib.hid hw16
    clear hw16
    have HX16 := Lib.hid hx16
    have hxx16 : w15.heap.size < w16.heap.size := by omega
    clear hx16
    have hz16 := hb16.size
    have hB16 : Below w.heap.size w w16 := Below.trans hB15 (hb16.mono (by omega))
    have hs0_16 := hs0_15.below hb16 (by omega)
    clear hs0_15
    have Wo0_16 := Wo0_15.below hb16 (by omega)
    clear Wo0_15
    have Wb_16 := (hb16.block _ (by omega)).trans Wb_15
    clear Wb_15
    have Go0_16 := Go0_15.below hb16 (by omega)
    clear Go0_15
    have Gb_16 := (hb16.block _ (by omega)).trans Gb_15
    clear Gb_15
    have Ho0_16 := Ho0.below hb16 (by omega)
    clear Ho0
    rw [HW16.out]
    refine (eqPuzzle_any _ _ _ _ _ _ _ _ _ _ _ _ HY0.out (by omega) Ho0_16.seg Wo0_16.seg (by omega) (by omega)).mono ?_
    rintro e w17 ⟨rfl, hb17⟩
    clear kl_Wb kc_Wb0 kc_Wb1
    have hz17 := hb17.size
    have hB17 : Below w.heap.size w w17 := Below.trans hB16 (hb17.mono (by omega))
    have hs0_17 := hs0_16.below hb17 (by omega)
    clear hs0_16
    have Wo0_17 := Wo0_16.below hb17 (by omega)
    clear Wo0_16
    have Wb_17 := (hb17.block _ (by omega)).trans Wb_16
    clear Wb_16
    have Go0_17 := Go0_16.below hb17 (by omega)
    clear Go0_16
    have Gb_17 := (hb17.block _ (by omega)).trans Gb_16
    clear Gb_16
    have Ho0_17 := Ho0_16.below hb17 (by omega)
    clear Ho0_16
    have Hb_17 := (hb17.block _ (by omega)).trans Hb
    clear Hb
    have kc_Gb0 := cell_of Gb_17 0
    have kc_Gb1 := cell_of Gb_17 1
    simp only [List.getElem?_toArray, List.getElem?_cons_zero, List.getElem?_cons_succ] at kc_Gb0 kc_Gb1
    go_wp2_with fail
    refine (heldPuzzle_any _ _ _ _ _ _ _ _ (by omega) (by omega) (by omega) Go0_17.seg (by omega)).mono ?_
    rintro e w18 ⟨rfl, hb18⟩
    clear kc_Gb0 kc_Gb1
    have hz18 := hb18.size
    have hB18 : Below w.heap.size w w18 := Below.trans hB17 (hb18.mono (by omega))
    have hs0_18 := hs0_17.below hb18 (by omega)
    clear hs0_17
    have Wo0_18 := Wo0_17.below hb18 (by omega)
    clear Wo0_17
    have Wb_18 := (hb18.block _ (by omega)).trans Wb_17
    clear Wb_17
    have Go0_18 := Go0_17.below hb18 (by omega)
    clear Go0_17
    have Gb_18 := (hb18.block _ (by omega)).trans Gb_17
    clear Gb_17
    have Ho0_18 := Ho0_17.below hb18 (by omega)
    clear Ho0_17
    have Hb_18 := (hb18.block _ (by omega)).trans Hb_17
    clear Hb_17
    go_wp2
    go_ret
    exact ⟨rfl, hB18⟩
  · go_enter Try.func17, Try.ntmps17
    go_wp2_with fail
    refine (toIntS_any _ _ _ z0 w.heap.size _ HN0.out hlen0 hs0 (by omega)).mono ?_
    rintro e w1 ⟨rfl, ca, hb1⟩
    have hz1 := hb1.size
    have hB1 : Below w.heap.size w w1 := Below.trans (Below.refl _ _) (hb1.mono (by omega))
    have hs0_1 := hs0.below hb1 (by omega)
    clear hs0
    go_wp2_with fail
    refine (spec_MakePuzzle _ len0 _ a1 a2 z0 _ _ _ HN0.out hlen0 ca.seg (by omega) hi1 hi2 _ HQ.out).mono ?_
    rintro e w2 ⟨WA0, Wn0, Wc0, rfl, Wl0, Wo0, hb2⟩
    have hz2 := hb2.size
    have hB2 : Below w.heap.size w w2 := Below.trans hB1 (hb2.mono (by omega))
    have hs0_2 := hs0_1.below hb2 (by omega)
    clear hs0_1
    have ca_2 := ca.below hb2 (by omega)
    clear ca
    go_wp2_with fail
    obtain ⟨w3, hw3⟩ : ∃ wz, w2.alloc (.cells #[.int .i64 (intU false (len0 : Int)), .slice WA0 Wn0 Wc0] 35) = wz := ⟨_, rfl⟩
    have hb3 : Below w2.heap.size w2 w3 := by rw [← hw3]; exact (Below.refl _ _).alloc (Nat.le_refl _) _
    have hx3 : w3.heap.size = w2.heap.size + 1 := by rw [← hw3]; simp
    have Wb : w3.heap[w2.heap.size]? = some (.cells #[.int .i64 (intU false (len0 : Int)), .slice WA0 Wn0 Wc0] 35 (0, 0)) := by rw [← hw3]; exact new_at _ _ rfl
    have HW3 := Lib.hid hw3
    clear hw3
    have HX3 := Lib.hid hx3
    have hxx3 : w2.heap.size < w3.heap.size := by omega
    clear hx3
    have hz3 := hb3.size
    have hB3 : Below w.heap.size w w3 := Below.trans hB2 (hb3.mono (by omega))
    have hs0_3 := hs0_2.below hb3 (by omega)
    clear hs0_2
    have Wo0_3 := Wo0.below hb3 (by omega)
    clear Wo0
    rw [HW3.out]
    refine (toIntS_any _ _ _ z0 w.heap.size _ HN0.out hlen0 hs0_3 (by omega)).mono ?_
    rintro e w4 ⟨rfl, x0, hb4⟩
    have hz4 := hb4.size
    have hB4 : Below w.heap.size w w4 := Below.trans hB3 (hb4.mono (by omega))
    have hs0_4 := hs0_3.below hb4 (by omega)
    clear hs0_3
    have Wo0_4 := Wo0_3.below hb4 (by omega)
    clear Wo0_3
    have Wb_4 := (hb4.block _ (by omega)).trans Wb
    clear Wb
    go_wp2_with fail
    refine (impl_MakePuzzle _ len0 _ a1 a2 z0 _ _ _ HN0.out hlen0 x0.seg (by omega) hi1 hi2 _ HQ.out).mono ?_
    rintro e w5 ⟨GA0, Gn0, Gc0, rfl, Gl0, Go0, hb5⟩
    have hz5 := hb5.size
    have hB5 : Below w.heap.size w w5 := Below.trans hB4 (hb5.mono (by omega))
    have hs0_5 := hs0_4.below hb5 (by omega)
    clear hs0_4
    have Wo0_5 := Wo0_4.below hb5 (by omega)
    clear Wo0_4
    have Wb_5 := (hb5.block _ (by omega)).trans Wb_4
    clear Wb_4
    have x0_5 := x0.below hb5 (by omega)
    clear x0
    obtain rfl : Gn0 = Wn0 := Gl0.symm.trans Wl0
    have HY0 := Lib.hid Gl0
    have hy0 := HYB.out
    rw [Gl0] at hy0
    clear Wl0 Gl0
    have kl_Wb : w2.heap.size < w5.heap.size := by omega
    have kc_Wb0 := cell_of Wb_5 0
    have kc_Wb1 := cell_of Wb_5 1
    simp only [List.getElem?_toArray, List.getElem?_cons_zero, List.getElem?_cons_succ] at kc_Wb0 kc_Wb1
    go_wp2_with fail
    obtain ⟨w6, hw6⟩ : ∃ wz, w5.alloc (.cells #[.int .i64 (intU false (len0 : Int)), .slice GA0 Gn0 Gc0] 35) = wz := ⟨_, rfl⟩
    have hb6 : Below w5.heap.size w5 w6 := by rw [← hw6]; exact (Below.refl _ _).alloc (Nat.le_refl _) _
    have hx6 : w6.heap.size = w5.heap.size + 1 := by rw [← hw6]; simp
    have Gb : w6.heap[w5.heap.size]? = some (.cells #[.int .i64 (intU false (len0 : Int)), .slice GA0 Gn0 Gc0] 35 (0, 0)) := by rw [← hw6]; exact new_at _ _ rfl
    have HW6 := Lib.hid hw6
    clear hw6
    have HX6 := Lib.hid hx6
    have hxx6 : w5.heap.size < w6.heap.size := by omega
    clear hx6
    have hz6 := hb6.size
    have hB6 : Below w.heap.size w w6 := Below.trans hB5 (hb6.mono (by omega))
    have hs0_6 := hs0_5.below hb6 (by omega)
    clear hs0_5
    have Wo0_6 := Wo0_5.below hb6 (by omega)
    clear Wo0_5
    have Wb_6 := (hb6.block _ (by omega)).trans Wb_5
    clear Wb_5
    have x0_6 := x0_5.below hb6 (by omega)
    clear x0_5
    have Go0_6 := Go0.below hb6 (by omega)
    clear Go0
    rw [HW6.out]
    refine (eqPuzzle_any _ _ _ _ _ _ _ _ _ _ _ _ HY0.out (by omega) Go0_6.seg Wo0_6.seg (by omega) (by omega)).mono ?_
    rintro e w7 ⟨rfl, hb7⟩
    clear kl_Wb kc_Wb0 kc_Wb1
    have hz7 := hb7.size
    have hB7 : Below w.heap.size w w7 := Below.trans hB6 (hb7.mono (by omega))
    have hs0_7 := hs0_6.below hb7 (by omega)
    clear hs0_6
    have Wo0_7 := Wo0_6.below hb7 (by omega)
    clear Wo0_6
    have Wb_7 := (hb7.block _ (by omega)).trans Wb_6
    clear Wb_6
    have x0_7 := x0_6.below hb7 (by omega)
    clear x0_6
    have Go0_7 := Go0_6.below hb7 (by omega)
    clear Go0_6
    have Gb_7 := (hb7.block _ (by omega)).trans Gb
    clear Gb
    go_wp2_with fail
    refine (toIntS_any _ _ _ z0 w.heap.size _ HN0.out hlen0 hs0_7 (by omega)).mono ?_
    rintro e w8 ⟨rfl, cb, hb8⟩
    have hz8 := hb8.size
    have hB8 : Below w.heap.size w w8 := Below.trans hB7 (hb8.mono (by omega))
    have hs0_8 := hs0_7.below hb8 (by omega)
    clear hs0_7
    have Wo0_8 := Wo0_7.below hb8 (by omega)
    clear Wo0_7
    have Wb_8 := (hb8.block _ (by omega)).trans Wb_7
    clear Wb_7
    have x0_8 := x0_7.below hb8 (by omega)
    clear x0_7
    have Go0_8 := Go0_7.below hb8 (by omega)
    clear Go0_7
    have Gb_8 := (hb8.block _ (by omega)).trans Gb_7
    clear Gb_7
    go_wp2_with fail
    refine (eqIntS_b _ _ _ _ _ z0 _ _ _ _ _ HN0.out hlen0 x0_8.seg cb.seg).mono ?_
    rintro e w9 ⟨rfl, hb9⟩
    have hz9 := hb9.size
    have hB9 : Below w.heap.size w w9 := Below.trans hB8 (hb9.mono (by omega))
    have hs0_9 := hs0_8.below hb9 (by omega)
    clear hs0_8
    have Wo0_9 := Wo0_8.below hb9 (by omega)
    clear Wo0_8
    have Wb_9 := (hb9.block _ (by omega)).trans Wb_8
    clear Wb_8
    have x0_9 := x0_8.below hb9 (by omega)
    clear x0_8
    have Go0_9 := Go0_8.below hb9 (by omega)
    clear Go0_8
    have Gb_9 := (hb9.block _ (by omega)).trans Gb_8
    clear Gb_8
    have cb_9 := cb.below hb9 (by omega)
    clear cb
    go_wp2_with fail
    refine (markIntS_any _ _ _ _ z0 _ _ _ HN0.out hlen0 (by omega) (by omega) x0_9).mono ?_
    rintro e w10 ⟨rfl, x0_10, row10, hg10, hr10⟩
    have ho10 : Only (fun b => w3.heap.size ≤ b ∧ b < w4.heap.size) w9 w10 := only_of_grown hg10 hr10
    have hz10 := ho10.size
    have hB10 : Below w.heap.size w w10 := Below.trans hB9 (ho10.below (by omega) (fun b hb => by omega))
    have hs0_10 := hs0_9.only ho10 (by omega) (fun b hb => by omega)
    clear hs0_9
    have Wo0_10 := Wo0_9.only ho10 (by omega) (fun b hb => by omega)
    clear Wo0_9
    have Wb_10 := (ho10.block _ (by omega) (fun hs => by omega)).trans Wb_9
    clear Wb_9
    have Go0_10 := Go0_9.only ho10 (by omega) (fun b hb => by omega)
    clear Go0_9
    have Gb_10 := (ho10.block _ (by omega) (fun hs => by omega)).trans Gb_9
    clear Gb_9
    have kc_Gb0 := cell_of Gb_10 0
    have kc_Gb1 := cell_of Gb_10 1
    have kc_Wb0 := cell_of Wb_10 0
    have kc_Wb1 := cell_of Wb_10 1
    simp only [List.getElem?_toArray, List.getElem?_cons_zero, List.getElem?_cons_succ] at kc_Gb0 kc_Gb1 kc_Wb0 kc_Wb1
    go_wp2_with fail
    refine (eqPuzzle_any _ _ _ _ _ _ _ _ _ _ _ _ HY0.out (by omega) Go0_10.seg Wo0_10.seg (by omega) (by omega)).mono ?_
    rintro e w11 ⟨rfl, hb11⟩
    clear kc_Gb0 kc_Gb1 kc_Wb0 kc_Wb1
    have hz11 := hb11.size
    have hB11 : Below w.heap.size w w11 := Below.trans hB10 (hb11.mono (by omega))
    have hs0_11 := hs0_10.below hb11 (by omega)
    clear hs0_10
    have Wo0_11 := Wo0_10.below hb11 (by omega)
    clear Wo0_10
    have Wb_11 := (hb11.block _ (by omega)).trans Wb_10
    clear Wb_10
    have Go0_11 := Go0_10.below hb11 (by omega)
    clear Go0_10
    have Gb_11 := (hb11.block _ (by omega)).trans Gb_10
    clear Gb_10
    have kc_Gb0 := cell_of Gb_11 0
    have kc_Gb1 := cell_of Gb_11 1
    simp only [List.getElem?_toArray, List.getElem?_cons_zero, List.getElem?_cons_succ] at kc_Gb0 kc_Gb1
    go_wp2_with fail
    refine (markPuzzle_any _ _ _ _ _ _ _ _ _ HY0.out (by omega) (by omega) (by omega) Go0_11 (by omega)).mono ?_
    rintro e w12 ⟨rfl, Go0_12, ho12⟩
    clear kc_Gb0 kc_Gb1
    have hz12 := ho12.size
    have hB12 : Below w.heap.size w w12 := Below.trans hB11 (ho12.below (by omega) (fun b hb => by omega))
    have hs0_12 := hs0_11.only ho12 (by omega) (fun b hb => by omega)
    clear hs0_11
    have Wo0_12 := Wo0_11.only ho12 (by omega) (fun b hb => by omega)
    clear Wo0_11
    have Wb_12 := (ho12.block _ (by omega) (fun hs => by omega)).trans Wb_11
    clear Wb_11
    have Gb_12 := (ho12.block _ (by omega) (fun hs => by omega)).trans Gb_11
    clear Gb_11
    have kc_Gb0 := cell_of Gb_12 0
    have kc_Gb1 := cell_of Gb_12 1
    simp only [List.getElem?_toArray, List.getElem?_cons_zero, List.getElem?_cons_succ] at kc_Gb0 kc_Gb1
    go_wp2_with fail
    refine (heldPuzzle_any _ _ _ _ _ _ _ _ (by omega) (by omega) (by omega) Go0_12.seg (by omega)).mono ?_
    rintro e w13 ⟨rfl, hb13⟩
    clear kc_Gb0 kc_Gb1
    have hz13 := hb13.size
    have hB13 : Below w.heap.size w w13 := Below.trans hB12 (hb13.mono (by omega))
    have hs0_13 := hs0_12.below hb13 (by omega)
    clear hs0_12
    have Wo0_13 := Wo0_12.below hb13 (by omega)
    clear Wo0_12
    have Wb_13 := (hb13.block _ (by omega)).trans Wb_12
    clear Wb_12
    have Go0_13 := Go0_12.below hb13 (by omega)
    clear Go0_12
    have Gb_13 := (hb13.block _ (by omega)).trans Gb_12
    clear Gb_12
    go_wp2_with fail
    refine (toIntS_any _ _ _ z0 w.heap.size _ HN0.out hlen0 hs0_13 (by omega)).mono ?_
    rintro e w14 ⟨rfl, cc, hb14⟩
    have hz14 := hb14.size
    have hB14 : Below w.heap.size w w14 := Below.trans hB13 (hb14.mono (by omega))
    have hs0_14 := hs0_13.below hb14 (by omega)
    clear hs0_13
    have Wo0_14 := Wo0_13.below hb14 (by omega)
    clear Wo0_13
    have Wb_14 := (hb14.block _ (by omega)).trans Wb_13
    clear Wb_13
    have Go0_14 := Go0_13.below hb14 (by omega)
    clear Go0_13
    have Gb_14 := (hb14.block _ (by omega)).trans Gb_13
    clear Gb_13
    go_wp2_with fail
    refine (impl_MakePuzzle _ len0 _ a1 a2 z0 _ _ _ HN0.out hlen0 cc.seg (by omega) hi1 hi2 _ HQ.out).mono ?_
    rintro e w15 ⟨HA0, Hn0, Hc0, rfl, Hl0, Ho0, hb15⟩
    have hz15 := hb15.size
    have hB15 : Below w.heap.size w w15 := Below.trans hB14 (hb15.mono (by omega))
    have hs0_15 := hs0_14.below hb15 (by omega)
    clear hs0_14
    have Wo0_15 := Wo0_14.below hb15 (by omega)
    clear Wo0_14
    have Wb_15 := (hb15.block _ (by omega)).trans Wb_14
    clear Wb_14
    have Go0_15 := Go0_14.below hb15 (by omega)
    clear Go0_14
    have Gb_15 := (hb15.block _ (by omega)).trans Gb_14
    clear Gb_14
    have cc_15 := cc.below hb15 (by omega)
    clear cc
    obtain rfl : Hn0 = Gn0 := Hl0.symm.trans HY0.out
    clear Hl0
    have kl_Wb : w2.heap.size < w15.heap.size := by omega
    have kc_Wb0 := cell_of Wb_15 0
    have kc_Wb1 := cell_of Wb_15 1
    simp only [List.getElem?_toArray, List.getElem?_cons_zero, List.getElem?_cons_succ] at kc_Wb0 kc_Wb1
    go_wp2_with fail
    obtain ⟨w16, hw16⟩ : ∃ wz, w15.alloc (.cells #[.int .i64 (intU false (len0 : Int)), .slice HA0 Hn0 Hc0] 35) = wz := ⟨_, rfl⟩
    have hb16 : Below w15.heap.size w15 w16 := by rw [← hw16]; exact (Below.refl _ _).alloc (Nat.le_refl _) _
    have hx16 : w16.heap.size = w15.heap.size + 1 := by rw [← hw16]; simp
    have Hb : w16.heap[w15.heap.size]? = some (.cells #[.int .i64 (intU false (len0 : Int)), .slice HA0 Hn0 Hc0] 35 (0, 0)) := by rw [← hw16]; exact new_at _ _ rfl
    have HW16 := Lib.hid hw16
    clear hw16
    have HX16 := Lib.hid hx16
    have hxx16 : w15.heap.size < w16.heap.size := by omega
    clear hx16
    have hz16 := hb16.size
    have hB16 : Below w.heap.size w w16 := Below.trans hB15 (hb16.mono (by omega))
    have hs0_16 := hs0_15.below hb16 (by omega)
    clear hs0_15
    have Wo0_16 := Wo0_15.below hb16 (by omega)
    clear Wo0_15
    have Wb_16 := (hb16.block _ (by omega)).trans Wb_15
    clear Wb_15
    have Go0_16 := Go0_15.below hb16 (by omega)
    clear Go0_15
    have Gb_16 := (hb16.block _ (by omega)).trans Gb_15
    clear Gb_15
    have Ho0_16 := Ho0.below hb16 (by omega)
    clear Ho0
    rw [HW16.out]
    refine (eqPuzzle_any _ _ _ _ _ _ _ _ _ _ _ _ HY0.out (by omega) Ho0_16.seg Wo0_16.seg (by omega) (by omega)).mono ?_
    rintro e w17 ⟨rfl, hb17⟩
    clear kl_Wb kc_Wb0 kc_Wb1
    have hz17 := hb17.size
    have hB17 : Below w.heap.size w w17 := Below.trans hB16 (hb17.mono (by omega))
    have hs0_17 := hs0_16.below hb17 (by omega)
    clear hs0_16
    have Wo0_17 := Wo0_16.below hb17 (by omega)
    clear Wo0_16
    have Wb_17 := (hb17.block _ (by omega)).trans Wb_16
    clear Wb_16
    have Go0_17 := Go0_16.below hb17 (by omega)
    clear Go0_16
    have Gb_17 := (hb17.block _ (by omega)).trans Gb_16
    clear Gb_16
    have Ho0_17 := Ho0_16.below hb17 (by omega)
    clear Ho0_16
    have Hb_17 := (hb17.block _ (by omega)).trans Hb
    clear Hb
    have kc_Gb0 := cell_of Gb_17 0
    have kc_Gb1 := cell_of Gb_17 1
    simp only [List.getElem?_toArray, List.getElem?_cons_zero, List.getElem?_cons_succ] at kc_Gb0 kc_Gb1
    go_wp2_with fail
    refine (heldPuzzle_any _ _ _ _ _ _ _ _ (by omega) (by omega) (by omega) Go0_17.seg (by omega)).mono ?_
    rintro e w18 ⟨rfl, hb18⟩
    clear kc_Gb0 kc_Gb1
    have hz18 := hb18.size
    have hB18 : Below w.heap.size w w18 := Below.trans hB17 (hb18.mono (by omega))
    have hs0_18 := hs0_17.below hb18 (by omega)
    clear hs0_17
    have Wo0_18 := Wo0_17.below hb18 (by omega)
    clear Wo0_17
    have Wb_18 := (hb18.block _ (by omega)).trans Wb_17
    clear Wb_17
    have Go0_18 := Go0_17.below hb18 (by omega)
    clear Go0_17
    have Gb_18 := (hb18.block _ (by omega)).trans Gb_17
    clear Gb_17
    have Ho0_18 := Ho0_17.below hb18 (by omega)
    clear Ho0_17
    have Hb_18 := (hb18.block _ (by omega)).trans Hb_17
    clear Hb_17
    go_wp2
    go_ret
    exact ⟨rfl, hB18⟩

end LawMakePuzzle
end Go.Proofs.Ytoheoojpmndhoaa
