/-
  For every text the law of ParsePuzzle returns true; the walk.
  Conditions: the listed package-level variables read as the program's text writes them (the card ties them to it).
-/
import Derived.Test.YtoheoojpmndhoabDoorTxZImpl
import Derived.Test.YtoheoojpmndhoabDoorPuz
import Derived.Lib.SmallJoins
import Derived.Deep.RegionHeld3
import Derived.OpenShut
namespace Go.Proofs.YtoheoojpmndhoabDoor
namespace ParsePuzzle
open Go.ChangeShapes Go.WideShapes Go.ChangeAt Go.RowKit
set_option linter.unusedVariables false
set_option linter.unusedSimpArgs false

theorem implParse_same (s : ByteArray) (w : World) (hmax : s.size ≤ 1048576) (hv : Vars w) (hT : Tab w) (q : Bool) (hq : specQ s = q) :
    Calls Tryd.prog 11 #[.string s] w (RetU q (intU q (tS s)) (listU q (clsS (tailS s))) w) := by
  have hp := parseQ_same s
  have h := impl_ParsePuzzle s w hmax hv hT q (hp.1.trans hq)
  cases q
  · exact h
  · rw [(hp.2 hq).1, (hp.2 hq).2] at h
    exact h

theorem cls_len (s : ByteArray) (h : specQ s = true) : (clsS (tailS s)).length ≤ 1048576 := by
  have := (puzB_true.1 (goodT_true (specQ_true h)).1).2.1
  omega

set_option maxHeartbeats 2000000 in
set_option maxRecDepth 100000 in
theorem walk {a0 : ByteArray} {w : World} (hm : a0.size ≤ 9223372036854775807) (hv : Vars w) (hT : Tab w) :
    Calls Tryd.prog 4 #[.string a0] w fun e w' => e = .returned (.bool true) ∧ Below w.heap.size w w' := by
  by_cases hbig : 1048576 < a0.size
  · go_enter Tryd.func4, Tryd.ntmps4
    go_wp2
    go_ret
    exact ⟨rfl, Below.refl _ _⟩
  have hlen : a0.size ≤ 1048576 := by omega
  obtain ⟨q, hq⟩ : ∃ q, specQ a0 = q := ⟨_, rfl⟩
  have HQ := Lib.hid hq
  have HV := Lib.hid hv
  have HT := Lib.hid hT
  have HYB := Lib.hid (show (listU q (clsS (tailS a0))).length ≤ 1048576 by
    cases q
    · exact listU_no _
    · exact listU_yes (cls_len a0 hq))
  obtain ⟨t0, ht0⟩ : ∃ t, tS a0 = t := ⟨_, rfl⟩
  obtain ⟨z0, hz⟩ : ∃ t, clsS (tailS a0) = t := ⟨_, rfl⟩
  rw [hz] at HYB
  have HSP := fun v h => spec_ParsePuzzle a0 v hlen q h
  have HIM := fun v h1 h2 h => implParse_same a0 v hlen h1 h2 q h
  rw [ht0, hz] at HSP HIM
  have HZ := Lib.hid hz
  have HT0 := Lib.hid ht0
  clear hq hv hT hz ht0
  cases q
  · go_enter Tryd.func4, Tryd.ntmps4
    go_wp2_with fail
    refine (HSP _ HQ.out).mono ?_
    rintro e w1 ⟨WA0, Wn0, Wc0, rfl, Wl0, Wo0, hb1⟩
    have hz1 := hb1.size
    have hB1 : Below w.heap.size w w1 := Below.trans (Below.refl _ _) (hb1.mono (by omega))
    go_wp2_with fail
    obtain ⟨w2, hw2⟩ : ∃ wz, w1.alloc (.cells #[.int .i64 (intU false t0), .slice WA0 Wn0 Wc0] 30) = wz := ⟨_, rfl⟩
    have hb2 : Below w1.heap.size w1 w2 := by rw [← hw2]; exact (Below.refl _ _).alloc (Nat.le_refl _) _
    have hx2 : w2.heap.size = w1.heap.size + 1 := by rw [← hw2]; simp
    have Wb : w2.heap[w1.heap.size]? = some (.cells #[.int .i64 (intU false t0), .slice WA0 Wn0 Wc0] 30 (0, 0)) := by rw [← hw2]; exact new_at _ _ rfl
    have HW2 := Lib.hid hw2
    clear hw2
    have HX2 := Lib.hid hx2
    have hxx2 : w1.heap.size < w2.heap.size := by omega
    clear hx2
    have hz2 := hb2.size
    have hB2 : Below w.heap.size w w2 := Below.trans hB1 (hb2.mono (by omega))
    have Wo0_2 := Wo0.below hb2 (by omega)
    clear Wo0
    rw [HW2.out]
    refine (HIM _ (HV.out.below hB2 (Nat.le_refl _)) (HT.out.below hB2 (Nat.le_refl _)) HQ.out).mono ?_
    rintro e w3 ⟨GA0, Gn0, Gc0, rfl, Gl0, Go0, hb3⟩
    have hz3 := hb3.size
    have hB3 : Below w.heap.size w w3 := Below.trans hB2 (hb3.mono (by omega))
    have Wo0_3 := Wo0_2.below hb3 (by omega)
    clear Wo0_2
    have Wb_3 := (hb3.block _ (by omega)).trans Wb
    clear Wb
    obtain rfl : Gn0 = Wn0 := Gl0.symm.trans Wl0
    have HY0 := Lib.hid Gl0
    have hy0 := HYB.out
    rw [Gl0] at hy0
    clear Wl0 Gl0
    have kl_Wb : w1.heap.size < w3.heap.size := by omega
    have kc_Wb0 := cell_of Wb_3 0
    have kc_Wb1 := cell_of Wb_3 1
    simp only [List.getElem?_toArray, List.getElem?_cons_zero, List.getElem?_cons_succ] at kc_Wb0 kc_Wb1
    go_wp2_with fail
    obtain ⟨w4, hw4⟩ : ∃ wz, w3.alloc (.cells #[.int .i64 (intU false t0), .slice GA0 Gn0 Gc0] 30) = wz := ⟨_, rfl⟩
    have hb4 : Below w3.heap.size w3 w4 := by rw [← hw4]; exact (Below.refl _ _).alloc (Nat.le_refl _) _
    have hx4 : w4.heap.size = w3.heap.size + 1 := by rw [← hw4]; simp
    have Gb : w4.heap[w3.heap.size]? = some (.cells #[.int .i64 (intU false t0), .slice GA0 Gn0 Gc0] 30 (0, 0)) := by rw [← hw4]; exact new_at _ _ rfl
    have HW4 := Lib.hid hw4
    clear hw4
    have HX4 := Lib.hid hx4
    have hxx4 : w3.heap.size < w4.heap.size := by omega
    clear hx4
    have hz4 := hb4.size
    have hB4 : Below w.heap.size w w4 := Below.trans hB3 (hb4.mono (by omega))
    have Wo0_4 := Wo0_3.below hb4 (by omega)
    clear Wo0_3
    have Wb_4 := (hb4.block _ (by omega)).trans Wb_3
    clear Wb_3
    have Go0_4 := Go0.below hb4 (by omega)
    clear Go0
    rw [HW4.out]
    refine (eqPuzzle_any _ _ _ _ _ _ _ _ _ _ _ _ HY0.out (by omega) Go0_4.seg Wo0_4.seg (by omega) (by omega)).mono ?_
    rintro e w5 ⟨rfl, hb5⟩
    clear kl_Wb kc_Wb0 kc_Wb1
    have hz5 := hb5.size
    have hB5 : Below w.heap.size w w5 := Below.trans hB4 (hb5.mono (by omega))
    have Wo0_5 := Wo0_4.below hb5 (by omega)
    clear Wo0_4
    have Wb_5 := (hb5.block _ (by omega)).trans Wb_4
    clear Wb_4
    have Go0_5 := Go0_4.below hb5 (by omega)
    clear Go0_4
    have Gb_5 := (hb5.block _ (by omega)).trans Gb
    clear Gb
    have kc_Gb0 := cell_of Gb_5 0
    have kc_Gb1 := cell_of Gb_5 1
    simp only [List.getElem?_toArray, List.getElem?_cons_zero, List.getElem?_cons_succ] at kc_Gb0 kc_Gb1
    go_wp2_with fail
    refine (markPuzzle_any _ _ _ _ _ _ _ _ _ HY0.out (by omega) (by omega) (by omega) Go0_5 (by omega)).mono ?_
    rintro e w6 ⟨rfl, Go0_6, ho6⟩
    clear kc_Gb0 kc_Gb1
    have hz6 := ho6.size
    have hB6 : Below w.heap.size w w6 := Below.trans hB5 (ho6.below (by omega) (fun b hb => by omega))
    have Wo0_6 := Wo0_5.only ho6 (by omega) (fun b hb => by omega)
    clear Wo0_5
    have Wb_6 := (ho6.block _ (by omega) (fun hs => by omega)).trans Wb_5
    clear Wb_5
    have Gb_6 := (ho6.block _ (by omega) (fun hs => by omega)).trans Gb_5
    clear Gb_5
    have kc_Gb0 := cell_of Gb_6 0
    have kc_Gb1 := cell_of Gb_6 1
    simp only [List.getElem?_toArray, List.getElem?_cons_zero, List.getElem?_cons_succ] at kc_Gb0 kc_Gb1
    go_wp2_with fail
    refine (heldPuzzle_any _ _ _ _ _ _ _ _ (by omega) (by omega) (by omega) Go0_6.seg (by omega)).mono ?_
    rintro e w7 ⟨rfl, hb7⟩
    clear kc_Gb0 kc_Gb1
    have hz7 := hb7.size
    have hB7 : Below w.heap.size w w7 := Below.trans hB6 (hb7.mono (by omega))
    have Wo0_7 := Wo0_6.below hb7 (by omega)
    clear Wo0_6
    have Wb_7 := (hb7.block _ (by omega)).trans Wb_6
    clear Wb_6
    have Go0_7 := Go0_6.below hb7 (by omega)
    clear Go0_6
    have Gb_7 := (hb7.block _ (by omega)).trans Gb_6
    clear Gb_6
    go_wp2_with fail
    refine (HIM _ (HV.out.below hB7 (Nat.le_refl _)) (HT.out.below hB7 (Nat.le_refl _)) HQ.out).mono ?_
    rintro e w8 ⟨HA0, Hn0, Hc0, rfl, Hl0, Ho0, hb8⟩
    have hz8 := hb8.size
    have hB8 : Below w.heap.size w w8 := Below.trans hB7 (hb8.mono (by omega))
    have Wo0_8 := Wo0_7.below hb8 (by omega)
    clear Wo0_7
    have Wb_8 := (hb8.block _ (by omega)).trans Wb_7
    clear Wb_7
    have Go0_8 := Go0_7.below hb8 (by omega)
    clear Go0_7
    have Gb_8 := (hb8.block _ (by omega)).trans Gb_7
    clear Gb_7
    obtain rfl : Hn0 = Gn0 := Hl0.symm.trans HY0.out
    clear Hl0
    have kl_Wb : w1.heap.size < w8.heap.size := by omega
    have kc_Wb0 := cell_of Wb_8 0
    have kc_Wb1 := cell_of Wb_8 1
    simp only [List.getElem?_toArray, List.getElem?_cons_zero, List.getElem?_cons_succ] at kc_Wb0 kc_Wb1
    go_wp2_with fail
    obtain ⟨w9, hw9⟩ : ∃ wz, w8.alloc (.cells #[.int .i64 (intU false t0), .slice HA0 Hn0 Hc0] 30) = wz := ⟨_, rfl⟩
    have hb9 : Below w8.heap.size w8 w9 := by rw [← hw9]; exact (Below.refl _ _).alloc (Nat.le_refl _) _
    have hx9 : w9.heap.size = w8.heap.size + 1 := by rw [← hw9]; simp
    have Hb : w9.heap[w8.heap.size]? = some (.cells #[.int .i64 (intU false t0), .slice HA0 Hn0 Hc0] 30 (0, 0)) := by rw [← hw9]; exact new_at _ _ rfl
    have HW9 := Lib.hid hw9
    clear hw9
    have HX9 := Lib.hid hx9
    have hxx9 : w8.heap.size < w9.heap.size := by omega
    clear hx9
    have hz9 := hb9.size
    have hB9 : Below w.heap.size w w9 := Below.trans hB8 (hb9.mono (by omega))
    have Wo0_9 := Wo0_8.below hb9 (by omega)
    clear Wo0_8
    have Wb_9 := (hb9.block _ (by omega)).trans Wb_8
    clear Wb_8
    have Go0_9 := Go0_8.below hb9 (by omega)
    clear Go0_8
    have Gb_9 := (hb9.block _ (by omega)).trans Gb_8
    clear Gb_8
    have Ho0_9 := Ho0.below hb9 (by omega)
    clear Ho0
    rw [HW9.out]
    refine (eqPuzzle_any _ _ _ _ _ _ _ _ _ _ _ _ HY0.out (by omega) Ho0_9.seg Wo0_9.seg (by omega) (by omega)).mono ?_
    rintro e w10 ⟨rfl, hb10⟩
    clear kl_Wb kc_Wb0 kc_Wb1
    have hz10 := hb10.size
    have hB10 : Below w.heap.size w w10 := Below.trans hB9 (hb10.mono (by omega))
    have Wo0_10 := Wo0_9.below hb10 (by omega)
    clear Wo0_9
    have Wb_10 := (hb10.block _ (by omega)).trans Wb_9
    clear Wb_9
    have Go0_10 := Go0_9.below hb10 (by omega)
    clear Go0_9
    have Gb_10 := (hb10.block _ (by omega)).trans Gb_9
    clear Gb_9
    have Ho0_10 := Ho0_9.below hb10 (by omega)
    clear Ho0_9
    have Hb_10 := (hb10.block _ (by omega)).trans Hb
    clear Hb
    have kc_Gb0 := cell_of Gb_10 0
    have kc_Gb1 := cell_of Gb_10 1
    simp only [List.getElem?_toArray, List.getElem?_cons_zero, List.getElem?_cons_succ] at kc_Gb0 kc_Gb1
    go_wp2_with fail
    refine (heldPuzzle_any _ _ _ _ _ _ _ _ (by omega) (by omega) (by omega) Go0_10.seg (by omega)).mono ?_
    rintro e w11 ⟨rfl, hb11⟩
    clear kc_Gb0 kc_Gb1
    have hz11 := hb11.size
    have hB11 : Below w.heap.size w w11 := Below.trans hB10 (hb11.mono (by omega))
    have Wo0_11 := Wo0_10.below hb11 (by omega)
    clear Wo0_10
    have Wb_11 := (hb11.block _ (by omega)).trans Wb_10
    clear Wb_10
    have Go0_11 := Go0_10.below hb11 (by omega)
    clear Go0_10
    have Gb_11 := (hb11.block _ (by omega)).trans Gb_10
    clear Gb_10
    have Ho0_11 := Ho0_10.below hb11 (by omega)
    clear Ho0_10
    have Hb_11 := (hb11.block _ (by omega)).trans Hb_10
    clear Hb_10
    go_wp2
    go_ret
    exact ⟨rfl, hB11⟩
  · go_enter Tryd.func4, Tryd.ntmps4
    go_wp2_with fail
    refine (HSP _ HQ.out).mono ?_
    rintro e w1 ⟨WA0, Wn0, Wc0, rfl, Wl0, Wo0, hb1⟩
    have hz1 := hb1.size
    have hB1 : Below w.heap.size w w1 := Below.trans (Below.refl _ _) (hb1.mono (by omega))
    go_wp2_with fail
    obtain ⟨w2, hw2⟩ : ∃ wz, w1.alloc (.cells #[.int .i64 (intU true t0), .slice WA0 Wn0 Wc0] 30) = wz := ⟨_, rfl⟩
    have hb2 : Below w1.heap.size w1 w2 := by rw [← hw2]; exact (Below.refl _ _).alloc (Nat.le_refl _) _
    have hx2 : w2.heap.size = w1.heap.size + 1 := by rw [← hw2]; simp
    have Wb : w2.heap[w1.heap.size]? = some (.cells #[.int .i64 (intU true t0), .slice WA0 Wn0 Wc0] 30 (0, 0)) := by rw [← hw2]; exact new_at _ _ rfl
    have HW2 := Lib.hid hw2
    clear hw2
    have HX2 := Lib.hid hx2
    have hxx2 : w1.heap.size < w2.heap.size := by omega
    clear hx2
    have hz2 := hb2.size
    have hB2 : Below w.heap.size w w2 := Below.trans hB1 (hb2.mono (by omega))
    have Wo0_2 := Wo0.below hb2 (by omega)
    clear Wo0
    rw [HW2.out]
    refine (HIM _ (HV.out.below hB2 (Nat.le_refl _)) (HT.out.below hB2 (Nat.le_refl _)) HQ.out).mono ?_
    rintro e w3 ⟨GA0, Gn0, Gc0, rfl, Gl0, Go0, hb3⟩
    have hz3 := hb3.size
    have hB3 : Below w.heap.size w w3 := Below.trans hB2 (hb3.mono (by omega))
    have Wo0_3 := Wo0_2.below hb3 (by omega)
    clear Wo0_2
    have Wb_3 := (hb3.block _ (by omega)).trans Wb
    clear Wb
    obtain rfl : Gn0 = Wn0 := Gl0.symm.trans Wl0
    have HY0 := Lib.hid Gl0
    have hy0 := HYB.out
    rw [Gl0] at hy0
    clear Wl0 Gl0
    have kl_Wb : w1.heap.size < w3.heap.size := by omega
    have kc_Wb0 := cell_of Wb_3 0
    have kc_Wb1 := cell_of Wb_3 1
    simp only [List.getElem?_toArray, List.getElem?_cons_zero, List.getElem?_cons_succ] at kc_Wb0 kc_Wb1
    go_wp2_with fail
    obtain ⟨w4, hw4⟩ : ∃ wz, w3.alloc (.cells #[.int .i64 (intU true t0), .slice GA0 Gn0 Gc0] 30) = wz := ⟨_, rfl⟩
    have hb4 : Below w3.heap.size w3 w4 := by rw [← hw4]; exact (Below.refl _ _).alloc (Nat.le_refl _) _
    have hx4 : w4.heap.size = w3.heap.size + 1 := by rw [← hw4]; simp
    have Gb : w4.heap[w3.heap.size]? = some (.cells #[.int .i64 (intU true t0), .slice GA0 Gn0 Gc0] 30 (0, 0)) := by rw [← hw4]; exact new_at _ _ rfl
    have HW4 := Lib.hid hw4
    clear hw4
    have HX4 := Lib.hid hx4
    have hxx4 : w3.heap.size < w4.heap.size := by omega
    clear hx4
    have hz4 := hb4.size
    have hB4 : Below w.heap.size w w4 := Below.trans hB3 (hb4.mono (by omega))
    have Wo0_4 := Wo0_3.below hb4 (by omega)
    clear Wo0_3
    have Wb_4 := (hb4.block _ (by omega)).trans Wb_3
    clear Wb_3
    have Go0_4 := Go0.below hb4 (by omega)
    clear Go0
    rw [HW4.out]
    refine (eqPuzzle_any _ _ _ _ _ _ _ _ _ _ _ _ HY0.out (by omega) Go0_4.seg Wo0_4.seg (by omega) (by omega)).mono ?_
    rintro e w5 ⟨rfl, hb5⟩
    clear kl_Wb kc_Wb0 kc_Wb1
    have hz5 := hb5.size
    have hB5 : Below w.heap.size w w5 := Below.trans hB4 (hb5.mono (by omega))
    have Wo0_5 := Wo0_4.below hb5 (by omega)
    clear Wo0_4
    have Wb_5 := (hb5.block _ (by omega)).trans Wb_4
    clear Wb_4
    have Go0_5 := Go0_4.below hb5 (by omega)
    clear Go0_4
    have Gb_5 := (hb5.block _ (by omega)).trans Gb
    clear Gb
    have kc_Gb0 := cell_of Gb_5 0
    have kc_Gb1 := cell_of Gb_5 1
    simp only [List.getElem?_toArray, List.getElem?_cons_zero, List.getElem?_cons_succ] at kc_Gb0 kc_Gb1
    go_wp2_with fail
    refine (markPuzzle_any _ _ _ _ _ _ _ _ _ HY0.out (by omega) (by omega) (by omega) Go0_5 (by omega)).mono ?_
    rintro e w6 ⟨rfl, Go0_6, ho6⟩
    clear kc_Gb0 kc_Gb1
    have hz6 := ho6.size
    have hB6 : Below w.heap.size w w6 := Below.trans hB5 (ho6.below (by omega) (fun b hb => by omega))
    have Wo0_6 := Wo0_5.only ho6 (by omega) (fun b hb => by omega)
    clear Wo0_5
    have Wb_6 := (ho6.block _ (by omega) (fun hs => by omega)).trans Wb_5
    clear Wb_5
    have Gb_6 := (ho6.block _ (by omega) (fun hs => by omega)).trans Gb_5
    clear Gb_5
    have kc_Gb0 := cell_of Gb_6 0
    have kc_Gb1 := cell_of Gb_6 1
    simp only [List.getElem?_toArray, List.getElem?_cons_zero, List.getElem?_cons_succ] at kc_Gb0 kc_Gb1
    go_wp2_with fail
    refine (heldPuzzle_any _ _ _ _ _ _ _ _ (by omega) (by omega) (by omega) Go0_6.seg (by omega)).mono ?_
    rintro e w7 ⟨rfl, hb7⟩
    clear kc_Gb0 kc_Gb1
    have hz7 := hb7.size
    have hB7 : Below w.heap.size w w7 := Below.trans hB6 (hb7.mono (by omega))
    have Wo0_7 := Wo0_6.below hb7 (by omega)
    clear Wo0_6
    have Wb_7 := (hb7.block _ (by omega)).trans Wb_6
    clear Wb_6
    have Go0_7 := Go0_6.below hb7 (by omega)
    clear Go0_6
    have Gb_7 := (hb7.block _ (by omega)).trans Gb_6
    clear Gb_6
    go_wp2_with fail
    refine (HIM _ (HV.out.below hB7 (Nat.le_refl _)) (HT.out.below hB7 (Nat.le_refl _)) HQ.out).mono ?_
    rintro e w8 ⟨HA0, Hn0, Hc0, rfl, Hl0, Ho0, hb8⟩
    have hz8 := hb8.size
    have hB8 : Below w.heap.size w w8 := Below.trans hB7 (hb8.mono (by omega))
    have Wo0_8 := Wo0_7.below hb8 (by omega)
    clear Wo0_7
    have Wb_8 := (hb8.block _ (by omega)).trans Wb_7
    clear Wb_7
    have Go0_8 := Go0_7.below hb8 (by omega)
    clear Go0_7
    have Gb_8 := (hb8.block _ (by omega)).trans Gb_7
    clear Gb_7
    obtain rfl : Hn0 = Gn0 := Hl0.symm.trans HY0.out
    clear Hl0
    have kl_Wb : w1.heap.size < w8.heap.size := by omega
    have kc_Wb0 := cell_of Wb_8 0
    have kc_Wb1 := cell_of Wb_8 1
    simp only [List.getElem?_toArray, List.getElem?_cons_zero, List.getElem?_cons_succ] at kc_Wb0 kc_Wb1
    go_wp2_with fail
    obtain ⟨w9, hw9⟩ : ∃ wz, w8.alloc (.cells #[.int .i64 (intU true t0), .slice HA0 Hn0 Hc0] 30) = wz := ⟨_, rfl⟩
    have hb9 : Below w8.heap.size w8 w9 := by rw [← hw9]; exact (Below.refl _ _).alloc (Nat.le_refl _) _
    have hx9 : w9.heap.size = w8.heap.size + 1 := by rw [← hw9]; simp
    have Hb : w9.heap[w8.heap.size]? = some (.cells #[.int .i64 (intU true t0), .slice HA0 Hn0 Hc0] 30 (0, 0)) := by rw [← hw9]; exact new_at _ _ rfl
    have HW9 := Lib.hid hw9
    clear hw9
    have HX9 := Lib.hid hx9
    have hxx9 : w8.heap.size < w9.heap.size := by omega
    clear hx9
    have hz9 := hb9.size
    have hB9 : Below w.heap.size w w9 := Below.trans hB8 (hb9.mono (by omega))
    have Wo0_9 := Wo0_8.below hb9 (by omega)
    clear Wo0_8
    have Wb_9 := (hb9.block _ (by omega)).trans Wb_8
    clear Wb_8
    have Go0_9 := Go0_8.below hb9 (by omega)
    clear Go0_8
    have Gb_9 := (hb9.block _ (by omega)).trans Gb_8
    clear Gb_8
    have Ho0_9 := Ho0.below hb9 (by omega)
    clear Ho0
    rw [HW9.out]
    refine (eqPuzzle_any _ _ _ _ _ _ _ _ _ _ _ _ HY0.out (by omega) Ho0_9.seg Wo0_9.seg (by omega) (by omega)).mono ?_
    rintro e w10 ⟨rfl, hb10⟩
    clear kl_Wb kc_Wb0 kc_Wb1
    have hz10 := hb10.size
    have hB10 : Below w.heap.size w w10 := Below.trans hB9 (hb10.mono (by omega))
    have Wo0_10 := Wo0_9.below hb10 (by omega)
    clear Wo0_9
    have Wb_10 := (hb10.block _ (by omega)).trans Wb_9
    clear Wb_9
    have Go0_10 := Go0_9.below hb10 (by omega)
    clear Go0_9
    have Gb_10 := (hb10.block _ (by omega)).trans Gb_9
    clear Gb_9
    have Ho0_10 := Ho0_9.below hb10 (by omega)
    clear Ho0_9
    have Hb_10 := (hb10.block _ (by omega)).trans Hb
    clear Hb
    have kc_Gb0 := cell_of Gb_10 0
    have kc_Gb1 := cell_of Gb_10 1
    simp only [List.getElem?_toArray, List.getElem?_cons_zero, List.getElem?_cons_succ] at kc_Gb0 kc_Gb1
    go_wp2_with fail
    refine (heldPuzzle_any _ _ _ _ _ _ _ _ (by omega) (by omega) (by omega) Go0_10.seg (by omega)).mono ?_
    rintro e w11 ⟨rfl, hb11⟩
    clear kc_Gb0 kc_Gb1
    have hz11 := hb11.size
    have hB11 : Below w.heap.size w w11 := Below.trans hB10 (hb11.mono (by omega))
    have Wo0_11 := Wo0_10.below hb11 (by omega)
    clear Wo0_10
    have Wb_11 := (hb11.block _ (by omega)).trans Wb_10
    clear Wb_10
    have Go0_11 := Go0_10.below hb11 (by omega)
    clear Go0_10
    have Gb_11 := (hb11.block _ (by omega)).trans Gb_10
    clear Gb_10
    have Ho0_11 := Ho0_10.below hb11 (by omega)
    clear Ho0_10
    have Hb_11 := (hb11.block _ (by omega)).trans Hb_10
    clear Hb_10
    go_wp2
    go_ret
    exact ⟨rfl, hB11⟩
end ParsePuzzle
end Go.Proofs.YtoheoojpmndhoabDoor
