/-
  For every clue and every list of numbers the law of DoesFit returns true and leaves the list as it was.
  Conditions: none.
-/
import Derived.Test.YtaeppgcbdmifdaaPzDf
import Derived.Test.YtaeppgcbdmifdaaClus
import Derived.Test.YtaeppgcbdmifdaaCopy
import Derived.Test.YtaeppgcbdmifdaaEq
import Derived.Lib.SmallJoins
import Derived.Deep.RegionHeld3
import Derived.OpenShut
import Derived.ShutString
import Derived.ChangeOld
namespace Go.Proofs.Ytaeppgcbdmifdaa
namespace LawDoesFit
open Go.ChangeShapes Go.WideShapes Go.ChangeAt Go.RowKit
open Go.Joins (open_agg2 open_agg4)
set_option linter.unusedVariables false
set_option linter.unusedSimpArgs false

theorem own : ownKnob Try.prog.godebug = none := by kernel_rfl
theorem laidOut : laidOutB Try.prog = true := by kernel_rfl

set_option maxHeartbeats 2000000 in
set_option maxRecDepth 100000 in
theorem walk {a0a a0b a0c a0d : Int} {a1 : Option Addr} {len1 cap1 : Nat} {z1 : List Int} {w : World} (hn1 : z1.length = len1) (hs1 : Seg w 0 w.heap.size a1 z1) :
    Calls Try.prog 4 #[clV (a0a, a0b, a0c, a0d), .slice a1 len1 cap1] w fun e w' => e = .returned (.bool true) ∧ Below w.heap.size w w' := by
  by_cases hbig1 : 1048576 < len1
  · clear hs1 hn1
    go_enter Try.func4, Try.ntmps4
    go_wp2
    go_ret
    exact ⟨rfl, (Below.refl _ _).alloc (Nat.le_refl _) _⟩
  have hlen1 : len1 ≤ 1048576 := by omega
  have HN1 := Lib.hid hn1
  obtain ⟨q, hq⟩ : ∃ q, dfB a0a a0b a0c a0d z1 = q := ⟨_, rfl⟩
  have HQ := Lib.hid hq
  clear hq
  obtain ⟨p, hp⟩ : ∃ p, dfV a0a a0b a0c a0d z1 = p := ⟨_, rfl⟩
  have HP := Lib.hid hp
  clear hp
  cases q <;> cases p
  clear hn1
  · go_enter Try.func4, Try.ntmps4
    have hb0 : Below w.heap.size w (w.alloc (.cells #[.int .i64 a0a, .int .i64 a0b, .int .i64 a0c, .int .i64 a0d] 34)) := (Below.refl _ _).alloc (Nat.le_refl _) _
    obtain ⟨w0, hW0⟩ : ∃ W0, w.alloc (.cells #[.int .i64 a0a, .int .i64 a0b, .int .i64 a0c, .int .i64 a0d] 34) = W0 := ⟨_, rfl⟩
    have C : w0.heap[w.heap.size]? = some (.cells #[.int .i64 a0a, .int .i64 a0b, .int .i64 a0c, .int .i64 a0d] 34 (0, 0)) := by rw [← hW0]; exact new_at _ _ rfl
    have hx0 : w.heap.size < w0.heap.size := heap_lt C
    rw [hW0] at hb0
    have HW0 := Lib.hid hW0
    clear hW0
    have hs1_0 := hs1.below hb0 (Nat.le_refl _)
    clear hs1
    have hz0 := hb0.size
    have kc_C0 := cell_of C 0
    have kc_C1 := cell_of C 1
    have kc_C2 := cell_of C 2
    have kc_C3 := cell_of C 3
    simp only [List.getElem?_toArray, List.getElem?_cons_zero, List.getElem?_cons_succ] at kc_C0 kc_C1 kc_C2 kc_C3
    go_wp2_with fail
    rw [HW0.out]
    refine (toClue_any _ _ _ _ _).mono ?_
    rintro e w1 ⟨rfl, hb1⟩
    clear kc_C0 kc_C1 kc_C2 kc_C3
    have hz1 := hb1.size
    have hB1 : Below w.heap.size w w1 := Below.trans hb0 (hb1.mono (by omega))
    have hs1_1 := hs1_0.below hb1 (by omega)
    clear hs1_0
    have C_1 := (hb1.block _ (by omega)).trans C
    clear C
    go_wp2_with fail
    refine (toIntS_any _ _ _ z1 w.heap.size _ HN1.out hlen1 hs1_1 (by omega)).mono ?_
    rintro e w2 ⟨rfl, ca, hb2⟩
    have hz2 := hb2.size
    have hB2 : Below w.heap.size w w2 := Below.trans hB1 (hb2.mono (by omega))
    have hs1_2 := hs1_1.below hb2 (by omega)
    clear hs1_1
    have C_2 := (hb2.block _ (by omega)).trans C_1
    clear C_1
    go_wp2_with fail
    refine (spec_DoesFit _ _ _ a0a a0b a0c a0d z1 _ _ _ HN1.out hlen1 ca.seg (by omega) _ HQ.out _ HP.out).mono ?_
    rintro e w3 ⟨rfl, hb3⟩
    have hz3 := hb3.size
    have hB3 : Below w.heap.size w w3 := Below.trans hB2 (hb3.mono (by omega))
    have hs1_3 := hs1_2.below hb3 (by omega)
    clear hs1_2
    have C_3 := (hb3.block _ (by omega)).trans C_2
    clear C_2
    have ca_3 := ca.below hb3 (by omega)
    clear ca
    go_wp2_with fail
    refine (toIntS_any _ _ _ z1 w.heap.size _ HN1.out hlen1 hs1_3 (by omega)).mono ?_
    rintro e w4 ⟨rfl, x0, hb4⟩
    have hz4 := hb4.size
    have hB4 : Below w.heap.size w w4 := Below.trans hB3 (hb4.mono (by omega))
    have hs1_4 := hs1_3.below hb4 (by omega)
    clear hs1_3
    have C_4 := (hb4.block _ (by omega)).trans C_3
    clear C_3
    have kc_C0 := cell_of C_4 0
    have kc_C1 := cell_of C_4 1
    have kc_C2 := cell_of C_4 2
    have kc_C3 := cell_of C_4 3
    simp only [List.getElem?_toArray, List.getElem?_cons_zero, List.getElem?_cons_succ] at kc_C0 kc_C1 kc_C2 kc_C3
    go_wp2_with fail
    refine (toClue_any _ _ _ _ _).mono ?_
    rintro e w5 ⟨rfl, hb5⟩
    clear kc_C0 kc_C1 kc_C2 kc_C3
    have hz5 := hb5.size
    have hB5 : Below w.heap.size w w5 := Below.trans hB4 (hb5.mono (by omega))
    have hs1_5 := hs1_4.below hb5 (by omega)
    clear hs1_4
    have C_5 := (hb5.block _ (by omega)).trans C_4
    clear C_4
    have x0_5 := x0.below hb5 (by omega)
    clear x0
    go_wp2_with fail
    refine (impl_DoesFit _ _ _ a0a a0b a0c a0d z1 _ _ _ HN1.out hlen1 x0_5.seg (by omega) _ HQ.out _ HP.out).mono ?_
    rintro e w6 ⟨rfl, hb6⟩
    have hz6 := hb6.size
    have hB6 : Below w.heap.size w w6 := Below.trans hB5 (hb6.mono (by omega))
    have hs1_6 := hs1_5.below hb6 (by omega)
    clear hs1_5
    have C_6 := (hb6.block _ (by omega)).trans C_5
    clear C_5
    have x0_6 := x0_5.below hb6 (by omega)
    clear x0_5
    go_wp2_with fail
    refine (toIntS_any _ _ _ z1 w.heap.size _ HN1.out hlen1 hs1_6 (by omega)).mono ?_
    rintro e w7 ⟨rfl, cb, hb7⟩
    have hz7 := hb7.size
    have hB7 : Below w.heap.size w w7 := Below.trans hB6 (hb7.mono (by omega))
    have hs1_7 := hs1_6.below hb7 (by omega)
    clear hs1_6
    have C_7 := (hb7.block _ (by omega)).trans C_6
    clear C_6
    have x0_7 := x0_6.below hb7 (by omega)
    clear x0_6
    go_wp2_with fail
    refine (eqIntS_b _ _ _ _ _ z1 _ _ _ _ _ HN1.out hlen1 x0_7.seg cb.seg).mono ?_
    rintro e w8 ⟨rfl, hb8⟩
    have hz8 := hb8.size
    have hB8 : Below w.heap.size w w8 := Below.trans hB7 (hb8.mono (by omega))
    have hs1_8 := hs1_7.below hb8 (by omega)
    clear hs1_7
    have C_8 := (hb8.block _ (by omega)).trans C_7
    clear C_7
    have x0_8 := x0_7.below hb8 (by omega)
    clear x0_7
    have cb_8 := cb.below hb8 (by omega)
    clear cb
    go_wp2
    go_ret
    exact ⟨rfl, hB8⟩
  · go_enter Try.func4, Try.ntmps4
    have hb0 : Below w.heap.size w (w.alloc (.cells #[.int .i64 a0a, .int .i64 a0b, .int .i64 a0c, .int .i64 a0d] 34)) := (Below.refl _ _).alloc (Nat.le_refl _) _
    obtain ⟨w0, hW0⟩ : ∃ W0, w.alloc (.cells #[.int .i64 a0a, .int .i64 a0b, .int .i64 a0c, .int .i64 a0d] 34) = W0 := ⟨_, rfl⟩
    have C : w0.heap[w.heap.size]? = some (.cells #[.int .i64 a0a, .int .i64 a0b, .int .i64 a0c, .int .i64 a0d] 34 (0, 0)) := by rw [← hW0]; exact new_at _ _ rfl
    have hx0 : w.heap.size < w0.heap.size := heap_lt C
    rw [hW0] at hb0
    have HW0 := Lib.hid hW0
    clear hW0
    have hs1_0 := hs1.below hb0 (Nat.le_refl _)
    clear hs1
    have hz0 := hb0.size
    have kc_C0 := cell_of C 0
    have kc_C1 := cell_of C 1
    have kc_C2 := cell_of C 2
    have kc_C3 := cell_of C 3
    simp only [List.getElem?_toArray, List.getElem?_cons_zero, List.getElem?_cons_succ] at kc_C0 kc_C1 kc_C2 kc_C3
    go_wp2_with fail
    rw [HW0.out]
    refine (toClue_any _ _ _ _ _).mono ?_
    rintro e w1 ⟨rfl, hb1⟩
    clear kc_C0 kc_C1 kc_C2 kc_C3
    have hz1 := hb1.size
    have hB1 : Below w.heap.size w w1 := Below.trans hb0 (hb1.mono (by omega))
    have hs1_1 := hs1_0.below hb1 (by omega)
    clear hs1_0
    have C_1 := (hb1.block _ (by omega)).trans C
    clear C
    go_wp2_with fail
    refine (toIntS_any _ _ _ z1 w.heap.size _ HN1.out hlen1 hs1_1 (by omega)).mono ?_
    rintro e w2 ⟨rfl, ca, hb2⟩
    have hz2 := hb2.size
    have hB2 : Below w.heap.size w w2 := Below.trans hB1 (hb2.mono (by omega))
    have hs1_2 := hs1_1.below hb2 (by omega)
    clear hs1_1
    have C_2 := (hb2.block _ (by omega)).trans C_1
    clear C_1
    go_wp2_with fail
    refine (spec_DoesFit _ _ _ a0a a0b a0c a0d z1 _ _ _ HN1.out hlen1 ca.seg (by omega) _ HQ.out _ HP.out).mono ?_
    rintro e w3 ⟨rfl, hb3⟩
    have hz3 := hb3.size
    have hB3 : Below w.heap.size w w3 := Below.trans hB2 (hb3.mono (by omega))
    have hs1_3 := hs1_2.below hb3 (by omega)
    clear hs1_2
    have C_3 := (hb3.block _ (by omega)).trans C_2
    clear C_2
    have ca_3 := ca.below hb3 (by omega)
    clear ca
    go_wp2_with fail
    refine (toIntS_any _ _ _ z1 w.heap.size _ HN1.out hlen1 hs1_3 (by omega)).mono ?_
    rintro e w4 ⟨rfl, x0, hb4⟩
    have hz4 := hb4.size
    have hB4 : Below w.heap.size w w4 := Below.trans hB3 (hb4.mono (by omega))
    have hs1_4 := hs1_3.below hb4 (by omega)
    clear hs1_3
    have C_4 := (hb4.block _ (by omega)).trans C_3
    clear C_3
    have kc_C0 := cell_of C_4 0
    have kc_C1 := cell_of C_4 1
    have kc_C2 := cell_of C_4 2
    have kc_C3 := cell_of C_4 3
    simp only [List.getElem?_toArray, List.getElem?_cons_zero, List.getElem?_cons_succ] at kc_C0 kc_C1 kc_C2 kc_C3
    go_wp2_with fail
    refine (toClue_any _ _ _ _ _).mono ?_
    rintro e w5 ⟨rfl, hb5⟩
    clear kc_C0 kc_C1 kc_C2 kc_C3
    have hz5 := hb5.size
    have hB5 : Below w.heap.size w w5 := Below.trans hB4 (hb5.mono (by omega))
    have hs1_5 := hs1_4.below hb5 (by omega)
    clear hs1_4
    have C_5 := (hb5.block _ (by omega)).trans C_4
    clear C_4
    have x0_5 := x0.below hb5 (by omega)
    clear x0
    go_wp2_with fail
    refine (impl_DoesFit _ _ _ a0a a0b a0c a0d z1 _ _ _ HN1.out hlen1 x0_5.seg (by omega) _ HQ.out _ HP.out).mono ?_
    rintro e w6 ⟨rfl, hb6⟩
    have hz6 := hb6.size
    have hB6 : Below w.heap.size w w6 := Below.trans hB5 (hb6.mono (by omega))
    have hs1_6 := hs1_5.below hb6 (by omega)
    clear hs1_5
    have C_6 := (hb6.block _ (by omega)).trans C_5
    clear C_5
    have x0_6 := x0_5.below hb6 (by omega)
    clear x0_5
    go_wp2_with fail
    refine (toIntS_any _ _ _ z1 w.heap.size _ HN1.out hlen1 hs1_6 (by omega)).mono ?_
    rintro e w7 ⟨rfl, cb, hb7⟩
    have hz7 := hb7.size
    have hB7 : Below w.heap.size w w7 := Below.trans hB6 (hb7.mono (by omega))
    have hs1_7 := hs1_6.below hb7 (by omega)
    clear hs1_6
    have C_7 := (hb7.block _ (by omega)).trans C_6
    clear C_6
    have x0_7 := x0_6.below hb7 (by omega)
    clear x0_6
    go_wp2_with fail
    refine (eqIntS_b _ _ _ _ _ z1 _ _ _ _ _ HN1.out hlen1 x0_7.seg cb.seg).mono ?_
    rintro e w8 ⟨rfl, hb8⟩
    have hz8 := hb8.size
    have hB8 : Below w.heap.size w w8 := Below.trans hB7 (hb8.mono (by omega))
    have hs1_8 := hs1_7.below hb8 (by omega)
    clear hs1_7
    have C_8 := (hb8.block _ (by omega)).trans C_7
    clear C_7
    have x0_8 := x0_7.below hb8 (by omega)
    clear x0_7
    have cb_8 := cb.below hb8 (by omega)
    clear cb
    go_wp2
    go_ret
    exact ⟨rfl, hB8⟩
  · go_enter Try.func4, Try.ntmps4
    have hb0 : Below w.heap.size w (w.alloc (.cells #[.int .i64 a0a, .int .i64 a0b, .int .i64 a0c, .int .i64 a0d] 34)) := (Below.refl _ _).alloc (Nat.le_refl _) _
    obtain ⟨w0, hW0⟩ : ∃ W0, w.alloc (.cells #[.int .i64 a0a, .int .i64 a0b, .int .i64 a0c, .int .i64 a0d] 34) = W0 := ⟨_, rfl⟩
    have C : w0.heap[w.heap.size]? = some (.cells #[.int .i64 a0a, .int .i64 a0b, .int .i64 a0c, .int .i64 a0d] 34 (0, 0)) := by rw [← hW0]; exact new_at _ _ rfl
    have hx0 : w.heap.size < w0.heap.size := heap_lt C
    rw [hW0] at hb0
    have HW0 := Lib.hid hW0
    clear hW0
    have hs1_0 := hs1.below hb0 (Nat.le_refl _)
    clear hs1
    have hz0 := hb0.size
    have kc_C0 := cell_of C 0
    have kc_C1 := cell_of C 1
    have kc_C2 := cell_of C 2
    have kc_C3 := cell_of C 3
    simp only [List.getElem?_toArray, List.getElem?_cons_zero, List.getElem?_cons_succ] at kc_C0 kc_C1 kc_C2 kc_C3
    go_wp2_with fail
    rw [HW0.out]
    refine (toClue_any _ _ _ _ _).mono ?_
    rintro e w1 ⟨rfl, hb1⟩
    clear kc_C0 kc_C1 kc_C2 kc_C3
    have hz1 := hb1.size
    have hB1 : Below w.heap.size w w1 := Below.trans hb0 (hb1.mono (by omega))
    have hs1_1 := hs1_0.below hb1 (by omega)
    clear hs1_0
    have C_1 := (hb1.block _ (by omega)).trans C
    clear C
    go_wp2_with fail
    refine (toIntS_any _ _ _ z1 w.heap.size _ HN1.out hlen1 hs1_1 (by omega)).mono ?_
    rintro e w2 ⟨rfl, ca, hb2⟩
    have hz2 := hb2.size
    have hB2 : Below w.heap.size w w2 := Below.trans hB1 (hb2.mono (by omega))
    have hs1_2 := hs1_1.below hb2 (by omega)
    clear hs1_1
    have C_2 := (hb2.block _ (by omega)).trans C_1
    clear C_1
    go_wp2_with fail
    refine (spec_DoesFit _ _ _ a0a a0b a0c a0d z1 _ _ _ HN1.out hlen1 ca.seg (by omega) _ HQ.out _ HP.out).mono ?_
    rintro e w3 ⟨rfl, hb3⟩
    have hz3 := hb3.size
    have hB3 : Below w.heap.size w w3 := Below.trans hB2 (hb3.mono (by omega))
    have hs1_3 := hs1_2.below hb3 (by omega)
    clear hs1_2
    have C_3 := (hb3.block _ (by omega)).trans C_2
    clear C_2
    have ca_3 := ca.below hb3 (by omega)
    clear ca
    go_wp2_with fail
    refine (toIntS_any _ _ _ z1 w.heap.size _ HN1.out hlen1 hs1_3 (by omega)).mono ?_
    rintro e w4 ⟨rfl, x0, hb4⟩
    have hz4 := hb4.size
    have hB4 : Below w.heap.size w w4 := Below.trans hB3 (hb4.mono (by omega))
    have hs1_4 := hs1_3.below hb4 (by omega)
    clear hs1_3
    have C_4 := (hb4.block _ (by omega)).trans C_3
    clear C_3
    have kc_C0 := cell_of C_4 0
    have kc_C1 := cell_of C_4 1
    have kc_C2 := cell_of C_4 2
    have kc_C3 := cell_of C_4 3
    simp only [List.getElem?_toArray, List.getElem?_cons_zero, List.getElem?_cons_succ] at kc_C0 kc_C1 kc_C2 kc_C3
    go_wp2_with fail
    refine (toClue_any _ _ _ _ _).mono ?_
    rintro e w5 ⟨rfl, hb5⟩
    clear kc_C0 kc_C1 kc_C2 kc_C3
    have hz5 := hb5.size
    have hB5 : Below w.heap.size w w5 := Below.trans hB4 (hb5.mono (by omega))
    have hs1_5 := hs1_4.below hb5 (by omega)
    clear hs1_4
    have C_5 := (hb5.block _ (by omega)).trans C_4
    clear C_4
    have x0_5 := x0.below hb5 (by omega)
    clear x0
    go_wp2_with fail
    refine (impl_DoesFit _ _ _ a0a a0b a0c a0d z1 _ _ _ HN1.out hlen1 x0_5.seg (by omega) _ HQ.out _ HP.out).mono ?_
    rintro e w6 ⟨rfl, hb6⟩
    have hz6 := hb6.size
    have hB6 : Below w.heap.size w w6 := Below.trans hB5 (hb6.mono (by omega))
    have hs1_6 := hs1_5.below hb6 (by omega)
    clear hs1_5
    have C_6 := (hb6.block _ (by omega)).trans C_5
    clear C_5
    have x0_6 := x0_5.below hb6 (by omega)
    clear x0_5
    go_wp2_with fail
    refine (toIntS_any _ _ _ z1 w.heap.size _ HN1.out hlen1 hs1_6 (by omega)).mono ?_
    rintro e w7 ⟨rfl, cb, hb7⟩
    have hz7 := hb7.size
    have hB7 : Below w.heap.size w w7 := Below.trans hB6 (hb7.mono (by omega))
    have hs1_7 := hs1_6.below hb7 (by omega)
    clear hs1_6
    have C_7 := (hb7.block _ (by omega)).trans C_6
    clear C_6
    have x0_7 := x0_6.below hb7 (by omega)
    clear x0_6
    go_wp2_with fail
    refine (eqIntS_b _ _ _ _ _ z1 _ _ _ _ _ HN1.out hlen1 x0_7.seg cb.seg).mono ?_
    rintro e w8 ⟨rfl, hb8⟩
    have hz8 := hb8.size
    have hB8 : Below w.heap.size w w8 := Below.trans hB7 (hb8.mono (by omega))
    have hs1_8 := hs1_7.below hb8 (by omega)
    clear hs1_7
    have C_8 := (hb8.block _ (by omega)).trans C_7
    clear C_7
    have x0_8 := x0_7.below hb8 (by omega)
    clear x0_7
    have cb_8 := cb.below hb8 (by omega)
    clear cb
    go_wp2
    go_ret
    exact ⟨rfl, hB8⟩
  · go_enter Try.func4, Try.ntmps4
    have hb0 : Below w.heap.size w (w.alloc (.cells #[.int .i64 a0a, .int .i64 a0b, .int .i64 a0c, .int .i64 a0d] 34)) := (Below.refl _ _).alloc (Nat.le_refl _) _
    obtain ⟨w0, hW0⟩ : ∃ W0, w.alloc (.cells #[.int .i64 a0a, .int .i64 a0b, .int .i64 a0c, .int .i64 a0d] 34) = W0 := ⟨_, rfl⟩
    have C : w0.heap[w.heap.size]? = some (.cells #[.int .i64 a0a, .int .i64 a0b, .int .i64 a0c, .int .i64 a0d] 34 (0, 0)) := by rw [← hW0]; exact new_at _ _ rfl
    have hx0 : w.heap.size < w0.heap.size := heap_lt C
    rw [hW0] at hb0
    have HW0 := Lib.hid hW0
    clear hW0
    have hs1_0 := hs1.below hb0 (Nat.le_refl _)
    clear hs1
    have hz0 := hb0.size
    have kc_C0 := cell_of C 0
    have kc_C1 := cell_of C 1
    have kc_C2 := cell_of C 2
    have kc_C3 := cell_of C 3
    simp only [List.getElem?_toArray, List.getElem?_cons_zero, List.getElem?_cons_succ] at kc_C0 kc_C1 kc_C2 kc_C3
    go_wp2_with fail
    rw [HW0.out]
    refine (toClue_any _ _ _ _ _).mono ?_
    rintro e w1 ⟨rfl, hb1⟩
    clear kc_C0 kc_C1 kc_C2 kc_C3
    have hz1 := hb1.size
    have hB1 : Below w.heap.size w w1 := Below.trans hb0 (hb1.mono (by omega))
    have hs1_1 := hs1_0.below hb1 (by omega)
    clear hs1_0
    have C_1 := (hb1.block _ (by omega)).trans C
    clear C
    go_wp2_with fail
    refine (toIntS_any _ _ _ z1 w.heap.size _ HN1.out hlen1 hs1_1 (by omega)).mono ?_
    rintro e w2 ⟨rfl, ca, hb2⟩
    have hz2 := hb2.size
    have hB2 : Below w.heap.size w w2 := Below.trans hB1 (hb2.mono (by omega))
    have hs1_2 := hs1_1.below hb2 (by omega)
    clear hs1_1
    have C_2 := (hb2.block _ (by omega)).trans C_1
    clear C_1
    go_wp2_with fail
    refine (spec_DoesFit _ _ _ a0a a0b a0c a0d z1 _ _ _ HN1.out hlen1 ca.seg (by omega) _ HQ.out _ HP.out).mono ?_
    rintro e w3 ⟨rfl, hb3⟩
    have hz3 := hb3.size
    have hB3 : Below w.heap.size w w3 := Below.trans hB2 (hb3.mono (by omega))
    have hs1_3 := hs1_2.below hb3 (by omega)
    clear hs1_2
    have C_3 := (hb3.block _ (by omega)).trans C_2
    clear C_2
    have ca_3 := ca.below hb3 (by omega)
    clear ca
    go_wp2_with fail
    refine (toIntS_any _ _ _ z1 w.heap.size _ HN1.out hlen1 hs1_3 (by omega)).mono ?_
    rintro e w4 ⟨rfl, x0, hb4⟩
    have hz4 := hb4.size
    have hB4 : Below w.heap.size w w4 := Below.trans hB3 (hb4.mono (by omega))
    have hs1_4 := hs1_3.below hb4 (by omega)
    clear hs1_3
    have C_4 := (hb4.block _ (by omega)).trans C_3
    clear C_3
    have kc_C0 := cell_of C_4 0
    have kc_C1 := cell_of C_4 1
    have kc_C2 := cell_of C_4 2
    have kc_C3 := cell_of C_4 3
    simp only [List.getElem?_toArray, List.getElem?_cons_zero, List.getElem?_cons_succ] at kc_C0 kc_C1 kc_C2 kc_C3
    go_wp2_with fail
    refine (toClue_any _ _ _ _ _).mono ?_
    rintro e w5 ⟨rfl, hb5⟩
    clear kc_C0 kc_C1 kc_C2 kc_C3
    have hz5 := hb5.size
    have hB5 : Below w.heap.size w w5 := Below.trans hB4 (hb5.mono (by omega))
    have hs1_5 := hs1_4.below hb5 (by omega)
    clear hs1_4
    have C_5 := (hb5.block _ (by omega)).trans C_4
    clear C_4
    have x0_5 := x0.below hb5 (by omega)
    clear x0
    go_wp2_with fail
    refine (impl_DoesFit _ _ _ a0a a0b a0c a0d z1 _ _ _ HN1.out hlen1 x0_5.seg (by omega) _ HQ.out _ HP.out).mono ?_
    rintro e w6 ⟨rfl, hb6⟩
    have hz6 := hb6.size
    have hB6 : Below w.heap.size w w6 := Below.trans hB5 (hb6.mono (by omega))
    have hs1_6 := hs1_5.below hb6 (by omega)
    clear hs1_5
    have C_6 := (hb6.block _ (by omega)).trans C_5
    clear C_5
    have x0_6 := x0_5.below hb6 (by omega)
    clear x0_5
    go_wp2_with fail
    refine (toIntS_any _ _ _ z1 w.heap.size _ HN1.out hlen1 hs1_6 (by omega)).mono ?_
    rintro e w7 ⟨rfl, cb, hb7⟩
    have hz7 := hb7.size
    have hB7 : Below w.heap.size w w7 := Below.trans hB6 (hb7.mono (by omega))
    have hs1_7 := hs1_6.below hb7 (by omega)
    clear hs1_6
    have C_7 := (hb7.block _ (by omega)).trans C_6
    clear C_6
    have x0_7 := x0_6.below hb7 (by omega)
    clear x0_6
    go_wp2_with fail
    refine (eqIntS_b _ _ _ _ _ z1 _ _ _ _ _ HN1.out hlen1 x0_7.seg cb.seg).mono ?_
    rintro e w8 ⟨rfl, hb8⟩
    have hz8 := hb8.size
    have hB8 : Below w.heap.size w w8 := Below.trans hB7 (hb8.mono (by omega))
    have hs1_8 := hs1_7.below hb8 (by omega)
    clear hs1_7
    have C_8 := (hb8.block _ (by omega)).trans C_7
    clear C_7
    have x0_8 := x0_7.below hb8 (by omega)
    clear x0_7
    have cb_8 := cb.below hb8 (by omega)
    clear cb
    go_wp2
    go_ret
    exact ⟨rfl, hB8⟩

set_option maxRecDepth 100000 in
theorem lifted (os : Os) (started : os.Started) (H : Type) (enc : TypeId × Value → H) :
    ReturnsInHanded {} Try.checked os 4 .any (Rows.fnExactDoesFitSpec.pre6 enc Try.prog Try.f4 Rows.fnExactDoesFitRow.domain false) (Rows.fnExactDoesFitSpec.post enc Try.prog Try.f4 false true false false) := by
  refine returnsInHanded_of_change (C := Try.checked) own started (by kernel_rfl) Try.func4
    (ChangeSpec.witness6 (enc := enc) (C := Try.checked) false ⟨#[], #[.agg #[.int .i64 0, .int .i64 0, .int .i64 0, .int .i64 0], .slice none 0 0], []⟩ 8 (by kernel_rfl) (by kernel_rfl) (by kernel_rfl) (by kernel_rfl)) ?_
  intro W base args ds gs before hval0 hW hcnd _
  have hval : ∀ (j : Nat) t v, Try.f4.params[j]? = some t → args[j]? = some v → Value.okWide Try.prog W .any base t v := hval0
  have hW' := hW
  obtain ⟨p, q, hA0, hV, rfl, hfz, hnd⟩ := hW
  have hA : DataW.TrodAll enc Try.prog W 0 (fun _ => true) true Try.f4.params.toList args.toList ds p := hA0
  rw [Try.params4] at hA hval
  obtain ⟨v0, vs0, d0, ds0, p0, q0, hargs, rfl, rfl, h0, r0⟩ := trodAll_cons hA
  obtain ⟨v1, vs1, d1, ds1, p1, q1, rfl, rfl, rfl, h1, r1⟩ := trodAll_cons r0
  obtain ⟨rfl, rfl, rfl⟩ := trodAll_nil r1
  obtain rfl : args = #[v0, v1] := by cases args; simp_all
  obtain ⟨rfl, rfl⟩ := trodVars_none hV
  have k0 := h0
  have lt0 : ∀ x ∈ p0, x.block < W.heap.size := by obtain ⟨m, hm⟩ := k0; exact DataW.trod_lt m _ _ _ hm
  obtain ⟨u0a, u0b, u0c, u0d, t0a, t0b, t0c, t0d, m0, rfl, rfl, rfl, f0a, f0b, f0c, f0d⟩ := open_agg4 Try.underlying34 (by kernel_rfl) (by kernel_rfl) (hval 0 34 v0 rfl rfl) h0
  obtain ⟨a0a, e0a, _, w0a⟩ := DataW.trod_int Try.underlying3 f0a
  injection e0a with e0a
  subst e0a
  obtain ⟨a0b, e0b, _, w0b⟩ := DataW.trod_int Try.underlying3 f0b
  injection e0b with e0b
  subst e0b
  obtain ⟨a0c, e0c, _, w0c⟩ := DataW.trod_int Try.underlying3 f0c
  injection e0c with e0c
  subst e0c
  obtain ⟨a0d, e0d, _, w0d⟩ := DataW.trod_int Try.underlying3 f0d
  injection e0d with e0d
  subst e0d
  have k1 := h1
  have lt1 : ∀ x ∈ p1, x.block < W.heap.size := by obtain ⟨m, hm⟩ := k1; exact DataW.trod_lt m _ _ _ hm
  obtain ⟨a1, len1, cap1, rfl⟩ := okWide_slice Try.underlying35 (hval 1 35 v1 rfl rfl)
  obtain ⟨z1, n1, s1⟩ : ∃ zs : List Int, zs.length = len1 ∧ Seg W 0 W.heap.size a1 zs := by
    obtain ⟨fuel, hf⟩ := h1
    rcases open_ints Try.underlying35 Try.underlying3 (by kernel_rfl) hf with ⟨hcs, _⟩ | ⟨x, l, c, zs, hcs, _, hl, hm, hz, _, hcell, hwz⟩
    · simp [Value.cells] at hcs
      obtain ⟨rfl, rfl, rfl⟩ := hcs
      exact ⟨[], rfl, .inl rfl⟩
    · simp [Value.cells] at hcs
      obtain ⟨rfl, rfl, rfl⟩ := hcs
      exact ⟨zs.take _, by rw [List.length_take, Nat.min_eq_left]; simp at hz; omega, seg_of hl (by simpa using hz) hcell⟩
  clear hA0 hval0
  refine (walk (w := W) n1 s1).mono fun e W' ⟨he, bel⟩ => ?_
  subst he
  exact ⟨_, rfl, _, _, _, [], _, [], hW', trodAll_mk1 (shut_bool Try.underlying4 _), (trodAll_cons_mk (Below.trod laidOut (by kernel_rfl) (of_decide_eq_true (by kernel_rfl)) k0 bel lt0) (trodAll_cons_mk (Below.trod laidOut (by kernel_rfl) (of_decide_eq_true (by kernel_rfl)) k1 bel lt1) trodAll_mk0)), rfl, bel.frame _, fun h => by cases h⟩

theorem over : Rows.fnExactDoesFitRow.holds Try.pinned (OpenSpec.ofChange Rows.fnExactDoesFitSpec) :=
  OpenClaim.holds_of_wide 4 Try.f4 rfl rfl rfl rfl rfl rfl rfl ⟨rfl, rfl, rfl, rfl, rfl⟩ rfl rfl rfl rfl rfl (by kernel_rfl) Try.func4 (by kernel_rfl)
    (of_decide_eq_true (by kernel_rfl)) (by unfold Func.isWrapper; first | (rw [if_pos (by decide +kernel)]; kernel_rfl) | (rw [if_neg (by decide +kernel)]; exact ⟨rfl, rfl⟩))
    (fun os started H enc _ => lifted os started H enc)

theorem proved : Rows.FnExactDoesFitSaid := over
#print axioms proved
end LawDoesFit
end Go.Proofs.Ytaeppgcbdmifdaa
