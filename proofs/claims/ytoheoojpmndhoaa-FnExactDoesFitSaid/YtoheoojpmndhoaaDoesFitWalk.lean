/-
  For every clue and every list of numbers the law of DoesFit returns true and leaves the list as it was.
  Conditions: none.
-/
import Derived.Test.YtoheoojpmndhoaaPzDf
import Derived.Test.YtoheoojpmndhoaaClus
import Derived.Test.YtoheoojpmndhoaaCopy
import Derived.Test.YtoheoojpmndhoaaEq
import Derived.Lib.SmallJoins
import Derived.Deep.RegionHeld3
import Derived.OpenShut
import Derived.ShutString
import Derived.ChangeOld
namespace Go.Proofs.Ytoheoojpmndhoaa
namespace LawDoesFit
open Go.ChangeShapes Go.WideShapes Go.ChangeAt Go.RowKit
open Go.Joins (open_agg2 open_agg4)
set_option linter.unusedVariables false
set_option linter.unusedSimpArgs false

theorem own : ownKnob Try.prog.godebug = none := by kernel_rfl
theorem laidOut : laidOutB Try.prog = true := by kernel_rfl

set_option maxHeartbeats 2000000 in
set_option maxRecDepth 100000 in
theorem walk {a0a a0b a0c a0d : Int} {a1 : Option Addr} {len1 cap1 : Nat} {z1 : List Int} {w : World} (hn1 : z1.length = len1) (hs1 : Seg w 0 w.heap.size a1 z1) :
    Calls Try.prog 5 #[clV (a0a, a0b, a0c, a0d), .slice a1 len1 cap1] w fun e w' => e = .returned (.bool true) ∧ Below w.heap.size w w' := by
  by_cases hbig1 : 1048576 < len1
  · clear hs1 hn1
    go_enter Try.func5, Try.ntmps5
    go_wp2
    go_ret
    exact ⟨rfl, (Below.refl _ _).alloc (Nat.le_refl _) _⟩
  have hlen1 : len1 ≤ 1048576 := by omega
  have HN1 := Lib.hid hn1
  obtain ⟨q, hq⟩ : ∃ q, dfB a0a a0b a0c a0d z1 = q := ⟨_, rfl⟩
  have HQ := Lib.hid hq
  clear hq
  obtain ⟨p, hp⟩ : ∃ p, dfV a0a a0b a0c a0d z1 = p := ⟨_, rfl⟩
  have HP := Lib.hid hp
  clear hp
  cases q <;> cases p
  clear hn1
  · go_enter Try.func5, Try.ntmps5
    have hb0 : Below w.heap.size w (w.alloc (.cells #[.int .i64 a0a, .int .i64 a0b, .int .i64 a0c, .int .i64 a0d] 23)) := (Below.refl _ _).alloc (Nat.le_refl _) _
    obtain ⟨w0, hW0⟩ : ∃ W0, w.alloc (.cells #[.int .i64 a0a, .int .i64 a0b, .int .i64 a0c, .int .i64 a0d] 23) = W0 := ⟨_, rfl⟩
    have C : w0.heap[w.heap.size]? = some (.cells #[.int .i64 a0a, .int .i64 a0b, .int .i64 a0c, .int .i64 a0d] 23 (0, 0)) := by rw [← hW0]; exact new_at _ _ rfl
    have hx0 : w.heap.size < w0.heap.size := heap_lt C
    rw [hW0] at hb0
    have HW0 := Lib.hid hW0
    clear hW0
    have hs1_0 := hs1.below hb0 (Nat.le_refl _)
    clear hs1
    have hz0 := hb0.size
    have kc_C0 := cell_of C 0
    have kc_C1 := cell_of C 1
    have kc_C2 := cell_of C 2
    have kc_C3 := cell_of C 3
    simp only [List.getElem?_toArray, List.getElem?_cons_zero, List.getElem?_cons_succ] at kc_C0 kc_C1 kc_C2 kc_C3
    go_wp2_with fail
    rw [HW0.out]
    refine (toClue_any _ _ _ _ _).mono ?_
    rintro e w1 ⟨rfl, hb1⟩
    clear kc_C0 kc_C1 kc_C2 kc_C3
    have hz1 := hb1.size
    have hB1 : Below w.heap.size w w1 := Below.trans hb0 (hb1.mono (by omega))
    have hs1_1 := hs1_0.below hb1 (by omega)
    clear hs1_0
    have C_1 := (hb1.block _ (by omega)).trans C
    clear C
    go_wp2_with fail
    refine (toIntS_any _ _ _ z1 w.heap.size _ HN1.out hlen1 hs1_1 (by omega)).mono ?_
    rintro e w2 ⟨rfl, ca, hb2⟩
    have hz2 := hb2.size
    have hB2 : Below w.heap.size w w2 := Below.trans hB1 (hb2.mono (by omega))
    have hs1_2 := hs1_1.below hb2 (by omega)
    clear hs1_1
    have C_2 := (hb2.block _ (by omega)).trans C_1
    clear C_1
    go_wp2_with fail
    refine (spec_DoesFit _ _ _ a0a a0b a0c a0d z1 _ _ _ HN1.out hlen1 ca.seg (by omega) _ HQ.out _ HP.out).mono ?_
    rintro e w3 ⟨rfl, hb3⟩
    have hz3 := hb3.size
    have hB3 : Below w.heap.size w w3 := Below.trans hB2 (hb3.mono (by omega))
    have hs1_3 := hs1_2.below hb3 (by omega)
    clear hs1_2
    have C_3 := (hb3.block _ (by omega)).trans C_2
    clear C_2
    have ca_3 := ca.below hb3 (by omega)
    clear ca
    go_wp2_with fail
    refine (toIntS_any _ _ _ z1 w.heap.size _ HN1.out hlen1 hs1_3 (by omega)).mono ?_
    rintro e w4 ⟨rfl, x0, hb4⟩
    have hz4 := hb4.size
    have hB4 : Below w.heap.size w w4 := Below.trans hB3 (hb4.mono (by omega))
    have hs1_4 := hs1_3.below hb4 (by omega)
    clear hs1_3
    have C_4 := (hb4.block _ (by omega)).trans C_3
    clear C_3
    have kc_C0 := cell_of C_4 0
    have kc_C1 := cell_of C_4 1
    have kc_C2 := cell_of C_4 2
    have kc_C3 := cell_of C_4 3
    simp only [List.getElem?_toArray, List.getElem?_cons_zero, List.getElem?_cons_succ] at kc_C0 kc_C1 kc_C2 kc_C3
    go_wp2_with fail
    refine (toClue_any _ _ _ _ _).mono ?_
    rintro e w5 ⟨rfl, hb5⟩
    clear kc_C0 kc_C1 kc_C2 kc_C3
    have hz5 := hb5.size
    have hB5 : Below w.heap.size w w5 := Below.trans hB4 (hb5.mono (by omega))
    have hs1_5 := hs1_4.below hb5 (by omega)
    clear hs1_4
    have C_5 := (hb5.block _ (by omega)).trans C_4
    clear C_4
    have x0_5 := x0.below hb5 (by omega)
    clear x0
    go_wp2_with fail
    refine (impl_DoesFit _ _ _ a0a a0b a0c a0d z1 _ _ _ HN1.out hlen1 x0_5.seg (by omega) _ HQ.out _ HP.out).mono ?_
    rintro e w6 ⟨rfl, hb6⟩
    have hz6 := hb6.size
    have hB6 : Below w.heap.size w w6 := Below.trans hB5 (hb6.mono (by omega))
    have hs1_6 := hs1_5.below hb6 (by omega)
    clear hs1_5
    have C_6 := (hb6.block _ (by omega)).trans C_5
    clear C_5
    have x0_6 := x0_5.below hb6 (by omega)
    clear x0_5
    go_wp2_with fail
    refine (toIntS_any _ _ _ z1 w.heap.size _ HN1.out hlen1 hs1_6 (by omega)).mono ?_
    rintro e w7 ⟨rfl, cb, hb7⟩
    have hz7 := hb7.size
    have hB7 : Below w.heap.size w w7 := Below.trans hB6 (hb7.mono (by omega))
    have hs1_7 := hs1_6.below hb7 (by omega)
    clear hs1_6
    have C_7 := (hb7.block _ (by omega)).trans C_6
    clear C_6
    have x0_7 := x0_6.below hb7 (by omega)
    clear x0_6
    go_wp2_with fail
    refine (eqIntS_b _ _ _ _ _ z1 _ _ _ _ _ HN1.out hlen1 x0_7.seg cb.seg).mono ?_
    rintro e w8 ⟨rfl, hb8⟩
    have hz8 := hb8.size
    have hB8 : Below w.heap.size w w8 := Below.trans hB7 (hb8.mono (by omega))
    have hs1_8 := hs1_7.below hb8 (by omega)
    clear hs1_7
    have C_8 := (hb8.block _ (by omega)).trans C_7
    clear C_7
    have x0_8 := x0_7.below hb8 (by omega)
    clear x0_7
    have cb_8 := cb.below hb8 (by omega)
    clear cb
    go_wp2
    go_ret
    exact ⟨rfl, hB8⟩
  · go_enter Try.func5, Try.ntmps5
    have hb0 : Below w.heap.size w (w.alloc (.cells #[.int .i64 a0a, .int .i64 a0b, .int .i64 a0c, .int .i64 a0d] 23)) := (Below.refl _ _).alloc (Nat.le_refl _) _
    obtain ⟨w0, hW0⟩ : ∃ W0, w.alloc (.cells #[.int .i64 a0a, .int .i64 a0b, .int .i64 a0c, .int .i64 a0d] 23) = W0 := ⟨_, rfl⟩
    have C : w0.heap[w.heap.size]? = some (.cells #[.int .i64 a0a, .int .i64 a0b, .int .i64 a0c, .int .i64 a0d] 23 (0, 0)) := by rw [← hW0]; exact new_at _ _ rfl
    have hx0 : w.heap.size < w0.heap.size := heap_lt C
    rw [hW0] at hb0
    have HW0 := Lib.hid hW0
    clear hW0
    have hs1_0 := hs1.below hb0 (Nat.le_refl _)
    clear hs1
    have hz0 := hb0.size
    have kc_C0 := cell_of C 0
    have kc_C1 := cell_of C 1
    have kc_C2 := cell_of C 2
    have kc_C3 := cell_of C 3
    simp only [List.getElem?_toArray, List.getElem?_cons_zero, List.getElem?_cons_succ] at kc_C0 kc_C1 kc_C2 kc_C3
    go_wp2_with fail
    rw [HW0.out]
    refine (toClue_any _ _ _ _ _).mono ?_
    rintro e w1 ⟨rfl, hb1⟩
    clear kc_C0 kc_C1 kc_C2 kc_C3
    have hz1 := hb1.size
    have hB1 : Below w.heap.size w w1 := Below.trans hb0 (hb1.mono (by omega))
    have hs1_1 := hs1_0.below hb1 (by omega)
    clear hs1_0
    have C_1 := (hb1.block _ (by omega)).trans C
    clear C
    go_wp2_with fail
    refine (toIntS_any _ _ _ z1 w.heap.size _ HN1.out hlen1 hs1_1 (by omega)).mono ?_
    rintro e w2 ⟨rfl, ca, hb2⟩
    have hz2 := hb2.size
    have hB2 : Below w.heap.size w w2 := Below.trans hB1 (hb2.mono (by omega))
    have hs1_2 := hs1_1.below hb2 (by omega)
    clear hs1_1
    have C_2 := (hb2.block _ (by omega)).trans C_1
    clear C_1
    go_wp2_with fail
    refine (spec_DoesFit _ _ _ a0a a0b a0c a0d z1 _ _ _ HN1.out hlen1 ca.seg (by omega) _ HQ.out _ HP.out).mono ?_
    rintro e w3 ⟨rfl, hb3⟩
    have hz3 := hb3.size
    have hB3 : Below w.heap.size w w3 := Below.trans hB2 (hb3.mono (by omega))
    have hs1_3 := hs1_2.below hb3 (by omega)
    clear hs1_2
    have C_3 := (hb3.block _ (by omega)).trans C_2
    clear C_2
    have ca_3 := ca.below hb3 (by omega)
    clear ca
    go_wp2_with fail
    refine (toIntS_any _ _ _ z1 w.heap.size _ HN1.out hlen1 hs1_3 (by omega)).mono ?_
    rintro e w4 ⟨rfl, x0, hb4⟩
    have hz4 := hb4.size
    have hB4 : Below w.heap.size w w4 := Below.trans hB3 (hb4.mono (by omega))
    have hs1_4 := hs1_3.below hb4 (by omega)
    clear hs1_3
    have C_4 := (hb4.block _ (by omega)).trans C_3
    clear C_3
    have kc_C0 := cell_of C_4 0
    have kc_C1 := cell_of C_4 1
    have kc_C2 := cell_of C_4 2
    have kc_C3 := cell_of C_4 3
    simp only [List.getElem?_toArray, List.getElem?_cons_zero, List.getElem?_cons_succ] at kc_C0 kc_C1 kc_C2 kc_C3
    go_wp2_with fail
    refine (toClue_any _ _ _ _ _).mono ?_
    rintro e w5 ⟨rfl, hb5⟩
    clear kc_C0 kc_C1 kc_C2 kc_C3
    have hz5 := hb5.size
    have hB5 : Below w.heap.size w w5 := Below.trans hB4 (hb5.mono (by omega))
    have hs1_5 := hs1_4.below hb5 (by omega)
    clear hs1_4
    have C_5 := (hb5.block _ (by omega)).trans C_4
    clear C_4
    have x0_5 := x0.below hb5 (by omega)
    clear x0
    go_wp2_with fail
    refine (impl_DoesFit _ _ _ a0a a0b a0c a0d z1 _ _ _ HN1.out hlen1 x0_5.seg (by omega) _ HQ.out _ HP.out).mono ?_
    rintro e w6 ⟨rfl, hb6⟩
    have hz6 := hb6.size
    have hB6 : Below w.heap.size w w6 := Below.trans hB5 (hb6.mono (by omega))
    have hs1_6 := hs1_5.below hb6 (by omega)
    clear hs1_5
    have C_6 := (hb6.block _ (by omega)).trans C_5
    clear C_5
    have x0_6 := x0_5.below hb6 (by omega)
    clear x0_5
    go_wp2_with fail
    refine (toIntS_any _ _ _ z1 w.heap.size _ HN1.out hlen1 hs1_6 (by omega)).mono ?_
    rintro e w7 ⟨rfl, cb, hb7⟩
    have hz7 := hb7.size
    have hB7 : Below w.heap.size w w7 := Below.trans hB6 (hb7.mono (by omega))
    have hs1_7 := hs1_6.below hb7 (by omega)
    clear hs1_6
    have C_7 := (hb7.block _ (by omega)).trans C_6
    clear C_6
    have x0_7 := x0_6.below hb7 (by omega)
    clear x0_6
    go_wp2_with fail
    refine (eqIntS_b _ _ _ _ _ z1 _ _ _ _ _ HN1.out hlen1 x0_7.seg cb.seg).mono ?_
    rintro e w8 ⟨rfl, hb8⟩
    have hz8 := hb8.size
    have hB8 : Below w.heap.size w w8 := Below.trans hB7 (hb8.mono (by omega))
    have hs1_8 := hs1_7.below hb8 (by omega)
    clear hs1_7
    have C_8 := (hb8.block _ (by omega)).trans C_7
    clear C_7
    have x0_8 := x0_7.below hb8 (by omega)
    clear x0_7
    have cb_8 := cb.below hb8 (by omega)
    clear cb
    go_wp2
    go_ret
    exact ⟨rfl, hB8⟩
  · go_enter Try.func5, Try.ntmps5
    have hb0 : Below w.heap.size w (w.alloc (.cells #[.int .i64 a0a, .int .i64 a0b, .int .i64 a0c, .int .i64 a0d] 23)) := (Below.refl _ _).alloc (Nat.le_refl _) _
    obtain ⟨w0, hW0⟩ : ∃ W0, w.alloc (.cells #[.int .i64 a0a, .int .i64 a0b, .int .i64 a0c, .int .i64 a0d] 23) = W0 := ⟨_, rfl⟩
    have C : w0.heap[w.heap.size]? = some (.cells #[.int .i64 a0a, .int .i64 a0b, .int .i64 a0c, .int .i64 a0d] 23 (0, 0)) := by rw [← hW0]; exact new_at _ _ rfl
    have hx0 : w.heap.size < w0.heap.size := heap_lt C
    rw [hW0] at hb0
    have HW0 := Lib.hid hW0
    clear hW0
    have hs1_0 := hs1.below hb0 (Nat.le_refl _)
    clear hs1
    have hz0 := hb0.size
    have kc_C0 := cell_of C 0
    have kc_C1 := cell_of C 1
    have kc_C2 := cell_of C 2
    have kc_C3 := cell_of C 3
    simp only [List.getElem?_toArray, List.getElem?_cons_zero, List.getElem?_cons_succ] at kc_C0 kc_C1 kc_C2 kc_C3
    go_wp2_with fail
    rw [HW0.out]
    refine (toClue_any _ _ _ _ _).mono ?_
    rintro e w1 ⟨rfl, hb1⟩
    clear kc_C0 kc_C1 kc_C2 kc_C3
    have hz1 := hb1.size
    have hB1 : Below w.heap.size w w1 := Below.trans hb0 (hb1.mono (by omega))
    have hs1_1 := hs1_0.below hb1 (by omega)
    clear hs1_0
    have C_1 := (hb1.block _ (by omega)).trans C
    clear C
    go_wp2_with fail
    refine (toIntS_any _ _ _ z1 w.heap.size _ HN1.out hlen1 hs1_1 (by omega)).mono ?_
    rintro e w2 ⟨rfl, ca, hb2⟩
    have hz2 := hb2.size
    have hB2 : Below w.heap.size w w2 := Below.trans hB1 (hb2.mono (by omega))
    have hs1_2 := hs1_1.below hb2 (by omega)
    clear hs1_1
    have C_2 := (hb2.block _ (by omega)).trans C_1
    clear C_1
    go_wp2_with fail
    refine (spec_DoesFit _ _ _ a0a a0b a0c a0d z1 _ _ _ HN1.out hlen1 ca.seg (by omega) _ HQ.out _ HP.out).mono ?_
    rintro e w3 ⟨rfl, hb3⟩
    have hz3 := hb3.size
    have hB3 : Below w.heap.size w w3 := Below.trans hB2 (hb3.mono (by omega))
    have hs1_3 := hs1_2.below hb3 (by omega)
    clear hs1_2
    have C_3 := (hb3.block _ (by omega)).trans C_2
    clear C_2
    have ca_3 := ca.below hb3 (by omega)
    clear ca
    go_wp2_with fail
    refine (toIntS_any _ _ _ z1 w.heap.size _ HN1.out hlen1 hs1_3 (by omega)).mono ?_
    rintro e w4 ⟨rfl, x0, hb4⟩
    have hz4 := hb4.size
    have hB4 : Below w.heap.size w w4 := Below.trans hB3 (hb4.mono (by omega))
    have hs1_4 := hs1_3.below hb4 (by omega)
    clear hs1_3
    have C_4 := (hb4.block _ (by omega)).trans C_3
    clear C_3
    have kc_C0 := cell_of C_4 0
    have kc_C1 := cell_of C_4 1
    have kc_C2 := cell_of C_4 2
    have kc_C3 := cell_of C_4 3
    simp only [List.getElem?_toArray, List.getElem?_cons_zero, List.getElem?_cons_succ] at kc_C0 kc_C1 kc_C2 kc_C3
    go_wp2_with fail
    refine (toClue_any _ _ _ _ _).mono ?_
    rintro e w5 ⟨rfl, hb5⟩
    clear kc_C0 kc_C1 kc_C2 kc_C3
    have hz5 := hb5.size
    have hB5 : Below w.heap.size w w5 := Below.trans hB4 (hb5.mono (by omega))
    have hs1_5 := hs1_4.below hb5 (by omega)
    clear hs1_4
    have C_5 := (hb5.block _ (by omega)).trans C_4
    clear C_4
    have x0_5 := x0.below hb5 (by omega)
    clear x0
    go_wp2_with fail
    refine (impl_DoesFit _ _ _ a0a a0b a0c a0d z1 _ _ _ HN1.out hlen1 x0_5.seg (by omega) _ HQ.out _ HP.out).mono ?_
    rintro e w6 ⟨rfl, hb6⟩
    have hz6 := hb6.size
    have hB6 : Below w.heap.size w w6 := Below.trans hB5 (hb6.mono (by omega))
    have hs1_6 := hs1_5.below hb6 (by omega)
    clear hs1_5
    have C_6 := (hb6.block _ (by omega)).trans C_5
    clear C_5
    have x0_6 := x0_5.below hb6 (by omega)
    clear x0_5
    go_wp2_with fail
    refine (toIntS_any _ _ _ z1 w.heap.size _ HN1.out hlen1 hs1_6 (by omega)).mono ?_
    rintro e w7 ⟨rfl, cb, hb7⟩
    have hz7 := hb7.size
    have hB7 : Below w.heap.size w w7 := Below.trans hB6 (hb7.mono (by omega))
    have hs1_7 := hs1_6.below hb7 (by omega)
    clear hs1_6
    have C_7 := (hb7.block _ (by omega)).trans C_6
    clear C_6
    have x0_7 := x0_6.below hb7 (by omega)
    clear x0_6
    go_wp2_with fail
    refine (eqIntS_b _ _ _ _ _ z1 _ _ _ _ _ HN1.out hlen1 x0_7.seg cb.seg).mono ?_
    rintro e w8 ⟨rfl, hb8⟩
    have hz8 := hb8.size
    have hB8 : Below w.heap.size w w8 := Below.trans hB7 (hb8.mono (by omega))
    have hs1_8 := hs1_7.below hb8 (by omega)
    clear hs1_7
    have C_8 := (hb8.block _ (by omega)).trans C_7
    clear C_7
    have x0_8 := x0_7.below hb8 (by omega)
    clear x0_7
    have cb_8 := cb.below hb8 (by omega)
    clear cb
    go_wp2
    go_ret
    exact ⟨rfl, hB8⟩
  · go_enter Try.func5, Try.ntmps5
    have hb0 : Below w.heap.size w (w.alloc (.cells #[.int .i64 a0a, .int .i64 a0b, .int .i64 a0c, .int .i64 a0d] 23)) := (Below.refl _ _).alloc (Nat.le_refl _) _
    obtain ⟨w0, hW0⟩ : ∃ W0, w.alloc (.cells #[.int .i64 a0a, .int .i64 a0b, .int .i64 a0c, .int .i64 a0d] 23) = W0 := ⟨_, rfl⟩
    have C : w0.heap[w.heap.size]? = some (.cells #[.int .i64 a0a, .int .i64 a0b, .int .i64 a0c, .int .i64 a0d] 23 (0, 0)) := by rw [← hW0]; exact new_at _ _ rfl
    have hx0 : w.heap.size < w0.heap.size := heap_lt C
    rw [hW0] at hb0
    have HW0 := Lib.hid hW0
    clear hW0
    have hs1_0 := hs1.below hb0 (Nat.le_refl _)
    clear hs1
    have hz0 := hb0.size
    have kc_C0 := cell_of C 0
    have kc_C1 := cell_of C 1
    have kc_C2 := cell_of C 2
    have kc_C3 := cell_of C 3
    simp only [List.getElem?_toArray, List.getElem?_cons_zero, List.getElem?_cons_succ] at kc_C0 kc_C1 kc_C2 kc_C3
    go_wp2_with fail
    rw [HW0.out]
    refine (toClue_any _ _ _ _ _).mono ?_
    rintro e w1 ⟨rfl, hb1⟩
    clear kc_C0 kc_C1 kc_C2 kc_C3
    have hz1 := hb1.size
    have hB1 : Below w.heap.size w w1 := Below.trans hb0 (hb1.mono (by omega))
    have hs1_1 := hs1_0.below hb1 (by omega)
    clear hs1_0
    have C_1 := (hb1.block _ (by omega)).trans C
    clear C
    go_wp2_with fail
    refine (toIntS_any _ _ _ z1 w.heap.size _ HN1.out hlen1 hs1_1 (by omega)).mono ?_
    rintro e w2 ⟨rfl, ca, hb2⟩
    have hz2 := hb2.size
    have hB2 : Below w.heap.size w w2 := Below.trans hB1 (hb2.mono (by omega))
    have hs1_2 := hs1_1.below hb2 (by omega)
    clear hs1_1
    have C_2 := (hb2.block _ (by omega)).trans C_1
    clear C_1
    go_wp2_with fail
    refine (spec_DoesFit _ _ _ a0a a0b a0c a0d z1 _ _ _ HN1.out hlen1 ca.seg (by omega) _ HQ.out _ HP.out).mono ?_
    rintro e w3 ⟨rfl, hb3⟩
    have hz3 := hb3.size
    have hB3 : Below w.heap.size w w3 := Below.trans hB2 (hb3.mono (by omega))
    have hs1_3 := hs1_2.below hb3 (by omega)
    clear hs1_2
    have C_3 := (hb3.block _ (by omega)).trans C_2
    clear C_2
    have ca_3 := ca.below hb3 (by omega)
    clear ca
    go_wp2_with fail
    refine (toIntS_any _ _ _ z1 w.heap.size _ HN1.out hlen1 hs1_3 (by omega)).mono ?_
    rintro e w4 ⟨rfl, x0, hb4⟩
    have hz4 := hb4.size
    have hB4 : Below w.heap.size w w4 := Below.trans hB3 (hb4.mono (by omega))
    have hs1_4 := hs1_3.below hb4 (by omega)
    clear hs1_3
    have C_4 := (hb4.block _ (by omega)).trans C_3
    clear C_3
    have kc_C0 := cell_of C_4 0
    have kc_C1 := cell_of C_4 1
    have kc_C2 := cell_of C_4 2
    have kc_C3 := cell_of C_4 3
    simp only [List.getElem?_toArray, List.getElem?_cons_zero, List.getElem?_cons_succ] at kc_C0 kc_C1 kc_C2 kc_C3
    go_wp2_with fail
    refine (toClue_any _ _ _ _ _).mono ?_
    rintro e w5 ⟨rfl, hb5⟩
    clear kc_C0 kc_C1 kc_C2 kc_C3
    have hz5 := hb5.size
    have hB5 : Below w.heap.size w w5 := Below.trans hB4 (hb5.mono (by omega))
    have hs1_5 := hs1_4.below hb5 (by omega)
    clear hs1_4
    have C_5 := (hb5.block _ (by omega)).trans C_4
    clear C_4
    have x0_5 := x0.below hb5 (by omega)
    clear x0
    go_wp2_with fail
    refine (impl_DoesFit _ _ _ a0a a0b a0c a0d z1 _ _ _ HN1.out hlen1 x0_5.seg (by omega) _ HQ.out _ HP.out).mono ?_
    rintro e w6 ⟨rfl, hb6⟩
    have hz6 := hb6.size
    have hB6 : Below w.heap.size w w6 := Below.trans hB5 (hb6.mono (by omega))
    have hs1_6 := hs1_5.below hb6 (by omega)
    clear hs1_5
    have C_6 := (hb6.block _ (by omega)).trans C_5
    clear C_5
    have x0_6 := x0_5.below hb6 (by omega)
    clear x0_5
    go_wp2_with fail
    refine (toIntS_any _ _ _ z1 w.heap.size _ HN1.out hlen1 hs1_6 (by omega)).mono ?_
    rintro e w7 ⟨rfl, cb, hb7⟩
    have hz7 := hb7.size
    have hB7 : Below w.heap.size w w7 := Below.trans hB6 (hb7.mono (by omega))
    have hs1_7 := hs1_6.below hb7 (by omega)
    clear hs1_6
    have C_7 := (hb7.block _ (by omega)).trans C_6
    clear C_6
    have x0_7 := x0_6.below hb7 (by omega)
    clear x0_6
    go_wp2_with fail
    refine (eqIntS_b _ _ _ _ _ z1 _ _ _ _ _ HN1.out hlen1 x0_7.seg cb.seg).mono ?_
    rintro e w8 ⟨rfl, hb8⟩
    have hz8 := hb8.size
    have hB8 : Below w.heap.size w w8 := Below.trans hB7 (hb8.mono (by omega))
    have hs1_8 := hs1_7.below hb8 (by omega)
    clear hs1_7
    have C_8 := (hb8.block _ (by omega)).trans C_7
    clear C_7
    have x0_8 := x0_7.below hb8 (by omega)
    clear x0_7
    have cb_8 := cb.below hb8 (by omega)
    clear cb
    go_wp2
    go_ret
    exact ⟨rfl, hB8⟩

end LawDoesFit
end Go.Proofs.Ytoheoojpmndhoaa
