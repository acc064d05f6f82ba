/-
  For every list of items and suitcase the law of PackByRatio returns true and leaves the list as it was.
  Conditions: none.
-/
import Derived.Test.YtjpejhpilfjheabSuPt
import Derived.Test.YtjpejhpilfjheabSuPi
import Derived.Test.YtjpejhpilfjheabCopy
import Derived.Test.YtjpejhpilfjheabEq
import Derived.Lib.SmallJoins
import Derived.Deep.RegionHeld3
import Derived.OpenShut
import Derived.ShutString
import Derived.ChangeOld
namespace Go.Proofs.Ytjpejhpilfjheab
namespace LawPackByRatio
open Go.ChangeShapes Go.WideShapes Go.ChangeAt Go.RowKit
open Go.ChangeMaps (open_string shut_string)
open Go.Joins (open_agg2 shut_agg2 field_of_Trod)
set_option linter.unusedVariables false

theorem own : ownKnob Try.prog.godebug = none := by kernel_rfl
theorem laidOut : laidOutB Try.prog = true := by kernel_rfl

set_option maxHeartbeats 1000000 in
theorem walk {a0 : Option Addr} {len0 cap0 : Nat} {z0 : List (Int × Int × Int)} {x1 y1 : Int} {w : World} (hm0 : len0 ≤ 9223372036854775807) (hn0 : z0.length = len0) (hs0 : Seg w 0 w.heap.size a0 (flat3 z0)) :
    Calls Try.prog 6 #[.slice a0 len0 cap0, .agg #[.int .i64 x1, .int .i64 y1]] w fun e w' => e = .returned (.bool true) ∧ Below w.heap.size w w' := by
  by_cases hbig0 : 1048576 < len0
  · clear hs0 hn0
    go_enter Try.func6, Try.ntmps6
    go_wp2_with fail
    refine (szItemS_big _ _ _ _ hbig0 hm0).mono ?_
    rintro e w0 ⟨rfl, rfl⟩
    go_wp2
    go_ret
    exact ⟨rfl, (Below.refl _ _).alloc (Nat.le_refl _) _⟩
  have hlen0 : len0 ≤ 1048576 := by omega
  have HN0 := Lib.hid hn0
  obtain ⟨q, hq⟩ : ∃ q, askI z0 x1 y1 = q := ⟨_, rfl⟩
  have HQ := Lib.hid hq
  clear hq
  cases q
  case' false => have HYB := Lib.hid (someN_no (packP true z0 x1 y1))
  case' true => have HYB := Lib.hid (someN_yes (ys := packP true z0 x1 y1) (by have := packP_len true z0 x1 y1; have := HN0.out; omega))
  clear hn0
  · go_enter Try.func6, Try.ntmps6
    have hb0 : Below w.heap.size w (w.alloc (.cells #[.int .i64 x1, .int .i64 y1] 35)) := ((Below.refl _ _).alloc (Nat.le_refl _) _)
    obtain ⟨W0, hW0⟩ : ∃ W0, (w.alloc (.cells #[.int .i64 x1, .int .i64 y1] 35)) = W0 := ⟨_, rfl⟩
    have hz0 : W0.heap.size = w.heap.size + 1 := by rw [← hW0]; simp
    have hcz1 : W0.heap[w.heap.size]? = some (.cells #[.int .i64 x1, .int .i64 y1] 35 (0, 0)) := by rw [← hW0]; exact new_at _ _ (by simp)
    rw [hW0] at hb0
    have hs0_0 := hs0.below hb0 (by omega)
    clear hs0
    have HW0 := Lib.hid hW0
    clear hW0
    go_wp2_with fail
    rw [HW0.out]
    refine (szItemS_any _ _ _ _ hlen0).mono ?_
    rintro e w0 ⟨rfl, rfl⟩
    go_wp2_with fail
    refine wp_region_held_drew (S := (fun wq => wq.cell? ⟨w.heap.size, 0, none⟩ = some (.int .i64 x1) ∧ wq.cell? ⟨w.heap.size, 1, none⟩ = some (.int .i64 y1))) (by kernel_rfl) ⟨cell_of hcz1 0, cell_of hcz1 1⟩ (fun hHrx0a => ?_)
    refine wpAnyH_take (i := 0) (v := ?_) (ops_at rfl) (by kernel_rfl) (by kernel_rfl) (by kernel_rfl) (fun _ _ _ h => h) (Or.inl ⟨by rfl, ?yrx0a0⟩) (by assumption) ?nrx0a0
    case yrx0a0 => (intro wS hSw; (try dsimp only at hSw); go_simp; try rfl)
    try simp only [Act.put, List.setIfInBounds_toArray, List.set_cons_zero, List.set_cons_succ]
    refine wpAnyH_take (i := 2) (v := ?_) (ops_at rfl) (by kernel_rfl) (by kernel_rfl) (by kernel_rfl) (fun _ _ _ h => h) (Or.inl ⟨by rfl, ?yrx0a2⟩) (by assumption) ?nrx0a2
    case yrx0a2 => (intro wS hSw; (try dsimp only at hSw); go_simp; try rfl)
    try simp only [Act.put, List.setIfInBounds_toArray, List.set_cons_zero, List.set_cons_succ]
    obtain ⟨w1, hw1⟩ : ∃ wz, W0.drew = wz := ⟨_, rfl⟩
    have hb1 : Below W0.heap.size W0 w1 := by rw [← hw1]; exact below_drewN (Below.refl _ _) 1
    rw [hw1] at hHrx0a
    have hw1' := Lib.hid hw1
    clear hw1
    have hz1 := hb1.size
    have hB1 : Below w.heap.size w w1 := Below.trans hb0 (hb1.mono (by omega))
    have hs0_1 := hs0_0.below hb1 (by omega)
    clear hs0_0
    have hcz1_1 := (hb1.block _ (by omega)).trans hcz1
    clear hcz1
    refine wpAnyH_ready (rs := [1]) (by kernel_rfl) (by simp) ?_
    refine AllReadyH.cons (ops_at rfl) (fun K hK => ?_) AllReadyH.nil
    go_simp
    rw [hw1'.out]
    refine (toItemS_any _ _ _ z0 w.heap.size _ HN0.out hlen0 hs0_1 (by omega)).mono ?_
    rintro e w2 ⟨rfl, Wc0, hb2⟩
    have hz2 := hb2.size
    have hB2 : Below w.heap.size w w2 := Below.trans hB1 (hb2.mono (by omega))
    have hs0_2 := hs0_1.below hb2 (by omega)
    clear hs0_1
    have hcz1_2 := (hb2.block _ (by omega)).trans hcz1_1
    clear hcz1_1
    refine hK.out _ _ ⟨cell_of hcz1_2 0, cell_of hcz1_2 1⟩ (fun hHrx0a1 => ?_)
    clear hK K
    refine wpAnyH_ready (rs := [3]) (by kernel_rfl) (by simp) ?_
    refine AllReadyH.cons (ops_at rfl) (fun K hK => ?_) AllReadyH.nil
    go_simp
    refine (toCase_any _ _ _).mono ?_
    rintro e w3 ⟨rfl, hb3⟩
    have hz3 := hb3.size
    have hB3 : Below w.heap.size w w3 := Below.trans hB2 (hb3.mono (by omega))
    have hs0_3 := hs0_2.below hb3 (by omega)
    clear hs0_2
    have hcz1_3 := (hb3.block _ (by omega)).trans hcz1_2
    clear hcz1_2
    have Wc0_3 := Wc0.below hb3 (by omega)
    clear Wc0
    refine hK.out _ _ ⟨cell_of hcz1_3 0, cell_of hcz1_3 1⟩ (fun hHrx0a3 => ?_)
    clear hK K
    refine wpAnyH_ready (rs := [4]) (by kernel_rfl) (by simp) ?_
    refine AllReadyH.cons (ops_at rfl) (fun K hK => ?_) AllReadyH.nil
    go_simp
    refine (spec_PackByRatio _ _ _ x1 y1 z0 _ _ _ HN0.out hlen0 Wc0_3.seg (by omega) _ HQ.out).mono ?_
    rintro e w4 ⟨WA0, Wn0, Wc0, rfl, Wl0, Wo0, hb4⟩
    have hz4 := hb4.size
    have hB4 : Below w.heap.size w w4 := Below.trans hB3 (hb4.mono (by omega))
    have hs0_4 := hs0_3.below hb4 (by omega)
    clear hs0_3
    have hcz1_4 := (hb4.block _ (by omega)).trans hcz1_3
    clear hcz1_3
    have Wc0_4 := Wc0_3.below hb4 (by omega)
    clear Wc0_3
    refine hK.out _ _ ⟨cell_of hcz1_4 0, cell_of hcz1_4 1⟩ (fun hHrx0a4 => ?_)
    clear hK K
    refine wpAnyH_take (i := 5) (v := ?_) (ops_at rfl) (by kernel_rfl) (by kernel_rfl) (by kernel_rfl) (fun _ _ _ h => h) (Or.inl ⟨by rfl, ?yrx0az5⟩) (by assumption) ?nrx0az5
    case yrx0az5 => (intro wS hSw; (try dsimp only at hSw); go_simp; try rfl)
    try simp only [Act.put, List.setIfInBounds_toArray, List.set_cons_zero, List.set_cons_succ]
    refine wpAnyH_take (i := 6) (v := ?_) (ops_at rfl) (by kernel_rfl) (by kernel_rfl) (by kernel_rfl) (fun _ _ _ h => h) (Or.inl ⟨by rfl, ?yrx0az6⟩) (by assumption) ?nrx0az6
    case yrx0az6 => (intro wS hSw; (try dsimp only at hSw); go_simp; try rfl)
    try simp only [Act.put, List.setIfInBounds_toArray, List.set_cons_zero, List.set_cons_succ]
    refine wpAnyH_take (i := 7) (v := ?_) (ops_at rfl) (by kernel_rfl) (by kernel_rfl) (by kernel_rfl) (fun _ _ _ h => h) (Or.inl ⟨by rfl, ?yrx0az7⟩) (by assumption) ?nrx0az7
    case yrx0az7 => (intro wS hSw; (try dsimp only at hSw); go_simp; try rfl)
    try simp only [Act.put, List.setIfInBounds_toArray, List.set_cons_zero, List.set_cons_succ]
    refine wpAnyH_take (i := 8) (v := ?_) (ops_at rfl) (by kernel_rfl) (by kernel_rfl) (by kernel_rfl) (fun _ _ _ h => h) (Or.inl ⟨by rfl, ?yrx0az8⟩) (by assumption) ?nrx0az8
    case yrx0az8 => (intro wS hSw; (try dsimp only at hSw); go_simp; try rfl)
    try simp only [Act.put, List.setIfInBounds_toArray, List.set_cons_zero, List.set_cons_succ]
    refine wpAnyH_take (i := 9) (v := ?_) (ops_at rfl) (by kernel_rfl) (by kernel_rfl) (by kernel_rfl) (fun _ _ _ h => h) (Or.inl ⟨by rfl, ?yrx0az9⟩) (by assumption) ?nrx0az9
    case yrx0az9 => (intro wS hSw; (try dsimp only at hSw); go_simp; try rfl)
    try simp only [Act.put, List.setIfInBounds_toArray, List.set_cons_zero, List.set_cons_succ]
    refine wpAnyH_done (by kernel_rfl) ?_ _
    go_wp2_with fail
    refine (toItemS_any _ _ _ z0 w.heap.size _ HN0.out hlen0 hs0_4 (by omega)).mono ?_
    rintro e w5 ⟨rfl, X0, hb5⟩
    have hz5 := hb5.size
    have hB5 : Below w.heap.size w w5 := Below.trans hB4 (hb5.mono (by omega))
    have hs0_5 := hs0_4.below hb5 (by omega)
    clear hs0_4
    have hcz1_5 := (hb5.block _ (by omega)).trans hcz1_4
    clear hcz1_4
    have Wo0_5 := Wo0.below hb5 (by omega)
    clear Wo0
    have kc0 := cell_of hcz1_5 0
    have kc1 := cell_of hcz1_5 1
    go_wp2_with fail
    refine (toCase_any _ _ _).mono ?_
    rintro e w6 ⟨rfl, hb6⟩
    have hz6 := hb6.size
    have hB6 : Below w.heap.size w w6 := Below.trans hB5 (hb6.mono (by omega))
    have hs0_6 := hs0_5.below hb6 (by omega)
    clear hs0_5
    have hcz1_6 := (hb6.block _ (by omega)).trans hcz1_5
    clear hcz1_5
    have Wo0_6 := Wo0_5.below hb6 (by omega)
    clear Wo0_5
    have X0_6 := X0.below hb6 (by omega)
    clear X0
    clear kc0 kc1
    go_wp2_with fail
    refine (impl_PackByRatio _ _ _ x1 y1 z0 _ _ _ HN0.out hlen0 X0_6.seg (by omega) _ HQ.out).mono ?_
    rintro e w7 ⟨GA0, Gn0, Gc0, rfl, Gl0, Go0, hb7⟩
    have hz7 := hb7.size
    have hB7 : Below w.heap.size w w7 := Below.trans hB6 (hb7.mono (by omega))
    have hs0_7 := hs0_6.below hb7 (by omega)
    clear hs0_6
    have hcz1_7 := (hb7.block _ (by omega)).trans hcz1_6
    clear hcz1_6
    have Wo0_7 := Wo0_6.below hb7 (by omega)
    clear Wo0_6
    have X0_7 := X0_6.below hb7 (by omega)
    clear X0_6
    obtain rfl : Gn0 = Wn0 := Gl0.symm.trans Wl0
    have HY0 := Lib.hid Gl0
    have hy0 := HYB.out
    rw [Gl0] at hy0
    clear Wl0 Gl0
    go_wp2_with fail
    refine (eqIntS_b _ _ _ _ _ _ _ _ _ _ _ HY0.out (by omega) Go0.seg Wo0_7.seg).mono ?_
    rintro e w8 ⟨rfl, hb8⟩
    have hz8 := hb8.size
    have hB8 : Below w.heap.size w w8 := Below.trans hB7 (hb8.mono (by omega))
    have hs0_8 := hs0_7.below hb8 (by omega)
    clear hs0_7
    have hcz1_8 := (hb8.block _ (by omega)).trans hcz1_7
    clear hcz1_7
    have Wo0_8 := Wo0_7.below hb8 (by omega)
    clear Wo0_7
    have X0_8 := X0_7.below hb8 (by omega)
    clear X0_7
    have Go0_8 := Go0.below hb8 (by omega)
    clear Go0
    go_wp2_with fail
    refine (toItemS_any _ _ _ z0 w.heap.size _ HN0.out hlen0 hs0_8 (by omega)).mono ?_
    rintro e w9 ⟨rfl, cb0, hb9⟩
    have hz9 := hb9.size
    have hB9 : Below w.heap.size w w9 := Below.trans hB8 (hb9.mono (by omega))
    have hs0_9 := hs0_8.below hb9 (by omega)
    clear hs0_8
    have hcz1_9 := (hb9.block _ (by omega)).trans hcz1_8
    clear hcz1_8
    have Wo0_9 := Wo0_8.below hb9 (by omega)
    clear Wo0_8
    have X0_9 := X0_8.below hb9 (by omega)
    clear X0_8
    have Go0_9 := Go0_8.below hb9 (by omega)
    clear Go0_8
    go_wp2_with fail
    refine (eqItemS_b _ _ _ _ _ z0 _ _ _ _ _ HN0.out hlen0 X0_9.seg cb0.seg (by omega) (by omega)).mono ?_
    rintro e w10 ⟨rfl, hb10⟩
    have hz10 := hb10.size
    have hB10 : Below w.heap.size w w10 := Below.trans hB9 (hb10.mono (by omega))
    have hs0_10 := hs0_9.below hb10 (by omega)
    clear hs0_9
    have hcz1_10 := (hb10.block _ (by omega)).trans hcz1_9
    clear hcz1_9
    have Wo0_10 := Wo0_9.below hb10 (by omega)
    clear Wo0_9
    have X0_10 := X0_9.below hb10 (by omega)
    clear X0_9
    have Go0_10 := Go0_9.below hb10 (by omega)
    clear Go0_9
    have cb0_10 := cb0.below hb10 (by omega)
    clear cb0
    go_wp2_with fail
    refine (markItemS_any _ _ _ _ z0 _ _ _ HN0.out hlen0 (by omega) (by omega) X0_10).mono ?_
    rintro e w11 ⟨rfl, X0_11, row11, hg11, hr11⟩
    have hz11 := hg11.size
    have hB11 : Below w.heap.size w w11 := Below.grown hB10 hg11 (by omega) (fun g hg => by have := hr11 g hg; omega)
    have hs0_11 := hs0_10.grown hg11 (by omega) (fun g hg => by have := hr11 g hg; omega)
    clear hs0_10
    have hcz1_11 := (hg11.block _ (by omega) (fun e => by have := hr11 _ e.symm; omega)).trans hcz1_10
    clear hcz1_10
    have Wo0_11 := Wo0_10.grown hg11 (by omega) (fun g hg => by have := hr11 g hg; omega)
    clear Wo0_10
    have Go0_11 := Go0_10.grown hg11 (by omega) (fun g hg => by have := hr11 g hg; omega)
    clear Go0_10
    go_wp2_with fail
    refine (eqIntS_b _ _ _ _ _ _ _ _ _ _ _ HY0.out (by omega) Go0_11.seg Wo0_11.seg).mono ?_
    rintro e w12 ⟨rfl, hb12⟩
    have hz12 := hb12.size
    have hB12 : Below w.heap.size w w12 := Below.trans hB11 (hb12.mono (by omega))
    have hs0_12 := hs0_11.below hb12 (by omega)
    clear hs0_11
    have hcz1_12 := (hb12.block _ (by omega)).trans hcz1_11
    clear hcz1_11
    have Wo0_12 := Wo0_11.below hb12 (by omega)
    clear Wo0_11
    have Go0_12 := Go0_11.below hb12 (by omega)
    clear Go0_11
    go_wp2_with fail
    refine (markIntS_any _ _ _ _ _ _ _ _ HY0.out (by omega) (by omega) (by omega) Go0_12).mono ?_
    rintro e w13 ⟨rfl, Go0_13, row13, hg13, hr13⟩
    have hz13 := hg13.size
    have hB13 : Below w.heap.size w w13 := Below.grown hB12 hg13 (by omega) (fun g hg => by have := hr13 g hg; omega)
    have hs0_13 := hs0_12.grown hg13 (by omega) (fun g hg => by have := hr13 g hg; omega)
    clear hs0_12
    have hcz1_13 := (hg13.block _ (by omega) (fun e => by have := hr13 _ e.symm; omega)).trans hcz1_12
    clear hcz1_12
    have Wo0_13 := Wo0_12.grown hg13 (by omega) (fun g hg => by have := hr13 g hg; omega)
    clear Wo0_12
    go_wp2_with fail
    refine (heldIntS_any _ _ _ _ _ _ _ (by omega) (by omega) (by omega) Go0_13.seg).mono ?_
    rintro e w113 ⟨rfl, rfl⟩
    go_wp2_with fail
    refine wp_region_held_drew (S := (fun wq => wq.cell? ⟨w.heap.size, 0, none⟩ = some (.int .i64 x1) ∧ wq.cell? ⟨w.heap.size, 1, none⟩ = some (.int .i64 y1))) (by kernel_rfl) ⟨cell_of hcz1_13 0, cell_of hcz1_13 1⟩ (fun hHrx0b => ?_)
    refine wpAnyH_take (i := 0) (v := ?_) (ops_at rfl) (by kernel_rfl) (by kernel_rfl) (by kernel_rfl) (fun _ _ _ h => h) (Or.inl ⟨by rfl, ?yrx0b0⟩) (by assumption) ?nrx0b0
    case yrx0b0 => (intro wS hSw; (try dsimp only at hSw); go_simp; try rfl)
    try simp only [Act.put, List.setIfInBounds_toArray, List.set_cons_zero, List.set_cons_succ]
    refine wpAnyH_take (i := 2) (v := ?_) (ops_at rfl) (by kernel_rfl) (by kernel_rfl) (by kernel_rfl) (fun _ _ _ h => h) (Or.inl ⟨by rfl, ?yrx0b2⟩) (by assumption) ?nrx0b2
    case yrx0b2 => (intro wS hSw; (try dsimp only at hSw); go_simp; try rfl)
    try simp only [Act.put, List.setIfInBounds_toArray, List.set_cons_zero, List.set_cons_succ]
    obtain ⟨w14, hw14⟩ : ∃ wz, w13.drew = wz := ⟨_, rfl⟩
    have hb14 : Below w13.heap.size w13 w14 := by rw [← hw14]; exact below_drewN (Below.refl _ _) 1
    rw [hw14] at hHrx0b
    have hw14' := Lib.hid hw14
    clear hw14
    have hz14 := hb14.size
    have hB14 : Below w.heap.size w w14 := Below.trans hB13 (hb14.mono (by omega))
    have hs0_14 := hs0_13.below hb14 (by omega)
    clear hs0_13
    have hcz1_14 := (hb14.block _ (by omega)).trans hcz1_13
    clear hcz1_13
    have Wo0_14 := Wo0_13.below hb14 (by omega)
    clear Wo0_13
    have Go0_14 := Go0_13.below hb14 (by omega)
    clear Go0_13
    refine wpAnyH_ready (rs := [1]) (by kernel_rfl) (by simp) ?_
    refine AllReadyH.cons (ops_at rfl) (fun K hK => ?_) AllReadyH.nil
    go_simp
    rw [hw14'.out]
    refine (toItemS_any _ _ _ z0 w.heap.size _ HN0.out hlen0 hs0_14 (by omega)).mono ?_
    rintro e w15 ⟨rfl, Hc0, hb15⟩
    have hz15 := hb15.size
    have hB15 : Below w.heap.size w w15 := Below.trans hB14 (hb15.mono (by omega))
    have hs0_15 := hs0_14.below hb15 (by omega)
    clear hs0_14
    have hcz1_15 := (hb15.block _ (by omega)).trans hcz1_14
    clear hcz1_14
    have Wo0_15 := Wo0_14.below hb15 (by omega)
    clear Wo0_14
    have Go0_15 := Go0_14.below hb15 (by omega)
    clear Go0_14
    refine hK.out _ _ ⟨cell_of hcz1_15 0, cell_of hcz1_15 1⟩ (fun hHrx0b1 => ?_)
    clear hK K
    refine wpAnyH_ready (rs := [3]) (by kernel_rfl) (by simp) ?_
    refine AllReadyH.cons (ops_at rfl) (fun K hK => ?_) AllReadyH.nil
    go_simp
    refine (toCase_any _ _ _).mono ?_
    rintro e w16 ⟨rfl, hb16⟩
    have hz16 := hb16.size
    have hB16 : Below w.heap.size w w16 := Below.trans hB15 (hb16.mono (by omega))
    have hs0_16 := hs0_15.below hb16 (by omega)
    clear hs0_15
    have hcz1_16 := (hb16.block _ (by omega)).trans hcz1_15
    clear hcz1_15
    have Wo0_16 := Wo0_15.below hb16 (by omega)
    clear Wo0_15
    have Go0_16 := Go0_15.below hb16 (by omega)
    clear Go0_15
    have Hc0_16 := Hc0.below hb16 (by omega)
    clear Hc0
    refine hK.out _ _ ⟨cell_of hcz1_16 0, cell_of hcz1_16 1⟩ (fun hHrx0b3 => ?_)
    clear hK K
    refine wpAnyH_ready (rs := [4]) (by kernel_rfl) (by simp) ?_
    refine AllReadyH.cons (ops_at rfl) (fun K hK => ?_) AllReadyH.nil
    go_simp
    refine (impl_PackByRatio _ _ _ x1 y1 z0 _ _ _ HN0.out hlen0 Hc0_16.seg (by omega) _ HQ.out).mono ?_
    rintro e w17 ⟨HA0, Hn0, Hc0, rfl, Hl0, Ho0, hb17⟩
    have hz17 := hb17.size
    have hB17 : Below w.heap.size w w17 := Below.trans hB16 (hb17.mono (by omega))
    have hs0_17 := hs0_16.below hb17 (by omega)
    clear hs0_16
    have hcz1_17 := (hb17.block _ (by omega)).trans hcz1_16
    clear hcz1_16
    have Wo0_17 := Wo0_16.below hb17 (by omega)
    clear Wo0_16
    have Go0_17 := Go0_16.below hb17 (by omega)
    clear Go0_16
    have Hc0_17 := Hc0_16.below hb17 (by omega)
    clear Hc0_16
    refine hK.out _ _ ⟨cell_of hcz1_17 0, cell_of hcz1_17 1⟩ (fun hHrx0b4 => ?_)
    clear hK K
    refine wpAnyH_take (i := 5) (v := ?_) (ops_at rfl) (by kernel_rfl) (by kernel_rfl) (by kernel_rfl) (fun _ _ _ h => h) (Or.inl ⟨by rfl, ?yrx0bz5⟩) (by assumption) ?nrx0bz5
    case yrx0bz5 => (intro wS hSw; (try dsimp only at hSw); go_simp; try rfl)
    try simp only [Act.put, List.setIfInBounds_toArray, List.set_cons_zero, List.set_cons_succ]
    refine wpAnyH_take (i := 6) (v := ?_) (ops_at rfl) (by kernel_rfl) (by kernel_rfl) (by kernel_rfl) (fun _ _ _ h => h) (Or.inl ⟨by rfl, ?yrx0bz6⟩) (by assumption) ?nrx0bz6
    case yrx0bz6 => (intro wS hSw; (try dsimp only at hSw); go_simp; try rfl)
    try simp only [Act.put, List.setIfInBounds_toArray, List.set_cons_zero, List.set_cons_succ]
    refine wpAnyH_take (i := 7) (v := ?_) (ops_at rfl) (by kernel_rfl) (by kernel_rfl) (by kernel_rfl) (fun _ _ _ h => h) (Or.inl ⟨by rfl, ?yrx0bz7⟩) (by assumption) ?nrx0bz7
    case yrx0bz7 => (intro wS hSw; (try dsimp only at hSw); go_simp; try rfl)
    try simp only [Act.put, List.setIfInBounds_toArray, List.set_cons_zero, List.set_cons_succ]
    refine wpAnyH_take (i := 8) (v := ?_) (ops_at rfl) (by kernel_rfl) (by kernel_rfl) (by kernel_rfl) (fun _ _ _ h => h) (Or.inl ⟨by rfl, ?yrx0bz8⟩) (by assumption) ?nrx0bz8
    case yrx0bz8 => (intro wS hSw; (try dsimp only at hSw); go_simp; try rfl)
    try simp only [Act.put, List.setIfInBounds_toArray, List.set_cons_zero, List.set_cons_succ]
    refine wpAnyH_take (i := 9) (v := ?_) (ops_at rfl) (by kernel_rfl) (by kernel_rfl) (by kernel_rfl) (fun _ _ _ h => h) (Or.inl ⟨by rfl, ?yrx0bz9⟩) (by assumption) ?nrx0bz9
    case yrx0bz9 => (intro wS hSw; (try dsimp only at hSw); go_simp; try rfl)
    try simp only [Act.put, List.setIfInBounds_toArray, List.set_cons_zero, List.set_cons_succ]
    refine wpAnyH_done (by kernel_rfl) ?_ _
    obtain rfl : Hn0 = Gn0 := Hl0.symm.trans HY0.out
    clear Hl0
    go_wp2_with fail
    refine (eqIntS_b _ _ _ _ _ _ _ _ _ _ _ HY0.out (by omega) Ho0.seg Wo0_17.seg).mono ?_
    rintro e w18 ⟨rfl, hb18⟩
    have hz18 := hb18.size
    have hB18 : Below w.heap.size w w18 := Below.trans hB17 (hb18.mono (by omega))
    have hs0_18 := hs0_17.below hb18 (by omega)
    clear hs0_17
    have hcz1_18 := (hb18.block _ (by omega)).trans hcz1_17
    clear hcz1_17
    have Wo0_18 := Wo0_17.below hb18 (by omega)
    clear Wo0_17
    have Go0_18 := Go0_17.below hb18 (by omega)
    clear Go0_17
    have Ho0_18 := Ho0.below hb18 (by omega)
    clear Ho0
    go_wp2_with fail
    refine (heldIntS_any _ _ _ _ _ _ _ (by omega) (by omega) (by omega) Go0_18.seg).mono ?_
    rintro e w118 ⟨rfl, rfl⟩
    go_wp2
    go_ret
    exact ⟨rfl, hB18⟩
  · go_enter Try.func6, Try.ntmps6
    have hb0 : Below w.heap.size w (w.alloc (.cells #[.int .i64 x1, .int .i64 y1] 35)) := ((Below.refl _ _).alloc (Nat.le_refl _) _)
    obtain ⟨W0, hW0⟩ : ∃ W0, (w.alloc (.cells #[.int .i64 x1, .int .i64 y1] 35)) = W0 := ⟨_, rfl⟩
    have hz0 : W0.heap.size = w.heap.size + 1 := by rw [← hW0]; simp
    have hcz1 : W0.heap[w.heap.size]? = some (.cells #[.int .i64 x1, .int .i64 y1] 35 (0, 0)) := by rw [← hW0]; exact new_at _ _ (by simp)
    rw [hW0] at hb0
    have hs0_0 := hs0.below hb0 (by omega)
    clear hs0
    have HW0 := Lib.hid hW0
    clear hW0
    go_wp2_with fail
    rw [HW0.out]
    refine (szItemS_any _ _ _ _ hlen0).mono ?_
    rintro e w0 ⟨rfl, rfl⟩
    go_wp2_with fail
    refine wp_region_held_drew (S := (fun wq => wq.cell? ⟨w.heap.size, 0, none⟩ = some (.int .i64 x1) ∧ wq.cell? ⟨w.heap.size, 1, none⟩ = some (.int .i64 y1))) (by kernel_rfl) ⟨cell_of hcz1 0, cell_of hcz1 1⟩ (fun hHrx1a => ?_)
    refine wpAnyH_take (i := 0) (v := ?_) (ops_at rfl) (by kernel_rfl) (by kernel_rfl) (by kernel_rfl) (fun _ _ _ h => h) (Or.inl ⟨by rfl, ?yrx1a0⟩) (by assumption) ?nrx1a0
    case yrx1a0 => (intro wS hSw; (try dsimp only at hSw); go_simp; try rfl)
    try simp only [Act.put, List.setIfInBounds_toArray, List.set_cons_zero, List.set_cons_succ]
    refine wpAnyH_take (i := 2) (v := ?_) (ops_at rfl) (by kernel_rfl) (by kernel_rfl) (by kernel_rfl) (fun _ _ _ h => h) (Or.inl ⟨by rfl, ?yrx1a2⟩) (by assumption) ?nrx1a2
    case yrx1a2 => (intro wS hSw; (try dsimp only at hSw); go_simp; try rfl)
    try simp only [Act.put, List.setIfInBounds_toArray, List.set_cons_zero, List.set_cons_succ]
    obtain ⟨w1, hw1⟩ : ∃ wz, W0.drew = wz := ⟨_, rfl⟩
    have hb1 : Below W0.heap.size W0 w1 := by rw [← hw1]; exact below_drewN (Below.refl _ _) 1
    rw [hw1] at hHrx1a
    have hw1' := Lib.hid hw1
    clear hw1
    have hz1 := hb1.size
    have hB1 : Below w.heap.size w w1 := Below.trans hb0 (hb1.mono (by omega))
    have hs0_1 := hs0_0.below hb1 (by omega)
    clear hs0_0
    have hcz1_1 := (hb1.block _ (by omega)).trans hcz1
    clear hcz1
    refine wpAnyH_ready (rs := [1]) (by kernel_rfl) (by simp) ?_
    refine AllReadyH.cons (ops_at rfl) (fun K hK => ?_) AllReadyH.nil
    go_simp
    rw [hw1'.out]
    refine (toItemS_any _ _ _ z0 w.heap.size _ HN0.out hlen0 hs0_1 (by omega)).mono ?_
    rintro e w2 ⟨rfl, Wc0, hb2⟩
    have hz2 := hb2.size
    have hB2 : Below w.heap.size w w2 := Below.trans hB1 (hb2.mono (by omega))
    have hs0_2 := hs0_1.below hb2 (by omega)
    clear hs0_1
    have hcz1_2 := (hb2.block _ (by omega)).trans hcz1_1
    clear hcz1_1
    refine hK.out _ _ ⟨cell_of hcz1_2 0, cell_of hcz1_2 1⟩ (fun hHrx1a1 => ?_)
    clear hK K
    refine wpAnyH_ready (rs := [3]) (by kernel_rfl) (by simp) ?_
    refine AllReadyH.cons (ops_at rfl) (fun K hK => ?_) AllReadyH.nil
    go_simp
    refine (toCase_any _ _ _).mono ?_
    rintro e w3 ⟨rfl, hb3⟩
    have hz3 := hb3.size
    have hB3 : Below w.heap.size w w3 := Below.trans hB2 (hb3.mono (by omega))
    have hs0_3 := hs0_2.below hb3 (by omega)
    clear hs0_2
    have hcz1_3 := (hb3.block _ (by omega)).trans hcz1_2
    clear hcz1_2
    have Wc0_3 := Wc0.below hb3 (by omega)
    clear Wc0
    refine hK.out _ _ ⟨cell_of hcz1_3 0, cell_of hcz1_3 1⟩ (fun hHrx1a3 => ?_)
    clear hK K
    refine wpAnyH_ready (rs := [4]) (by kernel_rfl) (by simp) ?_
    refine AllReadyH.cons (ops_at rfl) (fun K hK => ?_) AllReadyH.nil
    go_simp
    refine (spec_PackByRatio _ _ _ x1 y1 z0 _ _ _ HN0.out hlen0 Wc0_3.seg (by omega) _ HQ.out).mono ?_
    rintro e w4 ⟨WA0, Wn0, Wc0, rfl, Wl0, Wo0, hb4⟩
    have hz4 := hb4.size
    have hB4 : Below w.heap.size w w4 := Below.trans hB3 (hb4.mono (by omega))
    have hs0_4 := hs0_3.below hb4 (by omega)
    clear hs0_3
    have hcz1_4 := (hb4.block _ (by omega)).trans hcz1_3
    clear hcz1_3
    have Wc0_4 := Wc0_3.below hb4 (by omega)
    clear Wc0_3
    refine hK.out _ _ ⟨cell_of hcz1_4 0, cell_of hcz1_4 1⟩ (fun hHrx1a4 => ?_)
    clear hK K
    refine wpAnyH_take (i := 5) (v := ?_) (ops_at rfl) (by kernel_rfl) (by kernel_rfl) (by kernel_rfl) (fun _ _ _ h => h) (Or.inl ⟨by rfl, ?yrx1az5⟩) (by assumption) ?nrx1az5
    case yrx1az5 => (intro wS hSw; (try dsimp only at hSw); go_simp; try rfl)
    try simp only [Act.put, List.setIfInBounds_toArray, List.set_cons_zero, List.set_cons_succ]
    refine wpAnyH_take (i := 6) (v := ?_) (ops_at rfl) (by kernel_rfl) (by kernel_rfl) (by kernel_rfl) (fun _ _ _ h => h) (Or.inl ⟨by rfl, ?yrx1az6⟩) (by assumption) ?nrx1az6
    case yrx1az6 => (intro wS hSw; (try dsimp only at hSw); go_simp; try rfl)
    try simp only [Act.put, List.setIfInBounds_toArray, List.set_cons_zero, List.set_cons_succ]
    refine wpAnyH_take (i := 7) (v := ?_) (ops_at rfl) (by kernel_rfl) (by kernel_rfl) (by kernel_rfl) (fun _ _ _ h => h) (Or.inl ⟨by rfl, ?yrx1az7⟩) (by assumption) ?nrx1az7
    case yrx1az7 => (intro wS hSw; (try dsimp only at hSw); go_simp; try rfl)
    try simp only [Act.put, List.setIfInBounds_toArray, List.set_cons_zero, List.set_cons_succ]
    refine wpAnyH_take (i := 8) (v := ?_) (ops_at rfl) (by kernel_rfl) (by kernel_rfl) (by kernel_rfl) (fun _ _ _ h => h) (Or.inl ⟨by rfl, ?yrx1az8⟩) (by assumption) ?nrx1az8
    case yrx1az8 => (intro wS hSw; (try dsimp only at hSw); go_simp; try rfl)
    try simp only [Act.put, List.setIfInBounds_toArray, List.set_cons_zero, List.set_cons_succ]
    refine wpAnyH_take (i := 9) (v := ?_) (ops_at rfl) (by kernel_rfl) (by kernel_rfl) (by kernel_rfl) (fun _ _ _ h => h) (Or.inl ⟨by rfl, ?yrx1az9⟩) (by assumption) ?nrx1az9
    case yrx1az9 => (intro wS hSw; (try dsimp only at hSw); go_simp; try rfl)
    try simp only [Act.put, List.setIfInBounds_toArray, List.set_cons_zero, List.set_cons_succ]
    refine wpAnyH_done (by kernel_rfl) ?_ _
    go_wp2_with fail
    refine (toItemS_any _ _ _ z0 w.heap.size _ HN0.out hlen0 hs0_4 (by omega)).mono ?_
    rintro e w5 ⟨rfl, X0, hb5⟩
    have hz5 := hb5.size
    have hB5 : Below w.heap.size w w5 := Below.trans hB4 (hb5.mono (by omega))
    have hs0_5 := hs0_4.below hb5 (by omega)
    clear hs0_4
    have hcz1_5 := (hb5.block _ (by omega)).trans hcz1_4
    clear hcz1_4
    have Wo0_5 := Wo0.below hb5 (by omega)
    clear Wo0
    have kc0 := cell_of hcz1_5 0
    have kc1 := cell_of hcz1_5 1
    go_wp2_with fail
    refine (toCase_any _ _ _).mono ?_
    rintro e w6 ⟨rfl, hb6⟩
    have hz6 := hb6.size
    have hB6 : Below w.heap.size w w6 := Below.trans hB5 (hb6.mono (by omega))
    have hs0_6 := hs0_5.below hb6 (by omega)
    clear hs0_5
    have hcz1_6 := (hb6.block _ (by omega)).trans hcz1_5
    clear hcz1_5
    have Wo0_6 := Wo0_5.below hb6 (by omega)
    clear Wo0_5
    have X0_6 := X0.below hb6 (by omega)
    clear X0
    clear kc0 kc1
    go_wp2_with fail
    refine (impl_PackByRatio _ _ _ x1 y1 z0 _ _ _ HN0.out hlen0 X0_6.seg (by omega) _ HQ.out).mono ?_
    rintro e w7 ⟨GA0, Gn0, Gc0, rfl, Gl0, Go0, hb7⟩
    have hz7 := hb7.size
    have hB7 : Below w.heap.size w w7 := Below.trans hB6 (hb7.mono (by omega))
    have hs0_7 := hs0_6.below hb7 (by omega)
    clear hs0_6
    have hcz1_7 := (hb7.block _ (by omega)).trans hcz1_6
    clear hcz1_6
    have Wo0_7 := Wo0_6.below hb7 (by omega)
    clear Wo0_6
    have X0_7 := X0_6.below hb7 (by omega)
    clear X0_6
    obtain rfl : Gn0 = Wn0 := Gl0.symm.trans Wl0
    have HY0 := Lib.hid Gl0
    have hy0 := HYB.out
    rw [Gl0] at hy0
    clear Wl0 Gl0
    go_wp2_with fail
    refine (eqIntS_b _ _ _ _ _ _ _ _ _ _ _ HY0.out (by omega) Go0.seg Wo0_7.seg).mono ?_
    rintro e w8 ⟨rfl, hb8⟩
    have hz8 := hb8.size
    have hB8 : Below w.heap.size w w8 := Below.trans hB7 (hb8.mono (by omega))
    have hs0_8 := hs0_7.below hb8 (by omega)
    clear hs0_7
    have hcz1_8 := (hb8.block _ (by omega)).trans hcz1_7
    clear hcz1_7
    have Wo0_8 := Wo0_7.below hb8 (by omega)
    clear Wo0_7
    have X0_8 := X0_7.below hb8 (by omega)
    clear X0_7
    have Go0_8 := Go0.below hb8 (by omega)
    clear Go0
    go_wp2_with fail
    refine (toItemS_any _ _ _ z0 w.heap.size _ HN0.out hlen0 hs0_8 (by omega)).mono ?_
    rintro e w9 ⟨rfl, cb0, hb9⟩
    have hz9 := hb9.size
    have hB9 : Below w.heap.size w w9 := Below.trans hB8 (hb9.mono (by omega))
    have hs0_9 := hs0_8.below hb9 (by omega)
    clear hs0_8
    have hcz1_9 := (hb9.block _ (by omega)).trans hcz1_8
    clear hcz1_8
    have Wo0_9 := Wo0_8.below hb9 (by omega)
    clear Wo0_8
    have X0_9 := X0_8.below hb9 (by omega)
    clear X0_8
    have Go0_9 := Go0_8.below hb9 (by omega)
    clear Go0_8
    go_wp2_with fail
    refine (eqItemS_b _ _ _ _ _ z0 _ _ _ _ _ HN0.out hlen0 X0_9.seg cb0.seg (by omega) (by omega)).mono ?_
    rintro e w10 ⟨rfl, hb10⟩
    have hz10 := hb10.size
    have hB10 : Below w.heap.size w w10 := Below.trans hB9 (hb10.mono (by omega))
    have hs0_10 := hs0_9.below hb10 (by omega)
    clear hs0_9
    have hcz1_10 := (hb10.block _ (by omega)).trans hcz1_9
    clear hcz1_9
    have Wo0_10 := Wo0_9.below hb10 (by omega)
    clear Wo0_9
    have X0_10 := X0_9.below hb10 (by omega)
    clear X0_9
    have Go0_10 := Go0_9.below hb10 (by omega)
    clear Go0_9
    have cb0_10 := cb0.below hb10 (by omega)
    clear cb0
    go_wp2_with fail
    refine (markItemS_any _ _ _ _ z0 _ _ _ HN0.out hlen0 (by omega) (by omega) X0_10).mono ?_
    rintro e w11 ⟨rfl, X0_11, row11, hg11, hr11⟩
    have hz11 := hg11.size
    have hB11 : Below w.heap.size w w11 := Below.grown hB10 hg11 (by omega) (fun g hg => by have := hr11 g hg; omega)
    have hs0_11 := hs0_10.grown hg11 (by omega) (fun g hg => by have := hr11 g hg; omega)
    clear hs0_10
    have hcz1_11 := (hg11.block _ (by omega) (fun e => by have := hr11 _ e.symm; omega)).trans hcz1_10
    clear hcz1_10
    have Wo0_11 := Wo0_10.grown hg11 (by omega) (fun g hg => by have := hr11 g hg; omega)
    clear Wo0_10
    have Go0_11 := Go0_10.grown hg11 (by omega) (fun g hg => by have := hr11 g hg; omega)
    clear Go0_10
    go_wp2_with fail
    refine (eqIntS_b _ _ _ _ _ _ _ _ _ _ _ HY0.out (by omega) Go0_11.seg Wo0_11.seg).mono ?_
    rintro e w12 ⟨rfl, hb12⟩
    have hz12 := hb12.size
    have hB12 : Below w.heap.size w w12 := Below.trans hB11 (hb12.mono (by omega))
    have hs0_12 := hs0_11.below hb12 (by omega)
    clear hs0_11
    have hcz1_12 := (hb12.block _ (by omega)).trans hcz1_11
    clear hcz1_11
    have Wo0_12 := Wo0_11.below hb12 (by omega)
    clear Wo0_11
    have Go0_12 := Go0_11.below hb12 (by omega)
    clear Go0_11
    go_wp2_with fail
    refine (markIntS_any _ _ _ _ _ _ _ _ HY0.out (by omega) (by omega) (by omega) Go0_12).mono ?_
    rintro e w13 ⟨rfl, Go0_13, row13, hg13, hr13⟩
    have hz13 := hg13.size
    have hB13 : Below w.heap.size w w13 := Below.grown hB12 hg13 (by omega) (fun g hg => by have := hr13 g hg; omega)
    have hs0_13 := hs0_12.grown hg13 (by omega) (fun g hg => by have := hr13 g hg; omega)
    clear hs0_12
    have hcz1_13 := (hg13.block _ (by omega) (fun e => by have := hr13 _ e.symm; omega)).trans hcz1_12
    clear hcz1_12
    have Wo0_13 := Wo0_12.grown hg13 (by omega) (fun g hg => by have := hr13 g hg; omega)
    clear Wo0_12
    go_wp2_with fail
    refine (heldIntS_any _ _ _ _ _ _ _ (by omega) (by omega) (by omega) Go0_13.seg).mono ?_
    rintro e w113 ⟨rfl, rfl⟩
    go_wp2_with fail
    refine wp_region_held_drew (S := (fun wq => wq.cell? ⟨w.heap.size, 0, none⟩ = some (.int .i64 x1) ∧ wq.cell? ⟨w.heap.size, 1, none⟩ = some (.int .i64 y1))) (by kernel_rfl) ⟨cell_of hcz1_13 0, cell_of hcz1_13 1⟩ (fun hHrx1b => ?_)
    refine wpAnyH_take (i := 0) (v := ?_) (ops_at rfl) (by kernel_rfl) (by kernel_rfl) (by kernel_rfl) (fun _ _ _ h => h) (Or.inl ⟨by rfl, ?yrx1b0⟩) (by assumption) ?nrx1b0
    case yrx1b0 => (intro wS hSw; (try dsimp only at hSw); go_simp; try rfl)
    try simp only [Act.put, List.setIfInBounds_toArray, List.set_cons_zero, List.set_cons_succ]
    refine wpAnyH_take (i := 2) (v := ?_) (ops_at rfl) (by kernel_rfl) (by kernel_rfl) (by kernel_rfl) (fun _ _ _ h => h) (Or.inl ⟨by rfl, ?yrx1b2⟩) (by assumption) ?nrx1b2
    case yrx1b2 => (intro wS hSw; (try dsimp only at hSw); go_simp; try rfl)
    try simp only [Act.put, List.setIfInBounds_toArray, List.set_cons_zero, List.set_cons_succ]
    obtain ⟨w14, hw14⟩ : ∃ wz, w13.drew = wz := ⟨_, rfl⟩
    have hb14 : Below w13.heap.size w13 w14 := by rw [← hw14]; exact below_drewN (Below.refl _ _) 1
    rw [hw14] at hHrx1b
    have hw14' := Lib.hid hw14
    clear hw14
    have hz14 := hb14.size
    have hB14 : Below w.heap.size w w14 := Below.trans hB13 (hb14.mono (by omega))
    have hs0_14 := hs0_13.below hb14 (by omega)
    clear hs0_13
    have hcz1_14 := (hb14.block _ (by omega)).trans hcz1_13
    clear hcz1_13
    have Wo0_14 := Wo0_13.below hb14 (by omega)
    clear Wo0_13
    have Go0_14 := Go0_13.below hb14 (by omega)
    clear Go0_13
    refine wpAnyH_ready (rs := [1]) (by kernel_rfl) (by simp) ?_
    refine AllReadyH.cons (ops_at rfl) (fun K hK => ?_) AllReadyH.nil
    go_simp
    rw [hw14'.out]
    refine (toItemS_any _ _ _ z0 w.heap.size _ HN0.out hlen0 hs0_14 (by omega)).mono ?_
    rintro e w15 ⟨rfl, Hc0, hb15⟩
    have hz15 := hb15.size
    have hB15 : Below w.heap.size w w15 := Below.trans hB14 (hb15.mono (by omega))
    have hs0_15 := hs0_14.below hb15 (by omega)
    clear hs0_14
    have hcz1_15 := (hb15.block _ (by omega)).trans hcz1_14
    clear hcz1_14
    have Wo0_15 := Wo0_14.below hb15 (by omega)
    clear Wo0_14
    have Go0_15 := Go0_14.below hb15 (by omega)
    clear Go0_14
    refine hK.out _ _ ⟨cell_of hcz1_15 0, cell_of hcz1_15 1⟩ (fun hHrx1b1 => ?_)
    clear hK K
    refine wpAnyH_ready (rs := [3]) (by kernel_rfl) (by simp) ?_
    refine AllReadyH.cons (ops_at rfl) (fun K hK => ?_) AllReadyH.nil
    go_simp
    refine (toCase_any _ _ _).mono ?_
    rintro e w16 ⟨rfl, hb16⟩
    have hz16 := hb16.size
    have hB16 : Below w.heap.size w w16 := Below.trans hB15 (hb16.mono (by omega))
    have hs0_16 := hs0_15.below hb16 (by omega)
    clear hs0_15
    have hcz1_16 := (hb16.block _ (by omega)).trans hcz1_15
    clear hcz1_15
    have Wo0_16 := Wo0_15.below hb16 (by omega)
    clear Wo0_15
    have Go0_16 := Go0_15.below hb16 (by omega)
    clear Go0_15
    have Hc0_16 := Hc0.below hb16 (by omega)
    clear Hc0
    refine hK.out _ _ ⟨cell_of hcz1_16 0, cell_of hcz1_16 1⟩ (fun hHrx1b3 => ?_)
    clear hK K
    refine wpAnyH_ready (rs := [4]) (by kernel_rfl) (by simp) ?_
    refine AllReadyH.cons (ops_at rfl) (fun K hK => ?_) AllReadyH.nil
    go_simp
    refine (impl_PackByRatio _ _ _ x1 y1 z0 _ _ _ HN0.out hlen0 Hc0_16.seg (by omega) _ HQ.out).mono ?_
    rintro e w17 ⟨HA0, Hn0, Hc0, rfl, Hl0, Ho0, hb17⟩
    have hz17 := hb17.size
    have hB17 : Below w.heap.size w w17 := Below.trans hB16 (hb17.mono (by omega))
    have hs0_17 := hs0_16.below hb17 (by omega)
    clear hs0_16
    have hcz1_17 := (hb17.block _ (by omega)).trans hcz1_16
    clear hcz1_16
    have Wo0_17 := Wo0_16.below hb17 (by omega)
    clear Wo0_16
    have Go0_17 := Go0_16.below hb17 (by omega)
    clear Go0_16
    have Hc0_17 := Hc0_16.below hb17 (by omega)
    clear Hc0_16
    refine hK.out _ _ ⟨cell_of hcz1_17 0, cell_of hcz1_17 1⟩ (fun hHrx1b4 => ?_)
    clear hK K
    refine wpAnyH_take (i := 5) (v := ?_) (ops_at rfl) (by kernel_rfl) (by kernel_rfl) (by kernel_rfl) (fun _ _ _ h => h) (Or.inl ⟨by rfl, ?yrx1bz5⟩) (by assumption) ?nrx1bz5
    case yrx1bz5 => (intro wS hSw; (try dsimp only at hSw); go_simp; try rfl)
    try simp only [Act.put, List.setIfInBounds_toArray, List.set_cons_zero, List.set_cons_succ]
    refine wpAnyH_take (i := 6) (v := ?_) (ops_at rfl) (by kernel_rfl) (by kernel_rfl) (by kernel_rfl) (fun _ _ _ h => h) (Or.inl ⟨by rfl, ?yrx1bz6⟩) (by assumption) ?nrx1bz6
    case yrx1bz6 => (intro wS hSw; (try dsimp only at hSw); go_simp; try rfl)
    try simp only [Act.put, List.setIfInBounds_toArray, List.set_cons_zero, List.set_cons_succ]
    refine wpAnyH_take (i := 7) (v := ?_) (ops_at rfl) (by kernel_rfl) (by kernel_rfl) (by kernel_rfl) (fun _ _ _ h => h) (Or.inl ⟨by rfl, ?yrx1bz7⟩) (by assumption) ?nrx1bz7
    case yrx1bz7 => (intro wS hSw; (try dsimp only at hSw); go_simp; try rfl)
    try simp only [Act.put, List.setIfInBounds_toArray, List.set_cons_zero, List.set_cons_succ]
    refine wpAnyH_take (i := 8) (v := ?_) (ops_at rfl) (by kernel_rfl) (by kernel_rfl) (by kernel_rfl) (fun _ _ _ h => h) (Or.inl ⟨by rfl, ?yrx1bz8⟩) (by assumption) ?nrx1bz8
    case yrx1bz8 => (intro wS hSw; (try dsimp only at hSw); go_simp; try rfl)
    try simp only [Act.put, List.setIfInBounds_toArray, List.set_cons_zero, List.set_cons_succ]
    refine wpAnyH_take (i := 9) (v := ?_) (ops_at rfl) (by kernel_rfl) (by kernel_rfl) (by kernel_rfl) (fun _ _ _ h => h) (Or.inl ⟨by rfl, ?yrx1bz9⟩) (by assumption) ?nrx1bz9
    case yrx1bz9 => (intro wS hSw; (try dsimp only at hSw); go_simp; try rfl)
    try simp only [Act.put, List.setIfInBounds_toArray, List.set_cons_zero, List.set_cons_succ]
    refine wpAnyH_done (by kernel_rfl) ?_ _
    obtain rfl : Hn0 = Gn0 := Hl0.symm.trans HY0.out
    clear Hl0
    go_wp2_with fail
    refine (eqIntS_b _ _ _ _ _ _ _ _ _ _ _ HY0.out (by omega) Ho0.seg Wo0_17.seg).mono ?_
    rintro e w18 ⟨rfl, hb18⟩
    have hz18 := hb18.size
    have hB18 : Below w.heap.size w w18 := Below.trans hB17 (hb18.mono (by omega))
    have hs0_18 := hs0_17.below hb18 (by omega)
    clear hs0_17
    have hcz1_18 := (hb18.block _ (by omega)).trans hcz1_17
    clear hcz1_17
    have Wo0_18 := Wo0_17.below hb18 (by omega)
    clear Wo0_17
    have Go0_18 := Go0_17.below hb18 (by omega)
    clear Go0_17
    have Ho0_18 := Ho0.below hb18 (by omega)
    clear Ho0
    go_wp2_with fail
    refine (heldIntS_any _ _ _ _ _ _ _ (by omega) (by omega) (by omega) Go0_18.seg).mono ?_
    rintro e w118 ⟨rfl, rfl⟩
    go_wp2
    go_ret
    exact ⟨rfl, hB18⟩

set_option maxRecDepth 100000 in
theorem lifted (os : Os) (started : os.Started) (H : Type) (enc : TypeId × Value → H) :
    ReturnsInHanded {} Try.checked os 6 .any (Rows.fnExactPackByRatioSpec.pre6 enc Try.prog Try.f6 Rows.fnExactPackByRatioRow.domain false) (Rows.fnExactPackByRatioSpec.post enc Try.prog Try.f6 false true false false) := by
  refine returnsInHanded_of_change (C := Try.checked) own started (by kernel_rfl) Try.func6
    (ChangeSpec.witness6 (enc := enc) (C := Try.checked) false ⟨#[], #[.slice none 0 0, .agg #[.int .i64 0, .int .i64 0]], []⟩ 8 (by kernel_rfl) (by kernel_rfl) (by kernel_rfl) (by kernel_rfl)) ?_
  intro W base args ds gs before hval0 hW hcnd _
  have hval : ∀ (j : Nat) t v, Try.f6.params[j]? = some t → args[j]? = some v → Value.okWide Try.prog W .any base t v := hval0
  have hW' := hW
  obtain ⟨p, q, hA0, hV, rfl, hfz, hnd⟩ := hW
  have hA : DataW.TrodAll enc Try.prog W 0 (fun _ => true) true Try.f6.params.toList args.toList ds p := hA0
  rw [Try.params6] at hA hval
  obtain ⟨v0, vs0, d0, ds0, p0, q0, hargs, rfl, rfl, h0, r0⟩ := trodAll_cons hA
  obtain ⟨v1, vs1, d1, ds1, p1, q1, rfl, rfl, rfl, h1, r1⟩ := trodAll_cons r0
  obtain ⟨rfl, rfl, rfl⟩ := trodAll_nil r1
  obtain rfl : args = #[v0, v1] := by cases args; simp_all
  obtain ⟨rfl, rfl⟩ := trodVars_none hV
  obtain ⟨a0, len0, cap0, rfl⟩ := okWide_slice Try.underlying33 (hval 0 33 v0 rfl rfl)
  have k0 := h0
  have lt0 : ∀ x ∈ p0, x.block < W.heap.size := by obtain ⟨m, hm⟩ := k0; exact DataW.trod_lt m _ _ _ hm
  obtain ⟨m0, z0, n0, s0⟩ : len0 ≤ 9223372036854775807 ∧ ∃ zs : List (Int × Int × Int), zs.length = len0 ∧ Seg W 0 W.heap.size a0 (flat3 zs) := by
    obtain ⟨fuel, hf⟩ := h0
    exact open_items hf
  obtain ⟨u1, u1b, t1, t1b, m1, rfl, rfl, rfl, f1, f1b⟩ := open_agg2 Try.underlying35 (by kernel_rfl) (by kernel_rfl) (hval 1 35 v1 rfl rfl) h1
  obtain ⟨a1, e1, rfl, w1⟩ := DataW.trod_int Try.underlying3 f1
  injection e1 with e1
  subst e1
  obtain ⟨a1b, e1b, rfl, w1b⟩ := DataW.trod_int Try.underlying3 f1b
  injection e1b with e1b
  subst e1b
  clear hA0 hval0
  refine (walk (w := W) m0 n0 s0).mono fun e W' ⟨he, bel⟩ => ?_
  subst he
  exact ⟨_, rfl, _, _, _, [], _, [], hW', trodAll_mk1 (shut_bool Try.underlying4 _), (trodAll_cons_mk (Below.trod laidOut (by kernel_rfl) (of_decide_eq_true (by kernel_rfl)) k0 bel lt0) (trodAll_cons_mk (shut_agg2 Try.underlying35 (by kernel_rfl) (by kernel_rfl) (field_of_Trod (shut_int Try.underlying3 w1) rfl) (field_of_Trod (shut_int Try.underlying3 w1b) rfl)) trodAll_mk0)), rfl, bel.frame _, fun h => by cases h⟩

theorem over : Rows.fnExactPackByRatioRow.holds Try.pinned (OpenSpec.ofChange Rows.fnExactPackByRatioSpec) :=
  OpenClaim.holds_of_wide 6 Try.f6 rfl rfl rfl rfl rfl rfl rfl ⟨rfl, rfl, rfl, rfl, rfl⟩ rfl rfl rfl rfl rfl (by kernel_rfl) Try.func6 (by kernel_rfl)
    (of_decide_eq_true (by kernel_rfl)) (by unfold Func.isWrapper; first | (rw [if_pos (by decide +kernel)]; kernel_rfl) | (rw [if_neg (by decide +kernel)]; exact ⟨rfl, rfl⟩))
    (fun os started H enc _ => lifted os started H enc)

theorem proved : Rows.FnExactPackByRatioSaid := over
#print axioms proved
end LawPackByRatio
end Go.Proofs.Ytjpejhpilfjheab
