/-
  For every list of items, suitcase and list of numbers the law of BestExchange returns true and leaves the lists as they were.
  Conditions: none.
-/
import Derived.Test.YtjpejhpilfjheabSuQs
import Derived.Test.YtjpejhpilfjheabSuQi
import Derived.Test.YtjpejhpilfjheabCopy
import Derived.Test.YtjpejhpilfjheabEq
import Derived.Lib.SmallJoins
import Derived.Deep.RegionHeld3
import Derived.OpenShut
import Derived.ShutString
import Derived.ChangeOld
namespace Go.Proofs.Ytjpejhpilfjheab
namespace LawBestExchange
open Go.ChangeShapes Go.WideShapes Go.ChangeAt Go.RowKit
open Go.ChangeMaps (open_string shut_string)
open Go.Joins (open_agg2 shut_agg2 field_of_Trod)
set_option linter.unusedVariables false

theorem own : ownKnob Try.prog.godebug = none := by kernel_rfl
theorem laidOut : laidOutB Try.prog = true := by kernel_rfl

set_option maxHeartbeats 1000000 in
theorem walk {a0 : Option Addr} {len0 cap0 : Nat} {z0 : List (Int × Int × Int)} {x1 y1 : Int} {a2 : Option Addr} {len2 cap2 : Nat} {z2 : List Int} {w : World} (hm0 : len0 ≤ 9223372036854775807) (hn0 : z0.length = len0) (hs0 : Seg w 0 w.heap.size a0 (flat3 z0)) (hn2 : z2.length = len2) (hs2 : Seg w 0 w.heap.size a2 z2) :
    Calls Try.prog 4 #[.slice a0 len0 cap0, .agg #[.int .i64 x1, .int .i64 y1], .slice a2 len2 cap2] w fun e w' => e = .returned (.bool true) ∧ Below w.heap.size w w' := by
  by_cases hbig2 : 1048576 < len2
  · clear hs0 hn0 hs2 hn2
    go_enter Try.func4, Try.ntmps4
    go_wp2
    go_ret
    exact ⟨rfl, (Below.refl _ _).alloc (Nat.le_refl _) _⟩
  have hlen2 : len2 ≤ 1048576 := by omega
  by_cases hbig0 : 1048576 < len0
  · clear hs0 hn0 hs2 hn2
    go_enter Try.func4, Try.ntmps4
    go_wp2_with fail
    refine (szItemS_big _ _ _ _ hbig0 hm0).mono ?_
    rintro e w0 ⟨rfl, rfl⟩
    go_wp2
    go_ret
    exact ⟨rfl, (Below.refl _ _).alloc (Nat.le_refl _) _⟩
  have hlen0 : len0 ≤ 1048576 := by omega
  have HN0 := Lib.hid hn0
  have HN2 := Lib.hid hn2
  obtain ⟨q, hq⟩ : ∃ q, exQ z0 x1 y1 z2 = q := ⟨_, rfl⟩
  have HQ := Lib.hid hq
  clear hq
  obtain ⟨u, hu⟩ : ∃ u, exU z0 x1 y1 z2 = u := ⟨_, rfl⟩
  have HU := Lib.hid hu
  clear hu
  obtain ⟨v, hv⟩ : ∃ v, exW z0 x1 y1 z2 = v := ⟨_, rfl⟩
  have HV := Lib.hid hv
  clear hv
  cases q
  clear hn0 hn2
  · go_enter Try.func4, Try.ntmps4
    have hb0 : Below w.heap.size w (w.alloc (.cells #[.int .i64 x1, .int .i64 y1] 35)) := ((Below.refl _ _).alloc (Nat.le_refl _) _)
    obtain ⟨W0, hW0⟩ : ∃ W0, (w.alloc (.cells #[.int .i64 x1, .int .i64 y1] 35)) = W0 := ⟨_, rfl⟩
    have hz0 : W0.heap.size = w.heap.size + 1 := by rw [← hW0]; simp
    have hcz1 : W0.heap[w.heap.size]? = some (.cells #[.int .i64 x1, .int .i64 y1] 35 (0, 0)) := by rw [← hW0]; exact new_at _ _ (by simp)
    rw [hW0] at hb0
    have hs0_0 := hs0.below hb0 (by omega)
    clear hs0
    have hs2_0 := hs2.below hb0 (by omega)
    clear hs2
    have HW0 := Lib.hid hW0
    clear hW0
    go_wp2_with fail
    rw [HW0.out]
    refine (szItemS_any _ _ _ _ hlen0).mono ?_
    rintro e w0 ⟨rfl, rfl⟩
    go_wp2_with fail
    refine wp_region_held_drew (S := (fun wq => wq.cell? ⟨w.heap.size, 0, none⟩ = some (.int .i64 x1) ∧ wq.cell? ⟨w.heap.size, 1, none⟩ = some (.int .i64 y1))) (by kernel_rfl) ⟨cell_of hcz1 0, cell_of hcz1 1⟩ (fun hHrx0a => ?_)
    refine wpAnyH_take (i := 0) (v := ?_) (ops_at rfl) (by kernel_rfl) (by kernel_rfl) (by kernel_rfl) (fun _ _ _ h => h) (Or.inl ⟨by rfl, ?yrx0a0⟩) (by assumption) ?nrx0a0
    case yrx0a0 => (intro wS hSw; (try dsimp only at hSw); go_simp; try rfl)
    try simp only [Act.put, List.setIfInBounds_toArray, List.set_cons_zero, List.set_cons_succ]
    refine wpAnyH_take (i := 2) (v := ?_) (ops_at rfl) (by kernel_rfl) (by kernel_rfl) (by kernel_rfl) (fun _ _ _ h => h) (Or.inl ⟨by rfl, ?yrx0a2⟩) (by assumption) ?nrx0a2
    case yrx0a2 => (intro wS hSw; (try dsimp only at hSw); go_simp; try rfl)
    try simp only [Act.put, List.setIfInBounds_toArray, List.set_cons_zero, List.set_cons_succ]
    refine wpAnyH_take (i := 4) (v := ?_) (ops_at rfl) (by kernel_rfl) (by kernel_rfl) (by kernel_rfl) (fun _ _ _ h => h) (Or.inl ⟨by rfl, ?yrx0a4⟩) (by assumption) ?nrx0a4
    case yrx0a4 => (intro wS hSw; (try dsimp only at hSw); go_simp; try rfl)
    try simp only [Act.put, List.setIfInBounds_toArray, List.set_cons_zero, List.set_cons_succ]
    obtain ⟨w1, hw1⟩ : ∃ wz, W0.drew = wz := ⟨_, rfl⟩
    have hb1 : Below W0.heap.size W0 w1 := by rw [← hw1]; exact below_drewN (Below.refl _ _) 1
    rw [hw1] at hHrx0a
    have hw1' := Lib.hid hw1
    clear hw1
    have hz1 := hb1.size
    have hB1 : Below w.heap.size w w1 := Below.trans hb0 (hb1.mono (by omega))
    have hs0_1 := hs0_0.below hb1 (by omega)
    clear hs0_0
    have hs2_1 := hs2_0.below hb1 (by omega)
    clear hs2_0
    have hcz1_1 := (hb1.block _ (by omega)).trans hcz1
    clear hcz1
    refine wpAnyH_ready (rs := [1]) (by kernel_rfl) (by simp) ?_
    refine AllReadyH.cons (ops_at rfl) (fun K hK => ?_) AllReadyH.nil
    go_simp
    rw [hw1'.out]
    refine (toItemS_any _ _ _ z0 w.heap.size _ HN0.out hlen0 hs0_1 (by omega)).mono ?_
    rintro e w2 ⟨rfl, Wc0, hb2⟩
    have hz2 := hb2.size
    have hB2 : Below w.heap.size w w2 := Below.trans hB1 (hb2.mono (by omega))
    have hs0_2 := hs0_1.below hb2 (by omega)
    clear hs0_1
    have hs2_2 := hs2_1.below hb2 (by omega)
    clear hs2_1
    have hcz1_2 := (hb2.block _ (by omega)).trans hcz1_1
    clear hcz1_1
    refine hK.out _ _ ⟨cell_of hcz1_2 0, cell_of hcz1_2 1⟩ (fun hHrx0a1 => ?_)
    clear hK K
    refine wpAnyH_ready (rs := [3]) (by kernel_rfl) (by simp) ?_
    refine AllReadyH.cons (ops_at rfl) (fun K hK => ?_) AllReadyH.nil
    go_simp
    refine (toCase_any _ _ _).mono ?_
    rintro e w3 ⟨rfl, hb3⟩
    have hz3 := hb3.size
    have hB3 : Below w.heap.size w w3 := Below.trans hB2 (hb3.mono (by omega))
    have hs0_3 := hs0_2.below hb3 (by omega)
    clear hs0_2
    have hs2_3 := hs2_2.below hb3 (by omega)
    clear hs2_2
    have hcz1_3 := (hb3.block _ (by omega)).trans hcz1_2
    clear hcz1_2
    have Wc0_3 := Wc0.below hb3 (by omega)
    clear Wc0
    refine hK.out _ _ ⟨cell_of hcz1_3 0, cell_of hcz1_3 1⟩ (fun hHrx0a3 => ?_)
    clear hK K
    refine wpAnyH_ready (rs := [5]) (by kernel_rfl) (by simp) ?_
    refine AllReadyH.cons (ops_at rfl) (fun K hK => ?_) AllReadyH.nil
    go_simp
    refine (toIntS_any _ _ _ z2 w.heap.size _ HN2.out hlen2 hs2_3 (by omega)).mono ?_
    rintro e w4 ⟨rfl, Wc2, hb4⟩
    have hz4 := hb4.size
    have hB4 : Below w.heap.size w w4 := Below.trans hB3 (hb4.mono (by omega))
    have hs0_4 := hs0_3.below hb4 (by omega)
    clear hs0_3
    have hs2_4 := hs2_3.below hb4 (by omega)
    clear hs2_3
    have hcz1_4 := (hb4.block _ (by omega)).trans hcz1_3
    clear hcz1_3
    have Wc0_4 := Wc0_3.below hb4 (by omega)
    clear Wc0_3
    refine hK.out _ _ ⟨cell_of hcz1_4 0, cell_of hcz1_4 1⟩ (fun hHrx0a5 => ?_)
    clear hK K
    refine wpAnyH_ready (rs := [6]) (by kernel_rfl) (by simp) ?_
    refine AllReadyH.cons (ops_at rfl) (fun K hK => ?_) AllReadyH.nil
    go_simp
    refine (spec_BestExchange _ _ _ _ _ x1 y1 z0 z2 _ _ _ _ _ HN0.out hlen0 HN2.out hlen2 Wc0_4.seg (by omega) Wc2.seg (by omega) _ HQ.out _ _ HU.out HV.out).mono ?_
    rintro e w5 ⟨rfl, hb5⟩
    have hz5 := hb5.size
    have hB5 : Below w.heap.size w w5 := Below.trans hB4 (hb5.mono (by omega))
    have hs0_5 := hs0_4.below hb5 (by omega)
    clear hs0_4
    have hs2_5 := hs2_4.below hb5 (by omega)
    clear hs2_4
    have hcz1_5 := (hb5.block _ (by omega)).trans hcz1_4
    clear hcz1_4
    have Wc0_5 := Wc0_4.below hb5 (by omega)
    clear Wc0_4
    have Wc2_5 := Wc2.below hb5 (by omega)
    clear Wc2
    refine hK.out _ _ ⟨cell_of hcz1_5 0, cell_of hcz1_5 1⟩ (fun hHrx0a6 => ?_)
    clear hK K
    refine wpAnyH_take (i := 7) (v := ?_) (ops_at rfl) (by kernel_rfl) (by kernel_rfl) (by kernel_rfl) (fun _ _ _ h => h) (Or.inl ⟨by rfl, ?yrx0az7⟩) (by assumption) ?nrx0az7
    case yrx0az7 => (intro wS hSw; (try dsimp only at hSw); go_simp; try rfl)
    try simp only [Act.put, List.setIfInBounds_toArray, List.set_cons_zero, List.set_cons_succ]
    refine wpAnyH_take (i := 8) (v := ?_) (ops_at rfl) (by kernel_rfl) (by kernel_rfl) (by kernel_rfl) (fun _ _ _ h => h) (Or.inl ⟨by rfl, ?yrx0az8⟩) (by assumption) ?nrx0az8
    case yrx0az8 => (intro wS hSw; (try dsimp only at hSw); go_simp; try rfl)
    try simp only [Act.put, List.setIfInBounds_toArray, List.set_cons_zero, List.set_cons_succ]
    refine wpAnyH_take (i := 9) (v := ?_) (ops_at rfl) (by kernel_rfl) (by kernel_rfl) (by kernel_rfl) (fun _ _ _ h => h) (Or.inl ⟨by rfl, ?yrx0az9⟩) (by assumption) ?nrx0az9
    case yrx0az9 => (intro wS hSw; (try dsimp only at hSw); go_simp; try rfl)
    try simp only [Act.put, List.setIfInBounds_toArray, List.set_cons_zero, List.set_cons_succ]
    refine wpAnyH_take (i := 10) (v := ?_) (ops_at rfl) (by kernel_rfl) (by kernel_rfl) (by kernel_rfl) (fun _ _ _ h => h) (Or.inl ⟨by rfl, ?yrx0az10⟩) (by assumption) ?nrx0az10
    case yrx0az10 => (intro wS hSw; (try dsimp only at hSw); go_simp; try rfl)
    try simp only [Act.put, List.setIfInBounds_toArray, List.set_cons_zero, List.set_cons_succ]
    refine wpAnyH_take (i := 11) (v := ?_) (ops_at rfl) (by kernel_rfl) (by kernel_rfl) (by kernel_rfl) (fun _ _ _ h => h) (Or.inl ⟨by rfl, ?yrx0az11⟩) (by assumption) ?nrx0az11
    case yrx0az11 => (intro wS hSw; (try dsimp only at hSw); go_simp; try rfl)
    try simp only [Act.put, List.setIfInBounds_toArray, List.set_cons_zero, List.set_cons_succ]
    refine wpAnyH_take (i := 12) (v := ?_) (ops_at rfl) (by kernel_rfl) (by kernel_rfl) (by kernel_rfl) (fun _ _ _ h => h) (Or.inl ⟨by rfl, ?yrx0az12⟩) (by assumption) ?nrx0az12
    case yrx0az12 => (intro wS hSw; (try dsimp only at hSw); go_simp; try rfl)
    try simp only [Act.put, List.setIfInBounds_toArray, List.set_cons_zero, List.set_cons_succ]
    refine wpAnyH_take (i := 13) (v := ?_) (ops_at rfl) (by kernel_rfl) (by kernel_rfl) (by kernel_rfl) (fun _ _ _ h => h) (Or.inl ⟨by rfl, ?yrx0az13⟩) (by assumption) ?nrx0az13
    case yrx0az13 => (intro wS hSw; (try dsimp only at hSw); go_simp; try rfl)
    try simp only [Act.put, List.setIfInBounds_toArray, List.set_cons_zero, List.set_cons_succ]
    refine wpAnyH_done (by kernel_rfl) ?_ _
    go_wp2_with fail
    refine (toItemS_any _ _ _ z0 w.heap.size _ HN0.out hlen0 hs0_5 (by omega)).mono ?_
    rintro e w6 ⟨rfl, X0, hb6⟩
    have hz6 := hb6.size
    have hB6 : Below w.heap.size w w6 := Below.trans hB5 (hb6.mono (by omega))
    have hs0_6 := hs0_5.below hb6 (by omega)
    clear hs0_5
    have hs2_6 := hs2_5.below hb6 (by omega)
    clear hs2_5
    have hcz1_6 := (hb6.block _ (by omega)).trans hcz1_5
    clear hcz1_5
    go_wp2_with fail
    refine (toIntS_any _ _ _ z2 w.heap.size _ HN2.out hlen2 hs2_6 (by omega)).mono ?_
    rintro e w7 ⟨rfl, X2, hb7⟩
    have hz7 := hb7.size
    have hB7 : Below w.heap.size w w7 := Below.trans hB6 (hb7.mono (by omega))
    have hs0_7 := hs0_6.below hb7 (by omega)
    clear hs0_6
    have hs2_7 := hs2_6.below hb7 (by omega)
    clear hs2_6
    have hcz1_7 := (hb7.block _ (by omega)).trans hcz1_6
    clear hcz1_6
    have X0_7 := X0.below hb7 (by omega)
    clear X0
    have kc0 := cell_of hcz1_7 0
    have kc1 := cell_of hcz1_7 1
    go_wp2_with fail
    refine (toCase_any _ _ _).mono ?_
    rintro e w8 ⟨rfl, hb8⟩
    have hz8 := hb8.size
    have hB8 : Below w.heap.size w w8 := Below.trans hB7 (hb8.mono (by omega))
    have hs0_8 := hs0_7.below hb8 (by omega)
    clear hs0_7
    have hs2_8 := hs2_7.below hb8 (by omega)
    clear hs2_7
    have hcz1_8 := (hb8.block _ (by omega)).trans hcz1_7
    clear hcz1_7
    have X0_8 := X0_7.below hb8 (by omega)
    clear X0_7
    have X2_8 := X2.below hb8 (by omega)
    clear X2
    clear kc0 kc1
    go_wp2_with fail
    refine (impl_BestExchange _ _ _ _ _ _ x1 y1 z0 z2 _ _ _ _ _ HN0.out hlen0 HN2.out hlen2 X0_8.seg (by omega) X2_8.seg (by omega) _ HQ.out _ _ HU.out HV.out).mono ?_
    rintro e w9 ⟨rfl, hb9⟩
    have hz9 := hb9.size
    have hB9 : Below w.heap.size w w9 := Below.trans hB8 (hb9.mono (by omega))
    have hs0_9 := hs0_8.below hb9 (by omega)
    clear hs0_8
    have hs2_9 := hs2_8.below hb9 (by omega)
    clear hs2_8
    have hcz1_9 := (hb9.block _ (by omega)).trans hcz1_8
    clear hcz1_8
    have X0_9 := X0_8.below hb9 (by omega)
    clear X0_8
    have X2_9 := X2_8.below hb9 (by omega)
    clear X2_8
    go_wp2_with fail
    refine (toItemS_any _ _ _ z0 w.heap.size _ HN0.out hlen0 hs0_9 (by omega)).mono ?_
    rintro e w10 ⟨rfl, cb0, hb10⟩
    have hz10 := hb10.size
    have hB10 : Below w.heap.size w w10 := Below.trans hB9 (hb10.mono (by omega))
    have hs0_10 := hs0_9.below hb10 (by omega)
    clear hs0_9
    have hs2_10 := hs2_9.below hb10 (by omega)
    clear hs2_9
    have hcz1_10 := (hb10.block _ (by omega)).trans hcz1_9
    clear hcz1_9
    have X0_10 := X0_9.below hb10 (by omega)
    clear X0_9
    have X2_10 := X2_9.below hb10 (by omega)
    clear X2_9
    go_wp2_with fail
    refine (eqItemS_b _ _ _ _ _ z0 _ _ _ _ _ HN0.out hlen0 X0_10.seg cb0.seg (by omega) (by omega)).mono ?_
    rintro e w11 ⟨rfl, hb11⟩
    have hz11 := hb11.size
    have hB11 : Below w.heap.size w w11 := Below.trans hB10 (hb11.mono (by omega))
    have hs0_11 := hs0_10.below hb11 (by omega)
    clear hs0_10
    have hs2_11 := hs2_10.below hb11 (by omega)
    clear hs2_10
    have hcz1_11 := (hb11.block _ (by omega)).trans hcz1_10
    clear hcz1_10
    have X0_11 := X0_10.below hb11 (by omega)
    clear X0_10
    have X2_11 := X2_10.below hb11 (by omega)
    clear X2_10
    have cb0_11 := cb0.below hb11 (by omega)
    clear cb0
    go_wp2_with fail
    refine (toIntS_any _ _ _ z2 w.heap.size _ HN2.out hlen2 hs2_11 (by omega)).mono ?_
    rintro e w12 ⟨rfl, cb2, hb12⟩
    have hz12 := hb12.size
    have hB12 : Below w.heap.size w w12 := Below.trans hB11 (hb12.mono (by omega))
    have hs0_12 := hs0_11.below hb12 (by omega)
    clear hs0_11
    have hs2_12 := hs2_11.below hb12 (by omega)
    clear hs2_11
    have hcz1_12 := (hb12.block _ (by omega)).trans hcz1_11
    clear hcz1_11
    have X0_12 := X0_11.below hb12 (by omega)
    clear X0_11
    have X2_12 := X2_11.below hb12 (by omega)
    clear X2_11
    go_wp2_with fail
    refine (eqIntS_b _ _ _ _ _ z2 _ _ _ _ _ HN2.out hlen2 X2_12.seg cb2.seg).mono ?_
    rintro e w13 ⟨rfl, hb13⟩
    have hz13 := hb13.size
    have hB13 : Below w.heap.size w w13 := Below.trans hB12 (hb13.mono (by omega))
    have hs0_13 := hs0_12.below hb13 (by omega)
    clear hs0_12
    have hs2_13 := hs2_12.below hb13 (by omega)
    clear hs2_12
    have hcz1_13 := (hb13.block _ (by omega)).trans hcz1_12
    clear hcz1_12
    have X0_13 := X0_12.below hb13 (by omega)
    clear X0_12
    have X2_13 := X2_12.below hb13 (by omega)
    clear X2_12
    have cb2_13 := cb2.below hb13 (by omega)
    clear cb2
    go_wp2
    go_ret
    exact ⟨rfl, hB13⟩
  · go_enter Try.func4, Try.ntmps4
    have hb0 : Below w.heap.size w (w.alloc (.cells #[.int .i64 x1, .int .i64 y1] 35)) := ((Below.refl _ _).alloc (Nat.le_refl _) _)
    obtain ⟨W0, hW0⟩ : ∃ W0, (w.alloc (.cells #[.int .i64 x1, .int .i64 y1] 35)) = W0 := ⟨_, rfl⟩
    have hz0 : W0.heap.size = w.heap.size + 1 := by rw [← hW0]; simp
    have hcz1 : W0.heap[w.heap.size]? = some (.cells #[.int .i64 x1, .int .i64 y1] 35 (0, 0)) := by rw [← hW0]; exact new_at _ _ (by simp)
    rw [hW0] at hb0
    have hs0_0 := hs0.below hb0 (by omega)
    clear hs0
    have hs2_0 := hs2.below hb0 (by omega)
    clear hs2
    have HW0 := Lib.hid hW0
    clear hW0
    go_wp2_with fail
    rw [HW0.out]
    refine (szItemS_any _ _ _ _ hlen0).mono ?_
    rintro e w0 ⟨rfl, rfl⟩
    go_wp2_with fail
    refine wp_region_held_drew (S := (fun wq => wq.cell? ⟨w.heap.size, 0, none⟩ = some (.int .i64 x1) ∧ wq.cell? ⟨w.heap.size, 1, none⟩ = some (.int .i64 y1))) (by kernel_rfl) ⟨cell_of hcz1 0, cell_of hcz1 1⟩ (fun hHrx1a => ?_)
    refine wpAnyH_take (i := 0) (v := ?_) (ops_at rfl) (by kernel_rfl) (by kernel_rfl) (by kernel_rfl) (fun _ _ _ h => h) (Or.inl ⟨by rfl, ?yrx1a0⟩) (by assumption) ?nrx1a0
    case yrx1a0 => (intro wS hSw; (try dsimp only at hSw); go_simp; try rfl)
    try simp only [Act.put, List.setIfInBounds_toArray, List.set_cons_zero, List.set_cons_succ]
    refine wpAnyH_take (i := 2) (v := ?_) (ops_at rfl) (by kernel_rfl) (by kernel_rfl) (by kernel_rfl) (fun _ _ _ h => h) (Or.inl ⟨by rfl, ?yrx1a2⟩) (by assumption) ?nrx1a2
    case yrx1a2 => (intro wS hSw; (try dsimp only at hSw); go_simp; try rfl)
    try simp only [Act.put, List.setIfInBounds_toArray, List.set_cons_zero, List.set_cons_succ]
    refine wpAnyH_take (i := 4) (v := ?_) (ops_at rfl) (by kernel_rfl) (by kernel_rfl) (by kernel_rfl) (fun _ _ _ h => h) (Or.inl ⟨by rfl, ?yrx1a4⟩) (by assumption) ?nrx1a4
    case yrx1a4 => (intro wS hSw; (try dsimp only at hSw); go_simp; try rfl)
    try simp only [Act.put, List.setIfInBounds_toArray, List.set_cons_zero, List.set_cons_succ]
    obtain ⟨w1, hw1⟩ : ∃ wz, W0.drew = wz := ⟨_, rfl⟩
    have hb1 : Below W0.heap.size W0 w1 := by rw [← hw1]; exact below_drewN (Below.refl _ _) 1
    rw [hw1] at hHrx1a
    have hw1' := Lib.hid hw1
    clear hw1
    have hz1 := hb1.size
    have hB1 : Below w.heap.size w w1 := Below.trans hb0 (hb1.mono (by omega))
    have hs0_1 := hs0_0.below hb1 (by omega)
    clear hs0_0
    have hs2_1 := hs2_0.below hb1 (by omega)
    clear hs2_0
    have hcz1_1 := (hb1.block _ (by omega)).trans hcz1
    clear hcz1
    refine wpAnyH_ready (rs := [1]) (by kernel_rfl) (by simp) ?_
    refine AllReadyH.cons (ops_at rfl) (fun K hK => ?_) AllReadyH.nil
    go_simp
    rw [hw1'.out]
    refine (toItemS_any _ _ _ z0 w.heap.size _ HN0.out hlen0 hs0_1 (by omega)).mono ?_
    rintro e w2 ⟨rfl, Wc0, hb2⟩
    have hz2 := hb2.size
    have hB2 : Below w.heap.size w w2 := Below.trans hB1 (hb2.mono (by omega))
    have hs0_2 := hs0_1.below hb2 (by omega)
    clear hs0_1
    have hs2_2 := hs2_1.below hb2 (by omega)
    clear hs2_1
    have hcz1_2 := (hb2.block _ (by omega)).trans hcz1_1
    clear hcz1_1
    refine hK.out _ _ ⟨cell_of hcz1_2 0, cell_of hcz1_2 1⟩ (fun hHrx1a1 => ?_)
    clear hK K
    refine wpAnyH_ready (rs := [3]) (by kernel_rfl) (by simp) ?_
    refine AllReadyH.cons (ops_at rfl) (fun K hK => ?_) AllReadyH.nil
    go_simp
    refine (toCase_any _ _ _).mono ?_
    rintro e w3 ⟨rfl, hb3⟩
    have hz3 := hb3.size
    have hB3 : Below w.heap.size w w3 := Below.trans hB2 (hb3.mono (by omega))
    have hs0_3 := hs0_2.below hb3 (by omega)
    clear hs0_2
    have hs2_3 := hs2_2.below hb3 (by omega)
    clear hs2_2
    have hcz1_3 := (hb3.block _ (by omega)).trans hcz1_2
    clear hcz1_2
    have Wc0_3 := Wc0.below hb3 (by omega)
    clear Wc0
    refine hK.out _ _ ⟨cell_of hcz1_3 0, cell_of hcz1_3 1⟩ (fun hHrx1a3 => ?_)
    clear hK K
    refine wpAnyH_ready (rs := [5]) (by kernel_rfl) (by simp) ?_
    refine AllReadyH.cons (ops_at rfl) (fun K hK => ?_) AllReadyH.nil
    go_simp
    refine (toIntS_any _ _ _ z2 w.heap.size _ HN2.out hlen2 hs2_3 (by omega)).mono ?_
    rintro e w4 ⟨rfl, Wc2, hb4⟩
    have hz4 := hb4.size
    have hB4 : Below w.heap.size w w4 := Below.trans hB3 (hb4.mono (by omega))
    have hs0_4 := hs0_3.below hb4 (by omega)
    clear hs0_3
    have hs2_4 := hs2_3.below hb4 (by omega)
    clear hs2_3
    have hcz1_4 := (hb4.block _ (by omega)).trans hcz1_3
    clear hcz1_3
    have Wc0_4 := Wc0_3.below hb4 (by omega)
    clear Wc0_3
    refine hK.out _ _ ⟨cell_of hcz1_4 0, cell_of hcz1_4 1⟩ (fun hHrx1a5 => ?_)
    clear hK K
    refine wpAnyH_ready (rs := [6]) (by kernel_rfl) (by simp) ?_
    refine AllReadyH.cons (ops_at rfl) (fun K hK => ?_) AllReadyH.nil
    go_simp
    refine (spec_BestExchange _ _ _ _ _ x1 y1 z0 z2 _ _ _ _ _ HN0.out hlen0 HN2.out hlen2 Wc0_4.seg (by omega) Wc2.seg (by omega) _ HQ.out _ _ HU.out HV.out).mono ?_
    rintro e w5 ⟨rfl, hb5⟩
    have hz5 := hb5.size
    have hB5 : Below w.heap.size w w5 := Below.trans hB4 (hb5.mono (by omega))
    have hs0_5 := hs0_4.below hb5 (by omega)
    clear hs0_4
    have hs2_5 := hs2_4.below hb5 (by omega)
    clear hs2_4
    have hcz1_5 := (hb5.block _ (by omega)).trans hcz1_4
    clear hcz1_4
    have Wc0_5 := Wc0_4.below hb5 (by omega)
    clear Wc0_4
    have Wc2_5 := Wc2.below hb5 (by omega)
    clear Wc2
    refine hK.out _ _ ⟨cell_of hcz1_5 0, cell_of hcz1_5 1⟩ (fun hHrx1a6 => ?_)
    clear hK K
    refine wpAnyH_take (i := 7) (v := ?_) (ops_at rfl) (by kernel_rfl) (by kernel_rfl) (by kernel_rfl) (fun _ _ _ h => h) (Or.inl ⟨by rfl, ?yrx1az7⟩) (by assumption) ?nrx1az7
    case yrx1az7 => (intro wS hSw; (try dsimp only at hSw); go_simp; try rfl)
    try simp only [Act.put, List.setIfInBounds_toArray, List.set_cons_zero, List.set_cons_succ]
    refine wpAnyH_take (i := 8) (v := ?_) (ops_at rfl) (by kernel_rfl) (by kernel_rfl) (by kernel_rfl) (fun _ _ _ h => h) (Or.inl ⟨by rfl, ?yrx1az8⟩) (by assumption) ?nrx1az8
    case yrx1az8 => (intro wS hSw; (try dsimp only at hSw); go_simp; try rfl)
    try simp only [Act.put, List.setIfInBounds_toArray, List.set_cons_zero, List.set_cons_succ]
    refine wpAnyH_take (i := 9) (v := ?_) (ops_at rfl) (by kernel_rfl) (by kernel_rfl) (by kernel_rfl) (fun _ _ _ h => h) (Or.inl ⟨by rfl, ?yrx1az9⟩) (by assumption) ?nrx1az9
    case yrx1az9 => (intro wS hSw; (try dsimp only at hSw); go_simp; try rfl)
    try simp only [Act.put, List.setIfInBounds_toArray, List.set_cons_zero, List.set_cons_succ]
    refine wpAnyH_take (i := 10) (v := ?_) (ops_at rfl) (by kernel_rfl) (by kernel_rfl) (by kernel_rfl) (fun _ _ _ h => h) (Or.inl ⟨by rfl, ?yrx1az10⟩) (by assumption) ?nrx1az10
    case yrx1az10 => (intro wS hSw; (try dsimp only at hSw); go_simp; try rfl)
    try simp only [Act.put, List.setIfInBounds_toArray, List.set_cons_zero, List.set_cons_succ]
    refine wpAnyH_take (i := 11) (v := ?_) (ops_at rfl) (by kernel_rfl) (by kernel_rfl) (by kernel_rfl) (fun _ _ _ h => h) (Or.inl ⟨by rfl, ?yrx1az11⟩) (by assumption) ?nrx1az11
    case yrx1az11 => (intro wS hSw; (try dsimp only at hSw); go_simp; try rfl)
    try simp only [Act.put, List.setIfInBounds_toArray, List.set_cons_zero, List.set_cons_succ]
    refine wpAnyH_take (i := 12) (v := ?_) (ops_at rfl) (by kernel_rfl) (by kernel_rfl) (by kernel_rfl) (fun _ _ _ h => h) (Or.inl ⟨by rfl, ?yrx1az12⟩) (by assumption) ?nrx1az12
    case yrx1az12 => (intro wS hSw; (try dsimp only at hSw); go_simp; try rfl)
    try simp only [Act.put, List.setIfInBounds_toArray, List.set_cons_zero, List.set_cons_succ]
    refine wpAnyH_take (i := 13) (v := ?_) (ops_at rfl) (by kernel_rfl) (by kernel_rfl) (by kernel_rfl) (fun _ _ _ h => h) (Or.inl ⟨by rfl, ?yrx1az13⟩) (by assumption) ?nrx1az13
    case yrx1az13 => (intro wS hSw; (try dsimp only at hSw); go_simp; try rfl)
    try simp only [Act.put, List.setIfInBounds_toArray, List.set_cons_zero, List.set_cons_succ]
    refine wpAnyH_done (by kernel_rfl) ?_ _
    go_wp2_with fail
    refine (toItemS_any _ _ _ z0 w.heap.size _ HN0.out hlen0 hs0_5 (by omega)).mono ?_
    rintro e w6 ⟨rfl, X0, hb6⟩
    have hz6 := hb6.size
    have hB6 : Below w.heap.size w w6 := Below.trans hB5 (hb6.mono (by omega))
    have hs0_6 := hs0_5.below hb6 (by omega)
    clear hs0_5
    have hs2_6 := hs2_5.below hb6 (by omega)
    clear hs2_5
    have hcz1_6 := (hb6.block _ (by omega)).trans hcz1_5
    clear hcz1_5
    go_wp2_with fail
    refine (toIntS_any _ _ _ z2 w.heap.size _ HN2.out hlen2 hs2_6 (by omega)).mono ?_
    rintro e w7 ⟨rfl, X2, hb7⟩
    have hz7 := hb7.size
    have hB7 : Below w.heap.size w w7 := Below.trans hB6 (hb7.mono (by omega))
    have hs0_7 := hs0_6.below hb7 (by omega)
    clear hs0_6
    have hs2_7 := hs2_6.below hb7 (by omega)
    clear hs2_6
    have hcz1_7 := (hb7.block _ (by omega)).trans hcz1_6
    clear hcz1_6
    have X0_7 := X0.below hb7 (by omega)
    clear X0
    have kc0 := cell_of hcz1_7 0
    have kc1 := cell_of hcz1_7 1
    go_wp2_with fail
    refine (toCase_any _ _ _).mono ?_
    rintro e w8 ⟨rfl, hb8⟩
    have hz8 := hb8.size
    have hB8 : Below w.heap.size w w8 := Below.trans hB7 (hb8.mono (by omega))
    have hs0_8 := hs0_7.below hb8 (by omega)
    clear hs0_7
    have hs2_8 := hs2_7.below hb8 (by omega)
    clear hs2_7
    have hcz1_8 := (hb8.block _ (by omega)).trans hcz1_7
    clear hcz1_7
    have X0_8 := X0_7.below hb8 (by omega)
    clear X0_7
    have X2_8 := X2.below hb8 (by omega)
    clear X2
    clear kc0 kc1
    go_wp2_with fail
    refine (impl_BestExchange _ _ _ _ _ _ x1 y1 z0 z2 _ _ _ _ _ HN0.out hlen0 HN2.out hlen2 X0_8.seg (by omega) X2_8.seg (by omega) _ HQ.out _ _ HU.out HV.out).mono ?_
    rintro e w9 ⟨rfl, hb9⟩
    have hz9 := hb9.size
    have hB9 : Below w.heap.size w w9 := Below.trans hB8 (hb9.mono (by omega))
    have hs0_9 := hs0_8.below hb9 (by omega)
    clear hs0_8
    have hs2_9 := hs2_8.below hb9 (by omega)
    clear hs2_8
    have hcz1_9 := (hb9.block _ (by omega)).trans hcz1_8
    clear hcz1_8
    have X0_9 := X0_8.below hb9 (by omega)
    clear X0_8
    have X2_9 := X2_8.below hb9 (by omega)
    clear X2_8
    go_wp2_with fail
    refine (toItemS_any _ _ _ z0 w.heap.size _ HN0.out hlen0 hs0_9 (by omega)).mono ?_
    rintro e w10 ⟨rfl, cb0, hb10⟩
    have hz10 := hb10.size
    have hB10 : Below w.heap.size w w10 := Below.trans hB9 (hb10.mono (by omega))
    have hs0_10 := hs0_9.below hb10 (by omega)
    clear hs0_9
    have hs2_10 := hs2_9.below hb10 (by omega)
    clear hs2_9
    have hcz1_10 := (hb10.block _ (by omega)).trans hcz1_9
    clear hcz1_9
    have X0_10 := X0_9.below hb10 (by omega)
    clear X0_9
    have X2_10 := X2_9.below hb10 (by omega)
    clear X2_9
    go_wp2_with fail
    refine (eqItemS_b _ _ _ _ _ z0 _ _ _ _ _ HN0.out hlen0 X0_10.seg cb0.seg (by omega) (by omega)).mono ?_
    rintro e w11 ⟨rfl, hb11⟩
    have hz11 := hb11.size
    have hB11 : Below w.heap.size w w11 := Below.trans hB10 (hb11.mono (by omega))
    have hs0_11 := hs0_10.below hb11 (by omega)
    clear hs0_10
    have hs2_11 := hs2_10.below hb11 (by omega)
    clear hs2_10
    have hcz1_11 := (hb11.block _ (by omega)).trans hcz1_10
    clear hcz1_10
    have X0_11 := X0_10.below hb11 (by omega)
    clear X0_10
    have X2_11 := X2_10.below hb11 (by omega)
    clear X2_10
    have cb0_11 := cb0.below hb11 (by omega)
    clear cb0
    go_wp2_with fail
    refine (toIntS_any _ _ _ z2 w.heap.size _ HN2.out hlen2 hs2_11 (by omega)).mono ?_
    rintro e w12 ⟨rfl, cb2, hb12⟩
    have hz12 := hb12.size
    have hB12 : Below w.heap.size w w12 := Below.trans hB11 (hb12.mono (by omega))
    have hs0_12 := hs0_11.below hb12 (by omega)
    clear hs0_11
    have hs2_12 := hs2_11.below hb12 (by omega)
    clear hs2_11
    have hcz1_12 := (hb12.block _ (by omega)).trans hcz1_11
    clear hcz1_11
    have X0_12 := X0_11.below hb12 (by omega)
    clear X0_11
    have X2_12 := X2_11.below hb12 (by omega)
    clear X2_11
    go_wp2_with fail
    refine (eqIntS_b _ _ _ _ _ z2 _ _ _ _ _ HN2.out hlen2 X2_12.seg cb2.seg).mono ?_
    rintro e w13 ⟨rfl, hb13⟩
    have hz13 := hb13.size
    have hB13 : Below w.heap.size w w13 := Below.trans hB12 (hb13.mono (by omega))
    have hs0_13 := hs0_12.below hb13 (by omega)
    clear hs0_12
    have hs2_13 := hs2_12.below hb13 (by omega)
    clear hs2_12
    have hcz1_13 := (hb13.block _ (by omega)).trans hcz1_12
    clear hcz1_12
    have X0_13 := X0_12.below hb13 (by omega)
    clear X0_12
    have X2_13 := X2_12.below hb13 (by omega)
    clear X2_12
    have cb2_13 := cb2.below hb13 (by omega)
    clear cb2
    go_wp2
    go_ret
    exact ⟨rfl, hB13⟩

set_option maxRecDepth 100000 in
theorem lifted (os : Os) (started : os.Started) (H : Type) (enc : TypeId × Value → H) :
    ReturnsInHanded {} Try.checked os 4 .any (Rows.fnExactBestExchangeSpec.pre6 enc Try.prog Try.f4 Rows.fnExactBestExchangeRow.domain false) (Rows.fnExactBestExchangeSpec.post enc Try.prog Try.f4 false true false false) := by
  refine returnsInHanded_of_change (C := Try.checked) own started (by kernel_rfl) Try.func4
    (ChangeSpec.witness6 (enc := enc) (C := Try.checked) false ⟨#[], #[.slice none 0 0, .agg #[.int .i64 0, .int .i64 0], .slice none 0 0], []⟩ 8 (by kernel_rfl) (by kernel_rfl) (by kernel_rfl) (by kernel_rfl)) ?_
  intro W base args ds gs before hval0 hW hcnd _
  have hval : ∀ (j : Nat) t v, Try.f4.params[j]? = some t → args[j]? = some v → Value.okWide Try.prog W .any base t v := hval0
  have hW' := hW
  obtain ⟨p, q, hA0, hV, rfl, hfz, hnd⟩ := hW
  have hA : DataW.TrodAll enc Try.prog W 0 (fun _ => true) true Try.f4.params.toList args.toList ds p := hA0
  rw [Try.params4] at hA hval
  obtain ⟨v0, vs0, d0, ds0, p0, q0, hargs, rfl, rfl, h0, r0⟩ := trodAll_cons hA
  obtain ⟨v1, vs1, d1, ds1, p1, q1, rfl, rfl, rfl, h1, r1⟩ := trodAll_cons r0
  obtain ⟨v2, vs2, d2, ds2, p2, q2, rfl, rfl, rfl, h2, r2⟩ := trodAll_cons r1
  obtain ⟨rfl, rfl, rfl⟩ := trodAll_nil r2
  obtain rfl : args = #[v0, v1, v2] := by cases args; simp_all
  obtain ⟨rfl, rfl⟩ := trodVars_none hV
  obtain ⟨a0, len0, cap0, rfl⟩ := okWide_slice Try.underlying33 (hval 0 33 v0 rfl rfl)
  have k0 := h0
  have lt0 : ∀ x ∈ p0, x.block < W.heap.size := by obtain ⟨m, hm⟩ := k0; exact DataW.trod_lt m _ _ _ hm
  obtain ⟨m0, z0, n0, s0⟩ : len0 ≤ 9223372036854775807 ∧ ∃ zs : List (Int × Int × Int), zs.length = len0 ∧ Seg W 0 W.heap.size a0 (flat3 zs) := by
    obtain ⟨fuel, hf⟩ := h0
    exact open_items hf
  obtain ⟨u1, u1b, t1, t1b, m1, rfl, rfl, rfl, f1, f1b⟩ := open_agg2 Try.underlying35 (by kernel_rfl) (by kernel_rfl) (hval 1 35 v1 rfl rfl) h1
  obtain ⟨a1, e1, rfl, w1⟩ := DataW.trod_int Try.underlying3 f1
  injection e1 with e1
  subst e1
  obtain ⟨a1b, e1b, rfl, w1b⟩ := DataW.trod_int Try.underlying3 f1b
  injection e1b with e1b
  subst e1b
  obtain ⟨a2, len2, cap2, rfl⟩ := okWide_slice Try.underlying22 (hval 2 22 v2 rfl rfl)
  have k2 := h2
  have lt2 : ∀ x ∈ p2, x.block < W.heap.size := by obtain ⟨m, hm⟩ := k2; exact DataW.trod_lt m _ _ _ hm
  obtain ⟨z2, n2, s2⟩ : ∃ zs : List Int, zs.length = len2 ∧ Seg W 0 W.heap.size a2 zs := by
    obtain ⟨fuel, hf⟩ := h2
    rcases open_ints Try.underlying22 Try.underlying3 (by kernel_rfl) hf with ⟨hcs, _⟩ | ⟨x, l, c, zs, hcs, _, hl, hm, hz, _, hcell, hwz⟩
    · simp [Value.cells] at hcs
      obtain ⟨rfl, rfl, rfl⟩ := hcs
      exact ⟨[], rfl, .inl rfl⟩
    · simp [Value.cells] at hcs
      obtain ⟨rfl, rfl, rfl⟩ := hcs
      exact ⟨zs.take _, by rw [List.length_take, Nat.min_eq_left]; simp at hz; omega, seg_of hl (by simpa using hz) hcell⟩
  clear hA0 hval0
  refine (walk (w := W) m0 n0 s0 n2 s2).mono fun e W' ⟨he, bel⟩ => ?_
  subst he
  exact ⟨_, rfl, _, _, _, [], _, [], hW', trodAll_mk1 (shut_bool Try.underlying4 _), (trodAll_cons_mk (Below.trod laidOut (by kernel_rfl) (of_decide_eq_true (by kernel_rfl)) k0 bel lt0) (trodAll_cons_mk (shut_agg2 Try.underlying35 (by kernel_rfl) (by kernel_rfl) (field_of_Trod (shut_int Try.underlying3 w1) rfl) (field_of_Trod (shut_int Try.underlying3 w1b) rfl)) (trodAll_cons_mk (Below.trod laidOut (by kernel_rfl) (of_decide_eq_true (by kernel_rfl)) k2 bel lt2) trodAll_mk0))), rfl, bel.frame _, fun h => by cases h⟩

theorem over : Rows.fnExactBestExchangeRow.holds Try.pinned (OpenSpec.ofChange Rows.fnExactBestExchangeSpec) :=
  OpenClaim.holds_of_wide 4 Try.f4 rfl rfl rfl rfl rfl rfl rfl ⟨rfl, rfl, rfl, rfl, rfl⟩ rfl rfl rfl rfl rfl (by kernel_rfl) Try.func4 (by kernel_rfl)
    (of_decide_eq_true (by kernel_rfl)) (by unfold Func.isWrapper; first | (rw [if_pos (by decide +kernel)]; kernel_rfl) | (rw [if_neg (by decide +kernel)]; exact ⟨rfl, rfl⟩))
    (fun os started H enc _ => lifted os started H enc)

theorem proved : Rows.FnExactBestExchangeSaid := over
#print axioms proved
end LawBestExchange
end Go.Proofs.Ytjpejhpilfjheab
