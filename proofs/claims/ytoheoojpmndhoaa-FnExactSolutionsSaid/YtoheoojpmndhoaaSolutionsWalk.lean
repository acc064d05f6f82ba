/-
  For every puzzle the law of Solutions returns true and leaves the puzzle as it was.
  Conditions: none.
-/
import Derived.Test.YtoheoojpmndhoaaPuz
import Derived.Test.YtoheoojpmndhoaaPzSn
import Derived.Test.YtoheoojpmndhoaaOnlyG
import Derived.Test.YtoheoojpmndhoaaCopy
import Derived.Test.YtoheoojpmndhoaaEq
import Derived.Lib.SmallJoins
import Derived.Deep.RegionHeld3
import Derived.OpenShut
import Derived.ShutString
import Derived.ChangeOld
namespace Go.Proofs.Ytoheoojpmndhoaa
namespace LawSolutions
open Go.ChangeShapes Go.WideShapes Go.ChangeAt Go.RowKit
open Go.Joins (open_agg2 open_agg4)
set_option linter.unusedVariables false
set_option linter.unusedSimpArgs false

theorem own : ownKnob Try.prog.godebug = none := by kernel_rfl
theorem laidOut : laidOutB Try.prog = true := by kernel_rfl

set_option maxHeartbeats 2000000 in
set_option maxRecDepth 100000 in
theorem walk {t0 : Int} {a0 : Option Addr} {len0 cap0 : Nat} {z0 : List Clu} {w : World} (ht0 : -9223372036854775808 ≤ t0 ∧ t0 ≤ 9223372036854775807) (hm0 : len0 ≤ 9223372036854775807) (hn0 : z0.length = len0) (hs0 : Seg w 0 w.heap.size a0 (flat4 z0)) :
    Calls Try.prog 6 #[pzV t0 a0 len0 cap0] w fun e w' => e = .returned (.bool true) ∧ Below w.heap.size w w' := by
  by_cases hbig0 : 1048576 < len0
  · clear hs0 hn0
    go_enter Try.func6, Try.ntmps6
    go_wp2_with fail
    refine (szPuzzle_big _ _ _ _ _ hbig0 hm0).mono ?_
    rintro e w0 ⟨rfl, hb0⟩
    go_wp2
    go_ret
    exact ⟨rfl, ((Below.refl _ _).alloc (Nat.le_refl _) _).trans (hb0.mono (by simp <;> omega))⟩
  have hlen0 : len0 ≤ 1048576 := by omega
  have HN0 := Lib.hid hn0
  have HNC := Nat.le_refl len0
  obtain ⟨q, hq⟩ : ∃ q, puzB t0 z0 = q := ⟨_, rfl⟩
  have HQ := Lib.hid hq
  clear hq
  obtain ⟨hsb1, hsb2⟩ := solsB HQ.out
  have HZN := Lib.hid (show ∀ ys ∈ (someSS q (solF toldV t0.toNat z0)), ys.length ≤ 1048576 from fun ys hy => Nat.le_trans (hsb2 ys hy) (by omega))
  have HSN := Lib.hid (show sums (someSS q (solF toldV t0.toNat z0)) (someSS q (solF toldV t0.toNat z0)).length ≤ 1048576 from Nat.le_trans (sums_le4 hsb2 _) (by omega))
  have HYB := Lib.hid (show (someSS q (solF toldV t0.toNat z0)).length ≤ 1048576 by omega)
  clear hsb1 hsb2
  cases q
  clear hn0
  · go_enter Try.func6, Try.ntmps6
    have hb0 : Below w.heap.size w (w.alloc (.cells #[.int .i64 t0, .slice a0 len0 cap0] 30)) := (Below.refl _ _).alloc (Nat.le_refl _) _
    obtain ⟨w0, hW0⟩ : ∃ W0, w.alloc (.cells #[.int .i64 t0, .slice a0 len0 cap0] 30) = W0 := ⟨_, rfl⟩
    have P : w0.heap[w.heap.size]? = some (.cells #[.int .i64 t0, .slice a0 len0 cap0] 30 (0, 0)) := by rw [← hW0]; exact new_at _ _ rfl
    have hx0 : w.heap.size < w0.heap.size := heap_lt P
    rw [hW0] at hb0
    have HW0 := Lib.hid hW0
    clear hW0
    have hs0_0 := hs0.below hb0 (Nat.le_refl _)
    clear hs0
    have hz0 := hb0.size
    have kc_P0 := cell_of P 0
    have kc_P1 := cell_of P 1
    simp only [List.getElem?_toArray, List.getElem?_cons_zero, List.getElem?_cons_succ] at kc_P0 kc_P1
    go_wp2_with fail
    rw [HW0.out]
    refine (szPuzzle_any _ _ _ _ _ hlen0).mono ?_
    rintro e w1 ⟨rfl, hb1⟩
    clear kc_P0 kc_P1
    have hz1 := hb1.size
    have hB1 : Below w.heap.size w w1 := Below.trans hb0 (hb1.mono (by omega))
    have hs0_1 := hs0_0.below hb1 (by omega)
    clear hs0_0
    have P_1 := (hb1.block _ (by omega)).trans P
    clear P
    have kc_P0 := cell_of P_1 0
    have kc_P1 := cell_of P_1 1
    simp only [List.getElem?_toArray, List.getElem?_cons_zero, List.getElem?_cons_succ] at kc_P0 kc_P1
    go_wp2_with fail
    refine (toPuzzle_any t0 a0 len0 cap0 z0 w.heap.size _ HN0.out hlen0 hs0_1 (by omega)).mono ?_
    rintro e w2 ⟨caA, rfl, ca, hb2⟩
    clear kc_P0 kc_P1
    have hz2 := hb2.size
    have hB2 : Below w.heap.size w w2 := Below.trans hB1 (hb2.mono (by omega))
    have hs0_2 := hs0_1.below hb2 (by omega)
    clear hs0_1
    have P_2 := (hb2.block _ (by omega)).trans P_1
    clear P_1
    have kc_P0 := cell_of P_2 0
    have kc_P1 := cell_of P_2 1
    simp only [List.getElem?_toArray, List.getElem?_cons_zero, List.getElem?_cons_succ] at kc_P0 kc_P1
    go_wp2_with fail
    refine (spec_Solutions t0 _ _ _ z0 _ _ _ HN0.out hlen0 HNC ca.seg (by omega) _ HQ.out).mono ?_
    rintro e w3 ⟨WA0, Wn0, Wc0, rfl, Wl0, Wo0, hb3⟩
    clear kc_P0 kc_P1
    have hz3 := hb3.size
    have hB3 : Below w.heap.size w w3 := Below.trans hB2 (hb3.mono (by omega))
    have hs0_3 := hs0_2.below hb3 (by omega)
    clear hs0_2
    have P_3 := (hb3.block _ (by omega)).trans P_2
    clear P_2
    have ca_3 := ca.below hb3 (by omega)
    clear ca
    have kc_P0 := cell_of P_3 0
    have kc_P1 := cell_of P_3 1
    simp only [List.getElem?_toArray, List.getElem?_cons_zero, List.getElem?_cons_succ] at kc_P0 kc_P1
    go_wp2_with fail
    refine (toPuzzle_any t0 a0 len0 cap0 z0 w.heap.size _ HN0.out hlen0 hs0_3 (by omega)).mono ?_
    rintro e w4 ⟨x0A, rfl, x0, hb4⟩
    clear kc_P0 kc_P1
    have hz4 := hb4.size
    have hB4 : Below w.heap.size w w4 := Below.trans hB3 (hb4.mono (by omega))
    have hs0_4 := hs0_3.below hb4 (by omega)
    clear hs0_3
    have P_4 := (hb4.block _ (by omega)).trans P_3
    clear P_3
    have Wo0_4 := Wo0.below hb4 (by omega)
    clear Wo0
    have kl_P : w.heap.size < w4.heap.size := by omega
    have kc_P0 := cell_of P_4 0
    have kc_P1 := cell_of P_4 1
    simp only [List.getElem?_toArray, List.getElem?_cons_zero, List.getElem?_cons_succ] at kc_P0 kc_P1
    go_wp2_with fail
    obtain ⟨w5, hw5⟩ : ∃ wz, w4.alloc (.cells #[.int .i64 t0, .slice x0A len0 len0] 35) = wz := ⟨_, rfl⟩
    have hb5 : Below w4.heap.size w4 w5 := by rw [← hw5]; exact (Below.refl _ _).alloc (Nat.le_refl _) _
    have hx5 : w5.heap.size = w4.heap.size + 1 := by rw [← hw5]; simp
    have X0 : w5.heap[w4.heap.size]? = some (.cells #[.int .i64 t0, .slice x0A len0 len0] 35 (0, 0)) := by rw [← hw5]; exact new_at _ _ rfl
    have HW5 := Lib.hid hw5
    clear hw5
    have HX5 := Lib.hid hx5
    have hxx5 : w4.heap.size < w5.heap.size := by omega
    clear hx5
    have hz5 := hb5.size
    have hB5 : Below w.heap.size w w5 := Below.trans hB4 (hb5.mono (by omega))
    have hs0_5 := hs0_4.below hb5 (by omega)
    clear hs0_4
    have P_5 := (hb5.block _ (by omega)).trans P_4
    clear P_4
    have Wo0_5 := Wo0_4.below hb5 (by omega)
    clear Wo0_4
    have x0_5 := x0.below hb5 (by omega)
    clear x0
    rw [HW5.out]
    refine (impl_Solutions t0 _ _ _ z0 _ _ _ HN0.out hlen0 HNC x0_5.seg (by omega) _ HQ.out).mono ?_
    rintro e w6 ⟨GA0, Gn0, Gc0, rfl, Gl0, Go0, hb6⟩
    clear kl_P kc_P0 kc_P1
    have hz6 := hb6.size
    have hB6 : Below w.heap.size w w6 := Below.trans hB5 (hb6.mono (by omega))
    have hs0_6 := hs0_5.below hb6 (by omega)
    clear hs0_5
    have P_6 := (hb6.block _ (by omega)).trans P_5
    clear P_5
    have Wo0_6 := Wo0_5.below hb6 (by omega)
    clear Wo0_5
    have x0_6 := x0_5.below hb6 (by omega)
    clear x0_5
    have X0_6 := (hb6.block _ (by omega)).trans X0
    clear X0
    obtain rfl : Gn0 = Wn0 := Gl0.symm.trans Wl0
    have HY0 := Lib.hid Gl0
    obtain ⟨sv, hsv⟩ : ∃ sv, sums (someSS false (solF toldV t0.toNat z0)) Gn0 = sv := ⟨_, rfl⟩
    have HSV := Lib.hid hsv
    have hsvb : sv ≤ 1048576 := by rw [← hsv, ← Gl0]; exact HSN.out
    clear hsv
    have hy0 := HYB.out
    rw [Gl0] at hy0
    clear Wl0 Gl0
    go_wp2_with fail
    refine (eqIntSS_b _ _ _ _ _ _ _ _ _ _ _ HY0.out (by omega) HZN.out Go0 Wo0_6 (by omega) (by omega)).mono ?_
    rintro e w7 ⟨rfl, hb7⟩
    have hz7 := hb7.size
    have hB7 : Below w.heap.size w w7 := Below.trans hB6 (hb7.mono (by omega))
    have hs0_7 := hs0_6.below hb7 (by omega)
    clear hs0_6
    have P_7 := (hb7.block _ (by omega)).trans P_6
    clear P_6
    have Wo0_7 := Wo0_6.below hb7 (by omega)
    clear Wo0_6
    have x0_7 := x0_6.below hb7 (by omega)
    clear x0_6
    have X0_7 := (hb7.block _ (by omega)).trans X0_6
    clear X0_6
    have Go0_7 := Go0.below hb7 (by omega)
    clear Go0
    go_wp2_with fail
    refine wp_region_held_drew (S := fun wq => wq.heap[w4.heap.size]? = some (.cells #[.int .i64 t0, .slice x0A len0 len0] 35 (0, 0)) ∧ wq.heap[w.heap.size]? = some (.cells #[.int .i64 t0, .slice a0 len0 cap0] 30 (0, 0))) (by kernel_rfl) ⟨X0_7, P_7⟩ (fun hHrx00 => ?_)
    refine wpAnyH_take (i := 0) (v := ?_) (ops_at rfl) (by kernel_rfl) (by kernel_rfl) (by kernel_rfl) (fun _ _ _ h => h) (Or.inl ⟨by rfl, ?yrx000⟩) (by assumption) ?nrx000
    case yrx000 => (intro wS hSw; obtain ⟨s0, s1⟩ := hSw; have q0 := cell_of s0 0; have q1 := cell_of s0 1; have q2 := cell_of s1 0; have q3 := cell_of s1 1; go_simp; try rfl)
    try simp only [Act.put, List.setIfInBounds_toArray, List.set_cons_zero, List.set_cons_succ]
    refine wpAnyH_take (i := 1) (v := ?_) (ops_at rfl) (by kernel_rfl) (by kernel_rfl) (by kernel_rfl) (fun _ _ _ h => h) (Or.inl ⟨by rfl, ?yrx001⟩) (by assumption) ?nrx001
    case yrx001 => (intro wS hSw; obtain ⟨s0, s1⟩ := hSw; have q0 := cell_of s0 0; have q1 := cell_of s0 1; have q2 := cell_of s1 0; have q3 := cell_of s1 1; go_simp; try rfl)
    try simp only [Act.put, List.setIfInBounds_toArray, List.set_cons_zero, List.set_cons_succ]
    obtain ⟨w8, hw8⟩ : ∃ wz, w7.drew = wz := ⟨_, rfl⟩
    have hb8 : Below w7.heap.size w7 w8 := by rw [← hw8]; exact below_drewN (Below.refl _ _) 1
    have HW8 := Lib.hid hw8
    clear hw8
    have hz8 := hb8.size
    have hB8 : Below w.heap.size w w8 := Below.trans hB7 (hb8.mono (by omega))
    have hs0_8 := hs0_7.below hb8 (by omega)
    clear hs0_7
    have P_8 := (hb8.block _ (by omega)).trans P_7
    clear P_7
    have Wo0_8 := Wo0_7.below hb8 (by omega)
    clear Wo0_7
    have x0_8 := x0_7.below hb8 (by omega)
    clear x0_7
    have X0_8 := (hb8.block _ (by omega)).trans X0_7
    clear X0_7
    have Go0_8 := Go0_7.below hb8 (by omega)
    clear Go0_7
    refine wpAnyH_ready (rs := [2]) (by kernel_rfl) (by simp) ?_
    refine AllReadyH.cons (ops_at rfl) (fun K hK => ?_) AllReadyH.nil
    go_simp
    rw [HW8.out]
    refine (toPuzzle_any t0 a0 len0 cap0 z0 w.heap.size _ HN0.out hlen0 hs0_8 (by omega)).mono ?_
    rintro e w9 ⟨cbA, rfl, cb, hb9⟩
    have hz9 := hb9.size
    have hB9 : Below w.heap.size w w9 := Below.trans hB8 (hb9.mono (by omega))
    have hs0_9 := hs0_8.below hb9 (by omega)
    clear hs0_8
    have P_9 := (hb9.block _ (by omega)).trans P_8
    clear P_8
    have Wo0_9 := Wo0_8.below hb9 (by omega)
    clear Wo0_8
    have x0_9 := x0_8.below hb9 (by omega)
    clear x0_8
    have X0_9 := (hb9.block _ (by omega)).trans X0_8
    clear X0_8
    have Go0_9 := Go0_8.below hb9 (by omega)
    clear Go0_8
    refine hK.out _ _ ⟨X0_9, P_9⟩ (fun hHrx009 => ?_)
    clear hK K
    refine wpAnyH_ready (rs := [3]) (by kernel_rfl) (by simp) ?_
    refine AllReadyH.cons (ops_at rfl) (fun K hK => ?_) AllReadyH.nil
    go_simp
    refine (eqPuzzle_any _ _ _ _ _ _ _ _ _ _ _ _ HN0.out hlen0 x0_9.seg cb.seg (by omega) (by omega)).mono ?_
    rintro e w10 ⟨rfl, hb10⟩
    have hz10 := hb10.size
    have hB10 : Below w.heap.size w w10 := Below.trans hB9 (hb10.mono (by omega))
    have hs0_10 := hs0_9.below hb10 (by omega)
    clear hs0_9
    have P_10 := (hb10.block _ (by omega)).trans P_9
    clear P_9
    have Wo0_10 := Wo0_9.below hb10 (by omega)
    clear Wo0_9
    have x0_10 := x0_9.below hb10 (by omega)
    clear x0_9
    have X0_10 := (hb10.block _ (by omega)).trans X0_9
    clear X0_9
    have Go0_10 := Go0_9.below hb10 (by omega)
    clear Go0_9
    have cb_10 := cb.below hb10 (by omega)
    clear cb
    refine hK.out _ _ ⟨X0_10, P_10⟩ (fun hHrx0010 => ?_)
    clear hK K
    refine wpAnyH_take (i := 4) (v := ?_) (ops_at rfl) (by kernel_rfl) (by kernel_rfl) (by kernel_rfl) (fun _ _ _ h => h) (Or.inl ⟨by rfl, ?yrx004⟩) (by assumption) ?nrx004
    case yrx004 => (intro wS hSw; obtain ⟨s0, s1⟩ := hSw; have q0 := cell_of s0 0; have q1 := cell_of s0 1; have q2 := cell_of s1 0; have q3 := cell_of s1 1; go_simp; try rfl)
    try simp only [Act.put, List.setIfInBounds_toArray, List.set_cons_zero, List.set_cons_succ]
    refine wpAnyH_done (by kernel_rfl) ?_ _
    have kc_X00 := cell_of X0_10 0
    have kc_X01 := cell_of X0_10 1
    simp only [List.getElem?_toArray, List.getElem?_cons_zero, List.getElem?_cons_succ] at kc_X00 kc_X01
    go_wp2_with fail
    refine (markPuzzle_any _ _ _ _ _ _ _ _ _ HN0.out (by omega) (by omega) (by omega) x0_10 (by omega)).mono ?_
    rintro e w11 ⟨rfl, x0_11, ho11⟩
    clear kc_X00 kc_X01
    have hz11 := ho11.size
    have hB11 : Below w.heap.size w w11 := Below.trans hB10 (ho11.below (by omega) (fun b hb => by omega))
    have hs0_11 := hs0_10.only ho11 (by omega) (fun b hb => by omega)
    clear hs0_10
    have P_11 := (ho11.block _ (by omega) (fun hs => by omega)).trans P_10
    clear P_10
    have Wo0_11 := Wo0_10.only ho11 (by omega) (fun b hb => by omega)
    clear Wo0_10
    have X0_11 := (ho11.block _ (by omega) (fun hs => by omega)).trans X0_10
    clear X0_10
    have Go0_11 := Go0_10.only ho11 (by omega) (fun b hb => by omega)
    clear Go0_10
    go_wp2_with fail
    refine (eqIntSS_b _ _ _ _ _ _ _ _ _ _ _ HY0.out (by omega) HZN.out Go0_11 Wo0_11 (by omega) (by omega)).mono ?_
    rintro e w12 ⟨rfl, hb12⟩
    have hz12 := hb12.size
    have hB12 : Below w.heap.size w w12 := Below.trans hB11 (hb12.mono (by omega))
    have hs0_12 := hs0_11.below hb12 (by omega)
    clear hs0_11
    have P_12 := (hb12.block _ (by omega)).trans P_11
    clear P_11
    have Wo0_12 := Wo0_11.below hb12 (by omega)
    clear Wo0_11
    have X0_12 := (hb12.block _ (by omega)).trans X0_11
    clear X0_11
    have Go0_12 := Go0_11.below hb12 (by omega)
    clear Go0_11
    go_wp2_with fail
    refine (markIntSS_any _ _ _ _ _ _ _ _ HY0.out (by omega) HSN.out (by omega) (by omega) Go0_12).mono ?_
    rw [HSV.out]
    rintro e w13 ⟨rfl, Go0_13, ho13⟩
    have hz13 := ho13.size
    have hB13 : Below w.heap.size w w13 := Below.trans hB12 (ho13.below (by omega) (fun b hb => by omega))
    have hs0_13 := hs0_12.only ho13 (by omega) (fun b hb => by omega)
    clear hs0_12
    have P_13 := (ho13.block _ (by omega) (fun hs => by omega)).trans P_12
    clear P_12
    have Wo0_13 := Wo0_12.only ho13 (by omega) (fun b hb => by omega)
    clear Wo0_12
    have X0_13 := (ho13.block _ (by omega) (fun hs => by omega)).trans X0_12
    clear X0_12
    go_wp2_with fail
    refine (heldIntSS_any _ _ _ _ _ _ _ _ HY0.out (by omega) HSN.out (by omega) (by omega) Go0_13).mono ?_
    rw [HSV.out]
    rintro e wx1 ⟨rfl, rfl⟩
    have kc_P0 := cell_of P_13 0
    have kc_P1 := cell_of P_13 1
    simp only [List.getElem?_toArray, List.getElem?_cons_zero, List.getElem?_cons_succ] at kc_P0 kc_P1
    go_wp2_with fail
    refine (toPuzzle_any t0 a0 len0 cap0 z0 w.heap.size _ HN0.out hlen0 hs0_13 (by omega)).mono ?_
    rintro e w14 ⟨ccA, rfl, cc, hb14⟩
    clear kc_P0 kc_P1
    have hz14 := hb14.size
    have hB14 : Below w.heap.size w w14 := Below.trans hB13 (hb14.mono (by omega))
    have hs0_14 := hs0_13.below hb14 (by omega)
    clear hs0_13
    have P_14 := (hb14.block _ (by omega)).trans P_13
    clear P_13
    have Wo0_14 := Wo0_13.below hb14 (by omega)
    clear Wo0_13
    have X0_14 := (hb14.block _ (by omega)).trans X0_13
    clear X0_13
    have Go0_14 := Go0_13.below hb14 (by omega)
    clear Go0_13
    have kc_P0 := cell_of P_14 0
    have kc_P1 := cell_of P_14 1
    have kc_X00 := cell_of X0_14 0
    have kc_X01 := cell_of X0_14 1
    simp only [List.getElem?_toArray, List.getElem?_cons_zero, List.getElem?_cons_succ] at kc_P0 kc_P1 kc_X00 kc_X01
    go_wp2_with fail
    refine (impl_Solutions t0 _ _ _ z0 _ _ _ HN0.out hlen0 HNC cc.seg (by omega) _ HQ.out).mono ?_
    rintro e w15 ⟨HA0, Hn0, Hc0, rfl, Hl0, Ho0, hb15⟩
    clear kc_P0 kc_P1 kc_X00 kc_X01
    have hz15 := hb15.size
    have hB15 : Below w.heap.size w w15 := Below.trans hB14 (hb15.mono (by omega))
    have hs0_15 := hs0_14.below hb15 (by omega)
    clear hs0_14
    have P_15 := (hb15.block _ (by omega)).trans P_14
    clear P_14
    have Wo0_15 := Wo0_14.below hb15 (by omega)
    clear Wo0_14
    have X0_15 := (hb15.block _ (by omega)).trans X0_14
    clear X0_14
    have Go0_15 := Go0_14.below hb15 (by omega)
    clear Go0_14
    have cc_15 := cc.below hb15 (by omega)
    clear cc
    obtain rfl : Hn0 = Gn0 := Hl0.symm.trans HY0.out
    clear Hl0
    go_wp2_with fail
    refine (eqIntSS_b _ _ _ _ _ _ _ _ _ _ _ HY0.out (by omega) HZN.out Ho0 Wo0_15 (by omega) (by omega)).mono ?_
    rintro e w16 ⟨rfl, hb16⟩
    have hz16 := hb16.size
    have hB16 : Below w.heap.size w w16 := Below.trans hB15 (hb16.mono (by omega))
    have hs0_16 := hs0_15.below hb16 (by omega)
    clear hs0_15
    have P_16 := (hb16.block _ (by omega)).trans P_15
    clear P_15
    have Wo0_16 := Wo0_15.below hb16 (by omega)
    clear Wo0_15
    have X0_16 := (hb16.block _ (by omega)).trans X0_15
    clear X0_15
    have Go0_16 := Go0_15.below hb16 (by omega)
    clear Go0_15
    have Ho0_16 := Ho0.below hb16 (by omega)
    clear Ho0
    go_wp2_with fail
    refine (heldIntSS_any _ _ _ _ _ _ _ _ HY0.out (by omega) HSN.out (by omega) (by omega) Go0_16).mono ?_
    rw [HSV.out]
    rintro e wx2 ⟨rfl, rfl⟩
    go_wp2
    go_ret
    exact ⟨rfl, hB16⟩
  · go_enter Try.func6, Try.ntmps6
    have hb0 : Below w.heap.size w (w.alloc (.cells #[.int .i64 t0, .slice a0 len0 cap0] 30)) := (Below.refl _ _).alloc (Nat.le_refl _) _
    obtain ⟨w0, hW0⟩ : ∃ W0, w.alloc (.cells #[.int .i64 t0, .slice a0 len0 cap0] 30) = W0 := ⟨_, rfl⟩
    have P : w0.heap[w.heap.size]? = some (.cells #[.int .i64 t0, .slice a0 len0 cap0] 30 (0, 0)) := by rw [← hW0]; exact new_at _ _ rfl
    have hx0 : w.heap.size < w0.heap.size := heap_lt P
    rw [hW0] at hb0
    have HW0 := Lib.hid hW0
    clear hW0
    have hs0_0 := hs0.below hb0 (Nat.le_refl _)
    clear hs0
    have hz0 := hb0.size
    have kc_P0 := cell_of P 0
    have kc_P1 := cell_of P 1
    simp only [List.getElem?_toArray, List.getElem?_cons_zero, List.getElem?_cons_succ] at kc_P0 kc_P1
    go_wp2_with fail
    rw [HW0.out]
    refine (szPuzzle_any _ _ _ _ _ hlen0).mono ?_
    rintro e w1 ⟨rfl, hb1⟩
    clear kc_P0 kc_P1
    have hz1 := hb1.size
    have hB1 : Below w.heap.size w w1 := Below.trans hb0 (hb1.mono (by omega))
    have hs0_1 := hs0_0.below hb1 (by omega)
    clear hs0_0
    have P_1 := (hb1.block _ (by omega)).trans P
    clear P
    have kc_P0 := cell_of P_1 0
    have kc_P1 := cell_of P_1 1
    simp only [List.getElem?_toArray, List.getElem?_cons_zero, List.getElem?_cons_succ] at kc_P0 kc_P1
    go_wp2_with fail
    refine (toPuzzle_any t0 a0 len0 cap0 z0 w.heap.size _ HN0.out hlen0 hs0_1 (by omega)).mono ?_
    rintro e w2 ⟨caA, rfl, ca, hb2⟩
    clear kc_P0 kc_P1
    have hz2 := hb2.size
    have hB2 : Below w.heap.size w w2 := Below.trans hB1 (hb2.mono (by omega))
    have hs0_2 := hs0_1.below hb2 (by omega)
    clear hs0_1
    have P_2 := (hb2.block _ (by omega)).trans P_1
    clear P_1
    have kc_P0 := cell_of P_2 0
    have kc_P1 := cell_of P_2 1
    simp only [List.getElem?_toArray, List.getElem?_cons_zero, List.getElem?_cons_succ] at kc_P0 kc_P1
    go_wp2_with fail
    refine (spec_Solutions t0 _ _ _ z0 _ _ _ HN0.out hlen0 HNC ca.seg (by omega) _ HQ.out).mono ?_
    rintro e w3 ⟨WA0, Wn0, Wc0, rfl, Wl0, Wo0, hb3⟩
    clear kc_P0 kc_P1
    have hz3 := hb3.size
    have hB3 : Below w.heap.size w w3 := Below.trans hB2 (hb3.mono (by omega))
    have hs0_3 := hs0_2.below hb3 (by omega)
    clear hs0_2
    have P_3 := (hb3.block _ (by omega)).trans P_2
    clear P_2
    have ca_3 := ca.below hb3 (by omega)
    clear ca
    have kc_P0 := cell_of P_3 0
    have kc_P1 := cell_of P_3 1
    simp only [List.getElem?_toArray, List.getElem?_cons_zero, List.getElem?_cons_succ] at kc_P0 kc_P1
    go_wp2_with fail
    refine (toPuzzle_any t0 a0 len0 cap0 z0 w.heap.size _ HN0.out hlen0 hs0_3 (by omega)).mono ?_
    rintro e w4 ⟨x0A, rfl, x0, hb4⟩
    clear kc_P0 kc_P1
    have hz4 := hb4.size
    have hB4 : Below w.heap.size w w4 := Below.trans hB3 (hb4.mono (by omega))
    have hs0_4 := hs0_3.below hb4 (by omega)
    clear hs0_3
    have P_4 := (hb4.block _ (by omega)).trans P_3
    clear P_3
    have Wo0_4 := Wo0.below hb4 (by omega)
    clear Wo0
    have kl_P : w.heap.size < w4.heap.size := by omega
    have kc_P0 := cell_of P_4 0
    have kc_P1 := cell_of P_4 1
    simp only [List.getElem?_toArray, List.getElem?_cons_zero, List.getElem?_cons_succ] at kc_P0 kc_P1
    go_wp2_with fail
    obtain ⟨w5, hw5⟩ : ∃ wz, w4.alloc (.cells #[.int .i64 t0, .slice x0A len0 len0] 35) = wz := ⟨_, rfl⟩
    have hb5 : Below w4.heap.size w4 w5 := by rw [← hw5]; exact (Below.refl _ _).alloc (Nat.le_refl _) _
    have hx5 : w5.heap.size = w4.heap.size + 1 := by rw [← hw5]; simp
    have X0 : w5.heap[w4.heap.size]? = some (.cells #[.int .i64 t0, .slice x0A len0 len0] 35 (0, 0)) := by rw [← hw5]; exact new_at _ _ rfl
    have HW5 := Lib.hid hw5
    clear hw5
    have HX5 := Lib.hid hx5
    have hxx5 : w4.heap.size < w5.heap.size := by omega
    clear hx5
    have hz5 := hb5.size
    have hB5 : Below w.heap.size w w5 := Below.trans hB4 (hb5.mono (by omega))
    have hs0_5 := hs0_4.below hb5 (by omega)
    clear hs0_4
    have P_5 := (hb5.block _ (by omega)).trans P_4
    clear P_4
    have Wo0_5 := Wo0_4.below hb5 (by omega)
    clear Wo0_4
    have x0_5 := x0.below hb5 (by omega)
    clear x0
    rw [HW5.out]
    refine (impl_Solutions t0 _ _ _ z0 _ _ _ HN0.out hlen0 HNC x0_5.seg (by omega) _ HQ.out).mono ?_
    rintro e w6 ⟨GA0, Gn0, Gc0, rfl, Gl0, Go0, hb6⟩
    clear kl_P kc_P0 kc_P1
    have hz6 := hb6.size
    have hB6 : Below w.heap.size w w6 := Below.trans hB5 (hb6.mono (by omega))
    have hs0_6 := hs0_5.below hb6 (by omega)
    clear hs0_5
    have P_6 := (hb6.block _ (by omega)).trans P_5
    clear P_5
    have Wo0_6 := Wo0_5.below hb6 (by omega)
    clear Wo0_5
    have x0_6 := x0_5.below hb6 (by omega)
    clear x0_5
    have X0_6 := (hb6.block _ (by omega)).trans X0
    clear X0
    obtain rfl : Gn0 = Wn0 := Gl0.symm.trans Wl0
    have HY0 := Lib.hid Gl0
    obtain ⟨sv, hsv⟩ : ∃ sv, sums (someSS true (solF toldV t0.toNat z0)) Gn0 = sv := ⟨_, rfl⟩
    have HSV := Lib.hid hsv
    have hsvb : sv ≤ 1048576 := by rw [← hsv, ← Gl0]; exact HSN.out
    clear hsv
    have hy0 := HYB.out
    rw [Gl0] at hy0
    clear Wl0 Gl0
    go_wp2_with fail
    refine (eqIntSS_b _ _ _ _ _ _ _ _ _ _ _ HY0.out (by omega) HZN.out Go0 Wo0_6 (by omega) (by omega)).mono ?_
    rintro e w7 ⟨rfl, hb7⟩
    have hz7 := hb7.size
    have hB7 : Below w.heap.size w w7 := Below.trans hB6 (hb7.mono (by omega))
    have hs0_7 := hs0_6.below hb7 (by omega)
    clear hs0_6
    have P_7 := (hb7.block _ (by omega)).trans P_6
    clear P_6
    have Wo0_7 := Wo0_6.below hb7 (by omega)
    clear Wo0_6
    have x0_7 := x0_6.below hb7 (by omega)
    clear x0_6
    have X0_7 := (hb7.block _ (by omega)).trans X0_6
    clear X0_6
    have Go0_7 := Go0.below hb7 (by omega)
    clear Go0
    go_wp2_with fail
    refine wp_region_held_drew (S := fun wq => wq.heap[w4.heap.size]? = some (.cells #[.int .i64 t0, .slice x0A len0 len0] 35 (0, 0)) ∧ wq.heap[w.heap.size]? = some (.cells #[.int .i64 t0, .slice a0 len0 cap0] 30 (0, 0))) (by kernel_rfl) ⟨X0_7, P_7⟩ (fun hHrx10 => ?_)
    refine wpAnyH_take (i := 0) (v := ?_) (ops_at rfl) (by kernel_rfl) (by kernel_rfl) (by kernel_rfl) (fun _ _ _ h => h) (Or.inl ⟨by rfl, ?yrx100⟩) (by assumption) ?nrx100
    case yrx100 => (intro wS hSw; obtain ⟨s0, s1⟩ := hSw; have q0 := cell_of s0 0; have q1 := cell_of s0 1; have q2 := cell_of s1 0; have q3 := cell_of s1 1; go_simp; try rfl)
    try simp only [Act.put, List.setIfInBounds_toArray, List.set_cons_zero, List.set_cons_succ]
    refine wpAnyH_take (i := 1) (v := ?_) (ops_at rfl) (by kernel_rfl) (by kernel_rfl) (by kernel_rfl) (fun _ _ _ h => h) (Or.inl ⟨by rfl, ?yrx101⟩) (by assumption) ?nrx101
    case yrx101 => (intro wS hSw; obtain ⟨s0, s1⟩ := hSw; have q0 := cell_of s0 0; have q1 := cell_of s0 1; have q2 := cell_of s1 0; have q3 := cell_of s1 1; go_simp; try rfl)
    try simp only [Act.put, List.setIfInBounds_toArray, List.set_cons_zero, List.set_cons_succ]
    obtain ⟨w8, hw8⟩ : ∃ wz, w7.drew = wz := ⟨_, rfl⟩
    have hb8 : Below w7.heap.size w7 w8 := by rw [← hw8]; exact below_drewN (Below.refl _ _) 1
    have HW8 := Lib.hid hw8
    clear hw8
    have hz8 := hb8.size
    have hB8 : Below w.heap.size w w8 := Below.trans hB7 (hb8.mono (by omega))
    have hs0_8 := hs0_7.below hb8 (by omega)
    clear hs0_7
    have P_8 := (hb8.block _ (by omega)).trans P_7
    clear P_7
    have Wo0_8 := Wo0_7.below hb8 (by omega)
    clear Wo0_7
    have x0_8 := x0_7.below hb8 (by omega)
    clear x0_7
    have X0_8 := (hb8.block _ (by omega)).trans X0_7
    clear X0_7
    have Go0_8 := Go0_7.below hb8 (by omega)
    clear Go0_7
    refine wpAnyH_ready (rs := [2]) (by kernel_rfl) (by simp) ?_
    refine AllReadyH.cons (ops_at rfl) (fun K hK => ?_) AllReadyH.nil
    go_simp
    rw [HW8.out]
    refine (toPuzzle_any t0 a0 len0 cap0 z0 w.heap.size _ HN0.out hlen0 hs0_8 (by omega)).mono ?_
    rintro e w9 ⟨cbA, rfl, cb, hb9⟩
    have hz9 := hb9.size
    have hB9 : Below w.heap.size w w9 := Below.trans hB8 (hb9.mono (by omega))
    have hs0_9 := hs0_8.below hb9 (by omega)
    clear hs0_8
    have P_9 := (hb9.block _ (by omega)).trans P_8
    clear P_8
    have Wo0_9 := Wo0_8.below hb9 (by omega)
    clear Wo0_8
    have x0_9 := x0_8.below hb9 (by omega)
    clear x0_8
    have X0_9 := (hb9.block _ (by omega)).trans X0_8
    clear X0_8
    have Go0_9 := Go0_8.below hb9 (by omega)
    clear Go0_8
    refine hK.out _ _ ⟨X0_9, P_9⟩ (fun hHrx109 => ?_)
    clear hK K
    refine wpAnyH_ready (rs := [3]) (by kernel_rfl) (by simp) ?_
    refine AllReadyH.cons (ops_at rfl) (fun K hK => ?_) AllReadyH.nil
    go_simp
    refine (eqPuzzle_any _ _ _ _ _ _ _ _ _ _ _ _ HN0.out hlen0 x0_9.seg cb.seg (by omega) (by omega)).mono ?_
    rintro e w10 ⟨rfl, hb10⟩
    have hz10 := hb10.size
    have hB10 : Below w.heap.size w w10 := Below.trans hB9 (hb10.mono (by omega))
    have hs0_10 := hs0_9.below hb10 (by omega)
    clear hs0_9
    have P_10 := (hb10.block _ (by omega)).trans P_9
    clear P_9
    have Wo0_10 := Wo0_9.below hb10 (by omega)
    clear Wo0_9
    have x0_10 := x0_9.below hb10 (by omega)
    clear x0_9
    have X0_10 := (hb10.block _ (by omega)).trans X0_9
    clear X0_9
    have Go0_10 := Go0_9.below hb10 (by omega)
    clear Go0_9
    have cb_10 := cb.below hb10 (by omega)
    clear cb
    refine hK.out _ _ ⟨X0_10, P_10⟩ (fun hHrx1010 => ?_)
    clear hK K
    refine wpAnyH_take (i := 4) (v := ?_) (ops_at rfl) (by kernel_rfl) (by kernel_rfl) (by kernel_rfl) (fun _ _ _ h => h) (Or.inl ⟨by rfl, ?yrx104⟩) (by assumption) ?nrx104
    case yrx104 => (intro wS hSw; obtain ⟨s0, s1⟩ := hSw; have q0 := cell_of s0 0; have q1 := cell_of s0 1; have q2 := cell_of s1 0; have q3 := cell_of s1 1; go_simp; try rfl)
    try simp only [Act.put, List.setIfInBounds_toArray, List.set_cons_zero, List.set_cons_succ]
    refine wpAnyH_done (by kernel_rfl) ?_ _
    have kc_X00 := cell_of X0_10 0
    have kc_X01 := cell_of X0_10 1
    simp only [List.getElem?_toArray, List.getElem?_cons_zero, List.getElem?_cons_succ] at kc_X00 kc_X01
    go_wp2_with fail
    refine (markPuzzle_any _ _ _ _ _ _ _ _ _ HN0.out (by omega) (by omega) (by omega) x0_10 (by omega)).mono ?_
    rintro e w11 ⟨rfl, x0_11, ho11⟩
    clear kc_X00 kc_X01
    have hz11 := ho11.size
    have hB11 : Below w.heap.size w w11 := Below.trans hB10 (ho11.below (by omega) (fun b hb => by omega))
    have hs0_11 := hs0_10.only ho11 (by omega) (fun b hb => by omega)
    clear hs0_10
    have P_11 := (ho11.block _ (by omega) (fun hs => by omega)).trans P_10
    clear P_10
    have Wo0_11 := Wo0_10.only ho11 (by omega) (fun b hb => by omega)
    clear Wo0_10
    have X0_11 := (ho11.block _ (by omega) (fun hs => by omega)).trans X0_10
    clear X0_10
    have Go0_11 := Go0_10.only ho11 (by omega) (fun b hb => by omega)
    clear Go0_10
    go_wp2_with fail
    refine (eqIntSS_b _ _ _ _ _ _ _ _ _ _ _ HY0.out (by omega) HZN.out Go0_11 Wo0_11 (by omega) (by omega)).mono ?_
    rintro e w12 ⟨rfl, hb12⟩
    have hz12 := hb12.size
    have hB12 : Below w.heap.size w w12 := Below.trans hB11 (hb12.mono (by omega))
    have hs0_12 := hs0_11.below hb12 (by omega)
    clear hs0_11
    have P_12 := (hb12.block _ (by omega)).trans P_11
    clear P_11
    have Wo0_12 := Wo0_11.below hb12 (by omega)
    clear Wo0_11
    have X0_12 := (hb12.block _ (by omega)).trans X0_11
    clear X0_11
    have Go0_12 := Go0_11.below hb12 (by omega)
    clear Go0_11
    go_wp2_with fail
    refine (markIntSS_any _ _ _ _ _ _ _ _ HY0.out (by omega) HSN.out (by omega) (by omega) Go0_12).mono ?_
    rw [HSV.out]
    rintro e w13 ⟨rfl, Go0_13, ho13⟩
    have hz13 := ho13.size
    have hB13 : Below w.heap.size w w13 := Below.trans hB12 (ho13.below (by omega) (fun b hb => by omega))
    have hs0_13 := hs0_12.only ho13 (by omega) (fun b hb => by omega)
    clear hs0_12
    have P_13 := (ho13.block _ (by omega) (fun hs => by omega)).trans P_12
    clear P_12
    have Wo0_13 := Wo0_12.only ho13 (by omega) (fun b hb => by omega)
    clear Wo0_12
    have X0_13 := (ho13.block _ (by omega) (fun hs => by omega)).trans X0_12
    clear X0_12
    go_wp2_with fail
    refine (heldIntSS_any _ _ _ _ _ _ _ _ HY0.out (by omega) HSN.out (by omega) (by omega) Go0_13).mono ?_
    rw [HSV.out]
    rintro e wx1 ⟨rfl, rfl⟩
    have kc_P0 := cell_of P_13 0
    have kc_P1 := cell_of P_13 1
    simp only [List.getElem?_toArray, List.getElem?_cons_zero, List.getElem?_cons_succ] at kc_P0 kc_P1
    go_wp2_with fail
    refine (toPuzzle_any t0 a0 len0 cap0 z0 w.heap.size _ HN0.out hlen0 hs0_13 (by omega)).mono ?_
    rintro e w14 ⟨ccA, rfl, cc, hb14⟩
    clear kc_P0 kc_P1
    have hz14 := hb14.size
    have hB14 : Below w.heap.size w w14 := Below.trans hB13 (hb14.mono (by omega))
    have hs0_14 := hs0_13.below hb14 (by omega)
    clear hs0_13
    have P_14 := (hb14.block _ (by omega)).trans P_13
    clear P_13
    have Wo0_14 := Wo0_13.below hb14 (by omega)
    clear Wo0_13
    have X0_14 := (hb14.block _ (by omega)).trans X0_13
    clear X0_13
    have Go0_14 := Go0_13.below hb14 (by omega)
    clear Go0_13
    have kc_P0 := cell_of P_14 0
    have kc_P1 := cell_of P_14 1
    have kc_X00 := cell_of X0_14 0
    have kc_X01 := cell_of X0_14 1
    simp only [List.getElem?_toArray, List.getElem?_cons_zero, List.getElem?_cons_succ] at kc_P0 kc_P1 kc_X00 kc_X01
    go_wp2_with fail
    refine (impl_Solutions t0 _ _ _ z0 _ _ _ HN0.out hlen0 HNC cc.seg (by omega) _ HQ.out).mono ?_
    rintro e w15 ⟨HA0, Hn0, Hc0, rfl, Hl0, Ho0, hb15⟩
    clear kc_P0 kc_P1 kc_X00 kc_X01
    have hz15 := hb15.size
    have hB15 : Below w.heap.size w w15 := Below.trans hB14 (hb15.mono (by omega))
    have hs0_15 := hs0_14.below hb15 (by omega)
    clear hs0_14
    have P_15 := (hb15.block _ (by omega)).trans P_14
    clear P_14
    have Wo0_15 := Wo0_14.below hb15 (by omega)
    clear Wo0_14
    have X0_15 := (hb15.block _ (by omega)).trans X0_14
    clear X0_14
    have Go0_15 := Go0_14.below hb15 (by omega)
    clear Go0_14
    have cc_15 := cc.below hb15 (by omega)
    clear cc
    obtain rfl : Hn0 = Gn0 := Hl0.symm.trans HY0.out
    clear Hl0
    go_wp2_with fail
    refine (eqIntSS_b _ _ _ _ _ _ _ _ _ _ _ HY0.out (by omega) HZN.out Ho0 Wo0_15 (by omega) (by omega)).mono ?_
    rintro e w16 ⟨rfl, hb16⟩
    have hz16 := hb16.size
    have hB16 : Below w.heap.size w w16 := Below.trans hB15 (hb16.mono (by omega))
    have hs0_16 := hs0_15.below hb16 (by omega)
    clear hs0_15
    have P_16 := (hb16.block _ (by omega)).trans P_15
    clear P_15
    have Wo0_16 := Wo0_15.below hb16 (by omega)
    clear Wo0_15
    have X0_16 := (hb16.block _ (by omega)).trans X0_15
    clear X0_15
    have Go0_16 := Go0_15.below hb16 (by omega)
    clear Go0_15
    have Ho0_16 := Ho0.below hb16 (by omega)
    clear Ho0
    go_wp2_with fail
    refine (heldIntSS_any _ _ _ _ _ _ _ _ HY0.out (by omega) HSN.out (by omega) (by omega) Go0_16).mono ?_
    rw [HSV.out]
    rintro e wx2 ⟨rfl, rfl⟩
    go_wp2
    go_ret
    exact ⟨rfl, hB16⟩

end LawSolutions
end Go.Proofs.Ytoheoojpmndhoaa
