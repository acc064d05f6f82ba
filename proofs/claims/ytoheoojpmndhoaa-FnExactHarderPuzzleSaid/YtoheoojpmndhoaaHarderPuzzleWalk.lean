/-
  For every puzzle the law of HarderPuzzle returns true and leaves the puzzle as it was.
  Conditions: none.
-/
import Derived.Test.YtoheoojpmndhoaaPzHp
import Derived.Test.YtoheoojpmndhoaaPuz
import Derived.Test.YtoheoojpmndhoaaCopy
import Derived.Test.YtoheoojpmndhoaaEq
import Derived.Lib.SmallJoins
import Derived.Deep.RegionHeld3
import Derived.OpenShut
import Derived.ShutString
import Derived.ChangeOld
namespace Go.Proofs.Ytoheoojpmndhoaa
namespace LawHarderPuzzle
open Go.ChangeShapes Go.WideShapes Go.ChangeAt Go.RowKit
open Go.Joins (open_agg2 open_agg4)
set_option linter.unusedVariables false
set_option linter.unusedSimpArgs false

theorem own : ownKnob Try.prog.godebug = none := by kernel_rfl
theorem laidOut : laidOutB Try.prog = true := by kernel_rfl

set_option maxHeartbeats 2000000 in
set_option maxRecDepth 100000 in
theorem walk {t0 : Int} {a0 : Option Addr} {len0 cap0 : Nat} {z0 : List Clu} {w : World} (ht0 : -9223372036854775808 ≤ t0 ∧ t0 ≤ 9223372036854775807) (hm0 : len0 ≤ 9223372036854775807) (hn0 : z0.length = len0) (hs0 : Seg w 0 w.heap.size a0 (flat4 z0)) :
    Calls Try.prog 16 #[pzV t0 a0 len0 cap0] w fun e w' => e = .returned (.bool true) ∧ Below w.heap.size w w' := by
  by_cases hbig0 : 1048576 < len0
  · clear hs0 hn0
    go_enter Try.func16, Try.ntmps16
    go_wp2_with fail
    refine (szPuzzle_big _ _ _ _ _ hbig0 hm0).mono ?_
    rintro e w0 ⟨rfl, hb0⟩
    go_wp2
    go_ret
    exact ⟨rfl, ((Below.refl _ _).alloc (Nat.le_refl _) _).trans (hb0.mono (by simp <;> omega))⟩
  have hlen0 : len0 ≤ 1048576 := by omega
  have HN0 := Lib.hid hn0
  have HNC := Nat.le_refl len0
  obtain ⟨q, hq⟩ : ∃ q, slvB t0 z0 = q := ⟨_, rfl⟩
  have HQ := Lib.hid hq
  clear hq
  cases q
  case' false => have HYB := Lib.hid (listU_no (hardF t0.toNat z0 0))
  case' true => have HYB := Lib.hid (listU_yes (bs := hardF t0.toNat z0 0) (by have h := hardF_len t0.toNat z0; have := HN0.out; omega))
  clear hn0
  · go_enter Try.func16, Try.ntmps16
    have hb0 : Below w.heap.size w (w.alloc (.cells #[.int .i64 t0, .slice a0 len0 cap0] 30)) := (Below.refl _ _).alloc (Nat.le_refl _) _
    obtain ⟨w0, hW0⟩ : ∃ W0, w.alloc (.cells #[.int .i64 t0, .slice a0 len0 cap0] 30) = W0 := ⟨_, rfl⟩
    have P : w0.heap[w.heap.size]? = some (.cells #[.int .i64 t0, .slice a0 len0 cap0] 30 (0, 0)) := by rw [← hW0]; exact new_at _ _ rfl
    have hx0 : w.heap.size < w0.heap.size := heap_lt P
    rw [hW0] at hb0
    have HW0 := Lib.hid hW0
    clear hW0
    have hs0_0 := hs0.below hb0 (Nat.le_refl _)
    clear hs0
    have hz0 := hb0.size
    have kc_P0 := cell_of P 0
    have kc_P1 := cell_of P 1
    simp only [List.getElem?_toArray, List.getElem?_cons_zero, List.getElem?_cons_succ] at kc_P0 kc_P1
    go_wp2_with fail
    rw [HW0.out]
    refine (szPuzzle_any _ _ _ _ _ hlen0).mono ?_
    rintro e w1 ⟨rfl, hb1⟩
    clear kc_P0 kc_P1
    have hz1 := hb1.size
    have hB1 : Below w.heap.size w w1 := Below.trans hb0 (hb1.mono (by omega))
    have hs0_1 := hs0_0.below hb1 (by omega)
    clear hs0_0
    have P_1 := (hb1.block _ (by omega)).trans P
    clear P
    have kc_P0 := cell_of P_1 0
    have kc_P1 := cell_of P_1 1
    simp only [List.getElem?_toArray, List.getElem?_cons_zero, List.getElem?_cons_succ] at kc_P0 kc_P1
    go_wp2_with fail
    refine (toPuzzle_any t0 a0 len0 cap0 z0 w.heap.size _ HN0.out hlen0 hs0_1 (by omega)).mono ?_
    rintro e w2 ⟨caA, rfl, ca, hb2⟩
    clear kc_P0 kc_P1
    have hz2 := hb2.size
    have hB2 : Below w.heap.size w w2 := Below.trans hB1 (hb2.mono (by omega))
    have hs0_2 := hs0_1.below hb2 (by omega)
    clear hs0_1
    have P_2 := (hb2.block _ (by omega)).trans P_1
    clear P_1
    have kc_P0 := cell_of P_2 0
    have kc_P1 := cell_of P_2 1
    simp only [List.getElem?_toArray, List.getElem?_cons_zero, List.getElem?_cons_succ] at kc_P0 kc_P1
    go_wp2_with fail
    refine (spec_HarderPuzzle t0 _ _ _ z0 _ _ _ HN0.out hlen0 HNC ca.seg (by omega) _ HQ.out).mono ?_
    rintro e w3 ⟨WA0, Wn0, Wc0, rfl, Wl0, Wo0, hb3⟩
    clear kc_P0 kc_P1
    have hz3 := hb3.size
    have hB3 : Below w.heap.size w w3 := Below.trans hB2 (hb3.mono (by omega))
    have hs0_3 := hs0_2.below hb3 (by omega)
    clear hs0_2
    have P_3 := (hb3.block _ (by omega)).trans P_2
    clear P_2
    have ca_3 := ca.below hb3 (by omega)
    clear ca
    have kl_P : w.heap.size < w3.heap.size := by omega
    have kc_P0 := cell_of P_3 0
    have kc_P1 := cell_of P_3 1
    simp only [List.getElem?_toArray, List.getElem?_cons_zero, List.getElem?_cons_succ] at kc_P0 kc_P1
    go_wp2_with fail
    obtain ⟨w4, hw4⟩ : ∃ wz, w3.alloc (.cells #[.int .i64 (intU true t0), .slice WA0 Wn0 Wc0] 35) = wz := ⟨_, rfl⟩
    have hb4 : Below w3.heap.size w3 w4 := by rw [← hw4]; exact (Below.refl _ _).alloc (Nat.le_refl _) _
    have hx4 : w4.heap.size = w3.heap.size + 1 := by rw [← hw4]; simp
    have Wb : w4.heap[w3.heap.size]? = some (.cells #[.int .i64 (intU true t0), .slice WA0 Wn0 Wc0] 35 (0, 0)) := by rw [← hw4]; exact new_at _ _ rfl
    have HW4 := Lib.hid hw4
    clear hw4
    have HX4 := Lib.hid hx4
    have hxx4 : w3.heap.size < w4.heap.size := by omega
    clear hx4
    have hz4 := hb4.size
    have hB4 : Below w.heap.size w w4 := Below.trans hB3 (hb4.mono (by omega))
    have hs0_4 := hs0_3.below hb4 (by omega)
    clear hs0_3
    have P_4 := (hb4.block _ (by omega)).trans P_3
    clear P_3
    have Wo0_4 := Wo0.below hb4 (by omega)
    clear Wo0
    rw [HW4.out]
    refine (toPuzzle_any t0 a0 len0 cap0 z0 w.heap.size _ HN0.out hlen0 hs0_4 (by omega)).mono ?_
    rintro e w5 ⟨x0A, rfl, x0, hb5⟩
    clear kl_P kc_P0 kc_P1
    have hz5 := hb5.size
    have hB5 : Below w.heap.size w w5 := Below.trans hB4 (hb5.mono (by omega))
    have hs0_5 := hs0_4.below hb5 (by omega)
    clear hs0_4
    have P_5 := (hb5.block _ (by omega)).trans P_4
    clear P_4
    have Wo0_5 := Wo0_4.below hb5 (by omega)
    clear Wo0_4
    have Wb_5 := (hb5.block _ (by omega)).trans Wb
    clear Wb
    have kl_P : w.heap.size < w5.heap.size := by omega
    have kc_P0 := cell_of P_5 0
    have kc_P1 := cell_of P_5 1
    simp only [List.getElem?_toArray, List.getElem?_cons_zero, List.getElem?_cons_succ] at kc_P0 kc_P1
    go_wp2_with fail
    obtain ⟨w6, hw6⟩ : ∃ wz, w5.alloc (.cells #[.int .i64 t0, .slice x0A len0 len0] 35) = wz := ⟨_, rfl⟩
    have hb6 : Below w5.heap.size w5 w6 := by rw [← hw6]; exact (Below.refl _ _).alloc (Nat.le_refl _) _
    have hx6 : w6.heap.size = w5.heap.size + 1 := by rw [← hw6]; simp
    have X0 : w6.heap[w5.heap.size]? = some (.cells #[.int .i64 t0, .slice x0A len0 len0] 35 (0, 0)) := by rw [← hw6]; exact new_at _ _ rfl
    have HW6 := Lib.hid hw6
    clear hw6
    have HX6 := Lib.hid hx6
    have hxx6 : w5.heap.size < w6.heap.size := by omega
    clear hx6
    have hz6 := hb6.size
    have hB6 : Below w.heap.size w w6 := Below.trans hB5 (hb6.mono (by omega))
    have hs0_6 := hs0_5.below hb6 (by omega)
    clear hs0_5
    have P_6 := (hb6.block _ (by omega)).trans P_5
    clear P_5
    have Wo0_6 := Wo0_5.below hb6 (by omega)
    clear Wo0_5
    have Wb_6 := (hb6.block _ (by omega)).trans Wb_5
    clear Wb_5
    have x0_6 := x0.below hb6 (by omega)
    clear x0
    rw [HW6.out]
    refine (impl_HarderPuzzle t0 _ _ _ z0 _ _ _ HN0.out hlen0 HNC x0_6.seg (by omega) _ HQ.out).mono ?_
    rintro e w7 ⟨GA0, Gn0, Gc0, rfl, Gl0, Go0, hb7⟩
    clear kl_P kc_P0 kc_P1
    have hz7 := hb7.size
    have hB7 : Below w.heap.size w w7 := Below.trans hB6 (hb7.mono (by omega))
    have hs0_7 := hs0_6.below hb7 (by omega)
    clear hs0_6
    have P_7 := (hb7.block _ (by omega)).trans P_6
    clear P_6
    have Wo0_7 := Wo0_6.below hb7 (by omega)
    clear Wo0_6
    have Wb_7 := (hb7.block _ (by omega)).trans Wb_6
    clear Wb_6
    have x0_7 := x0_6.below hb7 (by omega)
    clear x0_6
    have X0_7 := (hb7.block _ (by omega)).trans X0
    clear X0
    obtain rfl : Gn0 = Wn0 := Gl0.symm.trans Wl0
    have HY0 := Lib.hid Gl0
    have hy0 := HYB.out
    rw [Gl0] at hy0
    clear Wl0 Gl0
    have kl_Wb : w3.heap.size < w7.heap.size := by omega
    have kc_Wb0 := cell_of Wb_7 0
    have kc_Wb1 := cell_of Wb_7 1
    simp only [List.getElem?_toArray, List.getElem?_cons_zero, List.getElem?_cons_succ] at kc_Wb0 kc_Wb1
    go_wp2_with fail
    obtain ⟨w8, hw8⟩ : ∃ wz, w7.alloc (.cells #[.int .i64 (intU true t0), .slice GA0 Gn0 Gc0] 35) = wz := ⟨_, rfl⟩
    have hb8 : Below w7.heap.size w7 w8 := by rw [← hw8]; exact (Below.refl _ _).alloc (Nat.le_refl _) _
    have hx8 : w8.heap.size = w7.heap.size + 1 := by rw [← hw8]; simp
    have Gb : w8.heap[w7.heap.size]? = some (.cells #[.int .i64 (intU true t0), .slice GA0 Gn0 Gc0] 35 (0, 0)) := by rw [← hw8]; exact new_at _ _ rfl
    have HW8 := Lib.hid hw8
    clear hw8
    have HX8 := Lib.hid hx8
    have hxx8 : w7.heap.size < w8.heap.size := by omega
    clear hx8
    have hz8 := hb8.size
    have hB8 : Below w.heap.size w w8 := Below.trans hB7 (hb8.mono (by omega))
    have hs0_8 := hs0_7.below hb8 (by omega)
    clear hs0_7
    have P_8 := (hb8.block _ (by omega)).trans P_7
    clear P_7
    have Wo0_8 := Wo0_7.below hb8 (by omega)
    clear Wo0_7
    have Wb_8 := (hb8.block _ (by omega)).trans Wb_7
    clear Wb_7
    have x0_8 := x0_7.below hb8 (by omega)
    clear x0_7
    have X0_8 := (hb8.block _ (by omega)).trans X0_7
    clear X0_7
    have Go0_8 := Go0.below hb8 (by omega)
    clear Go0
    rw [HW8.out]
    refine (eqPuzzle_any _ _ _ _ _ _ _ _ _ _ _ _ HY0.out (by omega) Go0_8.seg Wo0_8.seg (by omega) (by omega)).mono ?_
    rintro e w9 ⟨rfl, hb9⟩
    clear kl_Wb kc_Wb0 kc_Wb1
    have hz9 := hb9.size
    have hB9 : Below w.heap.size w w9 := Below.trans hB8 (hb9.mono (by omega))
    have hs0_9 := hs0_8.below hb9 (by omega)
    clear hs0_8
    have P_9 := (hb9.block _ (by omega)).trans P_8
    clear P_8
    have Wo0_9 := Wo0_8.below hb9 (by omega)
    clear Wo0_8
    have Wb_9 := (hb9.block _ (by omega)).trans Wb_8
    clear Wb_8
    have x0_9 := x0_8.below hb9 (by omega)
    clear x0_8
    have X0_9 := (hb9.block _ (by omega)).trans X0_8
    clear X0_8
    have Go0_9 := Go0_8.below hb9 (by omega)
    clear Go0_8
    have Gb_9 := (hb9.block _ (by omega)).trans Gb
    clear Gb
    go_wp2_with fail
    refine wp_region_held_drew (S := fun wq => wq.heap[w5.heap.size]? = some (.cells #[.int .i64 t0, .slice x0A len0 len0] 35 (0, 0)) ∧ wq.heap[w.heap.size]? = some (.cells #[.int .i64 t0, .slice a0 len0 cap0] 30 (0, 0))) (by kernel_rfl) ⟨X0_9, P_9⟩ (fun hHrx00 => ?_)
    refine wpAnyH_take (i := 0) (v := ?_) (ops_at rfl) (by kernel_rfl) (by kernel_rfl) (by kernel_rfl) (fun _ _ _ h => h) (Or.inl ⟨by rfl, ?yrx000⟩) (by assumption) ?nrx000
    case yrx000 => (intro wS hSw; obtain ⟨s0, s1⟩ := hSw; have q0 := cell_of s0 0; have q1 := cell_of s0 1; have q2 := cell_of s1 0; have q3 := cell_of s1 1; go_simp; try rfl)
    try simp only [Act.put, List.setIfInBounds_toArray, List.set_cons_zero, List.set_cons_succ]
    refine wpAnyH_take (i := 1) (v := ?_) (ops_at rfl) (by kernel_rfl) (by kernel_rfl) (by kernel_rfl) (fun _ _ _ h => h) (Or.inl ⟨by rfl, ?yrx001⟩) (by assumption) ?nrx001
    case yrx001 => (intro wS hSw; obtain ⟨s0, s1⟩ := hSw; have q0 := cell_of s0 0; have q1 := cell_of s0 1; have q2 := cell_of s1 0; have q3 := cell_of s1 1; go_simp; try rfl)
    try simp only [Act.put, List.setIfInBounds_toArray, List.set_cons_zero, List.set_cons_succ]
    obtain ⟨w10, hw10⟩ : ∃ wz, w9.drew = wz := ⟨_, rfl⟩
    have hb10 : Below w9.heap.size w9 w10 := by rw [← hw10]; exact below_drewN (Below.refl _ _) 1
    have HW10 := Lib.hid hw10
    clear hw10
    have hz10 := hb10.size
    have hB10 : Below w.heap.size w w10 := Below.trans hB9 (hb10.mono (by omega))
    have hs0_10 := hs0_9.below hb10 (by omega)
    clear hs0_9
    have P_10 := (hb10.block _ (by omega)).trans P_9
    clear P_9
    have Wo0_10 := Wo0_9.below hb10 (by omega)
    clear Wo0_9
    have Wb_10 := (hb10.block _ (by omega)).trans Wb_9
    clear Wb_9
    have x0_10 := x0_9.below hb10 (by omega)
    clear x0_9
    have X0_10 := (hb10.block _ (by omega)).trans X0_9
    clear X0_9
    have Go0_10 := Go0_9.below hb10 (by omega)
    clear Go0_9
    have Gb_10 := (hb10.block _ (by omega)).trans Gb_9
    clear Gb_9
    refine wpAnyH_ready (rs := [2]) (by kernel_rfl) (by simp) ?_
    refine AllReadyH.cons (ops_at rfl) (fun K hK => ?_) AllReadyH.nil
    go_simp
    rw [HW10.out]
    refine (toPuzzle_any t0 a0 len0 cap0 z0 w.heap.size _ HN0.out hlen0 hs0_10 (by omega)).mono ?_
    rintro e w11 ⟨cbA, rfl, cb, hb11⟩
    have hz11 := hb11.size
    have hB11 : Below w.heap.size w w11 := Below.trans hB10 (hb11.mono (by omega))
    have hs0_11 := hs0_10.below hb11 (by omega)
    clear hs0_10
    have P_11 := (hb11.block _ (by omega)).trans P_10
    clear P_10
    have Wo0_11 := Wo0_10.below hb11 (by omega)
    clear Wo0_10
    have Wb_11 := (hb11.block _ (by omega)).trans Wb_10
    clear Wb_10
    have x0_11 := x0_10.below hb11 (by omega)
    clear x0_10
    have X0_11 := (hb11.block _ (by omega)).trans X0_10
    clear X0_10
    have Go0_11 := Go0_10.below hb11 (by omega)
    clear Go0_10
    have Gb_11 := (hb11.block _ (by omega)).trans Gb_10
    clear Gb_10
    refine hK.out _ _ ⟨X0_11, P_11⟩ (fun hHrx0011 => ?_)
    clear hK K
    refine wpAnyH_ready (rs := [3]) (by kernel_rfl) (by simp) ?_
    refine AllReadyH.cons (ops_at rfl) (fun K hK => ?_) AllReadyH.nil
    go_simp
    refine (eqPuzzle_any _ _ _ _ _ _ _ _ _ _ _ _ HN0.out hlen0 x0_11.seg cb.seg (by omega) (by omega)).mono ?_
    rintro e w12 ⟨rfl, hb12⟩
    have hz12 := hb12.size
    have hB12 : Below w.heap.size w w12 := Below.trans hB11 (hb12.mono (by omega))
    have hs0_12 := hs0_11.below hb12 (by omega)
    clear hs0_11
    have P_12 := (hb12.block _ (by omega)).trans P_11
    clear P_11
    have Wo0_12 := Wo0_11.below hb12 (by omega)
    clear Wo0_11
    have Wb_12 := (hb12.block _ (by omega)).trans Wb_11
    clear Wb_11
    have x0_12 := x0_11.below hb12 (by omega)
    clear x0_11
    have X0_12 := (hb12.block _ (by omega)).trans X0_11
    clear X0_11
    have Go0_12 := Go0_11.below hb12 (by omega)
    clear Go0_11
    have Gb_12 := (hb12.block _ (by omega)).trans Gb_11
    clear Gb_11
    have cb_12 := cb.below hb12 (by omega)
    clear cb
    refine hK.out _ _ ⟨X0_12, P_12⟩ (fun hHrx0012 => ?_)
    clear hK K
    refine wpAnyH_take (i := 4) (v := ?_) (ops_at rfl) (by kernel_rfl) (by kernel_rfl) (by kernel_rfl) (fun _ _ _ h => h) (Or.inl ⟨by rfl, ?yrx004⟩) (by assumption) ?nrx004
    case yrx004 => (intro wS hSw; obtain ⟨s0, s1⟩ := hSw; have q0 := cell_of s0 0; have q1 := cell_of s0 1; have q2 := cell_of s1 0; have q3 := cell_of s1 1; go_simp; try rfl)
    try simp only [Act.put, List.setIfInBounds_toArray, List.set_cons_zero, List.set_cons_succ]
    refine wpAnyH_done (by kernel_rfl) ?_ _
    have kc_X00 := cell_of X0_12 0
    have kc_X01 := cell_of X0_12 1
    simp only [List.getElem?_toArray, List.getElem?_cons_zero, List.getElem?_cons_succ] at kc_X00 kc_X01
    go_wp2_with fail
    refine (markPuzzle_any _ _ _ _ _ _ _ _ _ HN0.out (by omega) (by omega) (by omega) x0_12 (by omega)).mono ?_
    rintro e w13 ⟨rfl, x0_13, ho13⟩
    clear kc_X00 kc_X01
    have hz13 := ho13.size
    have hB13 : Below w.heap.size w w13 := Below.trans hB12 (ho13.below (by omega) (fun b hb => by omega))
    have hs0_13 := hs0_12.only ho13 (by omega) (fun b hb => by omega)
    clear hs0_12
    have P_13 := (ho13.block _ (by omega) (fun hs => by omega)).trans P_12
    clear P_12
    have Wo0_13 := Wo0_12.only ho13 (by omega) (fun b hb => by omega)
    clear Wo0_12
    have Wb_13 := (ho13.block _ (by omega) (fun hs => by omega)).trans Wb_12
    clear Wb_12
    have X0_13 := (ho13.block _ (by omega) (fun hs => by omega)).trans X0_12
    clear X0_12
    have Go0_13 := Go0_12.only ho13 (by omega) (fun b hb => by omega)
    clear Go0_12
    have Gb_13 := (ho13.block _ (by omega) (fun hs => by omega)).trans Gb_12
    clear Gb_12
    have kc_Gb0 := cell_of Gb_13 0
    have kc_Gb1 := cell_of Gb_13 1
    have kc_Wb0 := cell_of Wb_13 0
    have kc_Wb1 := cell_of Wb_13 1
    simp only [List.getElem?_toArray, List.getElem?_cons_zero, List.getElem?_cons_succ] at kc_Gb0 kc_Gb1 kc_Wb0 kc_Wb1
    go_wp2_with fail
    refine (eqPuzzle_any _ _ _ _ _ _ _ _ _ _ _ _ HY0.out (by omega) Go0_13.seg Wo0_13.seg (by omega) (by omega)).mono ?_
    rintro e w14 ⟨rfl, hb14⟩
    clear kc_Gb0 kc_Gb1 kc_Wb0 kc_Wb1
    have hz14 := hb14.size
    have hB14 : Below w.heap.size w w14 := Below.trans hB13 (hb14.mono (by omega))
    have hs0_14 := hs0_13.below hb14 (by omega)
    clear hs0_13
    have P_14 := (hb14.block _ (by omega)).trans P_13
    clear P_13
    have Wo0_14 := Wo0_13.below hb14 (by omega)
    clear Wo0_13
    have Wb_14 := (hb14.block _ (by omega)).trans Wb_13
    clear Wb_13
    have X0_14 := (hb14.block _ (by omega)).trans X0_13
    clear X0_13
    have Go0_14 := Go0_13.below hb14 (by omega)
    clear Go0_13
    have Gb_14 := (hb14.block _ (by omega)).trans Gb_13
    clear Gb_13
    have kc_Gb0 := cell_of Gb_14 0
    have kc_Gb1 := cell_of Gb_14 1
    simp only [List.getElem?_toArray, List.getElem?_cons_zero, List.getElem?_cons_succ] at kc_Gb0 kc_Gb1
    go_wp2_with fail
    refine (markPuzzle_any _ _ _ _ _ _ _ _ _ HY0.out (by omega) (by omega) (by omega) Go0_14 (by omega)).mono ?_
    rintro e w15 ⟨rfl, Go0_15, ho15⟩
    clear kc_Gb0 kc_Gb1
    have hz15 := ho15.size
    have hB15 : Below w.heap.size w w15 := Below.trans hB14 (ho15.below (by omega) (fun b hb => by omega))
    have hs0_15 := hs0_14.only ho15 (by omega) (fun b hb => by omega)
    clear hs0_14
    have P_15 := (ho15.block _ (by omega) (fun hs => by omega)).trans P_14
    clear P_14
    have Wo0_15 := Wo0_14.only ho15 (by omega) (fun b hb => by omega)
    clear Wo0_14
    have Wb_15 := (ho15.block _ (by omega) (fun hs => by omega)).trans Wb_14
    clear Wb_14
    have X0_15 := (ho15.block _ (by omega) (fun hs => by omega)).trans X0_14
    clear X0_14
    have Gb_15 := (ho15.block _ (by omega) (fun hs => by omega)).trans Gb_14
    clear Gb_14
    have kc_Gb0 := cell_of Gb_15 0
    have kc_Gb1 := cell_of Gb_15 1
    simp only [List.getElem?_toArray, List.getElem?_cons_zero, List.getElem?_cons_succ] at kc_Gb0 kc_Gb1
    go_wp2_with fail
    refine (heldPuzzle_any _ _ _ _ _ _ _ _ (by omega) (by omega) (by omega) Go0_15.seg (by omega)).mono ?_
    rintro e w16 ⟨rfl, hb16⟩
    clear kc_Gb0 kc_Gb1
    have hz16 := hb16.size
    have hB16 : Below w.heap.size w w16 := Below.trans hB15 (hb16.mono (by omega))
    have hs0_16 := hs0_15.below hb16 (by omega)
    clear hs0_15
    have P_16 := (hb16.block _ (by omega)).trans P_15
    clear P_15
    have Wo0_16 := Wo0_15.below hb16 (by omega)
    clear Wo0_15
    have Wb_16 := (hb16.block _ (by omega)).trans Wb_15
    clear Wb_15
    have X0_16 := (hb16.block _ (by omega)).trans X0_15
    clear X0_15
    have Go0_16 := Go0_15.below hb16 (by omega)
    clear Go0_15
    have Gb_16 := (hb16.block _ (by omega)).trans Gb_15
    clear Gb_15
    have kc_P0 := cell_of P_16 0
    have kc_P1 := cell_of P_16 1
    simp only [List.getElem?_toArray, List.getElem?_cons_zero, List.getElem?_cons_succ] at kc_P0 kc_P1
    go_wp2_with fail
    refine (toPuzzle_any t0 a0 len0 cap0 z0 w.heap.size _ HN0.out hlen0 hs0_16 (by omega)).mono ?_
    rintro e w17 ⟨ccA, rfl, cc, hb17⟩
    clear kc_P0 kc_P1
    have hz17 := hb17.size
    have hB17 : Below w.heap.size w w17 := Below.trans hB16 (hb17.mono (by omega))
    have hs0_17 := hs0_16.below hb17 (by omega)
    clear hs0_16
    have P_17 := (hb17.block _ (by omega)).trans P_16
    clear P_16
    have Wo0_17 := Wo0_16.below hb17 (by omega)
    clear Wo0_16
    have Wb_17 := (hb17.block _ (by omega)).trans Wb_16
    clear Wb_16
    have X0_17 := (hb17.block _ (by omega)).trans X0_16
    clear X0_16
    have Go0_17 := Go0_16.below hb17 (by omega)
    clear Go0_16
    have Gb_17 := (hb17.block _ (by omega)).trans Gb_16
    clear Gb_16
    have kc_P0 := cell_of P_17 0
    have kc_P1 := cell_of P_17 1
    have kc_X00 := cell_of X0_17 0
    have kc_X01 := cell_of X0_17 1
    simp only [List.getElem?_toArray, List.getElem?_cons_zero, List.getElem?_cons_succ] at kc_P0 kc_P1 kc_X00 kc_X01
    go_wp2_with fail
    refine (impl_HarderPuzzle t0 _ _ _ z0 _ _ _ HN0.out hlen0 HNC cc.seg (by omega) _ HQ.out).mono ?_
    rintro e w18 ⟨HA0, Hn0, Hc0, rfl, Hl0, Ho0, hb18⟩
    clear kc_P0 kc_P1 kc_X00 kc_X01
    have hz18 := hb18.size
    have hB18 : Below w.heap.size w w18 := Below.trans hB17 (hb18.mono (by omega))
    have hs0_18 := hs0_17.below hb18 (by omega)
    clear hs0_17
    have P_18 := (hb18.block _ (by omega)).trans P_17
    clear P_17
    have Wo0_18 := Wo0_17.below hb18 (by omega)
    clear Wo0_17
    have Wb_18 := (hb18.block _ (by omega)).trans Wb_17
    clear Wb_17
    have X0_18 := (hb18.block _ (by omega)).trans X0_17
    clear X0_17
    have Go0_18 := Go0_17.below hb18 (by omega)
    clear Go0_17
    have Gb_18 := (hb18.block _ (by omega)).trans Gb_17
    clear Gb_17
    have cc_18 := cc.below hb18 (by omega)
    clear cc
    obtain rfl : Hn0 = Gn0 := Hl0.symm.trans HY0.out
    clear Hl0
    have kl_Wb : w3.heap.size < w18.heap.size := by omega
    have kc_Wb0 := cell_of Wb_18 0
    have kc_Wb1 := cell_of Wb_18 1
    simp only [List.getElem?_toArray, List.getElem?_cons_zero, List.getElem?_cons_succ] at kc_Wb0 kc_Wb1
    go_wp2_with fail
    obtain ⟨w19, hw19⟩ : ∃ wz, w18.alloc (.cells #[.int .i64 (intU true t0), .slice HA0 Hn0 Hc0] 35) = wz := ⟨_, rfl⟩
    have hb19 : Below w18.heap.size w18 w19 := by rw [← hw19]; exact (Below.refl _ _).alloc (Nat.le_refl _) _
    have hx19 : w19.heap.size = w18.heap.size + 1 := by rw [← hw19]; simp
    have Hb : w19.heap[w18.heap.size]? = some (.cells #[.int .i64 (intU true t0), .slice HA0 Hn0 Hc0] 35 (0, 0)) := by rw [← hw19]; exact new_at _ _ rfl
    have HW19 := Lib.hid hw19
    clear hw19
    have HX19 := Lib.hid hx19
    have hxx19 : w18.heap.size < w19.heap.size := by omega
    clear hx19
    have hz19 := hb19.size
    have hB19 : Below w.heap.size w w19 := Below.trans hB18 (hb19.mono (by omega))
    have hs0_19 := hs0_18.below hb19 (by omega)
    clear hs0_18
    have P_19 := (hb19.block _ (by omega)).trans P_18
    clear P_18
    have Wo0_19 := Wo0_18.below hb19 (by omega)
    clear Wo0_18
    have Wb_19 := (hb19.block _ (by omega)).trans Wb_18
    clear Wb_18
    have X0_19 := (hb19.block _ (by omega)).trans X0_18
    clear X0_18
    have Go0_19 := Go0_18.below hb19 (by omega)
    clear Go0_18
    have Gb_19 := (hb19.block _ (by omega)).trans Gb_18
    clear Gb_18
    have Ho0_19 := Ho0.below hb19 (by omega)
    clear Ho0
    rw [HW19.out]
    refine (eqPuzzle_any _ _ _ _ _ _ _ _ _ _ _ _ HY0.out (by omega) Ho0_19.seg Wo0_19.seg (by omega) (by omega)).mono ?_
    rintro e w20 ⟨rfl, hb20⟩
    clear kl_Wb kc_Wb0 kc_Wb1
    have hz20 := hb20.size
    have hB20 : Below w.heap.size w w20 := Below.trans hB19 (hb20.mono (by omega))
    have hs0_20 := hs0_19.below hb20 (by omega)
    clear hs0_19
    have P_20 := (hb20.block _ (by omega)).trans P_19
    clear P_19
    have Wo0_20 := Wo0_19.below hb20 (by omega)
    clear Wo0_19
    have Wb_20 := (hb20.block _ (by omega)).trans Wb_19
    clear Wb_19
    have X0_20 := (hb20.block _ (by omega)).trans X0_19
    clear X0_19
    have Go0_20 := Go0_19.below hb20 (by omega)
    clear Go0_19
    have Gb_20 := (hb20.block _ (by omega)).trans Gb_19
    clear Gb_19
    have Ho0_20 := Ho0_19.below hb20 (by omega)
    clear Ho0_19
    have Hb_20 := (hb20.block _ (by omega)).trans Hb
    clear Hb
    have kc_Gb0 := cell_of Gb_20 0
    have kc_Gb1 := cell_of Gb_20 1
    simp only [List.getElem?_toArray, List.getElem?_cons_zero, List.getElem?_cons_succ] at kc_Gb0 kc_Gb1
    go_wp2_with fail
    refine (heldPuzzle_any _ _ _ _ _ _ _ _ (by omega) (by omega) (by omega) Go0_20.seg (by omega)).mono ?_
    rintro e w21 ⟨rfl, hb21⟩
    clear kc_Gb0 kc_Gb1
    have hz21 := hb21.size
    have hB21 : Below w.heap.size w w21 := Below.trans hB20 (hb21.mono (by omega))
    have hs0_21 := hs0_20.below hb21 (by omega)
    clear hs0_20
    have P_21 := (hb21.block _ (by omega)).trans P_20
    clear P_20
    have Wo0_21 := Wo0_20.below hb21 (by omega)
    clear Wo0_20
    have Wb_21 := (hb21.block _ (by omega)).trans Wb_20
    clear Wb_20
    have X0_21 := (hb21.block _ (by omega)).trans X0_20
    clear X0_20
    have Go0_21 := Go0_20.below hb21 (by omega)
    clear Go0_20
    have Gb_21 := (hb21.block _ (by omega)).trans Gb_20
    clear Gb_20
    have Ho0_21 := Ho0_20.below hb21 (by omega)
    clear Ho0_20
    have Hb_21 := (hb21.block _ (by omega)).trans Hb_20
    clear Hb_20
    go_wp2
    go_ret
    exact ⟨rfl, hB21⟩
  · go_enter Try.func16, Try.ntmps16
    have hb0 : Below w.heap.size w (w.alloc (.cells #[.int .i64 t0, .slice a0 len0 cap0] 30)) := (Below.refl _ _).alloc (Nat.le_refl _) _
    obtain ⟨w0, hW0⟩ : ∃ W0, w.alloc (.cells #[.int .i64 t0, .slice a0 len0 cap0] 30) = W0 := ⟨_, rfl⟩
    have P : w0.heap[w.heap.size]? = some (.cells #[.int .i64 t0, .slice a0 len0 cap0] 30 (0, 0)) := by rw [← hW0]; exact new_at _ _ rfl
    have hx0 : w.heap.size < w0.heap.size := heap_lt P
    rw [hW0] at hb0
    have HW0 := Lib.hid hW0
    clear hW0
    have hs0_0 := hs0.below hb0 (Nat.le_refl _)
    clear hs0
    have hz0 := hb0.size
    have kc_P0 := cell_of P 0
    have kc_P1 := cell_of P 1
    simp only [List.getElem?_toArray, List.getElem?_cons_zero, List.getElem?_cons_succ] at kc_P0 kc_P1
    go_wp2_with fail
    rw [HW0.out]
    refine (szPuzzle_any _ _ _ _ _ hlen0).mono ?_
    rintro e w1 ⟨rfl, hb1⟩
    clear kc_P0 kc_P1
    have hz1 := hb1.size
    have hB1 : Below w.heap.size w w1 := Below.trans hb0 (hb1.mono (by omega))
    have hs0_1 := hs0_0.below hb1 (by omega)
    clear hs0_0
    have P_1 := (hb1.block _ (by omega)).trans P
    clear P
    have kc_P0 := cell_of P_1 0
    have kc_P1 := cell_of P_1 1
    simp only [List.getElem?_toArray, List.getElem?_cons_zero, List.getElem?_cons_succ] at kc_P0 kc_P1
    go_wp2_with fail
    refine (toPuzzle_any t0 a0 len0 cap0 z0 w.heap.size _ HN0.out hlen0 hs0_1 (by omega)).mono ?_
    rintro e w2 ⟨caA, rfl, ca, hb2⟩
    clear kc_P0 kc_P1
    have hz2 := hb2.size
    have hB2 : Below w.heap.size w w2 := Below.trans hB1 (hb2.mono (by omega))
    have hs0_2 := hs0_1.below hb2 (by omega)
    clear hs0_1
    have P_2 := (hb2.block _ (by omega)).trans P_1
    clear P_1
    have kc_P0 := cell_of P_2 0
    have kc_P1 := cell_of P_2 1
    simp only [List.getElem?_toArray, List.getElem?_cons_zero, List.getElem?_cons_succ] at kc_P0 kc_P1
    go_wp2_with fail
    refine (spec_HarderPuzzle t0 _ _ _ z0 _ _ _ HN0.out hlen0 HNC ca.seg (by omega) _ HQ.out).mono ?_
    rintro e w3 ⟨WA0, Wn0, Wc0, rfl, Wl0, Wo0, hb3⟩
    clear kc_P0 kc_P1
    have hz3 := hb3.size
    have hB3 : Below w.heap.size w w3 := Below.trans hB2 (hb3.mono (by omega))
    have hs0_3 := hs0_2.below hb3 (by omega)
    clear hs0_2
    have P_3 := (hb3.block _ (by omega)).trans P_2
    clear P_2
    have ca_3 := ca.below hb3 (by omega)
    clear ca
    have kl_P : w.heap.size < w3.heap.size := by omega
    have kc_P0 := cell_of P_3 0
    have kc_P1 := cell_of P_3 1
    simp only [List.getElem?_toArray, List.getElem?_cons_zero, List.getElem?_cons_succ] at kc_P0 kc_P1
    go_wp2_with fail
    obtain ⟨w4, hw4⟩ : ∃ wz, w3.alloc (.cells #[.int .i64 (intU false t0), .slice WA0 Wn0 Wc0] 35) = wz := ⟨_, rfl⟩
    have hb4 : Below w3.heap.size w3 w4 := by rw [← hw4]; exact (Below.refl _ _).alloc (Nat.le_refl _) _
    have hx4 : w4.heap.size = w3.heap.size + 1 := by rw [← hw4]; simp
    have Wb : w4.heap[w3.heap.size]? = some (.cells #[.int .i64 (intU false t0), .slice WA0 Wn0 Wc0] 35 (0, 0)) := by rw [← hw4]; exact new_at _ _ rfl
    have HW4 := Lib.hid hw4
    clear hw4
    have HX4 := Lib.hid hx4
    have hxx4 : w3.heap.size < w4.heap.size := by omega
    clear hx4
    have hz4 := hb4.size
    have hB4 : Below w.heap.size w w4 := Below.trans hB3 (hb4.mono (by omega))
    have hs0_4 := hs0_3.below hb4 (by omega)
    clear hs0_3
    have P_4 := (hb4.block _ (by omega)).trans P_3
    clear P_3
    have Wo0_4 := Wo0.below hb4 (by omega)
    clear Wo0
    rw [HW4.out]
    refine (toPuzzle_any t0 a0 len0 cap0 z0 w.heap.size _ HN0.out hlen0 hs0_4 (by omega)).mono ?_
    rintro e w5 ⟨x0A, rfl, x0, hb5⟩
    clear kl_P kc_P0 kc_P1
    have hz5 := hb5.size
    have hB5 : Below w.heap.size w w5 := Below.trans hB4 (hb5.mono (by omega))
    have hs0_5 := hs0_4.below hb5 (by omega)
    clear hs0_4
    have P_5 := (hb5.block _ (by omega)).trans P_4
    clear P_4
    have Wo0_5 := Wo0_4.below hb5 (by omega)
    clear Wo0_4
    have Wb_5 := (hb5.block _ (by omega)).trans Wb
    clear Wb
    have kl_P : w.heap.size < w5.heap.size := by omega
    have kc_P0 := cell_of P_5 0
    have kc_P1 := cell_of P_5 1
    simp only [List.getElem?_toArray, List.getElem?_cons_zero, List.getElem?_cons_succ] at kc_P0 kc_P1
    go_wp2_with fail
    obtain ⟨w6, hw6⟩ : ∃ wz, w5.alloc (.cells #[.int .i64 t0, .slice x0A len0 len0] 35) = wz := ⟨_, rfl⟩
    have hb6 : Below w5.heap.size w5 w6 := by rw [← hw6]; exact (Below.refl _ _).alloc (Nat.le_refl _) _
    have hx6 : w6.heap.size = w5.heap.size + 1 := by rw [← hw6]; simp
    have X0 : w6.heap[w5.heap.size]? = some (.cells #[.int .i64 t0, .slice x0A len0 len0] 35 (0, 0)) := by rw [← hw6]; exact new_at _ _ rfl
    have HW6 := Lib.hid hw6
    clear hw6
    have HX6 := Lib.hid hx6
    have hxx6 : w5.heap.size < w6.heap.size := by omega
    clear hx6
    have hz6 := hb6.size
    have hB6 : Below w.heap.size w w6 := Below.trans hB5 (hb6.mono (by omega))
    have hs0_6 := hs0_5.below hb6 (by omega)
    clear hs0_5
    have P_6 := (hb6.block _ (by omega)).trans P_5
    clear P_5
    have Wo0_6 := Wo0_5.below hb6 (by omega)
    clear Wo0_5
    have Wb_6 := (hb6.block _ (by omega)).trans Wb_5
    clear Wb_5
    have x0_6 := x0.below hb6 (by omega)
    clear x0
    rw [HW6.out]
    refine (impl_HarderPuzzle t0 _ _ _ z0 _ _ _ HN0.out hlen0 HNC x0_6.seg (by omega) _ HQ.out).mono ?_
    rintro e w7 ⟨GA0, Gn0, Gc0, rfl, Gl0, Go0, hb7⟩
    clear kl_P kc_P0 kc_P1
    have hz7 := hb7.size
    have hB7 : Below w.heap.size w w7 := Below.trans hB6 (hb7.mono (by omega))
    have hs0_7 := hs0_6.below hb7 (by omega)
    clear hs0_6
    have P_7 := (hb7.block _ (by omega)).trans P_6
    clear P_6
    have Wo0_7 := Wo0_6.below hb7 (by omega)
    clear Wo0_6
    have Wb_7 := (hb7.block _ (by omega)).trans Wb_6
    clear Wb_6
    have x0_7 := x0_6.below hb7 (by omega)
    clear x0_6
    have X0_7 := (hb7.block _ (by omega)).trans X0
    clear X0
    obtain rfl : Gn0 = Wn0 := Gl0.symm.trans Wl0
    have HY0 := Lib.hid Gl0
    have hy0 := HYB.out
    rw [Gl0] at hy0
    clear Wl0 Gl0
    have kl_Wb : w3.heap.size < w7.heap.size := by omega
    have kc_Wb0 := cell_of Wb_7 0
    have kc_Wb1 := cell_of Wb_7 1
    simp only [List.getElem?_toArray, List.getElem?_cons_zero, List.getElem?_cons_succ] at kc_Wb0 kc_Wb1
    go_wp2_with fail
    obtain ⟨w8, hw8⟩ : ∃ wz, w7.alloc (.cells #[.int .i64 (intU false t0), .slice GA0 Gn0 Gc0] 35) = wz := ⟨_, rfl⟩
    have hb8 : Below w7.heap.size w7 w8 := by rw [← hw8]; exact (Below.refl _ _).alloc (Nat.le_refl _) _
    have hx8 : w8.heap.size = w7.heap.size + 1 := by rw [← hw8]; simp
    have Gb : w8.heap[w7.heap.size]? = some (.cells #[.int .i64 (intU false t0), .slice GA0 Gn0 Gc0] 35 (0, 0)) := by rw [← hw8]; exact new_at _ _ rfl
    have HW8 := Lib.hid hw8
    clear hw8
    have HX8 := Lib.hid hx8
    have hxx8 : w7.heap.size < w8.heap.size := by omega
    clear hx8
    have hz8 := hb8.size
    have hB8 : Below w.heap.size w w8 := Below.trans hB7 (hb8.mono (by omega))
    have hs0_8 := hs0_7.below hb8 (by omega)
    clear hs0_7
    have P_8 := (hb8.block _ (by omega)).trans P_7
    clear P_7
    have Wo0_8 := Wo0_7.below hb8 (by omega)
    clear Wo0_7
    have Wb_8 := (hb8.block _ (by omega)).trans Wb_7
    clear Wb_7
    have x0_8 := x0_7.below hb8 (by omega)
    clear x0_7
    have X0_8 := (hb8.block _ (by omega)).trans X0_7
    clear X0_7
    have Go0_8 := Go0.below hb8 (by omega)
    clear Go0
    rw [HW8.out]
    refine (eqPuzzle_any _ _ _ _ _ _ _ _ _ _ _ _ HY0.out (by omega) Go0_8.seg Wo0_8.seg (by omega) (by omega)).mono ?_
    rintro e w9 ⟨rfl, hb9⟩
    clear kl_Wb kc_Wb0 kc_Wb1
    have hz9 := hb9.size
    have hB9 : Below w.heap.size w w9 := Below.trans hB8 (hb9.mono (by omega))
    have hs0_9 := hs0_8.below hb9 (by omega)
    clear hs0_8
    have P_9 := (hb9.block _ (by omega)).trans P_8
    clear P_8
    have Wo0_9 := Wo0_8.below hb9 (by omega)
    clear Wo0_8
    have Wb_9 := (hb9.block _ (by omega)).trans Wb_8
    clear Wb_8
    have x0_9 := x0_8.below hb9 (by omega)
    clear x0_8
    have X0_9 := (hb9.block _ (by omega)).trans X0_8
    clear X0_8
    have Go0_9 := Go0_8.below hb9 (by omega)
    clear Go0_8
    have Gb_9 := (hb9.block _ (by omega)).trans Gb
    clear Gb
    go_wp2_with fail
    refine wp_region_held_drew (S := fun wq => wq.heap[w5.heap.size]? = some (.cells #[.int .i64 t0, .slice x0A len0 len0] 35 (0, 0)) ∧ wq.heap[w.heap.size]? = some (.cells #[.int .i64 t0, .slice a0 len0 cap0] 30 (0, 0))) (by kernel_rfl) ⟨X0_9, P_9⟩ (fun hHrx10 => ?_)
    refine wpAnyH_take (i := 0) (v := ?_) (ops_at rfl) (by kernel_rfl) (by kernel_rfl) (by kernel_rfl) (fun _ _ _ h => h) (Or.inl ⟨by rfl, ?yrx100⟩) (by assumption) ?nrx100
    case yrx100 => (intro wS hSw; obtain ⟨s0, s1⟩ := hSw; have q0 := cell_of s0 0; have q1 := cell_of s0 1; have q2 := cell_of s1 0; have q3 := cell_of s1 1; go_simp; try rfl)
    try simp only [Act.put, List.setIfInBounds_toArray, List.set_cons_zero, List.set_cons_succ]
    refine wpAnyH_take (i := 1) (v := ?_) (ops_at rfl) (by kernel_rfl) (by kernel_rfl) (by kernel_rfl) (fun _ _ _ h => h) (Or.inl ⟨by rfl, ?yrx101⟩) (by assumption) ?nrx101
    case yrx101 => (intro wS hSw; obtain ⟨s0, s1⟩ := hSw; have q0 := cell_of s0 0; have q1 := cell_of s0 1; have q2 := cell_of s1 0; have q3 := cell_of s1 1; go_simp; try rfl)
    try simp only [Act.put, List.setIfInBounds_toArray, List.set_cons_zero, List.set_cons_succ]
    obtain ⟨w10, hw10⟩ : ∃ wz, w9.drew = wz := ⟨_, rfl⟩
    have hb10 : Below w9.heap.size w9 w10 := by rw [← hw10]; exact below_drewN (Below.refl _ _) 1
    have HW10 := Lib.hid hw10
    clear hw10
    have hz10 := hb10.size
    have hB10 : Below w.heap.size w w10 := Below.trans hB9 (hb10.mono (by omega))
    have hs0_10 := hs0_9.below hb10 (by omega)
    clear hs0_9
    have P_10 := (hb10.block _ (by omega)).trans P_9
    clear P_9
    have Wo0_10 := Wo0_9.below hb10 (by omega)
    clear Wo0_9
    have Wb_10 := (hb10.block _ (by omega)).trans Wb_9
    clear Wb_9
    have x0_10 := x0_9.below hb10 (by omega)
    clear x0_9
    have X0_10 := (hb10.block _ (by omega)).trans X0_9
    clear X0_9
    have Go0_10 := Go0_9.below hb10 (by omega)
    clear Go0_9
    have Gb_10 := (hb10.block _ (by omega)).trans Gb_9
    clear Gb_9
    refine wpAnyH_ready (rs := [2]) (by kernel_rfl) (by simp) ?_
    refine AllReadyH.cons (ops_at rfl) (fun K hK => ?_) AllReadyH.nil
    go_simp
    rw [HW10.out]
    refine (toPuzzle_any t0 a0 len0 cap0 z0 w.heap.size _ HN0.out hlen0 hs0_10 (by omega)).mono ?_
    rintro e w11 ⟨cbA, rfl, cb, hb11⟩
    have hz11 := hb11.size
    have hB11 : Below w.heap.size w w11 := Below.trans hB10 (hb11.mono (by omega))
    have hs0_11 := hs0_10.below hb11 (by omega)
    clear hs0_10
    have P_11 := (hb11.block _ (by omega)).trans P_10
    clear P_10
    have Wo0_11 := Wo0_10.below hb11 (by omega)
    clear Wo0_10
    have Wb_11 := (hb11.block _ (by omega)).trans Wb_10
    clear Wb_10
    have x0_11 := x0_10.below hb11 (by omega)
    clear x0_10
    have X0_11 := (hb11.block _ (by omega)).trans X0_10
    clear X0_10
    have Go0_11 := Go0_10.below hb11 (by omega)
    clear Go0_10
    have Gb_11 := (hb11.block _ (by omega)).trans Gb_10
    clear Gb_10
    refine hK.out _ _ ⟨X0_11, P_11⟩ (fun hHrx1011 => ?_)
    clear hK K
    refine wpAnyH_ready (rs := [3]) (by kernel_rfl) (by simp) ?_
    refine AllReadyH.cons (ops_at rfl) (fun K hK => ?_) AllReadyH.nil
    go_simp
    refine (eqPuzzle_any _ _ _ _ _ _ _ _ _ _ _ _ HN0.out hlen0 x0_11.seg cb.seg (by omega) (by omega)).mono ?_
    rintro e w12 ⟨rfl, hb12⟩
    have hz12 := hb12.size
    have hB12 : Below w.heap.size w w12 := Below.trans hB11 (hb12.mono (by omega))
    have hs0_12 := hs0_11.below hb12 (by omega)
    clear hs0_11
    have P_12 := (hb12.block _ (by omega)).trans P_11
    clear P_11
    have Wo0_12 := Wo0_11.below hb12 (by omega)
    clear Wo0_11
    have Wb_12 := (hb12.block _ (by omega)).trans Wb_11
    clear Wb_11
    have x0_12 := x0_11.below hb12 (by omega)
    clear x0_11
    have X0_12 := (hb12.block _ (by omega)).trans X0_11
    clear X0_11
    have Go0_12 := Go0_11.below hb12 (by omega)
    clear Go0_11
    have Gb_12 := (hb12.block _ (by omega)).trans Gb_11
    clear Gb_11
    have cb_12 := cb.below hb12 (by omega)
    clear cb
    refine hK.out _ _ ⟨X0_12, P_12⟩ (fun hHrx1012 => ?_)
    clear hK K
    refine wpAnyH_take (i := 4) (v := ?_) (ops_at rfl) (by kernel_rfl) (by kernel_rfl) (by kernel_rfl) (fun _ _ _ h => h) (Or.inl ⟨by rfl, ?yrx104⟩) (by assumption) ?nrx104
    case yrx104 => (intro wS hSw; obtain ⟨s0, s1⟩ := hSw; have q0 := cell_of s0 0; have q1 := cell_of s0 1; have q2 := cell_of s1 0; have q3 := cell_of s1 1; go_simp; try rfl)
    try simp only [Act.put, List.setIfInBounds_toArray, List.set_cons_zero, List.set_cons_succ]
    refine wpAnyH_done (by kernel_rfl) ?_ _
    have kc_X00 := cell_of X0_12 0
    have kc_X01 := cell_of X0_12 1
    simp only [List.getElem?_toArray, List.getElem?_cons_zero, List.getElem?_cons_succ] at kc_X00 kc_X01
    go_wp2_with fail
    refine (markPuzzle_any _ _ _ _ _ _ _ _ _ HN0.out (by omega) (by omega) (by omega) x0_12 (by omega)).mono ?_
    rintro e w13 ⟨rfl, x0_13, ho13⟩
    clear kc_X00 kc_X01
    have hz13 := ho13.size
    have hB13 : Below w.heap.size w w13 := Below.trans hB12 (ho13.below (by omega) (fun b hb => by omega))
    have hs0_13 := hs0_12.only ho13 (by omega) (fun b hb => by omega)
    clear hs0_12
    have P_13 := (ho13.block _ (by omega) (fun hs => by omega)).trans P_12
    clear P_12
    have Wo0_13 := Wo0_12.only ho13 (by omega) (fun b hb => by omega)
    clear Wo0_12
    have Wb_13 := (ho13.block _ (by omega) (fun hs => by omega)).trans Wb_12
    clear Wb_12
    have X0_13 := (ho13.block _ (by omega) (fun hs => by omega)).trans X0_12
    clear X0_12
    have Go0_13 := Go0_12.only ho13 (by omega) (fun b hb => by omega)
    clear Go0_12
    have Gb_13 := (ho13.block _ (by omega) (fun hs => by omega)).trans Gb_12
    clear Gb_12
    have kc_Gb0 := cell_of Gb_13 0
    have kc_Gb1 := cell_of Gb_13 1
    have kc_Wb0 := cell_of Wb_13 0
    have kc_Wb1 := cell_of Wb_13 1
    simp only [List.getElem?_toArray, List.getElem?_cons_zero, List.getElem?_cons_succ] at kc_Gb0 kc_Gb1 kc_Wb0 kc_Wb1
    go_wp2_with fail
    refine (eqPuzzle_any _ _ _ _ _ _ _ _ _ _ _ _ HY0.out (by omega) Go0_13.seg Wo0_13.seg (by omega) (by omega)).mono ?_
    rintro e w14 ⟨rfl, hb14⟩
    clear kc_Gb0 kc_Gb1 kc_Wb0 kc_Wb1
    have hz14 := hb14.size
    have hB14 : Below w.heap.size w w14 := Below.trans hB13 (hb14.mono (by omega))
    have hs0_14 := hs0_13.below hb14 (by omega)
    clear hs0_13
    have P_14 := (hb14.block _ (by omega)).trans P_13
    clear P_13
    have Wo0_14 := Wo0_13.below hb14 (by omega)
    clear Wo0_13
    have Wb_14 := (hb14.block _ (by omega)).trans Wb_13
    clear Wb_13
    have X0_14 := (hb14.block _ (by omega)).trans X0_13
    clear X0_13
    have Go0_14 := Go0_13.below hb14 (by omega)
    clear Go0_13
    have Gb_14 := (hb14.block _ (by omega)).trans Gb_13
    clear Gb_13
    have kc_Gb0 := cell_of Gb_14 0
    have kc_Gb1 := cell_of Gb_14 1
    simp only [List.getElem?_toArray, List.getElem?_cons_zero, List.getElem?_cons_succ] at kc_Gb0 kc_Gb1
    go_wp2_with fail
    refine (markPuzzle_any _ _ _ _ _ _ _ _ _ HY0.out (by omega) (by omega) (by omega) Go0_14 (by omega)).mono ?_
    rintro e w15 ⟨rfl, Go0_15, ho15⟩
    clear kc_Gb0 kc_Gb1
    have hz15 := ho15.size
    have hB15 : Below w.heap.size w w15 := Below.trans hB14 (ho15.below (by omega) (fun b hb => by omega))
    have hs0_15 := hs0_14.only ho15 (by omega) (fun b hb => by omega)
    clear hs0_14
    have P_15 := (ho15.block _ (by omega) (fun hs => by omega)).trans P_14
    clear P_14
    have Wo0_15 := Wo0_14.only ho15 (by omega) (fun b hb => by omega)
    clear Wo0_14
    have Wb_15 := (ho15.block _ (by omega) (fun hs => by omega)).trans Wb_14
    clear Wb_14
    have X0_15 := (ho15.block _ (by omega) (fun hs => by omega)).trans X0_14
    clear X0_14
    have Gb_15 := (ho15.block _ (by omega) (fun hs => by omega)).trans Gb_14
    clear Gb_14
    have kc_Gb0 := cell_of Gb_15 0
    have kc_Gb1 := cell_of Gb_15 1
    simp only [List.getElem?_toArray, List.getElem?_cons_zero, List.getElem?_cons_succ] at kc_Gb0 kc_Gb1
    go_wp2_with fail
    refine (heldPuzzle_any _ _ _ _ _ _ _ _ (by omega) (by omega) (by omega) Go0_15.seg (by omega)).mono ?_
    rintro e w16 ⟨rfl, hb16⟩
    clear kc_Gb0 kc_Gb1
    have hz16 := hb16.size
    have hB16 : Below w.heap.size w w16 := Below.trans hB15 (hb16.mono (by omega))
    have hs0_16 := hs0_15.below hb16 (by omega)
    clear hs0_15
    have P_16 := (hb16.block _ (by omega)).trans P_15
    clear P_15
    have Wo0_16 := Wo0_15.below hb16 (by omega)
    clear Wo0_15
    have Wb_16 := (hb16.block _ (by omega)).trans Wb_15
    clear Wb_15
    have X0_16 := (hb16.block _ (by omega)).trans X0_15
    clear X0_15
    have Go0_16 := Go0_15.below hb16 (by omega)
    clear Go0_15
    have Gb_16 := (hb16.block _ (by omega)).trans Gb_15
    clear Gb_15
    have kc_P0 := cell_of P_16 0
    have kc_P1 := cell_of P_16 1
    simp only [List.getElem?_toArray, List.getElem?_cons_zero, List.getElem?_cons_succ] at kc_P0 kc_P1
    go_wp2_with fail
    refine (toPuzzle_any t0 a0 len0 cap0 z0 w.heap.size _ HN0.out hlen0 hs0_16 (by omega)).mono ?_
    rintro e w17 ⟨ccA, rfl, cc, hb17⟩
    clear kc_P0 kc_P1
    have hz17 := hb17.size
    have hB17 : Below w.heap.size w w17 := Below.trans hB16 (hb17.mono (by omega))
    have hs0_17 := hs0_16.below hb17 (by omega)
    clear hs0_16
    have P_17 := (hb17.block _ (by omega)).trans P_16
    clear P_16
    have Wo0_17 := Wo0_16.below hb17 (by omega)
    clear Wo0_16
    have Wb_17 := (hb17.block _ (by omega)).trans Wb_16
    clear Wb_16
    have X0_17 := (hb17.block _ (by omega)).trans X0_16
    clear X0_16
    have Go0_17 := Go0_16.below hb17 (by omega)
    clear Go0_16
    have Gb_17 := (hb17.block _ (by omega)).trans Gb_16
    clear Gb_16
    have kc_P0 := cell_of P_17 0
    have kc_P1 := cell_of P_17 1
    have kc_X00 := cell_of X0_17 0
    have kc_X01 := cell_of X0_17 1
    simp only [List.getElem?_toArray, List.getElem?_cons_zero, List.getElem?_cons_succ] at kc_P0 kc_P1 kc_X00 kc_X01
    go_wp2_with fail
    refine (impl_HarderPuzzle t0 _ _ _ z0 _ _ _ HN0.out hlen0 HNC cc.seg (by omega) _ HQ.out).mono ?_
    rintro e w18 ⟨HA0, Hn0, Hc0, rfl, Hl0, Ho0, hb18⟩
    clear kc_P0 kc_P1 kc_X00 kc_X01
    have hz18 := hb18.size
    have hB18 : Below w.heap.size w w18 := Below.trans hB17 (hb18.mono (by omega))
    have hs0_18 := hs0_17.below hb18 (by omega)
    clear hs0_17
    have P_18 := (hb18.block _ (by omega)).trans P_17
    clear P_17
    have Wo0_18 := Wo0_17.below hb18 (by omega)
    clear Wo0_17
    have Wb_18 := (hb18.block _ (by omega)).trans Wb_17
    clear Wb_17
    have X0_18 := (hb18.block _ (by omega)).trans X0_17
    clear X0_17
    have Go0_18 := Go0_17.below hb18 (by omega)
    clear Go0_17
    have Gb_18 := (hb18.block _ (by omega)).trans Gb_17
    clear Gb_17
    have cc_18 := cc.below hb18 (by omega)
    clear cc
    obtain rfl : Hn0 = Gn0 := Hl0.symm.trans HY0.out
    clear Hl0
    have kl_Wb : w3.heap.size < w18.heap.size := by omega
    have kc_Wb0 := cell_of Wb_18 0
    have kc_Wb1 := cell_of Wb_18 1
    simp only [List.getElem?_toArray, List.getElem?_cons_zero, List.getElem?_cons_succ] at kc_Wb0 kc_Wb1
    go_wp2_with fail
    obtain ⟨w19, hw19⟩ : ∃ wz, w18.alloc (.cells #[.int .i64 (intU false t0), .slice HA0 Hn0 Hc0] 35) = wz := ⟨_, rfl⟩
    have hb19 : Below w18.heap.size w18 w19 := by rw [← hw19]; exact (Below.refl _ _).alloc (Nat.le_refl _) _
    have hx19 : w19.heap.size = w18.heap.size + 1 := by rw [← hw19]; simp
    have Hb : w19.heap[w18.heap.size]? = some (.cells #[.int .i64 (intU false t0), .slice HA0 Hn0 Hc0] 35 (0, 0)) := by rw [← hw19]; exact new_at _ _ rfl
    have HW19 := Lib.hid hw19
    clear hw19
    have HX19 := Lib.hid hx19
    have hxx19 : w18.heap.size < w19.heap.size := by omega
    clear hx19
    have hz19 := hb19.size
    have hB19 : Below w.heap.size w w19 := Below.trans hB18 (hb19.mono (by omega))
    have hs0_19 := hs0_18.below hb19 (by omega)
    clear hs0_18
    have P_19 := (hb19.block _ (by omega)).trans P_18
    clear P_18
    have Wo0_19 := Wo0_18.below hb19 (by omega)
    clear Wo0_18
    have Wb_19 := (hb19.block _ (by omega)).trans Wb_18
    clear Wb_18
    have X0_19 := (hb19.block _ (by omega)).trans X0_18
    clear X0_18
    have Go0_19 := Go0_18.below hb19 (by omega)
    clear Go0_18
    have Gb_19 := (hb19.block _ (by omega)).trans Gb_18
    clear Gb_18
    have Ho0_19 := Ho0.below hb19 (by omega)
    clear Ho0
    rw [HW19.out]
    refine (eqPuzzle_any _ _ _ _ _ _ _ _ _ _ _ _ HY0.out (by omega) Ho0_19.seg Wo0_19.seg (by omega) (by omega)).mono ?_
    rintro e w20 ⟨rfl, hb20⟩
    clear kl_Wb kc_Wb0 kc_Wb1
    have hz20 := hb20.size
    have hB20 : Below w.heap.size w w20 := Below.trans hB19 (hb20.mono (by omega))
    have hs0_20 := hs0_19.below hb20 (by omega)
    clear hs0_19
    have P_20 := (hb20.block _ (by omega)).trans P_19
    clear P_19
    have Wo0_20 := Wo0_19.below hb20 (by omega)
    clear Wo0_19
    have Wb_20 := (hb20.block _ (by omega)).trans Wb_19
    clear Wb_19
    have X0_20 := (hb20.block _ (by omega)).trans X0_19
    clear X0_19
    have Go0_20 := Go0_19.below hb20 (by omega)
    clear Go0_19
    have Gb_20 := (hb20.block _ (by omega)).trans Gb_19
    clear Gb_19
    have Ho0_20 := Ho0_19.below hb20 (by omega)
    clear Ho0_19
    have Hb_20 := (hb20.block _ (by omega)).trans Hb
    clear Hb
    have kc_Gb0 := cell_of Gb_20 0
    have kc_Gb1 := cell_of Gb_20 1
    simp only [List.getElem?_toArray, List.getElem?_cons_zero, List.getElem?_cons_succ] at kc_Gb0 kc_Gb1
    go_wp2_with fail
    refine (heldPuzzle_any _ _ _ _ _ _ _ _ (by omega) (by omega) (by omega) Go0_20.seg (by omega)).mono ?_
    rintro e w21 ⟨rfl, hb21⟩
    clear kc_Gb0 kc_Gb1
    have hz21 := hb21.size
    have hB21 : Below w.heap.size w w21 := Below.trans hB20 (hb21.mono (by omega))
    have hs0_21 := hs0_20.below hb21 (by omega)
    clear hs0_20
    have P_21 := (hb21.block _ (by omega)).trans P_20
    clear P_20
    have Wo0_21 := Wo0_20.below hb21 (by omega)
    clear Wo0_20
    have Wb_21 := (hb21.block _ (by omega)).trans Wb_20
    clear Wb_20
    have X0_21 := (hb21.block _ (by omega)).trans X0_20
    clear X0_20
    have Go0_21 := Go0_20.below hb21 (by omega)
    clear Go0_20
    have Gb_21 := (hb21.block _ (by omega)).trans Gb_20
    clear Gb_20
    have Ho0_21 := Ho0_20.below hb21 (by omega)
    clear Ho0_20
    have Hb_21 := (hb21.block _ (by omega)).trans Hb_20
    clear Hb_20
    go_wp2
    go_ret
    exact ⟨rfl, hB21⟩

end LawHarderPuzzle
end Go.Proofs.Ytoheoojpmndhoaa
