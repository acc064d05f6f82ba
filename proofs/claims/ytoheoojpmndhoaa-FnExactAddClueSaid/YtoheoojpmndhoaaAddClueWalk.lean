/-
  For every puzzle and clue the law of AddClue returns true and leaves the puzzle as it was.
  Conditions: none.
-/
import Derived.Test.YtoheoojpmndhoaaPzE
import Derived.Test.YtoheoojpmndhoaaCopy
import Derived.Test.YtoheoojpmndhoaaEq
import Derived.Lib.SmallJoins
import Derived.Deep.RegionHeld3
import Derived.OpenShut
import Derived.ShutString
import Derived.ChangeOld
namespace Go.Proofs.Ytoheoojpmndhoaa
namespace LawAddClue
open Go.ChangeShapes Go.WideShapes Go.ChangeAt Go.RowKit
open Go.Joins (open_agg2 open_agg4)
set_option linter.unusedVariables false
set_option linter.unusedSimpArgs false

theorem own : ownKnob Try.prog.godebug = none := by kernel_rfl
theorem laidOut : laidOutB Try.prog = true := by kernel_rfl

set_option maxHeartbeats 2000000 in
set_option maxRecDepth 100000 in
theorem walk {t0 : Int} {a0 : Option Addr} {len0 cap0 : Nat} {z0 : List Clu} {a1a a1b a1c a1d : Int} {w : World} (ht0 : -9223372036854775808 ≤ t0 ∧ t0 ≤ 9223372036854775807) (hm0 : len0 ≤ 9223372036854775807) (hn0 : z0.length = len0) (hs0 : Seg w 0 w.heap.size a0 (flat4 z0)) :
    Calls Try.prog 13 #[pzV t0 a0 len0 cap0, clV (a1a, a1b, a1c, a1d)] w fun e w' => e = .returned (.bool true) ∧ Below w.heap.size w w' := by
  by_cases hbig0 : 1048576 < len0
  · clear hs0 hn0
    go_enter Try.func13, Try.ntmps13
    go_wp2_with fail
    refine (szPuzzle_big _ _ _ _ _ hbig0 hm0).mono ?_
    rintro e w0 ⟨rfl, hb0⟩
    go_wp2
    go_ret
    exact ⟨rfl, (((Below.refl _ _).alloc (Nat.le_refl _) _).alloc (by simp) _).trans (hb0.mono (by simp <;> omega))⟩
  have hlen0 : len0 ≤ 1048576 := by omega
  have HN0 := Lib.hid hn0
  have HNC := Nat.le_refl len0
  obtain ⟨q, hq⟩ : ∃ q, addB t0 z0 (a1a, a1b, a1c, a1d) = q := ⟨_, rfl⟩
  have HQ := Lib.hid hq
  clear hq
  cases q
  case' false => have HYB := Lib.hid (listU_no (z0 ++ [(a1a, a1b, a1c, a1d)]))
  case' true => have HYB := Lib.hid (listU_yes (bs := z0 ++ [(a1a, a1b, a1c, a1d)]) (by have := HN0.out; simp; simp [addB] at HQ; have h := puzB_true.1 HQ.out.1; omega))
  clear hn0
  · go_enter Try.func13, Try.ntmps13
    have hb0 : Below w.heap.size w ((w.alloc (.cells #[.int .i64 t0, .slice a0 len0 cap0] 30)).alloc (.cells #[.int .i64 a1a, .int .i64 a1b, .int .i64 a1c, .int .i64 a1d] 23)) := ((Below.refl _ _).alloc (Nat.le_refl _) _).alloc (by simp) _
    obtain ⟨w0, hW0⟩ : ∃ W0, (w.alloc (.cells #[.int .i64 t0, .slice a0 len0 cap0] 30)).alloc (.cells #[.int .i64 a1a, .int .i64 a1b, .int .i64 a1c, .int .i64 a1d] 23) = W0 := ⟨_, rfl⟩
    have P : w0.heap[w.heap.size]? = some (.cells #[.int .i64 t0, .slice a0 len0 cap0] 30 (0, 0)) := by rw [← hW0]; exact (alloc_old _ (by simp) _).trans (new_at _ _ rfl)
    have C : w0.heap[w.heap.size + 1]? = some (.cells #[.int .i64 a1a, .int .i64 a1b, .int .i64 a1c, .int .i64 a1d] 23 (0, 0)) := by rw [← hW0]; exact new_at _ _ (by simp)
    have hxc : w.heap.size + 1 < w0.heap.size := heap_lt C
    have hx0 : w.heap.size < w0.heap.size := heap_lt P
    rw [hW0] at hb0
    have HW0 := Lib.hid hW0
    clear hW0
    have hs0_0 := hs0.below hb0 (Nat.le_refl _)
    clear hs0
    have hz0 := hb0.size
    have kc_P0 := cell_of P 0
    have kc_P1 := cell_of P 1
    simp only [List.getElem?_toArray, List.getElem?_cons_zero, List.getElem?_cons_succ] at kc_P0 kc_P1
    go_wp2_with fail
    rw [HW0.out]
    refine (szPuzzle_any _ _ _ _ _ hlen0).mono ?_
    rintro e w1 ⟨rfl, hb1⟩
    clear kc_P0 kc_P1
    have hz1 := hb1.size
    have hB1 : Below w.heap.size w w1 := Below.trans hb0 (hb1.mono (by omega))
    have hs0_1 := hs0_0.below hb1 (by omega)
    clear hs0_0
    have P_1 := (hb1.block _ (by omega)).trans P
    clear P
    have C_1 := (hb1.block _ (by omega)).trans C
    clear C
    go_upto_region 5 with (fail)
    go_cut [6, 7] (fun sa sb wx => ∃ A n c g lo hi, sa = .pointer (some ⟨g, 0, none⟩) ∧ sb = .bool true ∧ (listU true (z0 ++ [(a1a, a1b, a1c, a1d)])).length = n ∧ w1.heap.size ≤ lo ∧ hi ≤ wx.heap.size ∧ (g < lo ∨ hi ≤ g) ∧ Own wx lo hi A (flat4 (listU true (z0 ++ [(a1a, a1b, a1c, a1d)]))) ∧ wx.heap[g]? = some (.cells #[.int .i64 (intU true t0), .slice A n c] 35 (0, 0)) ∧ w1.heap.size ≤ g ∧ Below w1.heap.size w1 wx)
    case first =>
      refine wp_region_held_drew (S := fun wq => wq.heap[w.heap.size]? = some (.cells #[.int .i64 t0, .slice a0 len0 cap0] 30 (0, 0)) ∧ wq.heap[w.heap.size + 1]? = some (.cells #[.int .i64 a1a, .int .i64 a1b, .int .i64 a1c, .int .i64 a1d] 23 (0, 0))) (by kernel_rfl) ⟨P_1, C_1⟩ (fun hHdx00 => ?_)
      refine wpAnyH_take (i := 0) (v := ?_) (ops_at rfl) (by kernel_rfl) (by kernel_rfl) (by kernel_rfl) (fun _ _ _ h => h) (Or.inl ⟨by rfl, ?ydx000⟩) (by assumption) ?ndx000
      case ydx000 => (intro wS hSw; obtain ⟨s0, s1⟩ := hSw; have q0 := cell_of s0 0; have q1 := cell_of s0 1; have q2 := cell_of s1 0; have q3 := cell_of s1 1; have q4 := cell_of s1 2; have q5 := cell_of s1 3; go_simp; try rfl)
      try simp only [Act.put, List.setIfInBounds_toArray, List.set_cons_zero, List.set_cons_succ]
      refine wpAnyH_take (i := 2) (v := ?_) (ops_at rfl) (by kernel_rfl) (by kernel_rfl) (by kernel_rfl) (fun _ _ _ h => h) (Or.inl ⟨by rfl, ?ydx002⟩) (by assumption) ?ndx002
      case ydx002 => (intro wS hSw; obtain ⟨s0, s1⟩ := hSw; have q0 := cell_of s0 0; have q1 := cell_of s0 1; have q2 := cell_of s1 0; have q3 := cell_of s1 1; have q4 := cell_of s1 2; have q5 := cell_of s1 3; go_simp; try rfl)
      try simp only [Act.put, List.setIfInBounds_toArray, List.set_cons_zero, List.set_cons_succ]
      obtain ⟨v0, hv0⟩ : ∃ v, w1.drew = v := ⟨_, rfl⟩
      have hc0 : Below w1.heap.size w1 v0 := by rw [← hv0]; exact (Below.refl _ _).drew
      rw [hv0] at hHdx00 ⊢
      clear hv0
      have hdz0 := hc0.size
      have f0_0 := hHdx00.1
      have f1_0 := hHdx00.2
      have sg_0 := hs0_1.below hc0 (by omega)
      refine wpAnyH_ready (rs := [1, 8]) (by kernel_rfl) (by simp) ?_
      refine AllReadyH.cons (ops_at rfl) (fun K hK => ?_) (AllReadyH.cons (ops_at rfl) (fun K hK => ?_) AllReadyH.nil)
      · skip
        go_simp
        refine (toPuzzle_any t0 a0 len0 cap0 z0 w.heap.size _ HN0.out hlen0 sg_0 (by omega)).mono ?_
        rintro e v1 ⟨cA, rfl, co_11, hd1⟩
        have hdz1 := hd1.size
        have hc11 := hc0.trans (hd1.mono (by omega))
        have f0_11 := (hd1.block _ (by omega)).trans f0_0
        have f1_11 := (hd1.block _ (by omega)).trans f1_0
        have sg_11 := sg_0.below hd1 (by omega)
        refine hK.out _ _ ⟨f0_11, f1_11⟩ (fun hR1 => ?_)
        clear hK K
        refine wpAnyH_ready (rs := [3, 8]) (by kernel_rfl) (by simp) ?_
        refine AllReadyH.cons (ops_at rfl) (fun K hK => ?_) (AllReadyH.cons (ops_at rfl) (fun K hK => ?_) AllReadyH.nil)
        · skip
          go_simp
          refine (toClue_any _ _ _ _ _).mono ?_
          rintro e v2 ⟨rfl, hd2⟩
          have hdz2 := hd2.size
          have hc213 := hc11.trans (hd2.mono (by omega))
          have f0_213 := (hd2.block _ (by omega)).trans f0_11
          have f1_213 := (hd2.block _ (by omega)).trans f1_11
          have sg_213 := sg_11.below hd2 (by omega)
          have co_213 := co_11.below hd2 (by omega)
          refine hK.out _ _ ⟨f0_213, f1_213⟩ (fun hR13 => ?_)
          clear hK K
          refine wpAnyH_ready (rs := [4, 8]) (by kernel_rfl) (by simp) ?_
          refine AllReadyH.cons (ops_at rfl) (fun K hK => ?_) (AllReadyH.cons (ops_at rfl) (fun K hK => ?_) AllReadyH.nil)
          · skip
            go_simp
            refine (spec_AddClue t0 _ _ _ a1a a1b a1c a1d z0 _ _ _ HN0.out hlen0 HNC co_213.seg (by omega) _ HQ.out).mono ?_
            rintro e v3 ⟨A, n, c, rfl, hl, ro_3134, hd3⟩
            have hdz3 := hd3.size
            have hc3134 := hc213.trans (hd3.mono (by omega))
            have f0_3134 := (hd3.block _ (by omega)).trans f0_213
            have f1_3134 := (hd3.block _ (by omega)).trans f1_213
            have sg_3134 := sg_213.below hd3 (by omega)
            have co_3134 := co_213.below hd3 (by omega)
            refine hK.out _ _ ⟨f0_3134, f1_3134⟩ (fun hR134 => ?_)
            clear hK K
            refine wpAnyH_take (i := 5) (v := ?_) (ops_at rfl) (by kernel_rfl) (by kernel_rfl) (by kernel_rfl) (fun _ _ _ h => h) (Or.inl ⟨by rfl, ?ydx001345⟩) (by assumption) ?ndx001345
            case ydx001345 => (intro wS hSw; obtain ⟨s0, s1⟩ := hSw; have q0 := cell_of s0 0; have q1 := cell_of s0 1; have q2 := cell_of s1 0; have q3 := cell_of s1 1; have q4 := cell_of s1 2; have q5 := cell_of s1 3; go_simp; try rfl)
            try simp only [Act.put, List.setIfInBounds_toArray, List.set_cons_zero, List.set_cons_succ]
            refine wpAnyH_take (i := 6) (v := ?_) (ops_at rfl) (by kernel_rfl) (by kernel_rfl) (by kernel_rfl) (fun _ _ _ h => h) (Or.inl ⟨by rfl, ?ydx001346⟩) (by assumption) ?ndx001346
            case ydx001346 => (intro wS hSw; obtain ⟨s0, s1⟩ := hSw; have q0 := cell_of s0 0; have q1 := cell_of s0 1; have q2 := cell_of s1 0; have q3 := cell_of s1 1; have q4 := cell_of s1 2; have q5 := cell_of s1 3; go_simp; try rfl)
            try simp only [Act.put, List.setIfInBounds_toArray, List.set_cons_zero, List.set_cons_succ]
            refine wpAnyH_take (i := 7) (v := ?_) (ops_at rfl) (by kernel_rfl) (by kernel_rfl) (by kernel_rfl) (fun _ _ _ h => h) (Or.inl ⟨by rfl, ?ydx001347⟩) (by assumption) ?ndx001347
            case ydx001347 => (intro wS hSw; obtain ⟨s0, s1⟩ := hSw; have q0 := cell_of s0 0; have q1 := cell_of s0 1; have q2 := cell_of s1 0; have q3 := cell_of s1 1; have q4 := cell_of s1 2; have q5 := cell_of s1 3; go_simp; try rfl)
            try simp only [Act.put, List.setIfInBounds_toArray, List.set_cons_zero, List.set_cons_succ]
            refine wpAnyH_ready (rs := [8]) (by kernel_rfl) (by simp) ?_
            refine AllReadyH.cons (ops_at rfl) (fun K hK => ?_) AllReadyH.nil
            go_simp
            obtain ⟨v4, hv4⟩ : ∃ v, v3.alloc (.cells #[.int .i64 0, .slice none 0 0] 35) = v := ⟨_, rfl⟩
            have hd4 : Below v3.heap.size v3 v4 := by rw [← hv4]; exact (Below.refl _ _).alloc (Nat.le_refl _) _
            have m_41348 : v4.heap[v3.heap.size]? = some (.cells #[.int .i64 0, .slice none 0 0] 35 (0, 0)) := by rw [← hv4]; exact new_at _ _ rfl
            have ml4 : v3.heap.size < v4.heap.size := by rw [← hv4]; simp
            have hdz4 := hd4.size
            have hc41348 := hc3134.trans (hd4.mono (by omega))
            have f0_41348 := (hd4.block _ (by omega)).trans f0_3134
            have f1_41348 := (hd4.block _ (by omega)).trans f1_3134
            have sg_41348 := sg_3134.below hd4 (by omega)
            have co_41348 := co_3134.below hd4 (by omega)
            have ro_41348 := ro_3134.below hd4 (by omega)
            rw [hv4]
            refine hK.out _ _ ⟨f0_41348, f1_41348⟩ (fun hR1348 => ?_)
            clear hK K
            clear hv4
            have c0 := cell_of m_41348 0
            have c1 := cell_of m_41348 1
            have e0 := frozen_of m_41348 0
            have e1 := frozen_of m_41348 1
            simp only [List.getElem?_toArray, List.getElem?_cons_zero, List.getElem?_cons_succ] at c0 c1
            have far : ∀ x, x ≠ v3.heap.size → ((v4.setCell ⟨v3.heap.size, 0, none⟩ (.int .i64 (intU true t0))).setCell ⟨v3.heap.size, 1, none⟩ (.slice A n c)).heap[x]? = v4.heap[x]? := fun x hx => (set_far _ hx _).trans (set_far _ hx _)
            have FAR := Lib.hid far
            clear far
            have fin := set_self (set_self m_41348 0 (.int .i64 (intU true t0))) 1 (.slice A n c)
            have FIN := Lib.hid fin
            clear fin
            refine wpAnyH_ready (rs := [9]) (by kernel_rfl) (by simp) ?_
            refine AllReadyH.cons (ops_at rfl) (fun K hK => ?_) AllReadyH.nil
            go_simp
            refine hK.out _ _ ⟨(FAR.out _ (by omega)).trans f0_41348, (FAR.out _ (by omega)).trans f1_41348⟩ (fun hRs => ?_)
            clear hK K
            refine wpAnyH_take (i := 10) (v := ?_) (ops_at rfl) (by kernel_rfl) (by kernel_rfl) (by kernel_rfl) (fun _ _ _ h => h) (Or.inl ⟨by rfl, ?ydx00134810⟩) (by assumption) ?ndx00134810
            case ydx00134810 => (intro wS hSw; obtain ⟨s0, s1⟩ := hSw; have q0 := cell_of s0 0; have q1 := cell_of s0 1; have q2 := cell_of s1 0; have q3 := cell_of s1 1; have q4 := cell_of s1 2; have q5 := cell_of s1 3; go_simp; try rfl)
            try simp only [Act.put, List.setIfInBounds_toArray, List.set_cons_zero, List.set_cons_succ]
            refine wpAnyH_done (by kernel_rfl) ?_ _
            go_wp2_with fail
            go_meet
            have hzf : ((v4.setCell ⟨v3.heap.size, 0, none⟩ (.int .i64 (intU true t0))).setCell ⟨v3.heap.size, 1, none⟩ (.slice A n c)).heap.size = v4.heap.size := by simp
            refine ⟨A, n, c, v3.heap.size, v2.heap.size, v3.heap.size, rfl, rfl, hl, by omega, by omega, by omega, ro_41348.keep fun b hb1 hb2 => FAR.out _ (by omega), by simpa using FIN.out, by omega, (hc41348.setCell (p := ⟨v3.heap.size, 0, none⟩) (by show _ ≤ v3.heap.size; omega) _).setCell (p := ⟨v3.heap.size, 1, none⟩) (by show _ ≤ v3.heap.size; omega) _⟩
          · skip
            go_simp
            obtain ⟨v3, hv3⟩ : ∃ v, v2.alloc (.cells #[.int .i64 0, .slice none 0 0] 35) = v := ⟨_, rfl⟩
            have hd3 : Below v2.heap.size v2 v3 := by rw [← hv3]; exact (Below.refl _ _).alloc (Nat.le_refl _) _
            have m_3138 : v3.heap[v2.heap.size]? = some (.cells #[.int .i64 0, .slice none 0 0] 35 (0, 0)) := by rw [← hv3]; exact new_at _ _ rfl
            have ml3 : v2.heap.size < v3.heap.size := by rw [← hv3]; simp
            have hdz3 := hd3.size
            have hc3138 := hc213.trans (hd3.mono (by omega))
            have f0_3138 := (hd3.block _ (by omega)).trans f0_213
            have f1_3138 := (hd3.block _ (by omega)).trans f1_213
            have sg_3138 := sg_213.below hd3 (by omega)
            have co_3138 := co_213.below hd3 (by omega)
            rw [hv3]
            refine hK.out _ _ ⟨f0_3138, f1_3138⟩ (fun hR138 => ?_)
            clear hK K
            clear hv3
            refine wpAnyH_ready (rs := [4]) (by kernel_rfl) (by simp) ?_
            refine AllReadyH.cons (ops_at rfl) (fun K hK => ?_) AllReadyH.nil
            go_simp
            refine (spec_AddClue t0 _ _ _ a1a a1b a1c a1d z0 _ _ _ HN0.out hlen0 HNC co_3138.seg (by omega) _ HQ.out).mono ?_
            rintro e v4 ⟨A, n, c, rfl, hl, ro_41384, hd4⟩
            have hdz4 := hd4.size
            have hc41384 := hc3138.trans (hd4.mono (by omega))
            have f0_41384 := (hd4.block _ (by omega)).trans f0_3138
            have f1_41384 := (hd4.block _ (by omega)).trans f1_3138
            have sg_41384 := sg_3138.below hd4 (by omega)
            have co_41384 := co_3138.below hd4 (by omega)
            have m_41384 := (hd4.block _ (by omega)).trans m_3138
            refine hK.out _ _ ⟨f0_41384, f1_41384⟩ (fun hR1384 => ?_)
            clear hK K
            refine wpAnyH_take (i := 5) (v := ?_) (ops_at rfl) (by kernel_rfl) (by kernel_rfl) (by kernel_rfl) (fun _ _ _ h => h) (Or.inl ⟨by rfl, ?ydx0013845⟩) (by assumption) ?ndx0013845
            case ydx0013845 => (intro wS hSw; obtain ⟨s0, s1⟩ := hSw; have q0 := cell_of s0 0; have q1 := cell_of s0 1; have q2 := cell_of s1 0; have q3 := cell_of s1 1; have q4 := cell_of s1 2; have q5 := cell_of s1 3; go_simp; try rfl)
            try simp only [Act.put, List.setIfInBounds_toArray, List.set_cons_zero, List.set_cons_succ]
            refine wpAnyH_take (i := 6) (v := ?_) (ops_at rfl) (by kernel_rfl) (by kernel_rfl) (by kernel_rfl) (fun _ _ _ h => h) (Or.inl ⟨by rfl, ?ydx0013846⟩) (by assumption) ?ndx0013846
            case ydx0013846 => (intro wS hSw; obtain ⟨s0, s1⟩ := hSw; have q0 := cell_of s0 0; have q1 := cell_of s0 1; have q2 := cell_of s1 0; have q3 := cell_of s1 1; have q4 := cell_of s1 2; have q5 := cell_of s1 3; go_simp; try rfl)
            try simp only [Act.put, List.setIfInBounds_toArray, List.set_cons_zero, List.set_cons_succ]
            refine wpAnyH_take (i := 7) (v := ?_) (ops_at rfl) (by kernel_rfl) (by kernel_rfl) (by kernel_rfl) (fun _ _ _ h => h) (Or.inl ⟨by rfl, ?ydx0013847⟩) (by assumption) ?ndx0013847
            case ydx0013847 => (intro wS hSw; obtain ⟨s0, s1⟩ := hSw; have q0 := cell_of s0 0; have q1 := cell_of s0 1; have q2 := cell_of s1 0; have q3 := cell_of s1 1; have q4 := cell_of s1 2; have q5 := cell_of s1 3; go_simp; try rfl)
            try simp only [Act.put, List.setIfInBounds_toArray, List.set_cons_zero, List.set_cons_succ]
            have c0 := cell_of m_41384 0
            have c1 := cell_of m_41384 1
            have e0 := frozen_of m_41384 0
            have e1 := frozen_of m_41384 1
            simp only [List.getElem?_toArray, List.getElem?_cons_zero, List.getElem?_cons_succ] at c0 c1
            have far : ∀ x, x ≠ v2.heap.size → ((v4.setCell ⟨v2.heap.size, 0, none⟩ (.int .i64 (intU true t0))).setCell ⟨v2.heap.size, 1, none⟩ (.slice A n c)).heap[x]? = v4.heap[x]? := fun x hx => (set_far _ hx _).trans (set_far _ hx _)
            have FAR := Lib.hid far
            clear far
            have fin := set_self (set_self m_41384 0 (.int .i64 (intU true t0))) 1 (.slice A n c)
            have FIN := Lib.hid fin
            clear fin
            refine wpAnyH_ready (rs := [9]) (by kernel_rfl) (by simp) ?_
            refine AllReadyH.cons (ops_at rfl) (fun K hK => ?_) AllReadyH.nil
            go_simp
            refine hK.out _ _ ⟨(FAR.out _ (by omega)).trans f0_41384, (FAR.out _ (by omega)).trans f1_41384⟩ (fun hRs => ?_)
            clear hK K
            refine wpAnyH_take (i := 10) (v := ?_) (ops_at rfl) (by kernel_rfl) (by kernel_rfl) (by kernel_rfl) (fun _ _ _ h => h) (Or.inl ⟨by rfl, ?ydx00138410⟩) (by assumption) ?ndx00138410
            case ydx00138410 => (intro wS hSw; obtain ⟨s0, s1⟩ := hSw; have q0 := cell_of s0 0; have q1 := cell_of s0 1; have q2 := cell_of s1 0; have q3 := cell_of s1 1; have q4 := cell_of s1 2; have q5 := cell_of s1 3; go_simp; try rfl)
            try simp only [Act.put, List.setIfInBounds_toArray, List.set_cons_zero, List.set_cons_succ]
            refine wpAnyH_done (by kernel_rfl) ?_ _
            go_wp2_with fail
            go_meet
            have hzf : ((v4.setCell ⟨v2.heap.size, 0, none⟩ (.int .i64 (intU true t0))).setCell ⟨v2.heap.size, 1, none⟩ (.slice A n c)).heap.size = v4.heap.size := by simp
            refine ⟨A, n, c, v2.heap.size, v3.heap.size, v4.heap.size, rfl, rfl, hl, by omega, by omega, by omega, ro_41384.keep fun b hb1 hb2 => FAR.out _ (by omega), by simpa using FIN.out, by omega, (hc41384.setCell (p := ⟨v2.heap.size, 0, none⟩) (by show _ ≤ v2.heap.size; omega) _).setCell (p := ⟨v2.heap.size, 1, none⟩) (by show _ ≤ v2.heap.size; omega) _⟩
        · skip
          go_simp
          obtain ⟨v2, hv2⟩ : ∃ v, v1.alloc (.cells #[.int .i64 0, .slice none 0 0] 35) = v := ⟨_, rfl⟩
          have hd2 : Below v1.heap.size v1 v2 := by rw [← hv2]; exact (Below.refl _ _).alloc (Nat.le_refl _) _
          have m_218 : v2.heap[v1.heap.size]? = some (.cells #[.int .i64 0, .slice none 0 0] 35 (0, 0)) := by rw [← hv2]; exact new_at _ _ rfl
          have ml2 : v1.heap.size < v2.heap.size := by rw [← hv2]; simp
          have hdz2 := hd2.size
          have hc218 := hc11.trans (hd2.mono (by omega))
          have f0_218 := (hd2.block _ (by omega)).trans f0_11
          have f1_218 := (hd2.block _ (by omega)).trans f1_11
          have sg_218 := sg_11.below hd2 (by omega)
          have co_218 := co_11.below hd2 (by omega)
          rw [hv2]
          refine hK.out _ _ ⟨f0_218, f1_218⟩ (fun hR18 => ?_)
          clear hK K
          clear hv2
          refine wpAnyH_ready (rs := [3]) (by kernel_rfl) (by simp) ?_
          refine AllReadyH.cons (ops_at rfl) (fun K hK => ?_) AllReadyH.nil
          go_simp
          refine (toClue_any _ _ _ _ _).mono ?_
          rintro e v3 ⟨rfl, hd3⟩
          have hdz3 := hd3.size
          have hc3183 := hc218.trans (hd3.mono (by omega))
          have f0_3183 := (hd3.block _ (by omega)).trans f0_218
          have f1_3183 := (hd3.block _ (by omega)).trans f1_218
          have sg_3183 := sg_218.below hd3 (by omega)
          have co_3183 := co_218.below hd3 (by omega)
          have m_3183 := (hd3.block _ (by omega)).trans m_218
          refine hK.out _ _ ⟨f0_3183, f1_3183⟩ (fun hR183 => ?_)
          clear hK K
          refine wpAnyH_ready (rs := [4]) (by kernel_rfl) (by simp) ?_
          refine AllReadyH.cons (ops_at rfl) (fun K hK => ?_) AllReadyH.nil
          go_simp
          refine (spec_AddClue t0 _ _ _ a1a a1b a1c a1d z0 _ _ _ HN0.out hlen0 HNC co_3183.seg (by omega) _ HQ.out).mono ?_
          rintro e v4 ⟨A, n, c, rfl, hl, ro_41834, hd4⟩
          have hdz4 := hd4.size
          have hc41834 := hc3183.trans (hd4.mono (by omega))
          have f0_41834 := (hd4.block _ (by omega)).trans f0_3183
          have f1_41834 := (hd4.block _ (by omega)).trans f1_3183
          have sg_41834 := sg_3183.below hd4 (by omega)
          have co_41834 := co_3183.below hd4 (by omega)
          have m_41834 := (hd4.block _ (by omega)).trans m_3183
          refine hK.out _ _ ⟨f0_41834, f1_41834⟩ (fun hR1834 => ?_)
          clear hK K
          refine wpAnyH_take (i := 5) (v := ?_) (ops_at rfl) (by kernel_rfl) (by kernel_rfl) (by kernel_rfl) (fun _ _ _ h => h) (Or.inl ⟨by rfl, ?ydx0018345⟩) (by assumption) ?ndx0018345
          case ydx0018345 => (intro wS hSw; obtain ⟨s0, s1⟩ := hSw; have q0 := cell_of s0 0; have q1 := cell_of s0 1; have q2 := cell_of s1 0; have q3 := cell_of s1 1; have q4 := cell_of s1 2; have q5 := cell_of s1 3; go_simp; try rfl)
          try simp only [Act.put, List.setIfInBounds_toArray, List.set_cons_zero, List.set_cons_succ]
          refine wpAnyH_take (i := 6) (v := ?_) (ops_at rfl) (by kernel_rfl) (by kernel_rfl) (by kernel_rfl) (fun _ _ _ h => h) (Or.inl ⟨by rfl, ?ydx0018346⟩) (by assumption) ?ndx0018346
          case ydx0018346 => (intro wS hSw; obtain ⟨s0, s1⟩ := hSw; have q0 := cell_of s0 0; have q1 := cell_of s0 1; have q2 := cell_of s1 0; have q3 := cell_of s1 1; have q4 := cell_of s1 2; have q5 := cell_of s1 3; go_simp; try rfl)
          try simp only [Act.put, List.setIfInBounds_toArray, List.set_cons_zero, List.set_cons_succ]
          refine wpAnyH_take (i := 7) (v := ?_) (ops_at rfl) (by kernel_rfl) (by kernel_rfl) (by kernel_rfl) (fun _ _ _ h => h) (Or.inl ⟨by rfl, ?ydx0018347⟩) (by assumption) ?ndx0018347
          case ydx0018347 => (intro wS hSw; obtain ⟨s0, s1⟩ := hSw; have q0 := cell_of s0 0; have q1 := cell_of s0 1; have q2 := cell_of s1 0; have q3 := cell_of s1 1; have q4 := cell_of s1 2; have q5 := cell_of s1 3; go_simp; try rfl)
          try simp only [Act.put, List.setIfInBounds_toArray, List.set_cons_zero, List.set_cons_succ]
          have c0 := cell_of m_41834 0
          have c1 := cell_of m_41834 1
          have e0 := frozen_of m_41834 0
          have e1 := frozen_of m_41834 1
          simp only [List.getElem?_toArray, List.getElem?_cons_zero, List.getElem?_cons_succ] at c0 c1
          have far : ∀ x, x ≠ v1.heap.size → ((v4.setCell ⟨v1.heap.size, 0, none⟩ (.int .i64 (intU true t0))).setCell ⟨v1.heap.size, 1, none⟩ (.slice A n c)).heap[x]? = v4.heap[x]? := fun x hx => (set_far _ hx _).trans (set_far _ hx _)
          have FAR := Lib.hid far
          clear far
          have fin := set_self (set_self m_41834 0 (.int .i64 (intU true t0))) 1 (.slice A n c)
          have FIN := Lib.hid fin
          clear fin
          refine wpAnyH_ready (rs := [9]) (by kernel_rfl) (by simp) ?_
          refine AllReadyH.cons (ops_at rfl) (fun K hK => ?_) AllReadyH.nil
          go_simp
          refine hK.out _ _ ⟨(FAR.out _ (by omega)).trans f0_41834, (FAR.out _ (by omega)).trans f1_41834⟩ (fun hRs => ?_)
          clear hK K
          refine wpAnyH_take (i := 10) (v := ?_) (ops_at rfl) (by kernel_rfl) (by kernel_rfl) (by kernel_rfl) (fun _ _ _ h => h) (Or.inl ⟨by rfl, ?ydx00183410⟩) (by assumption) ?ndx00183410
          case ydx00183410 => (intro wS hSw; obtain ⟨s0, s1⟩ := hSw; have q0 := cell_of s0 0; have q1 := cell_of s0 1; have q2 := cell_of s1 0; have q3 := cell_of s1 1; have q4 := cell_of s1 2; have q5 := cell_of s1 3; go_simp; try rfl)
          try simp only [Act.put, List.setIfInBounds_toArray, List.set_cons_zero, List.set_cons_succ]
          refine wpAnyH_done (by kernel_rfl) ?_ _
          go_wp2_with fail
          go_meet
          have hzf : ((v4.setCell ⟨v1.heap.size, 0, none⟩ (.int .i64 (intU true t0))).setCell ⟨v1.heap.size, 1, none⟩ (.slice A n c)).heap.size = v4.heap.size := by simp
          refine ⟨A, n, c, v1.heap.size, v3.heap.size, v4.heap.size, rfl, rfl, hl, by omega, by omega, by omega, ro_41834.keep fun b hb1 hb2 => FAR.out _ (by omega), by simpa using FIN.out, by omega, (hc41834.setCell (p := ⟨v1.heap.size, 0, none⟩) (by show _ ≤ v1.heap.size; omega) _).setCell (p := ⟨v1.heap.size, 1, none⟩) (by show _ ≤ v1.heap.size; omega) _⟩
      · skip
        go_simp
        obtain ⟨v1, hv1⟩ : ∃ v, v0.alloc (.cells #[.int .i64 0, .slice none 0 0] 35) = v := ⟨_, rfl⟩
        have hd1 : Below v0.heap.size v0 v1 := by rw [← hv1]; exact (Below.refl _ _).alloc (Nat.le_refl _) _
        have m_18 : v1.heap[v0.heap.size]? = some (.cells #[.int .i64 0, .slice none 0 0] 35 (0, 0)) := by rw [← hv1]; exact new_at _ _ rfl
        have ml1 : v0.heap.size < v1.heap.size := by rw [← hv1]; simp
        have hdz1 := hd1.size
        have hc18 := hc0.trans (hd1.mono (by omega))
        have f0_18 := (hd1.block _ (by omega)).trans f0_0
        have f1_18 := (hd1.block _ (by omega)).trans f1_0
        have sg_18 := sg_0.below hd1 (by omega)
        rw [hv1]
        refine hK.out _ _ ⟨f0_18, f1_18⟩ (fun hR8 => ?_)
        clear hK K
        clear hv1
        refine wpAnyH_ready (rs := [1]) (by kernel_rfl) (by simp) ?_
        refine AllReadyH.cons (ops_at rfl) (fun K hK => ?_) AllReadyH.nil
        go_simp
        refine (toPuzzle_any t0 a0 len0 cap0 z0 w.heap.size _ HN0.out hlen0 sg_18 (by omega)).mono ?_
        rintro e v2 ⟨cA, rfl, co_281, hd2⟩
        have hdz2 := hd2.size
        have hc281 := hc18.trans (hd2.mono (by omega))
        have f0_281 := (hd2.block _ (by omega)).trans f0_18
        have f1_281 := (hd2.block _ (by omega)).trans f1_18
        have sg_281 := sg_18.below hd2 (by omega)
        have m_281 := (hd2.block _ (by omega)).trans m_18
        refine hK.out _ _ ⟨f0_281, f1_281⟩ (fun hR81 => ?_)
        clear hK K
        refine wpAnyH_ready (rs := [3]) (by kernel_rfl) (by simp) ?_
        refine AllReadyH.cons (ops_at rfl) (fun K hK => ?_) AllReadyH.nil
        go_simp
        refine (toClue_any _ _ _ _ _).mono ?_
        rintro e v3 ⟨rfl, hd3⟩
        have hdz3 := hd3.size
        have hc3813 := hc281.trans (hd3.mono (by omega))
        have f0_3813 := (hd3.block _ (by omega)).trans f0_281
        have f1_3813 := (hd3.block _ (by omega)).trans f1_281
        have sg_3813 := sg_281.below hd3 (by omega)
        have co_3813 := co_281.below hd3 (by omega)
        have m_3813 := (hd3.block _ (by omega)).trans m_281
        refine hK.out _ _ ⟨f0_3813, f1_3813⟩ (fun hR813 => ?_)
        clear hK K
        refine wpAnyH_ready (rs := [4]) (by kernel_rfl) (by simp) ?_
        refine AllReadyH.cons (ops_at rfl) (fun K hK => ?_) AllReadyH.nil
        go_simp
        refine (spec_AddClue t0 _ _ _ a1a a1b a1c a1d z0 _ _ _ HN0.out hlen0 HNC co_3813.seg (by omega) _ HQ.out).mono ?_
        rintro e v4 ⟨A, n, c, rfl, hl, ro_48134, hd4⟩
        have hdz4 := hd4.size
        have hc48134 := hc3813.trans (hd4.mono (by omega))
        have f0_48134 := (hd4.block _ (by omega)).trans f0_3813
        have f1_48134 := (hd4.block _ (by omega)).trans f1_3813
        have sg_48134 := sg_3813.below hd4 (by omega)
        have co_48134 := co_3813.below hd4 (by omega)
        have m_48134 := (hd4.block _ (by omega)).trans m_3813
        refine hK.out _ _ ⟨f0_48134, f1_48134⟩ (fun hR8134 => ?_)
        clear hK K
        refine wpAnyH_take (i := 5) (v := ?_) (ops_at rfl) (by kernel_rfl) (by kernel_rfl) (by kernel_rfl) (fun _ _ _ h => h) (Or.inl ⟨by rfl, ?ydx0081345⟩) (by assumption) ?ndx0081345
        case ydx0081345 => (intro wS hSw; obtain ⟨s0, s1⟩ := hSw; have q0 := cell_of s0 0; have q1 := cell_of s0 1; have q2 := cell_of s1 0; have q3 := cell_of s1 1; have q4 := cell_of s1 2; have q5 := cell_of s1 3; go_simp; try rfl)
        try simp only [Act.put, List.setIfInBounds_toArray, List.set_cons_zero, List.set_cons_succ]
        refine wpAnyH_take (i := 6) (v := ?_) (ops_at rfl) (by kernel_rfl) (by kernel_rfl) (by kernel_rfl) (fun _ _ _ h => h) (Or.inl ⟨by rfl, ?ydx0081346⟩) (by assumption) ?ndx0081346
        case ydx0081346 => (intro wS hSw; obtain ⟨s0, s1⟩ := hSw; have q0 := cell_of s0 0; have q1 := cell_of s0 1; have q2 := cell_of s1 0; have q3 := cell_of s1 1; have q4 := cell_of s1 2; have q5 := cell_of s1 3; go_simp; try rfl)
        try simp only [Act.put, List.setIfInBounds_toArray, List.set_cons_zero, List.set_cons_succ]
        refine wpAnyH_take (i := 7) (v := ?_) (ops_at rfl) (by kernel_rfl) (by kernel_rfl) (by kernel_rfl) (fun _ _ _ h => h) (Or.inl ⟨by rfl, ?ydx0081347⟩) (by assumption) ?ndx0081347
        case ydx0081347 => (intro wS hSw; obtain ⟨s0, s1⟩ := hSw; have q0 := cell_of s0 0; have q1 := cell_of s0 1; have q2 := cell_of s1 0; have q3 := cell_of s1 1; have q4 := cell_of s1 2; have q5 := cell_of s1 3; go_simp; try rfl)
        try simp only [Act.put, List.setIfInBounds_toArray, List.set_cons_zero, List.set_cons_succ]
        have c0 := cell_of m_48134 0
        have c1 := cell_of m_48134 1
        have e0 := frozen_of m_48134 0
        have e1 := frozen_of m_48134 1
        simp only [List.getElem?_toArray, List.getElem?_cons_zero, List.getElem?_cons_succ] at c0 c1
        have far : ∀ x, x ≠ v0.heap.size → ((v4.setCell ⟨v0.heap.size, 0, none⟩ (.int .i64 (intU true t0))).setCell ⟨v0.heap.size, 1, none⟩ (.slice A n c)).heap[x]? = v4.heap[x]? := fun x hx => (set_far _ hx _).trans (set_far _ hx _)
        have FAR := Lib.hid far
        clear far
        have fin := set_self (set_self m_48134 0 (.int .i64 (intU true t0))) 1 (.slice A n c)
        have FIN := Lib.hid fin
        clear fin
        refine wpAnyH_ready (rs := [9]) (by kernel_rfl) (by simp) ?_
        refine AllReadyH.cons (ops_at rfl) (fun K hK => ?_) AllReadyH.nil
        go_simp
        refine hK.out _ _ ⟨(FAR.out _ (by omega)).trans f0_48134, (FAR.out _ (by omega)).trans f1_48134⟩ (fun hRs => ?_)
        clear hK K
        refine wpAnyH_take (i := 10) (v := ?_) (ops_at rfl) (by kernel_rfl) (by kernel_rfl) (by kernel_rfl) (fun _ _ _ h => h) (Or.inl ⟨by rfl, ?ydx00813410⟩) (by assumption) ?ndx00813410
        case ydx00813410 => (intro wS hSw; obtain ⟨s0, s1⟩ := hSw; have q0 := cell_of s0 0; have q1 := cell_of s0 1; have q2 := cell_of s1 0; have q3 := cell_of s1 1; have q4 := cell_of s1 2; have q5 := cell_of s1 3; go_simp; try rfl)
        try simp only [Act.put, List.setIfInBounds_toArray, List.set_cons_zero, List.set_cons_succ]
        refine wpAnyH_done (by kernel_rfl) ?_ _
        go_wp2_with fail
        go_meet
        have hzf : ((v4.setCell ⟨v0.heap.size, 0, none⟩ (.int .i64 (intU true t0))).setCell ⟨v0.heap.size, 1, none⟩ (.slice A n c)).heap.size = v4.heap.size := by simp
        refine ⟨A, n, c, v0.heap.size, v3.heap.size, v4.heap.size, rfl, rfl, hl, by omega, by omega, by omega, ro_48134.keep fun b hb1 hb2 => FAR.out _ (by omega), by simpa using FIN.out, by omega, (hc48134.setCell (p := ⟨v0.heap.size, 0, none⟩) (by show _ ≤ v0.heap.size; omega) _).setCell (p := ⟨v0.heap.size, 1, none⟩) (by show _ ≤ v0.heap.size; omega) _⟩
    case rest =>
      obtain ⟨WA0, Wn0, Wc0, Wg, Wlo, Whi, rfl, rfl, Wl0, Wx1, Wx2, Wx3, Wo0, Wb, Wgl, hb2⟩ := hcut
      obtain ⟨w2, rfl⟩ : ∃ w2, w2 = wc := ⟨_, rfl⟩
      have Wgh : Wg < w2.heap.size := heap_lt Wb
      have hz2 := hb2.size
      have hB2 : Below w.heap.size w w2 := Below.trans hB1 (hb2.mono (by omega))
      have hs0_2 := hs0_1.below hb2 (by omega)
      clear hs0_1
      have P_2 := (hb2.block _ (by omega)).trans P_1
      clear P_1
      have C_2 := (hb2.block _ (by omega)).trans C_1
      clear C_1
      have kc_P0 := cell_of P_2 0
      have kc_P1 := cell_of P_2 1
      simp only [List.getElem?_toArray, List.getElem?_cons_zero, List.getElem?_cons_succ] at kc_P0 kc_P1
      go_wp2_with fail
      refine (toPuzzle_any t0 a0 len0 cap0 z0 w.heap.size _ HN0.out hlen0 hs0_2 (by omega)).mono ?_
      rintro e w3 ⟨x0A, rfl, x0, hb3⟩
      clear kc_P0 kc_P1
      have hz3 := hb3.size
      have hB3 : Below w.heap.size w w3 := Below.trans hB2 (hb3.mono (by omega))
      have hs0_3 := hs0_2.below hb3 (by omega)
      clear hs0_2
      have P_3 := (hb3.block _ (by omega)).trans P_2
      clear P_2
      have C_3 := (hb3.block _ (by omega)).trans C_2
      clear C_2
      have Wo0_3 := Wo0.below hb3 (by omega)
      clear Wo0
      have Wb_3 := (hb3.block _ (by omega)).trans Wb
      clear Wb
      go_upto_region 7 with (fail)
      obtain ⟨w4, hw4⟩ : ∃ wz, w3.alloc (.cells #[.int .i64 t0, .slice x0A len0 len0] 35) = wz := ⟨_, rfl⟩
      have hb4 : Below w3.heap.size w3 w4 := by rw [← hw4]; exact (Below.refl _ _).alloc (Nat.le_refl _) _
      have X0 : w4.heap[w3.heap.size]? = some (.cells #[.int .i64 t0, .slice x0A len0 len0] 35 (0, 0)) := by rw [← hw4]; exact new_at _ _ rfl
      have hxx4 : w3.heap.size < w4.heap.size := by rw [← hw4]; simp
      have HW4 := Lib.hid hw4
      clear hw4
      have hz4 := hb4.size
      have hB4 : Below w.heap.size w w4 := Below.trans hB3 (hb4.mono (by omega))
      have hs0_4 := hs0_3.below hb4 (by omega)
      clear hs0_3
      have P_4 := (hb4.block _ (by omega)).trans P_3
      clear P_3
      have C_4 := (hb4.block _ (by omega)).trans C_3
      clear C_3
      have Wo0_4 := Wo0_3.below hb4 (by omega)
      clear Wo0_3
      have Wb_4 := (hb4.block _ (by omega)).trans Wb_3
      clear Wb_3
      have x0_4 := x0.below hb4 (by omega)
      clear x0
      rw [HW4.out]
      go_cut [9, 10] (fun sa sb wx => ∃ A n c g lo hi, sa = .pointer (some ⟨g, 0, none⟩) ∧ sb = .bool true ∧ (listU true (z0 ++ [(a1a, a1b, a1c, a1d)])).length = n ∧ w4.heap.size ≤ lo ∧ hi ≤ wx.heap.size ∧ (g < lo ∨ hi ≤ g) ∧ Own wx lo hi A (flat4 (listU true (z0 ++ [(a1a, a1b, a1c, a1d)]))) ∧ wx.heap[g]? = some (.cells #[.int .i64 (intU true t0), .slice A n c] 35 (0, 0)) ∧ w4.heap.size ≤ g ∧ Below w4.heap.size w4 wx)
      case first =>
        refine wp_region_held_drew (S := fun wq => wq.heap[w3.heap.size]? = some (.cells #[.int .i64 t0, .slice x0A len0 len0] 35 (0, 0)) ∧ wq.heap[w.heap.size + 1]? = some (.cells #[.int .i64 a1a, .int .i64 a1b, .int .i64 a1c, .int .i64 a1d] 23 (0, 0))) (by kernel_rfl) ⟨X0, C_4⟩ (fun hHdx01 => ?_)
        refine wpAnyH_take (i := 0) (v := ?_) (ops_at rfl) (by kernel_rfl) (by kernel_rfl) (by kernel_rfl) (fun _ _ _ h => h) (Or.inl ⟨by rfl, ?ydx010⟩) (by assumption) ?ndx010
        case ydx010 => (intro wS hSw; obtain ⟨s0, s1⟩ := hSw; have q0 := cell_of s0 0; have q1 := cell_of s0 1; have q2 := cell_of s1 0; have q3 := cell_of s1 1; have q4 := cell_of s1 2; have q5 := cell_of s1 3; go_simp; try rfl)
        try simp only [Act.put, List.setIfInBounds_toArray, List.set_cons_zero, List.set_cons_succ]
        refine wpAnyH_take (i := 1) (v := ?_) (ops_at rfl) (by kernel_rfl) (by kernel_rfl) (by kernel_rfl) (fun _ _ _ h => h) (Or.inl ⟨by rfl, ?ydx011⟩) (by assumption) ?ndx011
        case ydx011 => (intro wS hSw; obtain ⟨s0, s1⟩ := hSw; have q0 := cell_of s0 0; have q1 := cell_of s0 1; have q2 := cell_of s1 0; have q3 := cell_of s1 1; have q4 := cell_of s1 2; have q5 := cell_of s1 3; go_simp; try rfl)
        try simp only [Act.put, List.setIfInBounds_toArray, List.set_cons_zero, List.set_cons_succ]
        obtain ⟨v0, hv0⟩ : ∃ v, w4.drew = v := ⟨_, rfl⟩
        have hc0 : Below w4.heap.size w4 v0 := by rw [← hv0]; exact (Below.refl _ _).drew
        rw [hv0] at hHdx01 ⊢
        clear hv0
        have hdz0 := hc0.size
        have f0_0 := hHdx01.1
        have f1_0 := hHdx01.2
        have sg_0 := x0_4.seg.below hc0 (by omega)
        refine wpAnyH_ready (rs := [2, 7]) (by kernel_rfl) (by simp) ?_
        refine AllReadyH.cons (ops_at rfl) (fun K hK => ?_) (AllReadyH.cons (ops_at rfl) (fun K hK => ?_) AllReadyH.nil)
        · skip
          go_simp
          refine (toClue_any _ _ _ _ _).mono ?_
          rintro e v1 ⟨rfl, hd1⟩
          have hdz1 := hd1.size
          have hc12 := hc0.trans (hd1.mono (by omega))
          have f0_12 := (hd1.block _ (by omega)).trans f0_0
          have f1_12 := (hd1.block _ (by omega)).trans f1_0
          have sg_12 := sg_0.below hd1 (by omega)
          refine hK.out _ _ ⟨f0_12, f1_12⟩ (fun hR2 => ?_)
          clear hK K
          refine wpAnyH_ready (rs := [3, 7]) (by kernel_rfl) (by simp) ?_
          refine AllReadyH.cons (ops_at rfl) (fun K hK => ?_) (AllReadyH.cons (ops_at rfl) (fun K hK => ?_) AllReadyH.nil)
          · skip
            go_simp
            refine (impl_AddClue t0 _ _ _ a1a a1b a1c a1d z0 _ _ _ HN0.out hlen0 HNC sg_12 (by omega) _ HQ.out).mono ?_
            rintro e v2 ⟨A, n, c, rfl, hl, ro_223, hd2⟩
            have hdz2 := hd2.size
            have hc223 := hc12.trans (hd2.mono (by omega))
            have f0_223 := (hd2.block _ (by omega)).trans f0_12
            have f1_223 := (hd2.block _ (by omega)).trans f1_12
            have sg_223 := sg_12.below hd2 (by omega)
            refine hK.out _ _ ⟨f0_223, f1_223⟩ (fun hR23 => ?_)
            clear hK K
            refine wpAnyH_take (i := 4) (v := ?_) (ops_at rfl) (by kernel_rfl) (by kernel_rfl) (by kernel_rfl) (fun _ _ _ h => h) (Or.inl ⟨by rfl, ?ydx01234⟩) (by assumption) ?ndx01234
            case ydx01234 => (intro wS hSw; obtain ⟨s0, s1⟩ := hSw; have q0 := cell_of s0 0; have q1 := cell_of s0 1; have q2 := cell_of s1 0; have q3 := cell_of s1 1; have q4 := cell_of s1 2; have q5 := cell_of s1 3; go_simp; try rfl)
            try simp only [Act.put, List.setIfInBounds_toArray, List.set_cons_zero, List.set_cons_succ]
            refine wpAnyH_take (i := 5) (v := ?_) (ops_at rfl) (by kernel_rfl) (by kernel_rfl) (by kernel_rfl) (fun _ _ _ h => h) (Or.inl ⟨by rfl, ?ydx01235⟩) (by assumption) ?ndx01235
            case ydx01235 => (intro wS hSw; obtain ⟨s0, s1⟩ := hSw; have q0 := cell_of s0 0; have q1 := cell_of s0 1; have q2 := cell_of s1 0; have q3 := cell_of s1 1; have q4 := cell_of s1 2; have q5 := cell_of s1 3; go_simp; try rfl)
            try simp only [Act.put, List.setIfInBounds_toArray, List.set_cons_zero, List.set_cons_succ]
            refine wpAnyH_take (i := 6) (v := ?_) (ops_at rfl) (by kernel_rfl) (by kernel_rfl) (by kernel_rfl) (fun _ _ _ h => h) (Or.inl ⟨by rfl, ?ydx01236⟩) (by assumption) ?ndx01236
            case ydx01236 => (intro wS hSw; obtain ⟨s0, s1⟩ := hSw; have q0 := cell_of s0 0; have q1 := cell_of s0 1; have q2 := cell_of s1 0; have q3 := cell_of s1 1; have q4 := cell_of s1 2; have q5 := cell_of s1 3; go_simp; try rfl)
            try simp only [Act.put, List.setIfInBounds_toArray, List.set_cons_zero, List.set_cons_succ]
            refine wpAnyH_ready (rs := [7]) (by kernel_rfl) (by simp) ?_
            refine AllReadyH.cons (ops_at rfl) (fun K hK => ?_) AllReadyH.nil
            go_simp
            obtain ⟨v3, hv3⟩ : ∃ v, v2.alloc (.cells #[.int .i64 0, .slice none 0 0] 35) = v := ⟨_, rfl⟩
            have hd3 : Below v2.heap.size v2 v3 := by rw [← hv3]; exact (Below.refl _ _).alloc (Nat.le_refl _) _
            have m_3237 : v3.heap[v2.heap.size]? = some (.cells #[.int .i64 0, .slice none 0 0] 35 (0, 0)) := by rw [← hv3]; exact new_at _ _ rfl
            have ml3 : v2.heap.size < v3.heap.size := by rw [← hv3]; simp
            have hdz3 := hd3.size
            have hc3237 := hc223.trans (hd3.mono (by omega))
            have f0_3237 := (hd3.block _ (by omega)).trans f0_223
            have f1_3237 := (hd3.block _ (by omega)).trans f1_223
            have sg_3237 := sg_223.below hd3 (by omega)
            have ro_3237 := ro_223.below hd3 (by omega)
            rw [hv3]
            refine hK.out _ _ ⟨f0_3237, f1_3237⟩ (fun hR237 => ?_)
            clear hK K
            clear hv3
            have c0 := cell_of m_3237 0
            have c1 := cell_of m_3237 1
            have e0 := frozen_of m_3237 0
            have e1 := frozen_of m_3237 1
            simp only [List.getElem?_toArray, List.getElem?_cons_zero, List.getElem?_cons_succ] at c0 c1
            have far : ∀ x, x ≠ v2.heap.size → ((v3.setCell ⟨v2.heap.size, 0, none⟩ (.int .i64 (intU true t0))).setCell ⟨v2.heap.size, 1, none⟩ (.slice A n c)).heap[x]? = v3.heap[x]? := fun x hx => (set_far _ hx _).trans (set_far _ hx _)
            have FAR := Lib.hid far
            clear far
            have fin := set_self (set_self m_3237 0 (.int .i64 (intU true t0))) 1 (.slice A n c)
            have FIN := Lib.hid fin
            clear fin
            refine wpAnyH_ready (rs := [8]) (by kernel_rfl) (by simp) ?_
            refine AllReadyH.cons (ops_at rfl) (fun K hK => ?_) AllReadyH.nil
            go_simp
            refine hK.out _ _ ⟨(FAR.out _ (by omega)).trans f0_3237, (FAR.out _ (by omega)).trans f1_3237⟩ (fun hRs => ?_)
            clear hK K
            refine wpAnyH_take (i := 9) (v := ?_) (ops_at rfl) (by kernel_rfl) (by kernel_rfl) (by kernel_rfl) (fun _ _ _ h => h) (Or.inl ⟨by rfl, ?ydx012379⟩) (by assumption) ?ndx012379
            case ydx012379 => (intro wS hSw; obtain ⟨s0, s1⟩ := hSw; have q0 := cell_of s0 0; have q1 := cell_of s0 1; have q2 := cell_of s1 0; have q3 := cell_of s1 1; have q4 := cell_of s1 2; have q5 := cell_of s1 3; go_simp; try rfl)
            try simp only [Act.put, List.setIfInBounds_toArray, List.set_cons_zero, List.set_cons_succ]
            refine wpAnyH_done (by kernel_rfl) ?_ _
            go_wp2_with fail
            go_meet
            have hzf : ((v3.setCell ⟨v2.heap.size, 0, none⟩ (.int .i64 (intU true t0))).setCell ⟨v2.heap.size, 1, none⟩ (.slice A n c)).heap.size = v3.heap.size := by simp
            refine ⟨A, n, c, v2.heap.size, v1.heap.size, v2.heap.size, rfl, rfl, hl, by omega, by omega, by omega, ro_3237.keep fun b hb1 hb2 => FAR.out _ (by omega), by simpa using FIN.out, by omega, (hc3237.setCell (p := ⟨v2.heap.size, 0, none⟩) (by show _ ≤ v2.heap.size; omega) _).setCell (p := ⟨v2.heap.size, 1, none⟩) (by show _ ≤ v2.heap.size; omega) _⟩
          · skip
            go_simp
            obtain ⟨v2, hv2⟩ : ∃ v, v1.alloc (.cells #[.int .i64 0, .slice none 0 0] 35) = v := ⟨_, rfl⟩
            have hd2 : Below v1.heap.size v1 v2 := by rw [← hv2]; exact (Below.refl _ _).alloc (Nat.le_refl _) _
            have m_227 : v2.heap[v1.heap.size]? = some (.cells #[.int .i64 0, .slice none 0 0] 35 (0, 0)) := by rw [← hv2]; exact new_at _ _ rfl
            have ml2 : v1.heap.size < v2.heap.size := by rw [← hv2]; simp
            have hdz2 := hd2.size
            have hc227 := hc12.trans (hd2.mono (by omega))
            have f0_227 := (hd2.block _ (by omega)).trans f0_12
            have f1_227 := (hd2.block _ (by omega)).trans f1_12
            have sg_227 := sg_12.below hd2 (by omega)
            rw [hv2]
            refine hK.out _ _ ⟨f0_227, f1_227⟩ (fun hR27 => ?_)
            clear hK K
            clear hv2
            refine wpAnyH_ready (rs := [3]) (by kernel_rfl) (by simp) ?_
            refine AllReadyH.cons (ops_at rfl) (fun K hK => ?_) AllReadyH.nil
            go_simp
            refine (impl_AddClue t0 _ _ _ a1a a1b a1c a1d z0 _ _ _ HN0.out hlen0 HNC sg_227 (by omega) _ HQ.out).mono ?_
            rintro e v3 ⟨A, n, c, rfl, hl, ro_3273, hd3⟩
            have hdz3 := hd3.size
            have hc3273 := hc227.trans (hd3.mono (by omega))
            have f0_3273 := (hd3.block _ (by omega)).trans f0_227
            have f1_3273 := (hd3.block _ (by omega)).trans f1_227
            have sg_3273 := sg_227.below hd3 (by omega)
            have m_3273 := (hd3.block _ (by omega)).trans m_227
            refine hK.out _ _ ⟨f0_3273, f1_3273⟩ (fun hR273 => ?_)
            clear hK K
            refine wpAnyH_take (i := 4) (v := ?_) (ops_at rfl) (by kernel_rfl) (by kernel_rfl) (by kernel_rfl) (fun _ _ _ h => h) (Or.inl ⟨by rfl, ?ydx012734⟩) (by assumption) ?ndx012734
            case ydx012734 => (intro wS hSw; obtain ⟨s0, s1⟩ := hSw; have q0 := cell_of s0 0; have q1 := cell_of s0 1; have q2 := cell_of s1 0; have q3 := cell_of s1 1; have q4 := cell_of s1 2; have q5 := cell_of s1 3; go_simp; try rfl)
            try simp only [Act.put, List.setIfInBounds_toArray, List.set_cons_zero, List.set_cons_succ]
            refine wpAnyH_take (i := 5) (v := ?_) (ops_at rfl) (by kernel_rfl) (by kernel_rfl) (by kernel_rfl) (fun _ _ _ h => h) (Or.inl ⟨by rfl, ?ydx012735⟩) (by assumption) ?ndx012735
            case ydx012735 => (intro wS hSw; obtain ⟨s0, s1⟩ := hSw; have q0 := cell_of s0 0; have q1 := cell_of s0 1; have q2 := cell_of s1 0; have q3 := cell_of s1 1; have q4 := cell_of s1 2; have q5 := cell_of s1 3; go_simp; try rfl)
            try simp only [Act.put, List.setIfInBounds_toArray, List.set_cons_zero, List.set_cons_succ]
            refine wpAnyH_take (i := 6) (v := ?_) (ops_at rfl) (by kernel_rfl) (by kernel_rfl) (by kernel_rfl) (fun _ _ _ h => h) (Or.inl ⟨by rfl, ?ydx012736⟩) (by assumption) ?ndx012736
            case ydx012736 => (intro wS hSw; obtain ⟨s0, s1⟩ := hSw; have q0 := cell_of s0 0; have q1 := cell_of s0 1; have q2 := cell_of s1 0; have q3 := cell_of s1 1; have q4 := cell_of s1 2; have q5 := cell_of s1 3; go_simp; try rfl)
            try simp only [Act.put, List.setIfInBounds_toArray, List.set_cons_zero, List.set_cons_succ]
            have c0 := cell_of m_3273 0
            have c1 := cell_of m_3273 1
            have e0 := frozen_of m_3273 0
            have e1 := frozen_of m_3273 1
            simp only [List.getElem?_toArray, List.getElem?_cons_zero, List.getElem?_cons_succ] at c0 c1
            have far : ∀ x, x ≠ v1.heap.size → ((v3.setCell ⟨v1.heap.size, 0, none⟩ (.int .i64 (intU true t0))).setCell ⟨v1.heap.size, 1, none⟩ (.slice A n c)).heap[x]? = v3.heap[x]? := fun x hx => (set_far _ hx _).trans (set_far _ hx _)
            have FAR := Lib.hid far
            clear far
            have fin := set_self (set_self m_3273 0 (.int .i64 (intU true t0))) 1 (.slice A n c)
            have FIN := Lib.hid fin
            clear fin
            refine wpAnyH_ready (rs := [8]) (by kernel_rfl) (by simp) ?_
            refine AllReadyH.cons (ops_at rfl) (fun K hK => ?_) AllReadyH.nil
            go_simp
            refine hK.out _ _ ⟨(FAR.out _ (by omega)).trans f0_3273, (FAR.out _ (by omega)).trans f1_3273⟩ (fun hRs => ?_)
            clear hK K
            refine wpAnyH_take (i := 9) (v := ?_) (ops_at rfl) (by kernel_rfl) (by kernel_rfl) (by kernel_rfl) (fun _ _ _ h => h) (Or.inl ⟨by rfl, ?ydx012739⟩) (by assumption) ?ndx012739
            case ydx012739 => (intro wS hSw; obtain ⟨s0, s1⟩ := hSw; have q0 := cell_of s0 0; have q1 := cell_of s0 1; have q2 := cell_of s1 0; have q3 := cell_of s1 1; have q4 := cell_of s1 2; have q5 := cell_of s1 3; go_simp; try rfl)
            try simp only [Act.put, List.setIfInBounds_toArray, List.set_cons_zero, List.set_cons_succ]
            refine wpAnyH_done (by kernel_rfl) ?_ _
            go_wp2_with fail
            go_meet
            have hzf : ((v3.setCell ⟨v1.heap.size, 0, none⟩ (.int .i64 (intU true t0))).setCell ⟨v1.heap.size, 1, none⟩ (.slice A n c)).heap.size = v3.heap.size := by simp
            refine ⟨A, n, c, v1.heap.size, v2.heap.size, v3.heap.size, rfl, rfl, hl, by omega, by omega, by omega, ro_3273.keep fun b hb1 hb2 => FAR.out _ (by omega), by simpa using FIN.out, by omega, (hc3273.setCell (p := ⟨v1.heap.size, 0, none⟩) (by show _ ≤ v1.heap.size; omega) _).setCell (p := ⟨v1.heap.size, 1, none⟩) (by show _ ≤ v1.heap.size; omega) _⟩
        · skip
          go_simp
          obtain ⟨v1, hv1⟩ : ∃ v, v0.alloc (.cells #[.int .i64 0, .slice none 0 0] 35) = v := ⟨_, rfl⟩
          have hd1 : Below v0.heap.size v0 v1 := by rw [← hv1]; exact (Below.refl _ _).alloc (Nat.le_refl _) _
          have m_17 : v1.heap[v0.heap.size]? = some (.cells #[.int .i64 0, .slice none 0 0] 35 (0, 0)) := by rw [← hv1]; exact new_at _ _ rfl
          have ml1 : v0.heap.size < v1.heap.size := by rw [← hv1]; simp
          have hdz1 := hd1.size
          have hc17 := hc0.trans (hd1.mono (by omega))
          have f0_17 := (hd1.block _ (by omega)).trans f0_0
          have f1_17 := (hd1.block _ (by omega)).trans f1_0
          have sg_17 := sg_0.below hd1 (by omega)
          rw [hv1]
          refine hK.out _ _ ⟨f0_17, f1_17⟩ (fun hR7 => ?_)
          clear hK K
          clear hv1
          refine wpAnyH_ready (rs := [2]) (by kernel_rfl) (by simp) ?_
          refine AllReadyH.cons (ops_at rfl) (fun K hK => ?_) AllReadyH.nil
          go_simp
          refine (toClue_any _ _ _ _ _).mono ?_
          rintro e v2 ⟨rfl, hd2⟩
          have hdz2 := hd2.size
          have hc272 := hc17.trans (hd2.mono (by omega))
          have f0_272 := (hd2.block _ (by omega)).trans f0_17
          have f1_272 := (hd2.block _ (by omega)).trans f1_17
          have sg_272 := sg_17.below hd2 (by omega)
          have m_272 := (hd2.block _ (by omega)).trans m_17
          refine hK.out _ _ ⟨f0_272, f1_272⟩ (fun hR72 => ?_)
          clear hK K
          refine wpAnyH_ready (rs := [3]) (by kernel_rfl) (by simp) ?_
          refine AllReadyH.cons (ops_at rfl) (fun K hK => ?_) AllReadyH.nil
          go_simp
          refine (impl_AddClue t0 _ _ _ a1a a1b a1c a1d z0 _ _ _ HN0.out hlen0 HNC sg_272 (by omega) _ HQ.out).mono ?_
          rintro e v3 ⟨A, n, c, rfl, hl, ro_3723, hd3⟩
          have hdz3 := hd3.size
          have hc3723 := hc272.trans (hd3.mono (by omega))
          have f0_3723 := (hd3.block _ (by omega)).trans f0_272
          have f1_3723 := (hd3.block _ (by omega)).trans f1_272
          have sg_3723 := sg_272.below hd3 (by omega)
          have m_3723 := (hd3.block _ (by omega)).trans m_272
          refine hK.out _ _ ⟨f0_3723, f1_3723⟩ (fun hR723 => ?_)
          clear hK K
          refine wpAnyH_take (i := 4) (v := ?_) (ops_at rfl) (by kernel_rfl) (by kernel_rfl) (by kernel_rfl) (fun _ _ _ h => h) (Or.inl ⟨by rfl, ?ydx017234⟩) (by assumption) ?ndx017234
          case ydx017234 => (intro wS hSw; obtain ⟨s0, s1⟩ := hSw; have q0 := cell_of s0 0; have q1 := cell_of s0 1; have q2 := cell_of s1 0; have q3 := cell_of s1 1; have q4 := cell_of s1 2; have q5 := cell_of s1 3; go_simp; try rfl)
          try simp only [Act.put, List.setIfInBounds_toArray, List.set_cons_zero, List.set_cons_succ]
          refine wpAnyH_take (i := 5) (v := ?_) (ops_at rfl) (by kernel_rfl) (by kernel_rfl) (by kernel_rfl) (fun _ _ _ h => h) (Or.inl ⟨by rfl, ?ydx017235⟩) (by assumption) ?ndx017235
          case ydx017235 => (intro wS hSw; obtain ⟨s0, s1⟩ := hSw; have q0 := cell_of s0 0; have q1 := cell_of s0 1; have q2 := cell_of s1 0; have q3 := cell_of s1 1; have q4 := cell_of s1 2; have q5 := cell_of s1 3; go_simp; try rfl)
          try simp only [Act.put, List.setIfInBounds_toArray, List.set_cons_zero, List.set_cons_succ]
          refine wpAnyH_take (i := 6) (v := ?_) (ops_at rfl) (by kernel_rfl) (by kernel_rfl) (by kernel_rfl) (fun _ _ _ h => h) (Or.inl ⟨by rfl, ?ydx017236⟩) (by assumption) ?ndx017236
          case ydx017236 => (intro wS hSw; obtain ⟨s0, s1⟩ := hSw; have q0 := cell_of s0 0; have q1 := cell_of s0 1; have q2 := cell_of s1 0; have q3 := cell_of s1 1; have q4 := cell_of s1 2; have q5 := cell_of s1 3; go_simp; try rfl)
          try simp only [Act.put, List.setIfInBounds_toArray, List.set_cons_zero, List.set_cons_succ]
          have c0 := cell_of m_3723 0
          have c1 := cell_of m_3723 1
          have e0 := frozen_of m_3723 0
          have e1 := frozen_of m_3723 1
          simp only [List.getElem?_toArray, List.getElem?_cons_zero, List.getElem?_cons_succ] at c0 c1
          have far : ∀ x, x ≠ v0.heap.size → ((v3.setCell ⟨v0.heap.size, 0, none⟩ (.int .i64 (intU true t0))).setCell ⟨v0.heap.size, 1, none⟩ (.slice A n c)).heap[x]? = v3.heap[x]? := fun x hx => (set_far _ hx _).trans (set_far _ hx _)
          have FAR := Lib.hid far
          clear far
          have fin := set_self (set_self m_3723 0 (.int .i64 (intU true t0))) 1 (.slice A n c)
          have FIN := Lib.hid fin
          clear fin
          refine wpAnyH_ready (rs := [8]) (by kernel_rfl) (by simp) ?_
          refine AllReadyH.cons (ops_at rfl) (fun K hK => ?_) AllReadyH.nil
          go_simp
          refine hK.out _ _ ⟨(FAR.out _ (by omega)).trans f0_3723, (FAR.out _ (by omega)).trans f1_3723⟩ (fun hRs => ?_)
          clear hK K
          refine wpAnyH_take (i := 9) (v := ?_) (ops_at rfl) (by kernel_rfl) (by kernel_rfl) (by kernel_rfl) (fun _ _ _ h => h) (Or.inl ⟨by rfl, ?ydx017239⟩) (by assumption) ?ndx017239
          case ydx017239 => (intro wS hSw; obtain ⟨s0, s1⟩ := hSw; have q0 := cell_of s0 0; have q1 := cell_of s0 1; have q2 := cell_of s1 0; have q3 := cell_of s1 1; have q4 := cell_of s1 2; have q5 := cell_of s1 3; go_simp; try rfl)
          try simp only [Act.put, List.setIfInBounds_toArray, List.set_cons_zero, List.set_cons_succ]
          refine wpAnyH_done (by kernel_rfl) ?_ _
          go_wp2_with fail
          go_meet
          have hzf : ((v3.setCell ⟨v0.heap.size, 0, none⟩ (.int .i64 (intU true t0))).setCell ⟨v0.heap.size, 1, none⟩ (.slice A n c)).heap.size = v3.heap.size := by simp
          refine ⟨A, n, c, v0.heap.size, v2.heap.size, v3.heap.size, rfl, rfl, hl, by omega, by omega, by omega, ro_3723.keep fun b hb1 hb2 => FAR.out _ (by omega), by simpa using FIN.out, by omega, (hc3723.setCell (p := ⟨v0.heap.size, 0, none⟩) (by show _ ≤ v0.heap.size; omega) _).setCell (p := ⟨v0.heap.size, 1, none⟩) (by show _ ≤ v0.heap.size; omega) _⟩
      case rest =>
        obtain ⟨GA0, Gn0, Gc0, Gg, Glo, Ghi, rfl, rfl, Gl0, Gx1, Gx2, Gx3, Go0, Gb, Ggl, hb5⟩ := hcut
        obtain ⟨w5, rfl⟩ : ∃ w5, w5 = wc := ⟨_, rfl⟩
        have Ggh : Gg < w5.heap.size := heap_lt Gb
        have hz5 := hb5.size
        have hB5 : Below w.heap.size w w5 := Below.trans hB4 (hb5.mono (by omega))
        have hs0_5 := hs0_4.below hb5 (by omega)
        clear hs0_4
        have P_5 := (hb5.block _ (by omega)).trans P_4
        clear P_4
        have C_5 := (hb5.block _ (by omega)).trans C_4
        clear C_4
        have Wo0_5 := Wo0_4.below hb5 (by omega)
        clear Wo0_4
        have Wb_5 := (hb5.block _ (by omega)).trans Wb_4
        clear Wb_4
        have x0_5 := x0_4.below hb5 (by omega)
        clear x0_4
        have X0_5 := (hb5.block _ (by omega)).trans X0
        clear X0
        obtain rfl : Gn0 = Wn0 := Gl0.symm.trans Wl0
        have HY0 := Lib.hid Gl0
        have hy0 := HYB.out
        rw [Gl0] at hy0
        clear Wl0 Gl0
        have kc_Gb0 := cell_of Gb 0
        have kc_Gb1 := cell_of Gb 1
        have kc_Wb0 := cell_of Wb_5 0
        have kc_Wb1 := cell_of Wb_5 1
        simp only [List.getElem?_toArray, List.getElem?_cons_zero, List.getElem?_cons_succ] at kc_Gb0 kc_Gb1 kc_Wb0 kc_Wb1
        go_wp2_with fail
        refine (eqPuzzle_any _ _ _ _ _ _ _ _ _ _ _ _ HY0.out (by omega) Go0.seg Wo0_5.seg (by omega) (by omega)).mono ?_
        rintro e w6 ⟨rfl, hb6⟩
        clear kc_Gb0 kc_Gb1 kc_Wb0 kc_Wb1
        have hz6 := hb6.size
        have hB6 : Below w.heap.size w w6 := Below.trans hB5 (hb6.mono (by omega))
        have hs0_6 := hs0_5.below hb6 (by omega)
        clear hs0_5
        have P_6 := (hb6.block _ (by omega)).trans P_5
        clear P_5
        have C_6 := (hb6.block _ (by omega)).trans C_5
        clear C_5
        have Wo0_6 := Wo0_5.below hb6 (by omega)
        clear Wo0_5
        have Wb_6 := (hb6.block _ (by omega)).trans Wb_5
        clear Wb_5
        have x0_6 := x0_5.below hb6 (by omega)
        clear x0_5
        have X0_6 := (hb6.block _ (by omega)).trans X0_5
        clear X0_5
        have Go0_6 := Go0.below hb6 (by omega)
        clear Go0
        have Gb_6 := (hb6.block _ (by omega)).trans Gb
        clear Gb
        go_wp2_with fail
        refine wp_region_held_drew (S := fun wq => wq.heap[w3.heap.size]? = some (.cells #[.int .i64 t0, .slice x0A len0 len0] 35 (0, 0)) ∧ wq.heap[w.heap.size]? = some (.cells #[.int .i64 t0, .slice a0 len0 cap0] 30 (0, 0))) (by kernel_rfl) ⟨X0_6, P_6⟩ (fun hHrx02 => ?_)
        refine wpAnyH_take (i := 0) (v := ?_) (ops_at rfl) (by kernel_rfl) (by kernel_rfl) (by kernel_rfl) (fun _ _ _ h => h) (Or.inl ⟨by rfl, ?yrx020⟩) (by assumption) ?nrx020
        case yrx020 => (intro wS hSw; obtain ⟨s0, s1⟩ := hSw; have q0 := cell_of s0 0; have q1 := cell_of s0 1; have q2 := cell_of s1 0; have q3 := cell_of s1 1; go_simp; try rfl)
        try simp only [Act.put, List.setIfInBounds_toArray, List.set_cons_zero, List.set_cons_succ]
        refine wpAnyH_take (i := 1) (v := ?_) (ops_at rfl) (by kernel_rfl) (by kernel_rfl) (by kernel_rfl) (fun _ _ _ h => h) (Or.inl ⟨by rfl, ?yrx021⟩) (by assumption) ?nrx021
        case yrx021 => (intro wS hSw; obtain ⟨s0, s1⟩ := hSw; have q0 := cell_of s0 0; have q1 := cell_of s0 1; have q2 := cell_of s1 0; have q3 := cell_of s1 1; go_simp; try rfl)
        try simp only [Act.put, List.setIfInBounds_toArray, List.set_cons_zero, List.set_cons_succ]
        obtain ⟨w7, hw7⟩ : ∃ wz, w6.drew = wz := ⟨_, rfl⟩
        have hb7 : Below w6.heap.size w6 w7 := by rw [← hw7]; exact below_drewN (Below.refl _ _) 1
        have HW7 := Lib.hid hw7
        clear hw7
        have hz7 := hb7.size
        have hB7 : Below w.heap.size w w7 := Below.trans hB6 (hb7.mono (by omega))
        have hs0_7 := hs0_6.below hb7 (by omega)
        clear hs0_6
        have P_7 := (hb7.block _ (by omega)).trans P_6
        clear P_6
        have C_7 := (hb7.block _ (by omega)).trans C_6
        clear C_6
        have Wo0_7 := Wo0_6.below hb7 (by omega)
        clear Wo0_6
        have Wb_7 := (hb7.block _ (by omega)).trans Wb_6
        clear Wb_6
        have x0_7 := x0_6.below hb7 (by omega)
        clear x0_6
        have X0_7 := (hb7.block _ (by omega)).trans X0_6
        clear X0_6
        have Go0_7 := Go0_6.below hb7 (by omega)
        clear Go0_6
        have Gb_7 := (hb7.block _ (by omega)).trans Gb_6
        clear Gb_6
        refine wpAnyH_ready (rs := [2]) (by kernel_rfl) (by simp) ?_
        refine AllReadyH.cons (ops_at rfl) (fun K hK => ?_) AllReadyH.nil
        go_simp
        rw [HW7.out]
        refine (toPuzzle_any t0 a0 len0 cap0 z0 w.heap.size _ HN0.out hlen0 hs0_7 (by omega)).mono ?_
        rintro e w8 ⟨cbA, rfl, cb, hb8⟩
        have hz8 := hb8.size
        have hB8 : Below w.heap.size w w8 := Below.trans hB7 (hb8.mono (by omega))
        have hs0_8 := hs0_7.below hb8 (by omega)
        clear hs0_7
        have P_8 := (hb8.block _ (by omega)).trans P_7
        clear P_7
        have C_8 := (hb8.block _ (by omega)).trans C_7
        clear C_7
        have Wo0_8 := Wo0_7.below hb8 (by omega)
        clear Wo0_7
        have Wb_8 := (hb8.block _ (by omega)).trans Wb_7
        clear Wb_7
        have x0_8 := x0_7.below hb8 (by omega)
        clear x0_7
        have X0_8 := (hb8.block _ (by omega)).trans X0_7
        clear X0_7
        have Go0_8 := Go0_7.below hb8 (by omega)
        clear Go0_7
        have Gb_8 := (hb8.block _ (by omega)).trans Gb_7
        clear Gb_7
        refine hK.out _ _ ⟨X0_8, P_8⟩ (fun hHrx028 => ?_)
        clear hK K
        refine wpAnyH_ready (rs := [3]) (by kernel_rfl) (by simp) ?_
        refine AllReadyH.cons (ops_at rfl) (fun K hK => ?_) AllReadyH.nil
        go_simp
        refine (eqPuzzle_any _ _ _ _ _ _ _ _ _ _ _ _ HN0.out hlen0 x0_8.seg cb.seg (by omega) (by omega)).mono ?_
        rintro e w9 ⟨rfl, hb9⟩
        have hz9 := hb9.size
        have hB9 : Below w.heap.size w w9 := Below.trans hB8 (hb9.mono (by omega))
        have hs0_9 := hs0_8.below hb9 (by omega)
        clear hs0_8
        have P_9 := (hb9.block _ (by omega)).trans P_8
        clear P_8
        have C_9 := (hb9.block _ (by omega)).trans C_8
        clear C_8
        have Wo0_9 := Wo0_8.below hb9 (by omega)
        clear Wo0_8
        have Wb_9 := (hb9.block _ (by omega)).trans Wb_8
        clear Wb_8
        have x0_9 := x0_8.below hb9 (by omega)
        clear x0_8
        have X0_9 := (hb9.block _ (by omega)).trans X0_8
        clear X0_8
        have Go0_9 := Go0_8.below hb9 (by omega)
        clear Go0_8
        have Gb_9 := (hb9.block _ (by omega)).trans Gb_8
        clear Gb_8
        have cb_9 := cb.below hb9 (by omega)
        clear cb
        refine hK.out _ _ ⟨X0_9, P_9⟩ (fun hHrx029 => ?_)
        clear hK K
        refine wpAnyH_take (i := 4) (v := ?_) (ops_at rfl) (by kernel_rfl) (by kernel_rfl) (by kernel_rfl) (fun _ _ _ h => h) (Or.inl ⟨by rfl, ?yrx024⟩) (by assumption) ?nrx024
        case yrx024 => (intro wS hSw; obtain ⟨s0, s1⟩ := hSw; have q0 := cell_of s0 0; have q1 := cell_of s0 1; have q2 := cell_of s1 0; have q3 := cell_of s1 1; go_simp; try rfl)
        try simp only [Act.put, List.setIfInBounds_toArray, List.set_cons_zero, List.set_cons_succ]
        refine wpAnyH_done (by kernel_rfl) ?_ _
        have kc_X00 := cell_of X0_9 0
        have kc_X01 := cell_of X0_9 1
        simp only [List.getElem?_toArray, List.getElem?_cons_zero, List.getElem?_cons_succ] at kc_X00 kc_X01
        go_wp2_with fail
        refine (markPuzzle_any _ _ _ _ _ _ _ _ _ HN0.out (by omega) (by omega) (by omega) x0_9 (by omega)).mono ?_
        rintro e w10 ⟨rfl, x0_10, ho10⟩
        clear kc_X00 kc_X01
        have hz10 := ho10.size
        have hB10 : Below w.heap.size w w10 := Below.trans hB9 (ho10.below (by omega) (fun b hb => by omega))
        have hs0_10 := hs0_9.only ho10 (by omega) (fun b hb => by omega)
        clear hs0_9
        have P_10 := (ho10.block _ (by omega) (fun hs => by omega)).trans P_9
        clear P_9
        have C_10 := (ho10.block _ (by omega) (fun hs => by omega)).trans C_9
        clear C_9
        have Wo0_10 := Wo0_9.only ho10 (by omega) (fun b hb => by omega)
        clear Wo0_9
        have Wb_10 := (ho10.block _ (by omega) (fun hs => by omega)).trans Wb_9
        clear Wb_9
        have X0_10 := (ho10.block _ (by omega) (fun hs => by omega)).trans X0_9
        clear X0_9
        have Go0_10 := Go0_9.only ho10 (by omega) (fun b hb => by omega)
        clear Go0_9
        have Gb_10 := (ho10.block _ (by omega) (fun hs => by omega)).trans Gb_9
        clear Gb_9
        have kc_Gb0 := cell_of Gb_10 0
        have kc_Gb1 := cell_of Gb_10 1
        have kc_Wb0 := cell_of Wb_10 0
        have kc_Wb1 := cell_of Wb_10 1
        simp only [List.getElem?_toArray, List.getElem?_cons_zero, List.getElem?_cons_succ] at kc_Gb0 kc_Gb1 kc_Wb0 kc_Wb1
        go_wp2_with fail
        refine (eqPuzzle_any _ _ _ _ _ _ _ _ _ _ _ _ HY0.out (by omega) Go0_10.seg Wo0_10.seg (by omega) (by omega)).mono ?_
        rintro e w11 ⟨rfl, hb11⟩
        clear kc_Gb0 kc_Gb1 kc_Wb0 kc_Wb1
        have hz11 := hb11.size
        have hB11 : Below w.heap.size w w11 := Below.trans hB10 (hb11.mono (by omega))
        have hs0_11 := hs0_10.below hb11 (by omega)
        clear hs0_10
        have P_11 := (hb11.block _ (by omega)).trans P_10
        clear P_10
        have C_11 := (hb11.block _ (by omega)).trans C_10
        clear C_10
        have Wo0_11 := Wo0_10.below hb11 (by omega)
        clear Wo0_10
        have Wb_11 := (hb11.block _ (by omega)).trans Wb_10
        clear Wb_10
        have X0_11 := (hb11.block _ (by omega)).trans X0_10
        clear X0_10
        have Go0_11 := Go0_10.below hb11 (by omega)
        clear Go0_10
        have Gb_11 := (hb11.block _ (by omega)).trans Gb_10
        clear Gb_10
        have kc_Gb0 := cell_of Gb_11 0
        have kc_Gb1 := cell_of Gb_11 1
        simp only [List.getElem?_toArray, List.getElem?_cons_zero, List.getElem?_cons_succ] at kc_Gb0 kc_Gb1
        go_wp2_with fail
        refine (markPuzzle_any _ _ _ _ _ _ _ _ _ HY0.out (by omega) (by omega) (by omega) Go0_11 (by omega)).mono ?_
        rintro e w12 ⟨rfl, Go0_12, ho12⟩
        clear kc_Gb0 kc_Gb1
        have hz12 := ho12.size
        have hB12 : Below w.heap.size w w12 := Below.trans hB11 (ho12.below (by omega) (fun b hb => by omega))
        have hs0_12 := hs0_11.only ho12 (by omega) (fun b hb => by omega)
        clear hs0_11
        have P_12 := (ho12.block _ (by omega) (fun hs => by omega)).trans P_11
        clear P_11
        have C_12 := (ho12.block _ (by omega) (fun hs => by omega)).trans C_11
        clear C_11
        have Wo0_12 := Wo0_11.only ho12 (by omega) (fun b hb => by omega)
        clear Wo0_11
        have Wb_12 := (ho12.block _ (by omega) (fun hs => by omega)).trans Wb_11
        clear Wb_11
        have X0_12 := (ho12.block _ (by omega) (fun hs => by omega)).trans X0_11
        clear X0_11
        have Gb_12 := (ho12.block _ (by omega) (fun hs => by omega)).trans Gb_11
        clear Gb_11
        have kc_Gb0 := cell_of Gb_12 0
        have kc_Gb1 := cell_of Gb_12 1
        simp only [List.getElem?_toArray, List.getElem?_cons_zero, List.getElem?_cons_succ] at kc_Gb0 kc_Gb1
        go_wp2_with fail
        refine (heldPuzzle_any _ _ _ _ _ _ _ _ (by omega) (by omega) (by omega) Go0_12.seg (by omega)).mono ?_
        rintro e w13 ⟨rfl, hb13⟩
        clear kc_Gb0 kc_Gb1
        have hz13 := hb13.size
        have hB13 : Below w.heap.size w w13 := Below.trans hB12 (hb13.mono (by omega))
        have hs0_13 := hs0_12.below hb13 (by omega)
        clear hs0_12
        have P_13 := (hb13.block _ (by omega)).trans P_12
        clear P_12
        have C_13 := (hb13.block _ (by omega)).trans C_12
        clear C_12
        have Wo0_13 := Wo0_12.below hb13 (by omega)
        clear Wo0_12
        have Wb_13 := (hb13.block _ (by omega)).trans Wb_12
        clear Wb_12
        have X0_13 := (hb13.block _ (by omega)).trans X0_12
        clear X0_12
        have Go0_13 := Go0_12.below hb13 (by omega)
        clear Go0_12
        have Gb_13 := (hb13.block _ (by omega)).trans Gb_12
        clear Gb_12
        go_upto_region 24 with (fail)
        go_cut [14, 15] (fun sa sb wx => ∃ A n c g lo hi, sa = .pointer (some ⟨g, 0, none⟩) ∧ sb = .bool true ∧ (listU true (z0 ++ [(a1a, a1b, a1c, a1d)])).length = n ∧ w13.heap.size ≤ lo ∧ hi ≤ wx.heap.size ∧ (g < lo ∨ hi ≤ g) ∧ Own wx lo hi A (flat4 (listU true (z0 ++ [(a1a, a1b, a1c, a1d)]))) ∧ wx.heap[g]? = some (.cells #[.int .i64 (intU true t0), .slice A n c] 35 (0, 0)) ∧ w13.heap.size ≤ g ∧ Below w13.heap.size w13 wx)
        case first =>
          refine wp_region_held_drew (S := fun wq => wq.heap[w.heap.size]? = some (.cells #[.int .i64 t0, .slice a0 len0 cap0] 30 (0, 0)) ∧ wq.heap[w.heap.size + 1]? = some (.cells #[.int .i64 a1a, .int .i64 a1b, .int .i64 a1c, .int .i64 a1d] 23 (0, 0))) (by kernel_rfl) ⟨P_13, C_13⟩ (fun hHdx03 => ?_)
          refine wpAnyH_take (i := 0) (v := ?_) (ops_at rfl) (by kernel_rfl) (by kernel_rfl) (by kernel_rfl) (fun _ _ _ h => h) (Or.inl ⟨by rfl, ?ydx030⟩) (by assumption) ?ndx030
          case ydx030 => (intro wS hSw; obtain ⟨s0, s1⟩ := hSw; have q0 := cell_of s0 0; have q1 := cell_of s0 1; have q2 := cell_of s1 0; have q3 := cell_of s1 1; have q4 := cell_of s1 2; have q5 := cell_of s1 3; go_simp; try rfl)
          try simp only [Act.put, List.setIfInBounds_toArray, List.set_cons_zero, List.set_cons_succ]
          refine wpAnyH_take (i := 2) (v := ?_) (ops_at rfl) (by kernel_rfl) (by kernel_rfl) (by kernel_rfl) (fun _ _ _ h => h) (Or.inl ⟨by rfl, ?ydx032⟩) (by assumption) ?ndx032
          case ydx032 => (intro wS hSw; obtain ⟨s0, s1⟩ := hSw; have q0 := cell_of s0 0; have q1 := cell_of s0 1; have q2 := cell_of s1 0; have q3 := cell_of s1 1; have q4 := cell_of s1 2; have q5 := cell_of s1 3; go_simp; try rfl)
          try simp only [Act.put, List.setIfInBounds_toArray, List.set_cons_zero, List.set_cons_succ]
          obtain ⟨v0, hv0⟩ : ∃ v, w13.drew = v := ⟨_, rfl⟩
          have hc0 : Below w13.heap.size w13 v0 := by rw [← hv0]; exact (Below.refl _ _).drew
          rw [hv0] at hHdx03 ⊢
          clear hv0
          have hdz0 := hc0.size
          have f0_0 := hHdx03.1
          have f1_0 := hHdx03.2
          have sg_0 := hs0_13.below hc0 (by omega)
          refine wpAnyH_ready (rs := [1, 8]) (by kernel_rfl) (by simp) ?_
          refine AllReadyH.cons (ops_at rfl) (fun K hK => ?_) (AllReadyH.cons (ops_at rfl) (fun K hK => ?_) AllReadyH.nil)
          · skip
            go_simp
            refine (toPuzzle_any t0 a0 len0 cap0 z0 w.heap.size _ HN0.out hlen0 sg_0 (by omega)).mono ?_
            rintro e v1 ⟨cA, rfl, co_11, hd1⟩
            have hdz1 := hd1.size
            have hc11 := hc0.trans (hd1.mono (by omega))
            have f0_11 := (hd1.block _ (by omega)).trans f0_0
            have f1_11 := (hd1.block _ (by omega)).trans f1_0
            have sg_11 := sg_0.below hd1 (by omega)
            refine hK.out _ _ ⟨f0_11, f1_11⟩ (fun hR1 => ?_)
            clear hK K
            refine wpAnyH_ready (rs := [3, 8]) (by kernel_rfl) (by simp) ?_
            refine AllReadyH.cons (ops_at rfl) (fun K hK => ?_) (AllReadyH.cons (ops_at rfl) (fun K hK => ?_) AllReadyH.nil)
            · skip
              go_simp
              refine (toClue_any _ _ _ _ _).mono ?_
              rintro e v2 ⟨rfl, hd2⟩
              have hdz2 := hd2.size
              have hc213 := hc11.trans (hd2.mono (by omega))
              have f0_213 := (hd2.block _ (by omega)).trans f0_11
              have f1_213 := (hd2.block _ (by omega)).trans f1_11
              have sg_213 := sg_11.below hd2 (by omega)
              have co_213 := co_11.below hd2 (by omega)
              refine hK.out _ _ ⟨f0_213, f1_213⟩ (fun hR13 => ?_)
              clear hK K
              refine wpAnyH_ready (rs := [4, 8]) (by kernel_rfl) (by simp) ?_
              refine AllReadyH.cons (ops_at rfl) (fun K hK => ?_) (AllReadyH.cons (ops_at rfl) (fun K hK => ?_) AllReadyH.nil)
              · skip
                go_simp
                refine (impl_AddClue t0 _ _ _ a1a a1b a1c a1d z0 _ _ _ HN0.out hlen0 HNC co_213.seg (by omega) _ HQ.out).mono ?_
                rintro e v3 ⟨A, n, c, rfl, hl, ro_3134, hd3⟩
                have hdz3 := hd3.size
                have hc3134 := hc213.trans (hd3.mono (by omega))
                have f0_3134 := (hd3.block _ (by omega)).trans f0_213
                have f1_3134 := (hd3.block _ (by omega)).trans f1_213
                have sg_3134 := sg_213.below hd3 (by omega)
                have co_3134 := co_213.below hd3 (by omega)
                refine hK.out _ _ ⟨f0_3134, f1_3134⟩ (fun hR134 => ?_)
                clear hK K
                refine wpAnyH_take (i := 5) (v := ?_) (ops_at rfl) (by kernel_rfl) (by kernel_rfl) (by kernel_rfl) (fun _ _ _ h => h) (Or.inl ⟨by rfl, ?ydx031345⟩) (by assumption) ?ndx031345
                case ydx031345 => (intro wS hSw; obtain ⟨s0, s1⟩ := hSw; have q0 := cell_of s0 0; have q1 := cell_of s0 1; have q2 := cell_of s1 0; have q3 := cell_of s1 1; have q4 := cell_of s1 2; have q5 := cell_of s1 3; go_simp; try rfl)
                try simp only [Act.put, List.setIfInBounds_toArray, List.set_cons_zero, List.set_cons_succ]
                refine wpAnyH_take (i := 6) (v := ?_) (ops_at rfl) (by kernel_rfl) (by kernel_rfl) (by kernel_rfl) (fun _ _ _ h => h) (Or.inl ⟨by rfl, ?ydx031346⟩) (by assumption) ?ndx031346
                case ydx031346 => (intro wS hSw; obtain ⟨s0, s1⟩ := hSw; have q0 := cell_of s0 0; have q1 := cell_of s0 1; have q2 := cell_of s1 0; have q3 := cell_of s1 1; have q4 := cell_of s1 2; have q5 := cell_of s1 3; go_simp; try rfl)
                try simp only [Act.put, List.setIfInBounds_toArray, List.set_cons_zero, List.set_cons_succ]
                refine wpAnyH_take (i := 7) (v := ?_) (ops_at rfl) (by kernel_rfl) (by kernel_rfl) (by kernel_rfl) (fun _ _ _ h => h) (Or.inl ⟨by rfl, ?ydx031347⟩) (by assumption) ?ndx031347
                case ydx031347 => (intro wS hSw; obtain ⟨s0, s1⟩ := hSw; have q0 := cell_of s0 0; have q1 := cell_of s0 1; have q2 := cell_of s1 0; have q3 := cell_of s1 1; have q4 := cell_of s1 2; have q5 := cell_of s1 3; go_simp; try rfl)
                try simp only [Act.put, List.setIfInBounds_toArray, List.set_cons_zero, List.set_cons_succ]
                refine wpAnyH_ready (rs := [8]) (by kernel_rfl) (by simp) ?_
                refine AllReadyH.cons (ops_at rfl) (fun K hK => ?_) AllReadyH.nil
                go_simp
                obtain ⟨v4, hv4⟩ : ∃ v, v3.alloc (.cells #[.int .i64 0, .slice none 0 0] 35) = v := ⟨_, rfl⟩
                have hd4 : Below v3.heap.size v3 v4 := by rw [← hv4]; exact (Below.refl _ _).alloc (Nat.le_refl _) _
                have m_41348 : v4.heap[v3.heap.size]? = some (.cells #[.int .i64 0, .slice none 0 0] 35 (0, 0)) := by rw [← hv4]; exact new_at _ _ rfl
                have ml4 : v3.heap.size < v4.heap.size := by rw [← hv4]; simp
                have hdz4 := hd4.size
                have hc41348 := hc3134.trans (hd4.mono (by omega))
                have f0_41348 := (hd4.block _ (by omega)).trans f0_3134
                have f1_41348 := (hd4.block _ (by omega)).trans f1_3134
                have sg_41348 := sg_3134.below hd4 (by omega)
                have co_41348 := co_3134.below hd4 (by omega)
                have ro_41348 := ro_3134.below hd4 (by omega)
                rw [hv4]
                refine hK.out _ _ ⟨f0_41348, f1_41348⟩ (fun hR1348 => ?_)
                clear hK K
                clear hv4
                have c0 := cell_of m_41348 0
                have c1 := cell_of m_41348 1
                have e0 := frozen_of m_41348 0
                have e1 := frozen_of m_41348 1
                simp only [List.getElem?_toArray, List.getElem?_cons_zero, List.getElem?_cons_succ] at c0 c1
                have far : ∀ x, x ≠ v3.heap.size → ((v4.setCell ⟨v3.heap.size, 0, none⟩ (.int .i64 (intU true t0))).setCell ⟨v3.heap.size, 1, none⟩ (.slice A n c)).heap[x]? = v4.heap[x]? := fun x hx => (set_far _ hx _).trans (set_far _ hx _)
                have FAR := Lib.hid far
                clear far
                have fin := set_self (set_self m_41348 0 (.int .i64 (intU true t0))) 1 (.slice A n c)
                have FIN := Lib.hid fin
                clear fin
                refine wpAnyH_ready (rs := [9]) (by kernel_rfl) (by simp) ?_
                refine AllReadyH.cons (ops_at rfl) (fun K hK => ?_) AllReadyH.nil
                go_simp
                refine hK.out _ _ ⟨(FAR.out _ (by omega)).trans f0_41348, (FAR.out _ (by omega)).trans f1_41348⟩ (fun hRs => ?_)
                clear hK K
                refine wpAnyH_take (i := 10) (v := ?_) (ops_at rfl) (by kernel_rfl) (by kernel_rfl) (by kernel_rfl) (fun _ _ _ h => h) (Or.inl ⟨by rfl, ?ydx03134810⟩) (by assumption) ?ndx03134810
                case ydx03134810 => (intro wS hSw; obtain ⟨s0, s1⟩ := hSw; have q0 := cell_of s0 0; have q1 := cell_of s0 1; have q2 := cell_of s1 0; have q3 := cell_of s1 1; have q4 := cell_of s1 2; have q5 := cell_of s1 3; go_simp; try rfl)
                try simp only [Act.put, List.setIfInBounds_toArray, List.set_cons_zero, List.set_cons_succ]
                refine wpAnyH_done (by kernel_rfl) ?_ _
                go_wp2_with fail
                go_meet
                have hzf : ((v4.setCell ⟨v3.heap.size, 0, none⟩ (.int .i64 (intU true t0))).setCell ⟨v3.heap.size, 1, none⟩ (.slice A n c)).heap.size = v4.heap.size := by simp
                refine ⟨A, n, c, v3.heap.size, v2.heap.size, v3.heap.size, rfl, rfl, hl, by omega, by omega, by omega, ro_41348.keep fun b hb1 hb2 => FAR.out _ (by omega), by simpa using FIN.out, by omega, (hc41348.setCell (p := ⟨v3.heap.size, 0, none⟩) (by show _ ≤ v3.heap.size; omega) _).setCell (p := ⟨v3.heap.size, 1, none⟩) (by show _ ≤ v3.heap.size; omega) _⟩
              · skip
                go_simp
                obtain ⟨v3, hv3⟩ : ∃ v, v2.alloc (.cells #[.int .i64 0, .slice none 0 0] 35) = v := ⟨_, rfl⟩
                have hd3 : Below v2.heap.size v2 v3 := by rw [← hv3]; exact (Below.refl _ _).alloc (Nat.le_refl _) _
                have m_3138 : v3.heap[v2.heap.size]? = some (.cells #[.int .i64 0, .slice none 0 0] 35 (0, 0)) := by rw [← hv3]; exact new_at _ _ rfl
                have ml3 : v2.heap.size < v3.heap.size := by rw [← hv3]; simp
                have hdz3 := hd3.size
                have hc3138 := hc213.trans (hd3.mono (by omega))
                have f0_3138 := (hd3.block _ (by omega)).trans f0_213
                have f1_3138 := (hd3.block _ (by omega)).trans f1_213
                have sg_3138 := sg_213.below hd3 (by omega)
                have co_3138 := co_213.below hd3 (by omega)
                rw [hv3]
                refine hK.out _ _ ⟨f0_3138, f1_3138⟩ (fun hR138 => ?_)
                clear hK K
                clear hv3
                refine wpAnyH_ready (rs := [4]) (by kernel_rfl) (by simp) ?_
                refine AllReadyH.cons (ops_at rfl) (fun K hK => ?_) AllReadyH.nil
                go_simp
                refine (impl_AddClue t0 _ _ _ a1a a1b a1c a1d z0 _ _ _ HN0.out hlen0 HNC co_3138.seg (by omega) _ HQ.out).mono ?_
                rintro e v4 ⟨A, n, c, rfl, hl, ro_41384, hd4⟩
                have hdz4 := hd4.size
                have hc41384 := hc3138.trans (hd4.mono (by omega))
                have f0_41384 := (hd4.block _ (by omega)).trans f0_3138
                have f1_41384 := (hd4.block _ (by omega)).trans f1_3138
                have sg_41384 := sg_3138.below hd4 (by omega)
                have co_41384 := co_3138.below hd4 (by omega)
                have m_41384 := (hd4.block _ (by omega)).trans m_3138
                refine hK.out _ _ ⟨f0_41384, f1_41384⟩ (fun hR1384 => ?_)
                clear hK K
                refine wpAnyH_take (i := 5) (v := ?_) (ops_at rfl) (by kernel_rfl) (by kernel_rfl) (by kernel_rfl) (fun _ _ _ h => h) (Or.inl ⟨by rfl, ?ydx0313845⟩) (by assumption) ?ndx0313845
                case ydx0313845 => (intro wS hSw; obtain ⟨s0, s1⟩ := hSw; have q0 := cell_of s0 0; have q1 := cell_of s0 1; have q2 := cell_of s1 0; have q3 := cell_of s1 1; have q4 := cell_of s1 2; have q5 := cell_of s1 3; go_simp; try rfl)
                try simp only [Act.put, List.setIfInBounds_toArray, List.set_cons_zero, List.set_cons_succ]
                refine wpAnyH_take (i := 6) (v := ?_) (ops_at rfl) (by kernel_rfl) (by kernel_rfl) (by kernel_rfl) (fun _ _ _ h => h) (Or.inl ⟨by rfl, ?ydx0313846⟩) (by assumption) ?ndx0313846
                case ydx0313846 => (intro wS hSw; obtain ⟨s0, s1⟩ := hSw; have q0 := cell_of s0 0; have q1 := cell_of s0 1; have q2 := cell_of s1 0; have q3 := cell_of s1 1; have q4 := cell_of s1 2; have q5 := cell_of s1 3; go_simp; try rfl)
                try simp only [Act.put, List.setIfInBounds_toArray, List.set_cons_zero, List.set_cons_succ]
                refine wpAnyH_take (i := 7) (v := ?_) (ops_at rfl) (by kernel_rfl) (by kernel_rfl) (by kernel_rfl) (fun _ _ _ h => h) (Or.inl ⟨by rfl, ?ydx0313847⟩) (by assumption) ?ndx0313847
                case ydx0313847 => (intro wS hSw; obtain ⟨s0, s1⟩ := hSw; have q0 := cell_of s0 0; have q1 := cell_of s0 1; have q2 := cell_of s1 0; have q3 := cell_of s1 1; have q4 := cell_of s1 2; have q5 := cell_of s1 3; go_simp; try rfl)
                try simp only [Act.put, List.setIfInBounds_toArray, List.set_cons_zero, List.set_cons_succ]
                have c0 := cell_of m_41384 0
                have c1 := cell_of m_41384 1
                have e0 := frozen_of m_41384 0
                have e1 := frozen_of m_41384 1
                simp only [List.getElem?_toArray, List.getElem?_cons_zero, List.getElem?_cons_succ] at c0 c1
                have far : ∀ x, x ≠ v2.heap.size → ((v4.setCell ⟨v2.heap.size, 0, none⟩ (.int .i64 (intU true t0))).setCell ⟨v2.heap.size, 1, none⟩ (.slice A n c)).heap[x]? = v4.heap[x]? := fun x hx => (set_far _ hx _).trans (set_far _ hx _)
                have FAR := Lib.hid far
                clear far
                have fin := set_self (set_self m_41384 0 (.int .i64 (intU true t0))) 1 (.slice A n c)
                have FIN := Lib.hid fin
                clear fin
                refine wpAnyH_ready (rs := [9]) (by kernel_rfl) (by simp) ?_
                refine AllReadyH.cons (ops_at rfl) (fun K hK => ?_) AllReadyH.nil
                go_simp
                refine hK.out _ _ ⟨(FAR.out _ (by omega)).trans f0_41384, (FAR.out _ (by omega)).trans f1_41384⟩ (fun hRs => ?_)
                clear hK K
                refine wpAnyH_take (i := 10) (v := ?_) (ops_at rfl) (by kernel_rfl) (by kernel_rfl) (by kernel_rfl) (fun _ _ _ h => h) (Or.inl ⟨by rfl, ?ydx03138410⟩) (by assumption) ?ndx03138410
                case ydx03138410 => (intro wS hSw; obtain ⟨s0, s1⟩ := hSw; have q0 := cell_of s0 0; have q1 := cell_of s0 1; have q2 := cell_of s1 0; have q3 := cell_of s1 1; have q4 := cell_of s1 2; have q5 := cell_of s1 3; go_simp; try rfl)
                try simp only [Act.put, List.setIfInBounds_toArray, List.set_cons_zero, List.set_cons_succ]
                refine wpAnyH_done (by kernel_rfl) ?_ _
                go_wp2_with fail
                go_meet
                have hzf : ((v4.setCell ⟨v2.heap.size, 0, none⟩ (.int .i64 (intU true t0))).setCell ⟨v2.heap.size, 1, none⟩ (.slice A n c)).heap.size = v4.heap.size := by simp
                refine ⟨A, n, c, v2.heap.size, v3.heap.size, v4.heap.size, rfl, rfl, hl, by omega, by omega, by omega, ro_41384.keep fun b hb1 hb2 => FAR.out _ (by omega), by simpa using FIN.out, by omega, (hc41384.setCell (p := ⟨v2.heap.size, 0, none⟩) (by show _ ≤ v2.heap.size; omega) _).setCell (p := ⟨v2.heap.size, 1, none⟩) (by show _ ≤ v2.heap.size; omega) _⟩
            · skip
              go_simp
              obtain ⟨v2, hv2⟩ : ∃ v, v1.alloc (.cells #[.int .i64 0, .slice none 0 0] 35) = v := ⟨_, rfl⟩
              have hd2 : Below v1.heap.size v1 v2 := by rw [← hv2]; exact (Below.refl _ _).alloc (Nat.le_refl _) _
              have m_218 : v2.heap[v1.heap.size]? = some (.cells #[.int .i64 0, .slice none 0 0] 35 (0, 0)) := by rw [← hv2]; exact new_at _ _ rfl
              have ml2 : v1.heap.size < v2.heap.size := by rw [← hv2]; simp
              have hdz2 := hd2.size
              have hc218 := hc11.trans (hd2.mono (by omega))
              have f0_218 := (hd2.block _ (by omega)).trans f0_11
              have f1_218 := (hd2.block _ (by omega)).trans f1_11
              have sg_218 := sg_11.below hd2 (by omega)
              have co_218 := co_11.below hd2 (by omega)
              rw [hv2]
              refine hK.out _ _ ⟨f0_218, f1_218⟩ (fun hR18 => ?_)
              clear hK K
              clear hv2
              refine wpAnyH_ready (rs := [3]) (by kernel_rfl) (by simp) ?_
              refine AllReadyH.cons (ops_at rfl) (fun K hK => ?_) AllReadyH.nil
              go_simp
              refine (toClue_any _ _ _ _ _).mono ?_
              rintro e v3 ⟨rfl, hd3⟩
              have hdz3 := hd3.size
              have hc3183 := hc218.trans (hd3.mono (by omega))
              have f0_3183 := (hd3.block _ (by omega)).trans f0_218
              have f1_3183 := (hd3.block _ (by omega)).trans f1_218
              have sg_3183 := sg_218.below hd3 (by omega)
              have co_3183 := co_218.below hd3 (by omega)
              have m_3183 := (hd3.block _ (by omega)).trans m_218
              refine hK.out _ _ ⟨f0_3183, f1_3183⟩ (fun hR183 => ?_)
              clear hK K
              refine wpAnyH_ready (rs := [4]) (by kernel_rfl) (by simp) ?_
              refine AllReadyH.cons (ops_at rfl) (fun K hK => ?_) AllReadyH.nil
              go_simp
              refine (impl_AddClue t0 _ _ _ a1a a1b a1c a1d z0 _ _ _ HN0.out hlen0 HNC co_3183.seg (by omega) _ HQ.out).mono ?_
              rintro e v4 ⟨A, n, c, rfl, hl, ro_41834, hd4⟩
              have hdz4 := hd4.size
              have hc41834 := hc3183.trans (hd4.mono (by omega))
              have f0_41834 := (hd4.block _ (by omega)).trans f0_3183
              have f1_41834 := (hd4.block _ (by omega)).trans f1_3183
              have sg_41834 := sg_3183.below hd4 (by omega)
              have co_41834 := co_3183.below hd4 (by omega)
              have m_41834 := (hd4.block _ (by omega)).trans m_3183
              refine hK.out _ _ ⟨f0_41834, f1_41834⟩ (fun hR1834 => ?_)
              clear hK K
              refine wpAnyH_take (i := 5) (v := ?_) (ops_at rfl) (by kernel_rfl) (by kernel_rfl) (by kernel_rfl) (fun _ _ _ h => h) (Or.inl ⟨by rfl, ?ydx0318345⟩) (by assumption) ?ndx0318345
              case ydx0318345 => (intro wS hSw; obtain ⟨s0, s1⟩ := hSw; have q0 := cell_of s0 0; have q1 := cell_of s0 1; have q2 := cell_of s1 0; have q3 := cell_of s1 1; have q4 := cell_of s1 2; have q5 := cell_of s1 3; go_simp; try rfl)
              try simp only [Act.put, List.setIfInBounds_toArray, List.set_cons_zero, List.set_cons_succ]
              refine wpAnyH_take (i := 6) (v := ?_) (ops_at rfl) (by kernel_rfl) (by kernel_rfl) (by kernel_rfl) (fun _ _ _ h => h) (Or.inl ⟨by rfl, ?ydx0318346⟩) (by assumption) ?ndx0318346
              case ydx0318346 => (intro wS hSw; obtain ⟨s0, s1⟩ := hSw; have q0 := cell_of s0 0; have q1 := cell_of s0 1; have q2 := cell_of s1 0; have q3 := cell_of s1 1; have q4 := cell_of s1 2; have q5 := cell_of s1 3; go_simp; try rfl)
              try simp only [Act.put, List.setIfInBounds_toArray, List.set_cons_zero, List.set_cons_succ]
              refine wpAnyH_take (i := 7) (v := ?_) (ops_at rfl) (by kernel_rfl) (by kernel_rfl) (by kernel_rfl) (fun _ _ _ h => h) (Or.inl ⟨by rfl, ?ydx0318347⟩) (by assumption) ?ndx0318347
              case ydx0318347 => (intro wS hSw; obtain ⟨s0, s1⟩ := hSw; have q0 := cell_of s0 0; have q1 := cell_of s0 1; have q2 := cell_of s1 0; have q3 := cell_of s1 1; have q4 := cell_of s1 2; have q5 := cell_of s1 3; go_simp; try rfl)
              try simp only [Act.put, List.setIfInBounds_toArray, List.set_cons_zero, List.set_cons_succ]
              have c0 := cell_of m_41834 0
              have c1 := cell_of m_41834 1
              have e0 := frozen_of m_41834 0
              have e1 := frozen_of m_41834 1
              simp only [List.getElem?_toArray, List.getElem?_cons_zero, List.getElem?_cons_succ] at c0 c1
              have far : ∀ x, x ≠ v1.heap.size → ((v4.setCell ⟨v1.heap.size, 0, none⟩ (.int .i64 (intU true t0))).setCell ⟨v1.heap.size, 1, none⟩ (.slice A n c)).heap[x]? = v4.heap[x]? := fun x hx => (set_far _ hx _).trans (set_far _ hx _)
              have FAR := Lib.hid far
              clear far
              have fin := set_self (set_self m_41834 0 (.int .i64 (intU true t0))) 1 (.slice A n c)
              have FIN := Lib.hid fin
              clear fin
              refine wpAnyH_ready (rs := [9]) (by kernel_rfl) (by simp) ?_
              refine AllReadyH.cons (ops_at rfl) (fun K hK => ?_) AllReadyH.nil
              go_simp
              refine hK.out _ _ ⟨(FAR.out _ (by omega)).trans f0_41834, (FAR.out _ (by omega)).trans f1_41834⟩ (fun hRs => ?_)
              clear hK K
              refine wpAnyH_take (i := 10) (v := ?_) (ops_at rfl) (by kernel_rfl) (by kernel_rfl) (by kernel_rfl) (fun _ _ _ h => h) (Or.inl ⟨by rfl, ?ydx03183410⟩) (by assumption) ?ndx03183410
              case ydx03183410 => (intro wS hSw; obtain ⟨s0, s1⟩ := hSw; have q0 := cell_of s0 0; have q1 := cell_of s0 1; have q2 := cell_of s1 0; have q3 := cell_of s1 1; have q4 := cell_of s1 2; have q5 := cell_of s1 3; go_simp; try rfl)
              try simp only [Act.put, List.setIfInBounds_toArray, List.set_cons_zero, List.set_cons_succ]
              refine wpAnyH_done (by kernel_rfl) ?_ _
              go_wp2_with fail
              go_meet
              have hzf : ((v4.setCell ⟨v1.heap.size, 0, none⟩ (.int .i64 (intU true t0))).setCell ⟨v1.heap.size, 1, none⟩ (.slice A n c)).heap.size = v4.heap.size := by simp
              refine ⟨A, n, c, v1.heap.size, v3.heap.size, v4.heap.size, rfl, rfl, hl, by omega, by omega, by omega, ro_41834.keep fun b hb1 hb2 => FAR.out _ (by omega), by simpa using FIN.out, by omega, (hc41834.setCell (p := ⟨v1.heap.size, 0, none⟩) (by show _ ≤ v1.heap.size; omega) _).setCell (p := ⟨v1.heap.size, 1, none⟩) (by show _ ≤ v1.heap.size; omega) _⟩
          · skip
            go_simp
            obtain ⟨v1, hv1⟩ : ∃ v, v0.alloc (.cells #[.int .i64 0, .slice none 0 0] 35) = v := ⟨_, rfl⟩
            have hd1 : Below v0.heap.size v0 v1 := by rw [← hv1]; exact (Below.refl _ _).alloc (Nat.le_refl _) _
            have m_18 : v1.heap[v0.heap.size]? = some (.cells #[.int .i64 0, .slice none 0 0] 35 (0, 0)) := by rw [← hv1]; exact new_at _ _ rfl
            have ml1 : v0.heap.size < v1.heap.size := by rw [← hv1]; simp
            have hdz1 := hd1.size
            have hc18 := hc0.trans (hd1.mono (by omega))
            have f0_18 := (hd1.block _ (by omega)).trans f0_0
            have f1_18 := (hd1.block _ (by omega)).trans f1_0
            have sg_18 := sg_0.below hd1 (by omega)
            rw [hv1]
            refine hK.out _ _ ⟨f0_18, f1_18⟩ (fun hR8 => ?_)
            clear hK K
            clear hv1
            refine wpAnyH_ready (rs := [1]) (by kernel_rfl) (by simp) ?_
            refine AllReadyH.cons (ops_at rfl) (fun K hK => ?_) AllReadyH.nil
            go_simp
            refine (toPuzzle_any t0 a0 len0 cap0 z0 w.heap.size _ HN0.out hlen0 sg_18 (by omega)).mono ?_
            rintro e v2 ⟨cA, rfl, co_281, hd2⟩
            have hdz2 := hd2.size
            have hc281 := hc18.trans (hd2.mono (by omega))
            have f0_281 := (hd2.block _ (by omega)).trans f0_18
            have f1_281 := (hd2.block _ (by omega)).trans f1_18
            have sg_281 := sg_18.below hd2 (by omega)
            have m_281 := (hd2.block _ (by omega)).trans m_18
            refine hK.out _ _ ⟨f0_281, f1_281⟩ (fun hR81 => ?_)
            clear hK K
            refine wpAnyH_ready (rs := [3]) (by kernel_rfl) (by simp) ?_
            refine AllReadyH.cons (ops_at rfl) (fun K hK => ?_) AllReadyH.nil
            go_simp
            refine (toClue_any _ _ _ _ _).mono ?_
            rintro e v3 ⟨rfl, hd3⟩
            have hdz3 := hd3.size
            have hc3813 := hc281.trans (hd3.mono (by omega))
            have f0_3813 := (hd3.block _ (by omega)).trans f0_281
            have f1_3813 := (hd3.block _ (by omega)).trans f1_281
            have sg_3813 := sg_281.below hd3 (by omega)
            have co_3813 := co_281.below hd3 (by omega)
            have m_3813 := (hd3.block _ (by omega)).trans m_281
            refine hK.out _ _ ⟨f0_3813, f1_3813⟩ (fun hR813 => ?_)
            clear hK K
            refine wpAnyH_ready (rs := [4]) (by kernel_rfl) (by simp) ?_
            refine AllReadyH.cons (ops_at rfl) (fun K hK => ?_) AllReadyH.nil
            go_simp
            refine (impl_AddClue t0 _ _ _ a1a a1b a1c a1d z0 _ _ _ HN0.out hlen0 HNC co_3813.seg (by omega) _ HQ.out).mono ?_
            rintro e v4 ⟨A, n, c, rfl, hl, ro_48134, hd4⟩
            have hdz4 := hd4.size
            have hc48134 := hc3813.trans (hd4.mono (by omega))
            have f0_48134 := (hd4.block _ (by omega)).trans f0_3813
            have f1_48134 := (hd4.block _ (by omega)).trans f1_3813
            have sg_48134 := sg_3813.below hd4 (by omega)
            have co_48134 := co_3813.below hd4 (by omega)
            have m_48134 := (hd4.block _ (by omega)).trans m_3813
            refine hK.out _ _ ⟨f0_48134, f1_48134⟩ (fun hR8134 => ?_)
            clear hK K
            refine wpAnyH_take (i := 5) (v := ?_) (ops_at rfl) (by kernel_rfl) (by kernel_rfl) (by kernel_rfl) (fun _ _ _ h => h) (Or.inl ⟨by rfl, ?ydx0381345⟩) (by assumption) ?ndx0381345
            case ydx0381345 => (intro wS hSw; obtain ⟨s0, s1⟩ := hSw; have q0 := cell_of s0 0; have q1 := cell_of s0 1; have q2 := cell_of s1 0; have q3 := cell_of s1 1; have q4 := cell_of s1 2; have q5 := cell_of s1 3; go_simp; try rfl)
            try simp only [Act.put, List.setIfInBounds_toArray, List.set_cons_zero, List.set_cons_succ]
            refine wpAnyH_take (i := 6) (v := ?_) (ops_at rfl) (by kernel_rfl) (by kernel_rfl) (by kernel_rfl) (fun _ _ _ h => h) (Or.inl ⟨by rfl, ?ydx0381346⟩) (by assumption) ?ndx0381346
            case ydx0381346 => (intro wS hSw; obtain ⟨s0, s1⟩ := hSw; have q0 := cell_of s0 0; have q1 := cell_of s0 1; have q2 := cell_of s1 0; have q3 := cell_of s1 1; have q4 := cell_of s1 2; have q5 := cell_of s1 3; go_simp; try rfl)
            try simp only [Act.put, List.setIfInBounds_toArray, List.set_cons_zero, List.set_cons_succ]
            refine wpAnyH_take (i := 7) (v := ?_) (ops_at rfl) (by kernel_rfl) (by kernel_rfl) (by kernel_rfl) (fun _ _ _ h => h) (Or.inl ⟨by rfl, ?ydx0381347⟩) (by assumption) ?ndx0381347
            case ydx0381347 => (intro wS hSw; obtain ⟨s0, s1⟩ := hSw; have q0 := cell_of s0 0; have q1 := cell_of s0 1; have q2 := cell_of s1 0; have q3 := cell_of s1 1; have q4 := cell_of s1 2; have q5 := cell_of s1 3; go_simp; try rfl)
            try simp only [Act.put, List.setIfInBounds_toArray, List.set_cons_zero, List.set_cons_succ]
            have c0 := cell_of m_48134 0
            have c1 := cell_of m_48134 1
            have e0 := frozen_of m_48134 0
            have e1 := frozen_of m_48134 1
            simp only [List.getElem?_toArray, List.getElem?_cons_zero, List.getElem?_cons_succ] at c0 c1
            have far : ∀ x, x ≠ v0.heap.size → ((v4.setCell ⟨v0.heap.size, 0, none⟩ (.int .i64 (intU true t0))).setCell ⟨v0.heap.size, 1, none⟩ (.slice A n c)).heap[x]? = v4.heap[x]? := fun x hx => (set_far _ hx _).trans (set_far _ hx _)
            have FAR := Lib.hid far
            clear far
            have fin := set_self (set_self m_48134 0 (.int .i64 (intU true t0))) 1 (.slice A n c)
            have FIN := Lib.hid fin
            clear fin
            refine wpAnyH_ready (rs := [9]) (by kernel_rfl) (by simp) ?_
            refine AllReadyH.cons (ops_at rfl) (fun K hK => ?_) AllReadyH.nil
            go_simp
            refine hK.out _ _ ⟨(FAR.out _ (by omega)).trans f0_48134, (FAR.out _ (by omega)).trans f1_48134⟩ (fun hRs => ?_)
            clear hK K
            refine wpAnyH_take (i := 10) (v := ?_) (ops_at rfl) (by kernel_rfl) (by kernel_rfl) (by kernel_rfl) (fun _ _ _ h => h) (Or.inl ⟨by rfl, ?ydx03813410⟩) (by assumption) ?ndx03813410
            case ydx03813410 => (intro wS hSw; obtain ⟨s0, s1⟩ := hSw; have q0 := cell_of s0 0; have q1 := cell_of s0 1; have q2 := cell_of s1 0; have q3 := cell_of s1 1; have q4 := cell_of s1 2; have q5 := cell_of s1 3; go_simp; try rfl)
            try simp only [Act.put, List.setIfInBounds_toArray, List.set_cons_zero, List.set_cons_succ]
            refine wpAnyH_done (by kernel_rfl) ?_ _
            go_wp2_with fail
            go_meet
            have hzf : ((v4.setCell ⟨v0.heap.size, 0, none⟩ (.int .i64 (intU true t0))).setCell ⟨v0.heap.size, 1, none⟩ (.slice A n c)).heap.size = v4.heap.size := by simp
            refine ⟨A, n, c, v0.heap.size, v3.heap.size, v4.heap.size, rfl, rfl, hl, by omega, by omega, by omega, ro_48134.keep fun b hb1 hb2 => FAR.out _ (by omega), by simpa using FIN.out, by omega, (hc48134.setCell (p := ⟨v0.heap.size, 0, none⟩) (by show _ ≤ v0.heap.size; omega) _).setCell (p := ⟨v0.heap.size, 1, none⟩) (by show _ ≤ v0.heap.size; omega) _⟩
        case rest =>
          obtain ⟨HA0, Hn0, Hc0, Hg, Hlo, Hhi, rfl, rfl, Hl0, Hx1, Hx2, Hx3, Ho0, Hb, Hgl, hb14⟩ := hcut
          obtain ⟨w14, rfl⟩ : ∃ w14, w14 = wc := ⟨_, rfl⟩
          have Hgh : Hg < w14.heap.size := heap_lt Hb
          have hz14 := hb14.size
          have hB14 : Below w.heap.size w w14 := Below.trans hB13 (hb14.mono (by omega))
          have hs0_14 := hs0_13.below hb14 (by omega)
          clear hs0_13
          have P_14 := (hb14.block _ (by omega)).trans P_13
          clear P_13
          have C_14 := (hb14.block _ (by omega)).trans C_13
          clear C_13
          have Wo0_14 := Wo0_13.below hb14 (by omega)
          clear Wo0_13
          have Wb_14 := (hb14.block _ (by omega)).trans Wb_13
          clear Wb_13
          have X0_14 := (hb14.block _ (by omega)).trans X0_13
          clear X0_13
          have Go0_14 := Go0_13.below hb14 (by omega)
          clear Go0_13
          have Gb_14 := (hb14.block _ (by omega)).trans Gb_13
          clear Gb_13
          obtain rfl : Hn0 = Gn0 := Hl0.symm.trans HY0.out
          clear Hl0
          have kc_Hb0 := cell_of Hb 0
          have kc_Hb1 := cell_of Hb 1
          have kc_Wb0 := cell_of Wb_14 0
          have kc_Wb1 := cell_of Wb_14 1
          simp only [List.getElem?_toArray, List.getElem?_cons_zero, List.getElem?_cons_succ] at kc_Hb0 kc_Hb1 kc_Wb0 kc_Wb1
          go_wp2_with fail
          refine (eqPuzzle_any _ _ _ _ _ _ _ _ _ _ _ _ HY0.out (by omega) Ho0.seg Wo0_14.seg (by omega) (by omega)).mono ?_
          rintro e w15 ⟨rfl, hb15⟩
          clear kc_Hb0 kc_Hb1 kc_Wb0 kc_Wb1
          have hz15 := hb15.size
          have hB15 : Below w.heap.size w w15 := Below.trans hB14 (hb15.mono (by omega))
          have hs0_15 := hs0_14.below hb15 (by omega)
          clear hs0_14
          have P_15 := (hb15.block _ (by omega)).trans P_14
          clear P_14
          have C_15 := (hb15.block _ (by omega)).trans C_14
          clear C_14
          have Wo0_15 := Wo0_14.below hb15 (by omega)
          clear Wo0_14
          have Wb_15 := (hb15.block _ (by omega)).trans Wb_14
          clear Wb_14
          have X0_15 := (hb15.block _ (by omega)).trans X0_14
          clear X0_14
          have Go0_15 := Go0_14.below hb15 (by omega)
          clear Go0_14
          have Gb_15 := (hb15.block _ (by omega)).trans Gb_14
          clear Gb_14
          have Ho0_15 := Ho0.below hb15 (by omega)
          clear Ho0
          have Hb_15 := (hb15.block _ (by omega)).trans Hb
          clear Hb
          have kc_Gb0 := cell_of Gb_15 0
          have kc_Gb1 := cell_of Gb_15 1
          simp only [List.getElem?_toArray, List.getElem?_cons_zero, List.getElem?_cons_succ] at kc_Gb0 kc_Gb1
          go_wp2_with fail
          refine (heldPuzzle_any _ _ _ _ _ _ _ _ (by omega) (by omega) (by omega) Go0_15.seg (by omega)).mono ?_
          rintro e w16 ⟨rfl, hb16⟩
          clear kc_Gb0 kc_Gb1
          have hz16 := hb16.size
          have hB16 : Below w.heap.size w w16 := Below.trans hB15 (hb16.mono (by omega))
          have hs0_16 := hs0_15.below hb16 (by omega)
          clear hs0_15
          have P_16 := (hb16.block _ (by omega)).trans P_15
          clear P_15
          have C_16 := (hb16.block _ (by omega)).trans C_15
          clear C_15
          have Wo0_16 := Wo0_15.below hb16 (by omega)
          clear Wo0_15
          have Wb_16 := (hb16.block _ (by omega)).trans Wb_15
          clear Wb_15
          have X0_16 := (hb16.block _ (by omega)).trans X0_15
          clear X0_15
          have Go0_16 := Go0_15.below hb16 (by omega)
          clear Go0_15
          have Gb_16 := (hb16.block _ (by omega)).trans Gb_15
          clear Gb_15
          have Ho0_16 := Ho0_15.below hb16 (by omega)
          clear Ho0_15
          have Hb_16 := (hb16.block _ (by omega)).trans Hb_15
          clear Hb_15
          go_wp2
          go_ret
          exact ⟨rfl, hB16⟩
  · go_enter Try.func13, Try.ntmps13
    have hb0 : Below w.heap.size w ((w.alloc (.cells #[.int .i64 t0, .slice a0 len0 cap0] 30)).alloc (.cells #[.int .i64 a1a, .int .i64 a1b, .int .i64 a1c, .int .i64 a1d] 23)) := ((Below.refl _ _).alloc (Nat.le_refl _) _).alloc (by simp) _
    obtain ⟨w0, hW0⟩ : ∃ W0, (w.alloc (.cells #[.int .i64 t0, .slice a0 len0 cap0] 30)).alloc (.cells #[.int .i64 a1a, .int .i64 a1b, .int .i64 a1c, .int .i64 a1d] 23) = W0 := ⟨_, rfl⟩
    have P : w0.heap[w.heap.size]? = some (.cells #[.int .i64 t0, .slice a0 len0 cap0] 30 (0, 0)) := by rw [← hW0]; exact (alloc_old _ (by simp) _).trans (new_at _ _ rfl)
    have C : w0.heap[w.heap.size + 1]? = some (.cells #[.int .i64 a1a, .int .i64 a1b, .int .i64 a1c, .int .i64 a1d] 23 (0, 0)) := by rw [← hW0]; exact new_at _ _ (by simp)
    have hxc : w.heap.size + 1 < w0.heap.size := heap_lt C
    have hx0 : w.heap.size < w0.heap.size := heap_lt P
    rw [hW0] at hb0
    have HW0 := Lib.hid hW0
    clear hW0
    have hs0_0 := hs0.below hb0 (Nat.le_refl _)
    clear hs0
    have hz0 := hb0.size
    have kc_P0 := cell_of P 0
    have kc_P1 := cell_of P 1
    simp only [List.getElem?_toArray, List.getElem?_cons_zero, List.getElem?_cons_succ] at kc_P0 kc_P1
    go_wp2_with fail
    rw [HW0.out]
    refine (szPuzzle_any _ _ _ _ _ hlen0).mono ?_
    rintro e w1 ⟨rfl, hb1⟩
    clear kc_P0 kc_P1
    have hz1 := hb1.size
    have hB1 : Below w.heap.size w w1 := Below.trans hb0 (hb1.mono (by omega))
    have hs0_1 := hs0_0.below hb1 (by omega)
    clear hs0_0
    have P_1 := (hb1.block _ (by omega)).trans P
    clear P
    have C_1 := (hb1.block _ (by omega)).trans C
    clear C
    go_upto_region 5 with (fail)
    go_cut [6, 7] (fun sa sb wx => ∃ A n c g lo hi, sa = .pointer (some ⟨g, 0, none⟩) ∧ sb = .bool false ∧ (listU false (z0 ++ [(a1a, a1b, a1c, a1d)])).length = n ∧ w1.heap.size ≤ lo ∧ hi ≤ wx.heap.size ∧ (g < lo ∨ hi ≤ g) ∧ Own wx lo hi A (flat4 (listU false (z0 ++ [(a1a, a1b, a1c, a1d)]))) ∧ wx.heap[g]? = some (.cells #[.int .i64 (intU false t0), .slice A n c] 35 (0, 0)) ∧ w1.heap.size ≤ g ∧ Below w1.heap.size w1 wx)
    case first =>
      refine wp_region_held_drew (S := fun wq => wq.heap[w.heap.size]? = some (.cells #[.int .i64 t0, .slice a0 len0 cap0] 30 (0, 0)) ∧ wq.heap[w.heap.size + 1]? = some (.cells #[.int .i64 a1a, .int .i64 a1b, .int .i64 a1c, .int .i64 a1d] 23 (0, 0))) (by kernel_rfl) ⟨P_1, C_1⟩ (fun hHdx10 => ?_)
      refine wpAnyH_take (i := 0) (v := ?_) (ops_at rfl) (by kernel_rfl) (by kernel_rfl) (by kernel_rfl) (fun _ _ _ h => h) (Or.inl ⟨by rfl, ?ydx100⟩) (by assumption) ?ndx100
      case ydx100 => (intro wS hSw; obtain ⟨s0, s1⟩ := hSw; have q0 := cell_of s0 0; have q1 := cell_of s0 1; have q2 := cell_of s1 0; have q3 := cell_of s1 1; have q4 := cell_of s1 2; have q5 := cell_of s1 3; go_simp; try rfl)
      try simp only [Act.put, List.setIfInBounds_toArray, List.set_cons_zero, List.set_cons_succ]
      refine wpAnyH_take (i := 2) (v := ?_) (ops_at rfl) (by kernel_rfl) (by kernel_rfl) (by kernel_rfl) (fun _ _ _ h => h) (Or.inl ⟨by rfl, ?ydx102⟩) (by assumption) ?ndx102
      case ydx102 => (intro wS hSw; obtain ⟨s0, s1⟩ := hSw; have q0 := cell_of s0 0; have q1 := cell_of s0 1; have q2 := cell_of s1 0; have q3 := cell_of s1 1; have q4 := cell_of s1 2; have q5 := cell_of s1 3; go_simp; try rfl)
      try simp only [Act.put, List.setIfInBounds_toArray, List.set_cons_zero, List.set_cons_succ]
      obtain ⟨v0, hv0⟩ : ∃ v, w1.drew = v := ⟨_, rfl⟩
      have hc0 : Below w1.heap.size w1 v0 := by rw [← hv0]; exact (Below.refl _ _).drew
      rw [hv0] at hHdx10 ⊢
      clear hv0
      have hdz0 := hc0.size
      have f0_0 := hHdx10.1
      have f1_0 := hHdx10.2
      have sg_0 := hs0_1.below hc0 (by omega)
      refine wpAnyH_ready (rs := [1, 8]) (by kernel_rfl) (by simp) ?_
      refine AllReadyH.cons (ops_at rfl) (fun K hK => ?_) (AllReadyH.cons (ops_at rfl) (fun K hK => ?_) AllReadyH.nil)
      · skip
        go_simp
        refine (toPuzzle_any t0 a0 len0 cap0 z0 w.heap.size _ HN0.out hlen0 sg_0 (by omega)).mono ?_
        rintro e v1 ⟨cA, rfl, co_11, hd1⟩
        have hdz1 := hd1.size
        have hc11 := hc0.trans (hd1.mono (by omega))
        have f0_11 := (hd1.block _ (by omega)).trans f0_0
        have f1_11 := (hd1.block _ (by omega)).trans f1_0
        have sg_11 := sg_0.below hd1 (by omega)
        refine hK.out _ _ ⟨f0_11, f1_11⟩ (fun hR1 => ?_)
        clear hK K
        refine wpAnyH_ready (rs := [3, 8]) (by kernel_rfl) (by simp) ?_
        refine AllReadyH.cons (ops_at rfl) (fun K hK => ?_) (AllReadyH.cons (ops_at rfl) (fun K hK => ?_) AllReadyH.nil)
        · skip
          go_simp
          refine (toClue_any _ _ _ _ _).mono ?_
          rintro e v2 ⟨rfl, hd2⟩
          have hdz2 := hd2.size
          have hc213 := hc11.trans (hd2.mono (by omega))
          have f0_213 := (hd2.block _ (by omega)).trans f0_11
          have f1_213 := (hd2.block _ (by omega)).trans f1_11
          have sg_213 := sg_11.below hd2 (by omega)
          have co_213 := co_11.below hd2 (by omega)
          refine hK.out _ _ ⟨f0_213, f1_213⟩ (fun hR13 => ?_)
          clear hK K
          refine wpAnyH_ready (rs := [4, 8]) (by kernel_rfl) (by simp) ?_
          refine AllReadyH.cons (ops_at rfl) (fun K hK => ?_) (AllReadyH.cons (ops_at rfl) (fun K hK => ?_) AllReadyH.nil)
          · skip
            go_simp
            refine (spec_AddClue t0 _ _ _ a1a a1b a1c a1d z0 _ _ _ HN0.out hlen0 HNC co_213.seg (by omega) _ HQ.out).mono ?_
            rintro e v3 ⟨A, n, c, rfl, hl, ro_3134, hd3⟩
            have hdz3 := hd3.size
            have hc3134 := hc213.trans (hd3.mono (by omega))
            have f0_3134 := (hd3.block _ (by omega)).trans f0_213
            have f1_3134 := (hd3.block _ (by omega)).trans f1_213
            have sg_3134 := sg_213.below hd3 (by omega)
            have co_3134 := co_213.below hd3 (by omega)
            refine hK.out _ _ ⟨f0_3134, f1_3134⟩ (fun hR134 => ?_)
            clear hK K
            refine wpAnyH_take (i := 5) (v := ?_) (ops_at rfl) (by kernel_rfl) (by kernel_rfl) (by kernel_rfl) (fun _ _ _ h => h) (Or.inl ⟨by rfl, ?ydx101345⟩) (by assumption) ?ndx101345
            case ydx101345 => (intro wS hSw; obtain ⟨s0, s1⟩ := hSw; have q0 := cell_of s0 0; have q1 := cell_of s0 1; have q2 := cell_of s1 0; have q3 := cell_of s1 1; have q4 := cell_of s1 2; have q5 := cell_of s1 3; go_simp; try rfl)
            try simp only [Act.put, List.setIfInBounds_toArray, List.set_cons_zero, List.set_cons_succ]
            refine wpAnyH_take (i := 6) (v := ?_) (ops_at rfl) (by kernel_rfl) (by kernel_rfl) (by kernel_rfl) (fun _ _ _ h => h) (Or.inl ⟨by rfl, ?ydx101346⟩) (by assumption) ?ndx101346
            case ydx101346 => (intro wS hSw; obtain ⟨s0, s1⟩ := hSw; have q0 := cell_of s0 0; have q1 := cell_of s0 1; have q2 := cell_of s1 0; have q3 := cell_of s1 1; have q4 := cell_of s1 2; have q5 := cell_of s1 3; go_simp; try rfl)
            try simp only [Act.put, List.setIfInBounds_toArray, List.set_cons_zero, List.set_cons_succ]
            refine wpAnyH_take (i := 7) (v := ?_) (ops_at rfl) (by kernel_rfl) (by kernel_rfl) (by kernel_rfl) (fun _ _ _ h => h) (Or.inl ⟨by rfl, ?ydx101347⟩) (by assumption) ?ndx101347
            case ydx101347 => (intro wS hSw; obtain ⟨s0, s1⟩ := hSw; have q0 := cell_of s0 0; have q1 := cell_of s0 1; have q2 := cell_of s1 0; have q3 := cell_of s1 1; have q4 := cell_of s1 2; have q5 := cell_of s1 3; go_simp; try rfl)
            try simp only [Act.put, List.setIfInBounds_toArray, List.set_cons_zero, List.set_cons_succ]
            refine wpAnyH_ready (rs := [8]) (by kernel_rfl) (by simp) ?_
            refine AllReadyH.cons (ops_at rfl) (fun K hK => ?_) AllReadyH.nil
            go_simp
            obtain ⟨v4, hv4⟩ : ∃ v, v3.alloc (.cells #[.int .i64 0, .slice none 0 0] 35) = v := ⟨_, rfl⟩
            have hd4 : Below v3.heap.size v3 v4 := by rw [← hv4]; exact (Below.refl _ _).alloc (Nat.le_refl _) _
            have m_41348 : v4.heap[v3.heap.size]? = some (.cells #[.int .i64 0, .slice none 0 0] 35 (0, 0)) := by rw [← hv4]; exact new_at _ _ rfl
            have ml4 : v3.heap.size < v4.heap.size := by rw [← hv4]; simp
            have hdz4 := hd4.size
            have hc41348 := hc3134.trans (hd4.mono (by omega))
            have f0_41348 := (hd4.block _ (by omega)).trans f0_3134
            have f1_41348 := (hd4.block _ (by omega)).trans f1_3134
            have sg_41348 := sg_3134.below hd4 (by omega)
            have co_41348 := co_3134.below hd4 (by omega)
            have ro_41348 := ro_3134.below hd4 (by omega)
            rw [hv4]
            refine hK.out _ _ ⟨f0_41348, f1_41348⟩ (fun hR1348 => ?_)
            clear hK K
            clear hv4
            have c0 := cell_of m_41348 0
            have c1 := cell_of m_41348 1
            have e0 := frozen_of m_41348 0
            have e1 := frozen_of m_41348 1
            simp only [List.getElem?_toArray, List.getElem?_cons_zero, List.getElem?_cons_succ] at c0 c1
            have far : ∀ x, x ≠ v3.heap.size → ((v4.setCell ⟨v3.heap.size, 0, none⟩ (.int .i64 (intU false t0))).setCell ⟨v3.heap.size, 1, none⟩ (.slice A n c)).heap[x]? = v4.heap[x]? := fun x hx => (set_far _ hx _).trans (set_far _ hx _)
            have FAR := Lib.hid far
            clear far
            have fin := set_self (set_self m_41348 0 (.int .i64 (intU false t0))) 1 (.slice A n c)
            have FIN := Lib.hid fin
            clear fin
            refine wpAnyH_ready (rs := [9]) (by kernel_rfl) (by simp) ?_
            refine AllReadyH.cons (ops_at rfl) (fun K hK => ?_) AllReadyH.nil
            go_simp
            refine hK.out _ _ ⟨(FAR.out _ (by omega)).trans f0_41348, (FAR.out _ (by omega)).trans f1_41348⟩ (fun hRs => ?_)
            clear hK K
            refine wpAnyH_take (i := 10) (v := ?_) (ops_at rfl) (by kernel_rfl) (by kernel_rfl) (by kernel_rfl) (fun _ _ _ h => h) (Or.inl ⟨by rfl, ?ydx10134810⟩) (by assumption) ?ndx10134810
            case ydx10134810 => (intro wS hSw; obtain ⟨s0, s1⟩ := hSw; have q0 := cell_of s0 0; have q1 := cell_of s0 1; have q2 := cell_of s1 0; have q3 := cell_of s1 1; have q4 := cell_of s1 2; have q5 := cell_of s1 3; go_simp; try rfl)
            try simp only [Act.put, List.setIfInBounds_toArray, List.set_cons_zero, List.set_cons_succ]
            refine wpAnyH_done (by kernel_rfl) ?_ _
            go_wp2_with fail
            go_meet
            have hzf : ((v4.setCell ⟨v3.heap.size, 0, none⟩ (.int .i64 (intU false t0))).setCell ⟨v3.heap.size, 1, none⟩ (.slice A n c)).heap.size = v4.heap.size := by simp
            refine ⟨A, n, c, v3.heap.size, v2.heap.size, v3.heap.size, rfl, rfl, hl, by omega, by omega, by omega, ro_41348.keep fun b hb1 hb2 => FAR.out _ (by omega), by simpa using FIN.out, by omega, (hc41348.setCell (p := ⟨v3.heap.size, 0, none⟩) (by show _ ≤ v3.heap.size; omega) _).setCell (p := ⟨v3.heap.size, 1, none⟩) (by show _ ≤ v3.heap.size; omega) _⟩
          · skip
            go_simp
            obtain ⟨v3, hv3⟩ : ∃ v, v2.alloc (.cells #[.int .i64 0, .slice none 0 0] 35) = v := ⟨_, rfl⟩
            have hd3 : Below v2.heap.size v2 v3 := by rw [← hv3]; exact (Below.refl _ _).alloc (Nat.le_refl _) _
            have m_3138 : v3.heap[v2.heap.size]? = some (.cells #[.int .i64 0, .slice none 0 0] 35 (0, 0)) := by rw [← hv3]; exact new_at _ _ rfl
            have ml3 : v2.heap.size < v3.heap.size := by rw [← hv3]; simp
            have hdz3 := hd3.size
            have hc3138 := hc213.trans (hd3.mono (by omega))
            have f0_3138 := (hd3.block _ (by omega)).trans f0_213
            have f1_3138 := (hd3.block _ (by omega)).trans f1_213
            have sg_3138 := sg_213.below hd3 (by omega)
            have co_3138 := co_213.below hd3 (by omega)
            rw [hv3]
            refine hK.out _ _ ⟨f0_3138, f1_3138⟩ (fun hR138 => ?_)
            clear hK K
            clear hv3
            refine wpAnyH_ready (rs := [4]) (by kernel_rfl) (by simp) ?_
            refine AllReadyH.cons (ops_at rfl) (fun K hK => ?_) AllReadyH.nil
            go_simp
            refine (spec_AddClue t0 _ _ _ a1a a1b a1c a1d z0 _ _ _ HN0.out hlen0 HNC co_3138.seg (by omega) _ HQ.out).mono ?_
            rintro e v4 ⟨A, n, c, rfl, hl, ro_41384, hd4⟩
            have hdz4 := hd4.size
            have hc41384 := hc3138.trans (hd4.mono (by omega))
            have f0_41384 := (hd4.block _ (by omega)).trans f0_3138
            have f1_41384 := (hd4.block _ (by omega)).trans f1_3138
            have sg_41384 := sg_3138.below hd4 (by omega)
            have co_41384 := co_3138.below hd4 (by omega)
            have m_41384 := (hd4.block _ (by omega)).trans m_3138
            refine hK.out _ _ ⟨f0_41384, f1_41384⟩ (fun hR1384 => ?_)
            clear hK K
            refine wpAnyH_take (i := 5) (v := ?_) (ops_at rfl) (by kernel_rfl) (by kernel_rfl) (by kernel_rfl) (fun _ _ _ h => h) (Or.inl ⟨by rfl, ?ydx1013845⟩) (by assumption) ?ndx1013845
            case ydx1013845 => (intro wS hSw; obtain ⟨s0, s1⟩ := hSw; have q0 := cell_of s0 0; have q1 := cell_of s0 1; have q2 := cell_of s1 0; have q3 := cell_of s1 1; have q4 := cell_of s1 2; have q5 := cell_of s1 3; go_simp; try rfl)
            try simp only [Act.put, List.setIfInBounds_toArray, List.set_cons_zero, List.set_cons_succ]
            refine wpAnyH_take (i := 6) (v := ?_) (ops_at rfl) (by kernel_rfl) (by kernel_rfl) (by kernel_rfl) (fun _ _ _ h => h) (Or.inl ⟨by rfl, ?ydx1013846⟩) (by assumption) ?ndx1013846
            case ydx1013846 => (intro wS hSw; obtain ⟨s0, s1⟩ := hSw; have q0 := cell_of s0 0; have q1 := cell_of s0 1; have q2 := cell_of s1 0; have q3 := cell_of s1 1; have q4 := cell_of s1 2; have q5 := cell_of s1 3; go_simp; try rfl)
            try simp only [Act.put, List.setIfInBounds_toArray, List.set_cons_zero, List.set_cons_succ]
            refine wpAnyH_take (i := 7) (v := ?_) (ops_at rfl) (by kernel_rfl) (by kernel_rfl) (by kernel_rfl) (fun _ _ _ h => h) (Or.inl ⟨by rfl, ?ydx1013847⟩) (by assumption) ?ndx1013847
            case ydx1013847 => (intro wS hSw; obtain ⟨s0, s1⟩ := hSw; have q0 := cell_of s0 0; have q1 := cell_of s0 1; have q2 := cell_of s1 0; have q3 := cell_of s1 1; have q4 := cell_of s1 2; have q5 := cell_of s1 3; go_simp; try rfl)
            try simp only [Act.put, List.setIfInBounds_toArray, List.set_cons_zero, List.set_cons_succ]
            have c0 := cell_of m_41384 0
            have c1 := cell_of m_41384 1
            have e0 := frozen_of m_41384 0
            have e1 := frozen_of m_41384 1
            simp only [List.getElem?_toArray, List.getElem?_cons_zero, List.getElem?_cons_succ] at c0 c1
            have far : ∀ x, x ≠ v2.heap.size → ((v4.setCell ⟨v2.heap.size, 0, none⟩ (.int .i64 (intU false t0))).setCell ⟨v2.heap.size, 1, none⟩ (.slice A n c)).heap[x]? = v4.heap[x]? := fun x hx => (set_far _ hx _).trans (set_far _ hx _)
            have FAR := Lib.hid far
            clear far
            have fin := set_self (set_self m_41384 0 (.int .i64 (intU false t0))) 1 (.slice A n c)
            have FIN := Lib.hid fin
            clear fin
            refine wpAnyH_ready (rs := [9]) (by kernel_rfl) (by simp) ?_
            refine AllReadyH.cons (ops_at rfl) (fun K hK => ?_) AllReadyH.nil
            go_simp
            refine hK.out _ _ ⟨(FAR.out _ (by omega)).trans f0_41384, (FAR.out _ (by omega)).trans f1_41384⟩ (fun hRs => ?_)
            clear hK K
            refine wpAnyH_take (i := 10) (v := ?_) (ops_at rfl) (by kernel_rfl) (by kernel_rfl) (by kernel_rfl) (fun _ _ _ h => h) (Or.inl ⟨by rfl, ?ydx10138410⟩) (by assumption) ?ndx10138410
            case ydx10138410 => (intro wS hSw; obtain ⟨s0, s1⟩ := hSw; have q0 := cell_of s0 0; have q1 := cell_of s0 1; have q2 := cell_of s1 0; have q3 := cell_of s1 1; have q4 := cell_of s1 2; have q5 := cell_of s1 3; go_simp; try rfl)
            try simp only [Act.put, List.setIfInBounds_toArray, List.set_cons_zero, List.set_cons_succ]
            refine wpAnyH_done (by kernel_rfl) ?_ _
            go_wp2_with fail
            go_meet
            have hzf : ((v4.setCell ⟨v2.heap.size, 0, none⟩ (.int .i64 (intU false t0))).setCell ⟨v2.heap.size, 1, none⟩ (.slice A n c)).heap.size = v4.heap.size := by simp
            refine ⟨A, n, c, v2.heap.size, v3.heap.size, v4.heap.size, rfl, rfl, hl, by omega, by omega, by omega, ro_41384.keep fun b hb1 hb2 => FAR.out _ (by omega), by simpa using FIN.out, by omega, (hc41384.setCell (p := ⟨v2.heap.size, 0, none⟩) (by show _ ≤ v2.heap.size; omega) _).setCell (p := ⟨v2.heap.size, 1, none⟩) (by show _ ≤ v2.heap.size; omega) _⟩
        · skip
          go_simp
          obtain ⟨v2, hv2⟩ : ∃ v, v1.alloc (.cells #[.int .i64 0, .slice none 0 0] 35) = v := ⟨_, rfl⟩
          have hd2 : Below v1.heap.size v1 v2 := by rw [← hv2]; exact (Below.refl _ _).alloc (Nat.le_refl _) _
          have m_218 : v2.heap[v1.heap.size]? = some (.cells #[.int .i64 0, .slice none 0 0] 35 (0, 0)) := by rw [← hv2]; exact new_at _ _ rfl
          have ml2 : v1.heap.size < v2.heap.size := by rw [← hv2]; simp
          have hdz2 := hd2.size
          have hc218 := hc11.trans (hd2.mono (by omega))
          have f0_218 := (hd2.block _ (by omega)).trans f0_11
          have f1_218 := (hd2.block _ (by omega)).trans f1_11
          have sg_218 := sg_11.below hd2 (by omega)
          have co_218 := co_11.below hd2 (by omega)
          rw [hv2]
          refine hK.out _ _ ⟨f0_218, f1_218⟩ (fun hR18 => ?_)
          clear hK K
          clear hv2
          refine wpAnyH_ready (rs := [3]) (by kernel_rfl) (by simp) ?_
          refine AllReadyH.cons (ops_at rfl) (fun K hK => ?_) AllReadyH.nil
          go_simp
          refine (toClue_any _ _ _ _ _).mono ?_
          rintro e v3 ⟨rfl, hd3⟩
          have hdz3 := hd3.size
          have hc3183 := hc218.trans (hd3.mono (by omega))
          have f0_3183 := (hd3.block _ (by omega)).trans f0_218
          have f1_3183 := (hd3.block _ (by omega)).trans f1_218
          have sg_3183 := sg_218.below hd3 (by omega)
          have co_3183 := co_218.below hd3 (by omega)
          have m_3183 := (hd3.block _ (by omega)).trans m_218
          refine hK.out _ _ ⟨f0_3183, f1_3183⟩ (fun hR183 => ?_)
          clear hK K
          refine wpAnyH_ready (rs := [4]) (by kernel_rfl) (by simp) ?_
          refine AllReadyH.cons (ops_at rfl) (fun K hK => ?_) AllReadyH.nil
          go_simp
          refine (spec_AddClue t0 _ _ _ a1a a1b a1c a1d z0 _ _ _ HN0.out hlen0 HNC co_3183.seg (by omega) _ HQ.out).mono ?_
          rintro e v4 ⟨A, n, c, rfl, hl, ro_41834, hd4⟩
          have hdz4 := hd4.size
          have hc41834 := hc3183.trans (hd4.mono (by omega))
          have f0_41834 := (hd4.block _ (by omega)).trans f0_3183
          have f1_41834 := (hd4.block _ (by omega)).trans f1_3183
          have sg_41834 := sg_3183.below hd4 (by omega)
          have co_41834 := co_3183.below hd4 (by omega)
          have m_41834 := (hd4.block _ (by omega)).trans m_3183
          refine hK.out _ _ ⟨f0_41834, f1_41834⟩ (fun hR1834 => ?_)
          clear hK K
          refine wpAnyH_take (i := 5) (v := ?_) (ops_at rfl) (by kernel_rfl) (by kernel_rfl) (by kernel_rfl) (fun _ _ _ h => h) (Or.inl ⟨by rfl, ?ydx1018345⟩) (by assumption) ?ndx1018345
          case ydx1018345 => (intro wS hSw; obtain ⟨s0, s1⟩ := hSw; have q0 := cell_of s0 0; have q1 := cell_of s0 1; have q2 := cell_of s1 0; have q3 := cell_of s1 1; have q4 := cell_of s1 2; have q5 := cell_of s1 3; go_simp; try rfl)
          try simp only [Act.put, List.setIfInBounds_toArray, List.set_cons_zero, List.set_cons_succ]
          refine wpAnyH_take (i := 6) (v := ?_) (ops_at rfl) (by kernel_rfl) (by kernel_rfl) (by kernel_rfl) (fun _ _ _ h => h) (Or.inl ⟨by rfl, ?ydx1018346⟩) (by assumption) ?ndx1018346
          case ydx1018346 => (intro wS hSw; obtain ⟨s0, s1⟩ := hSw; have q0 := cell_of s0 0; have q1 := cell_of s0 1; have q2 := cell_of s1 0; have q3 := cell_of s1 1; have q4 := cell_of s1 2; have q5 := cell_of s1 3; go_simp; try rfl)
          try simp only [Act.put, List.setIfInBounds_toArray, List.set_cons_zero, List.set_cons_succ]
          refine wpAnyH_take (i := 7) (v := ?_) (ops_at rfl) (by kernel_rfl) (by kernel_rfl) (by kernel_rfl) (fun _ _ _ h => h) (Or.inl ⟨by rfl, ?ydx1018347⟩) (by assumption) ?ndx1018347
          case ydx1018347 => (intro wS hSw; obtain ⟨s0, s1⟩ := hSw; have q0 := cell_of s0 0; have q1 := cell_of s0 1; have q2 := cell_of s1 0; have q3 := cell_of s1 1; have q4 := cell_of s1 2; have q5 := cell_of s1 3; go_simp; try rfl)
          try simp only [Act.put, List.setIfInBounds_toArray, List.set_cons_zero, List.set_cons_succ]
          have c0 := cell_of m_41834 0
          have c1 := cell_of m_41834 1
          have e0 := frozen_of m_41834 0
          have e1 := frozen_of m_41834 1
          simp only [List.getElem?_toArray, List.getElem?_cons_zero, List.getElem?_cons_succ] at c0 c1
          have far : ∀ x, x ≠ v1.heap.size → ((v4.setCell ⟨v1.heap.size, 0, none⟩ (.int .i64 (intU false t0))).setCell ⟨v1.heap.size, 1, none⟩ (.slice A n c)).heap[x]? = v4.heap[x]? := fun x hx => (set_far _ hx _).trans (set_far _ hx _)
          have FAR := Lib.hid far
          clear far
          have fin := set_self (set_self m_41834 0 (.int .i64 (intU false t0))) 1 (.slice A n c)
          have FIN := Lib.hid fin
          clear fin
          refine wpAnyH_ready (rs := [9]) (by kernel_rfl) (by simp) ?_
          refine AllReadyH.cons (ops_at rfl) (fun K hK => ?_) AllReadyH.nil
          go_simp
          refine hK.out _ _ ⟨(FAR.out _ (by omega)).trans f0_41834, (FAR.out _ (by omega)).trans f1_41834⟩ (fun hRs => ?_)
          clear hK K
          refine wpAnyH_take (i := 10) (v := ?_) (ops_at rfl) (by kernel_rfl) (by kernel_rfl) (by kernel_rfl) (fun _ _ _ h => h) (Or.inl ⟨by rfl, ?ydx10183410⟩) (by assumption) ?ndx10183410
          case ydx10183410 => (intro wS hSw; obtain ⟨s0, s1⟩ := hSw; have q0 := cell_of s0 0; have q1 := cell_of s0 1; have q2 := cell_of s1 0; have q3 := cell_of s1 1; have q4 := cell_of s1 2; have q5 := cell_of s1 3; go_simp; try rfl)
          try simp only [Act.put, List.setIfInBounds_toArray, List.set_cons_zero, List.set_cons_succ]
          refine wpAnyH_done (by kernel_rfl) ?_ _
          go_wp2_with fail
          go_meet
          have hzf : ((v4.setCell ⟨v1.heap.size, 0, none⟩ (.int .i64 (intU false t0))).setCell ⟨v1.heap.size, 1, none⟩ (.slice A n c)).heap.size = v4.heap.size := by simp
          refine ⟨A, n, c, v1.heap.size, v3.heap.size, v4.heap.size, rfl, rfl, hl, by omega, by omega, by omega, ro_41834.keep fun b hb1 hb2 => FAR.out _ (by omega), by simpa using FIN.out, by omega, (hc41834.setCell (p := ⟨v1.heap.size, 0, none⟩) (by show _ ≤ v1.heap.size; omega) _).setCell (p := ⟨v1.heap.size, 1, none⟩) (by show _ ≤ v1.heap.size; omega) _⟩
      · skip
        go_simp
        obtain ⟨v1, hv1⟩ : ∃ v, v0.alloc (.cells #[.int .i64 0, .slice none 0 0] 35) = v := ⟨_, rfl⟩
        have hd1 : Below v0.heap.size v0 v1 := by rw [← hv1]; exact (Below.refl _ _).alloc (Nat.le_refl _) _
        have m_18 : v1.heap[v0.heap.size]? = some (.cells #[.int .i64 0, .slice none 0 0] 35 (0, 0)) := by rw [← hv1]; exact new_at _ _ rfl
        have ml1 : v0.heap.size < v1.heap.size := by rw [← hv1]; simp
        have hdz1 := hd1.size
        have hc18 := hc0.trans (hd1.mono (by omega))
        have f0_18 := (hd1.block _ (by omega)).trans f0_0
        have f1_18 := (hd1.block _ (by omega)).trans f1_0
        have sg_18 := sg_0.below hd1 (by omega)
        rw [hv1]
        refine hK.out _ _ ⟨f0_18, f1_18⟩ (fun hR8 => ?_)
        clear hK K
        clear hv1
        refine wpAnyH_ready (rs := [1]) (by kernel_rfl) (by simp) ?_
        refine AllReadyH.cons (ops_at rfl) (fun K hK => ?_) AllReadyH.nil
        go_simp
        refine (toPuzzle_any t0 a0 len0 cap0 z0 w.heap.size _ HN0.out hlen0 sg_18 (by omega)).mono ?_
        rintro e v2 ⟨cA, rfl, co_281, hd2⟩
        have hdz2 := hd2.size
        have hc281 := hc18.trans (hd2.mono (by omega))
        have f0_281 := (hd2.block _ (by omega)).trans f0_18
        have f1_281 := (hd2.block _ (by omega)).trans f1_18
        have sg_281 := sg_18.below hd2 (by omega)
        have m_281 := (hd2.block _ (by omega)).trans m_18
        refine hK.out _ _ ⟨f0_281, f1_281⟩ (fun hR81 => ?_)
        clear hK K
        refine wpAnyH_ready (rs := [3]) (by kernel_rfl) (by simp) ?_
        refine AllReadyH.cons (ops_at rfl) (fun K hK => ?_) AllReadyH.nil
        go_simp
        refine (toClue_any _ _ _ _ _).mono ?_
        rintro e v3 ⟨rfl, hd3⟩
        have hdz3 := hd3.size
        have hc3813 := hc281.trans (hd3.mono (by omega))
        have f0_3813 := (hd3.block _ (by omega)).trans f0_281
        have f1_3813 := (hd3.block _ (by omega)).trans f1_281
        have sg_3813 := sg_281.below hd3 (by omega)
        have co_3813 := co_281.below hd3 (by omega)
        have m_3813 := (hd3.block _ (by omega)).trans m_281
        refine hK.out _ _ ⟨f0_3813, f1_3813⟩ (fun hR813 => ?_)
        clear hK K
        refine wpAnyH_ready (rs := [4]) (by kernel_rfl) (by simp) ?_
        refine AllReadyH.cons (ops_at rfl) (fun K hK => ?_) AllReadyH.nil
        go_simp
        refine (spec_AddClue t0 _ _ _ a1a a1b a1c a1d z0 _ _ _ HN0.out hlen0 HNC co_3813.seg (by omega) _ HQ.out).mono ?_
        rintro e v4 ⟨A, n, c, rfl, hl, ro_48134, hd4⟩
        have hdz4 := hd4.size
        have hc48134 := hc3813.trans (hd4.mono (by omega))
        have f0_48134 := (hd4.block _ (by omega)).trans f0_3813
        have f1_48134 := (hd4.block _ (by omega)).trans f1_3813
        have sg_48134 := sg_3813.below hd4 (by omega)
        have co_48134 := co_3813.below hd4 (by omega)
        have m_48134 := (hd4.block _ (by omega)).trans m_3813
        refine hK.out _ _ ⟨f0_48134, f1_48134⟩ (fun hR8134 => ?_)
        clear hK K
        refine wpAnyH_take (i := 5) (v := ?_) (ops_at rfl) (by kernel_rfl) (by kernel_rfl) (by kernel_rfl) (fun _ _ _ h => h) (Or.inl ⟨by rfl, ?ydx1081345⟩) (by assumption) ?ndx1081345
        case ydx1081345 => (intro wS hSw; obtain ⟨s0, s1⟩ := hSw; have q0 := cell_of s0 0; have q1 := cell_of s0 1; have q2 := cell_of s1 0; have q3 := cell_of s1 1; have q4 := cell_of s1 2; have q5 := cell_of s1 3; go_simp; try rfl)
        try simp only [Act.put, List.setIfInBounds_toArray, List.set_cons_zero, List.set_cons_succ]
        refine wpAnyH_take (i := 6) (v := ?_) (ops_at rfl) (by kernel_rfl) (by kernel_rfl) (by kernel_rfl) (fun _ _ _ h => h) (Or.inl ⟨by rfl, ?ydx1081346⟩) (by assumption) ?ndx1081346
        case ydx1081346 => (intro wS hSw; obtain ⟨s0, s1⟩ := hSw; have q0 := cell_of s0 0; have q1 := cell_of s0 1; have q2 := cell_of s1 0; have q3 := cell_of s1 1; have q4 := cell_of s1 2; have q5 := cell_of s1 3; go_simp; try rfl)
        try simp only [Act.put, List.setIfInBounds_toArray, List.set_cons_zero, List.set_cons_succ]
        refine wpAnyH_take (i := 7) (v := ?_) (ops_at rfl) (by kernel_rfl) (by kernel_rfl) (by kernel_rfl) (fun _ _ _ h => h) (Or.inl ⟨by rfl, ?ydx1081347⟩) (by assumption) ?ndx1081347
        case ydx1081347 => (intro wS hSw; obtain ⟨s0, s1⟩ := hSw; have q0 := cell_of s0 0; have q1 := cell_of s0 1; have q2 := cell_of s1 0; have q3 := cell_of s1 1; have q4 := cell_of s1 2; have q5 := cell_of s1 3; go_simp; try rfl)
        try simp only [Act.put, List.setIfInBounds_toArray, List.set_cons_zero, List.set_cons_succ]
        have c0 := cell_of m_48134 0
        have c1 := cell_of m_48134 1
        have e0 := frozen_of m_48134 0
        have e1 := frozen_of m_48134 1
        simp only [List.getElem?_toArray, List.getElem?_cons_zero, List.getElem?_cons_succ] at c0 c1
        have far : ∀ x, x ≠ v0.heap.size → ((v4.setCell ⟨v0.heap.size, 0, none⟩ (.int .i64 (intU false t0))).setCell ⟨v0.heap.size, 1, none⟩ (.slice A n c)).heap[x]? = v4.heap[x]? := fun x hx => (set_far _ hx _).trans (set_far _ hx _)
        have FAR := Lib.hid far
        clear far
        have fin := set_self (set_self m_48134 0 (.int .i64 (intU false t0))) 1 (.slice A n c)
        have FIN := Lib.hid fin
        clear fin
        refine wpAnyH_ready (rs := [9]) (by kernel_rfl) (by simp) ?_
        refine AllReadyH.cons (ops_at rfl) (fun K hK => ?_) AllReadyH.nil
        go_simp
        refine hK.out _ _ ⟨(FAR.out _ (by omega)).trans f0_48134, (FAR.out _ (by omega)).trans f1_48134⟩ (fun hRs => ?_)
        clear hK K
        refine wpAnyH_take (i := 10) (v := ?_) (ops_at rfl) (by kernel_rfl) (by kernel_rfl) (by kernel_rfl) (fun _ _ _ h => h) (Or.inl ⟨by rfl, ?ydx10813410⟩) (by assumption) ?ndx10813410
        case ydx10813410 => (intro wS hSw; obtain ⟨s0, s1⟩ := hSw; have q0 := cell_of s0 0; have q1 := cell_of s0 1; have q2 := cell_of s1 0; have q3 := cell_of s1 1; have q4 := cell_of s1 2; have q5 := cell_of s1 3; go_simp; try rfl)
        try simp only [Act.put, List.setIfInBounds_toArray, List.set_cons_zero, List.set_cons_succ]
        refine wpAnyH_done (by kernel_rfl) ?_ _
        go_wp2_with fail
        go_meet
        have hzf : ((v4.setCell ⟨v0.heap.size, 0, none⟩ (.int .i64 (intU false t0))).setCell ⟨v0.heap.size, 1, none⟩ (.slice A n c)).heap.size = v4.heap.size := by simp
        refine ⟨A, n, c, v0.heap.size, v3.heap.size, v4.heap.size, rfl, rfl, hl, by omega, by omega, by omega, ro_48134.keep fun b hb1 hb2 => FAR.out _ (by omega), by simpa using FIN.out, by omega, (hc48134.setCell (p := ⟨v0.heap.size, 0, none⟩) (by show _ ≤ v0.heap.size; omega) _).setCell (p := ⟨v0.heap.size, 1, none⟩) (by show _ ≤ v0.heap.size; omega) _⟩
    case rest =>
      obtain ⟨WA0, Wn0, Wc0, Wg, Wlo, Whi, rfl, rfl, Wl0, Wx1, Wx2, Wx3, Wo0, Wb, Wgl, hb2⟩ := hcut
      obtain ⟨w2, rfl⟩ : ∃ w2, w2 = wc := ⟨_, rfl⟩
      have Wgh : Wg < w2.heap.size := heap_lt Wb
      have hz2 := hb2.size
      have hB2 : Below w.heap.size w w2 := Below.trans hB1 (hb2.mono (by omega))
      have hs0_2 := hs0_1.below hb2 (by omega)
      clear hs0_1
      have P_2 := (hb2.block _ (by omega)).trans P_1
      clear P_1
      have C_2 := (hb2.block _ (by omega)).trans C_1
      clear C_1
      have kc_P0 := cell_of P_2 0
      have kc_P1 := cell_of P_2 1
      simp only [List.getElem?_toArray, List.getElem?_cons_zero, List.getElem?_cons_succ] at kc_P0 kc_P1
      go_wp2_with fail
      refine (toPuzzle_any t0 a0 len0 cap0 z0 w.heap.size _ HN0.out hlen0 hs0_2 (by omega)).mono ?_
      rintro e w3 ⟨x0A, rfl, x0, hb3⟩
      clear kc_P0 kc_P1
      have hz3 := hb3.size
      have hB3 : Below w.heap.size w w3 := Below.trans hB2 (hb3.mono (by omega))
      have hs0_3 := hs0_2.below hb3 (by omega)
      clear hs0_2
      have P_3 := (hb3.block _ (by omega)).trans P_2
      clear P_2
      have C_3 := (hb3.block _ (by omega)).trans C_2
      clear C_2
      have Wo0_3 := Wo0.below hb3 (by omega)
      clear Wo0
      have Wb_3 := (hb3.block _ (by omega)).trans Wb
      clear Wb
      go_upto_region 7 with (fail)
      obtain ⟨w4, hw4⟩ : ∃ wz, w3.alloc (.cells #[.int .i64 t0, .slice x0A len0 len0] 35) = wz := ⟨_, rfl⟩
      have hb4 : Below w3.heap.size w3 w4 := by rw [← hw4]; exact (Below.refl _ _).alloc (Nat.le_refl _) _
      have X0 : w4.heap[w3.heap.size]? = some (.cells #[.int .i64 t0, .slice x0A len0 len0] 35 (0, 0)) := by rw [← hw4]; exact new_at _ _ rfl
      have hxx4 : w3.heap.size < w4.heap.size := by rw [← hw4]; simp
      have HW4 := Lib.hid hw4
      clear hw4
      have hz4 := hb4.size
      have hB4 : Below w.heap.size w w4 := Below.trans hB3 (hb4.mono (by omega))
      have hs0_4 := hs0_3.below hb4 (by omega)
      clear hs0_3
      have P_4 := (hb4.block _ (by omega)).trans P_3
      clear P_3
      have C_4 := (hb4.block _ (by omega)).trans C_3
      clear C_3
      have Wo0_4 := Wo0_3.below hb4 (by omega)
      clear Wo0_3
      have Wb_4 := (hb4.block _ (by omega)).trans Wb_3
      clear Wb_3
      have x0_4 := x0.below hb4 (by omega)
      clear x0
      rw [HW4.out]
      go_cut [9, 10] (fun sa sb wx => ∃ A n c g lo hi, sa = .pointer (some ⟨g, 0, none⟩) ∧ sb = .bool false ∧ (listU false (z0 ++ [(a1a, a1b, a1c, a1d)])).length = n ∧ w4.heap.size ≤ lo ∧ hi ≤ wx.heap.size ∧ (g < lo ∨ hi ≤ g) ∧ Own wx lo hi A (flat4 (listU false (z0 ++ [(a1a, a1b, a1c, a1d)]))) ∧ wx.heap[g]? = some (.cells #[.int .i64 (intU false t0), .slice A n c] 35 (0, 0)) ∧ w4.heap.size ≤ g ∧ Below w4.heap.size w4 wx)
      case first =>
        refine wp_region_held_drew (S := fun wq => wq.heap[w3.heap.size]? = some (.cells #[.int .i64 t0, .slice x0A len0 len0] 35 (0, 0)) ∧ wq.heap[w.heap.size + 1]? = some (.cells #[.int .i64 a1a, .int .i64 a1b, .int .i64 a1c, .int .i64 a1d] 23 (0, 0))) (by kernel_rfl) ⟨X0, C_4⟩ (fun hHdx11 => ?_)
        refine wpAnyH_take (i := 0) (v := ?_) (ops_at rfl) (by kernel_rfl) (by kernel_rfl) (by kernel_rfl) (fun _ _ _ h => h) (Or.inl ⟨by rfl, ?ydx110⟩) (by assumption) ?ndx110
        case ydx110 => (intro wS hSw; obtain ⟨s0, s1⟩ := hSw; have q0 := cell_of s0 0; have q1 := cell_of s0 1; have q2 := cell_of s1 0; have q3 := cell_of s1 1; have q4 := cell_of s1 2; have q5 := cell_of s1 3; go_simp; try rfl)
        try simp only [Act.put, List.setIfInBounds_toArray, List.set_cons_zero, List.set_cons_succ]
        refine wpAnyH_take (i := 1) (v := ?_) (ops_at rfl) (by kernel_rfl) (by kernel_rfl) (by kernel_rfl) (fun _ _ _ h => h) (Or.inl ⟨by rfl, ?ydx111⟩) (by assumption) ?ndx111
        case ydx111 => (intro wS hSw; obtain ⟨s0, s1⟩ := hSw; have q0 := cell_of s0 0; have q1 := cell_of s0 1; have q2 := cell_of s1 0; have q3 := cell_of s1 1; have q4 := cell_of s1 2; have q5 := cell_of s1 3; go_simp; try rfl)
        try simp only [Act.put, List.setIfInBounds_toArray, List.set_cons_zero, List.set_cons_succ]
        obtain ⟨v0, hv0⟩ : ∃ v, w4.drew = v := ⟨_, rfl⟩
        have hc0 : Below w4.heap.size w4 v0 := by rw [← hv0]; exact (Below.refl _ _).drew
        rw [hv0] at hHdx11 ⊢
        clear hv0
        have hdz0 := hc0.size
        have f0_0 := hHdx11.1
        have f1_0 := hHdx11.2
        have sg_0 := x0_4.seg.below hc0 (by omega)
        refine wpAnyH_ready (rs := [2, 7]) (by kernel_rfl) (by simp) ?_
        refine AllReadyH.cons (ops_at rfl) (fun K hK => ?_) (AllReadyH.cons (ops_at rfl) (fun K hK => ?_) AllReadyH.nil)
        · skip
          go_simp
          refine (toClue_any _ _ _ _ _).mono ?_
          rintro e v1 ⟨rfl, hd1⟩
          have hdz1 := hd1.size
          have hc12 := hc0.trans (hd1.mono (by omega))
          have f0_12 := (hd1.block _ (by omega)).trans f0_0
          have f1_12 := (hd1.block _ (by omega)).trans f1_0
          have sg_12 := sg_0.below hd1 (by omega)
          refine hK.out _ _ ⟨f0_12, f1_12⟩ (fun hR2 => ?_)
          clear hK K
          refine wpAnyH_ready (rs := [3, 7]) (by kernel_rfl) (by simp) ?_
          refine AllReadyH.cons (ops_at rfl) (fun K hK => ?_) (AllReadyH.cons (ops_at rfl) (fun K hK => ?_) AllReadyH.nil)
          · skip
            go_simp
            refine (impl_AddClue t0 _ _ _ a1a a1b a1c a1d z0 _ _ _ HN0.out hlen0 HNC sg_12 (by omega) _ HQ.out).mono ?_
            rintro e v2 ⟨A, n, c, rfl, hl, ro_223, hd2⟩
            have hdz2 := hd2.size
            have hc223 := hc12.trans (hd2.mono (by omega))
            have f0_223 := (hd2.block _ (by omega)).trans f0_12
            have f1_223 := (hd2.block _ (by omega)).trans f1_12
            have sg_223 := sg_12.below hd2 (by omega)
            refine hK.out _ _ ⟨f0_223, f1_223⟩ (fun hR23 => ?_)
            clear hK K
            refine wpAnyH_take (i := 4) (v := ?_) (ops_at rfl) (by kernel_rfl) (by kernel_rfl) (by kernel_rfl) (fun _ _ _ h => h) (Or.inl ⟨by rfl, ?ydx11234⟩) (by assumption) ?ndx11234
            case ydx11234 => (intro wS hSw; obtain ⟨s0, s1⟩ := hSw; have q0 := cell_of s0 0; have q1 := cell_of s0 1; have q2 := cell_of s1 0; have q3 := cell_of s1 1; have q4 := cell_of s1 2; have q5 := cell_of s1 3; go_simp; try rfl)
            try simp only [Act.put, List.setIfInBounds_toArray, List.set_cons_zero, List.set_cons_succ]
            refine wpAnyH_take (i := 5) (v := ?_) (ops_at rfl) (by kernel_rfl) (by kernel_rfl) (by kernel_rfl) (fun _ _ _ h => h) (Or.inl ⟨by rfl, ?ydx11235⟩) (by assumption) ?ndx11235
            case ydx11235 => (intro wS hSw; obtain ⟨s0, s1⟩ := hSw; have q0 := cell_of s0 0; have q1 := cell_of s0 1; have q2 := cell_of s1 0; have q3 := cell_of s1 1; have q4 := cell_of s1 2; have q5 := cell_of s1 3; go_simp; try rfl)
            try simp only [Act.put, List.setIfInBounds_toArray, List.set_cons_zero, List.set_cons_succ]
            refine wpAnyH_take (i := 6) (v := ?_) (ops_at rfl) (by kernel_rfl) (by kernel_rfl) (by kernel_rfl) (fun _ _ _ h => h) (Or.inl ⟨by rfl, ?ydx11236⟩) (by assumption) ?ndx11236
            case ydx11236 => (intro wS hSw; obtain ⟨s0, s1⟩ := hSw; have q0 := cell_of s0 0; have q1 := cell_of s0 1; have q2 := cell_of s1 0; have q3 := cell_of s1 1; have q4 := cell_of s1 2; have q5 := cell_of s1 3; go_simp; try rfl)
            try simp only [Act.put, List.setIfInBounds_toArray, List.set_cons_zero, List.set_cons_succ]
            refine wpAnyH_ready (rs := [7]) (by kernel_rfl) (by simp) ?_
            refine AllReadyH.cons (ops_at rfl) (fun K hK => ?_) AllReadyH.nil
            go_simp
            obtain ⟨v3, hv3⟩ : ∃ v, v2.alloc (.cells #[.int .i64 0, .slice none 0 0] 35) = v := ⟨_, rfl⟩
            have hd3 : Below v2.heap.size v2 v3 := by rw [← hv3]; exact (Below.refl _ _).alloc (Nat.le_refl _) _
            have m_3237 : v3.heap[v2.heap.size]? = some (.cells #[.int .i64 0, .slice none 0 0] 35 (0, 0)) := by rw [← hv3]; exact new_at _ _ rfl
            have ml3 : v2.heap.size < v3.heap.size := by rw [← hv3]; simp
            have hdz3 := hd3.size
            have hc3237 := hc223.trans (hd3.mono (by omega))
            have f0_3237 := (hd3.block _ (by omega)).trans f0_223
            have f1_3237 := (hd3.block _ (by omega)).trans f1_223
            have sg_3237 := sg_223.below hd3 (by omega)
            have ro_3237 := ro_223.below hd3 (by omega)
            rw [hv3]
            refine hK.out _ _ ⟨f0_3237, f1_3237⟩ (fun hR237 => ?_)
            clear hK K
            clear hv3
            have c0 := cell_of m_3237 0
            have c1 := cell_of m_3237 1
            have e0 := frozen_of m_3237 0
            have e1 := frozen_of m_3237 1
            simp only [List.getElem?_toArray, List.getElem?_cons_zero, List.getElem?_cons_succ] at c0 c1
            have far : ∀ x, x ≠ v2.heap.size → ((v3.setCell ⟨v2.heap.size, 0, none⟩ (.int .i64 (intU false t0))).setCell ⟨v2.heap.size, 1, none⟩ (.slice A n c)).heap[x]? = v3.heap[x]? := fun x hx => (set_far _ hx _).trans (set_far _ hx _)
            have FAR := Lib.hid far
            clear far
            have fin := set_self (set_self m_3237 0 (.int .i64 (intU false t0))) 1 (.slice A n c)
            have FIN := Lib.hid fin
            clear fin
            refine wpAnyH_ready (rs := [8]) (by kernel_rfl) (by simp) ?_
            refine AllReadyH.cons (ops_at rfl) (fun K hK => ?_) AllReadyH.nil
            go_simp
            refine hK.out _ _ ⟨(FAR.out _ (by omega)).trans f0_3237, (FAR.out _ (by omega)).trans f1_3237⟩ (fun hRs => ?_)
            clear hK K
            refine wpAnyH_take (i := 9) (v := ?_) (ops_at rfl) (by kernel_rfl) (by kernel_rfl) (by kernel_rfl) (fun _ _ _ h => h) (Or.inl ⟨by rfl, ?ydx112379⟩) (by assumption) ?ndx112379
            case ydx112379 => (intro wS hSw; obtain ⟨s0, s1⟩ := hSw; have q0 := cell_of s0 0; have q1 := cell_of s0 1; have q2 := cell_of s1 0; have q3 := cell_of s1 1; have q4 := cell_of s1 2; have q5 := cell_of s1 3; go_simp; try rfl)
            try simp only [Act.put, List.setIfInBounds_toArray, List.set_cons_zero, List.set_cons_succ]
            refine wpAnyH_done (by kernel_rfl) ?_ _
            go_wp2_with fail
            go_meet
            have hzf : ((v3.setCell ⟨v2.heap.size, 0, none⟩ (.int .i64 (intU false t0))).setCell ⟨v2.heap.size, 1, none⟩ (.slice A n c)).heap.size = v3.heap.size := by simp
            refine ⟨A, n, c, v2.heap.size, v1.heap.size, v2.heap.size, rfl, rfl, hl, by omega, by omega, by omega, ro_3237.keep fun b hb1 hb2 => FAR.out _ (by omega), by simpa using FIN.out, by omega, (hc3237.setCell (p := ⟨v2.heap.size, 0, none⟩) (by show _ ≤ v2.heap.size; omega) _).setCell (p := ⟨v2.heap.size, 1, none⟩) (by show _ ≤ v2.heap.size; omega) _⟩
          · skip
            go_simp
            obtain ⟨v2, hv2⟩ : ∃ v, v1.alloc (.cells #[.int .i64 0, .slice none 0 0] 35) = v := ⟨_, rfl⟩
            have hd2 : Below v1.heap.size v1 v2 := by rw [← hv2]; exact (Below.refl _ _).alloc (Nat.le_refl _) _
            have m_227 : v2.heap[v1.heap.size]? = some (.cells #[.int .i64 0, .slice none 0 0] 35 (0, 0)) := by rw [← hv2]; exact new_at _ _ rfl
            have ml2 : v1.heap.size < v2.heap.size := by rw [← hv2]; simp
            have hdz2 := hd2.size
            have hc227 := hc12.trans (hd2.mono (by omega))
            have f0_227 := (hd2.block _ (by omega)).trans f0_12
            have f1_227 := (hd2.block _ (by omega)).trans f1_12
            have sg_227 := sg_12.below hd2 (by omega)
            rw [hv2]
            refine hK.out _ _ ⟨f0_227, f1_227⟩ (fun hR27 => ?_)
            clear hK K
            clear hv2
            refine wpAnyH_ready (rs := [3]) (by kernel_rfl) (by simp) ?_
            refine AllReadyH.cons (ops_at rfl) (fun K hK => ?_) AllReadyH.nil
            go_simp
            refine (impl_AddClue t0 _ _ _ a1a a1b a1c a1d z0 _ _ _ HN0.out hlen0 HNC sg_227 (by omega) _ HQ.out).mono ?_
            rintro e v3 ⟨A, n, c, rfl, hl, ro_3273, hd3⟩
            have hdz3 := hd3.size
            have hc3273 := hc227.trans (hd3.mono (by omega))
            have f0_3273 := (hd3.block _ (by omega)).trans f0_227
            have f1_3273 := (hd3.block _ (by omega)).trans f1_227
            have sg_3273 := sg_227.below hd3 (by omega)
            have m_3273 := (hd3.block _ (by omega)).trans m_227
            refine hK.out _ _ ⟨f0_3273, f1_3273⟩ (fun hR273 => ?_)
            clear hK K
            refine wpAnyH_take (i := 4) (v := ?_) (ops_at rfl) (by kernel_rfl) (by kernel_rfl) (by kernel_rfl) (fun _ _ _ h => h) (Or.inl ⟨by rfl, ?ydx112734⟩) (by assumption) ?ndx112734
            case ydx112734 => (intro wS hSw; obtain ⟨s0, s1⟩ := hSw; have q0 := cell_of s0 0; have q1 := cell_of s0 1; have q2 := cell_of s1 0; have q3 := cell_of s1 1; have q4 := cell_of s1 2; have q5 := cell_of s1 3; go_simp; try rfl)
            try simp only [Act.put, List.setIfInBounds_toArray, List.set_cons_zero, List.set_cons_succ]
            refine wpAnyH_take (i := 5) (v := ?_) (ops_at rfl) (by kernel_rfl) (by kernel_rfl) (by kernel_rfl) (fun _ _ _ h => h) (Or.inl ⟨by rfl, ?ydx112735⟩) (by assumption) ?ndx112735
            case ydx112735 => (intro wS hSw; obtain ⟨s0, s1⟩ := hSw; have q0 := cell_of s0 0; have q1 := cell_of s0 1; have q2 := cell_of s1 0; have q3 := cell_of s1 1; have q4 := cell_of s1 2; have q5 := cell_of s1 3; go_simp; try rfl)
            try simp only [Act.put, List.setIfInBounds_toArray, List.set_cons_zero, List.set_cons_succ]
            refine wpAnyH_take (i := 6) (v := ?_) (ops_at rfl) (by kernel_rfl) (by kernel_rfl) (by kernel_rfl) (fun _ _ _ h => h) (Or.inl ⟨by rfl, ?ydx112736⟩) (by assumption) ?ndx112736
            case ydx112736 => (intro wS hSw; obtain ⟨s0, s1⟩ := hSw; have q0 := cell_of s0 0; have q1 := cell_of s0 1; have q2 := cell_of s1 0; have q3 := cell_of s1 1; have q4 := cell_of s1 2; have q5 := cell_of s1 3; go_simp; try rfl)
            try simp only [Act.put, List.setIfInBounds_toArray, List.set_cons_zero, List.set_cons_succ]
            have c0 := cell_of m_3273 0
            have c1 := cell_of m_3273 1
            have e0 := frozen_of m_3273 0
            have e1 := frozen_of m_3273 1
            simp only [List.getElem?_toArray, List.getElem?_cons_zero, List.getElem?_cons_succ] at c0 c1
            have far : ∀ x, x ≠ v1.heap.size → ((v3.setCell ⟨v1.heap.size, 0, none⟩ (.int .i64 (intU false t0))).setCell ⟨v1.heap.size, 1, none⟩ (.slice A n c)).heap[x]? = v3.heap[x]? := fun x hx => (set_far _ hx _).trans (set_far _ hx _)
            have FAR := Lib.hid far
            clear far
            have fin := set_self (set_self m_3273 0 (.int .i64 (intU false t0))) 1 (.slice A n c)
            have FIN := Lib.hid fin
            clear fin
            refine wpAnyH_ready (rs := [8]) (by kernel_rfl) (by simp) ?_
            refine AllReadyH.cons (ops_at rfl) (fun K hK => ?_) AllReadyH.nil
            go_simp
            refine hK.out _ _ ⟨(FAR.out _ (by omega)).trans f0_3273, (FAR.out _ (by omega)).trans f1_3273⟩ (fun hRs => ?_)
            clear hK K
            refine wpAnyH_take (i := 9) (v := ?_) (ops_at rfl) (by kernel_rfl) (by kernel_rfl) (by kernel_rfl) (fun _ _ _ h => h) (Or.inl ⟨by rfl, ?ydx112739⟩) (by assumption) ?ndx112739
            case ydx112739 => (intro wS hSw; obtain ⟨s0, s1⟩ := hSw; have q0 := cell_of s0 0; have q1 := cell_of s0 1; have q2 := cell_of s1 0; have q3 := cell_of s1 1; have q4 := cell_of s1 2; have q5 := cell_of s1 3; go_simp; try rfl)
            try simp only [Act.put, List.setIfInBounds_toArray, List.set_cons_zero, List.set_cons_succ]
            refine wpAnyH_done (by kernel_rfl) ?_ _
            go_wp2_with fail
            go_meet
            have hzf : ((v3.setCell ⟨v1.heap.size, 0, none⟩ (.int .i64 (intU false t0))).setCell ⟨v1.heap.size, 1, none⟩ (.slice A n c)).heap.size = v3.heap.size := by simp
            refine ⟨A, n, c, v1.heap.size, v2.heap.size, v3.heap.size, rfl, rfl, hl, by omega, by omega, by omega, ro_3273.keep fun b hb1 hb2 => FAR.out _ (by omega), by simpa using FIN.out, by omega, (hc3273.setCell (p := ⟨v1.heap.size, 0, none⟩) (by show _ ≤ v1.heap.size; omega) _).setCell (p := ⟨v1.heap.size, 1, none⟩) (by show _ ≤ v1.heap.size; omega) _⟩
        · skip
          go_simp
          obtain ⟨v1, hv1⟩ : ∃ v, v0.alloc (.cells #[.int .i64 0, .slice none 0 0] 35) = v := ⟨_, rfl⟩
          have hd1 : Below v0.heap.size v0 v1 := by rw [← hv1]; exact (Below.refl _ _).alloc (Nat.le_refl _) _
          have m_17 : v1.heap[v0.heap.size]? = some (.cells #[.int .i64 0, .slice none 0 0] 35 (0, 0)) := by rw [← hv1]; exact new_at _ _ rfl
          have ml1 : v0.heap.size < v1.heap.size := by rw [← hv1]; simp
          have hdz1 := hd1.size
          have hc17 := hc0.trans (hd1.mono (by omega))
          have f0_17 := (hd1.block _ (by omega)).trans f0_0
          have f1_17 := (hd1.block _ (by omega)).trans f1_0
          have sg_17 := sg_0.below hd1 (by omega)
          rw [hv1]
          refine hK.out _ _ ⟨f0_17, f1_17⟩ (fun hR7 => ?_)
          clear hK K
          clear hv1
          refine wpAnyH_ready (rs := [2]) (by kernel_rfl) (by simp) ?_
          refine AllReadyH.cons (ops_at rfl) (fun K hK => ?_) AllReadyH.nil
          go_simp
          refine (toClue_any _ _ _ _ _).mono ?_
          rintro e v2 ⟨rfl, hd2⟩
          have hdz2 := hd2.size
          have hc272 := hc17.trans (hd2.mono (by omega))
          have f0_272 := (hd2.block _ (by omega)).trans f0_17
          have f1_272 := (hd2.block _ (by omega)).trans f1_17
          have sg_272 := sg_17.below hd2 (by omega)
          have m_272 := (hd2.block _ (by omega)).trans m_17
          refine hK.out _ _ ⟨f0_272, f1_272⟩ (fun hR72 => ?_)
          clear hK K
          refine wpAnyH_ready (rs := [3]) (by kernel_rfl) (by simp) ?_
          refine AllReadyH.cons (ops_at rfl) (fun K hK => ?_) AllReadyH.nil
          go_simp
          refine (impl_AddClue t0 _ _ _ a1a a1b a1c a1d z0 _ _ _ HN0.out hlen0 HNC sg_272 (by omega) _ HQ.out).mono ?_
          rintro e v3 ⟨A, n, c, rfl, hl, ro_3723, hd3⟩
          have hdz3 := hd3.size
          have hc3723 := hc272.trans (hd3.mono (by omega))
          have f0_3723 := (hd3.block _ (by omega)).trans f0_272
          have f1_3723 := (hd3.block _ (by omega)).trans f1_272
          have sg_3723 := sg_272.below hd3 (by omega)
          have m_3723 := (hd3.block _ (by omega)).trans m_272
          refine hK.out _ _ ⟨f0_3723, f1_3723⟩ (fun hR723 => ?_)
          clear hK K
          refine wpAnyH_take (i := 4) (v := ?_) (ops_at rfl) (by kernel_rfl) (by kernel_rfl) (by kernel_rfl) (fun _ _ _ h => h) (Or.inl ⟨by rfl, ?ydx117234⟩) (by assumption) ?ndx117234
          case ydx117234 => (intro wS hSw; obtain ⟨s0, s1⟩ := hSw; have q0 := cell_of s0 0; have q1 := cell_of s0 1; have q2 := cell_of s1 0; have q3 := cell_of s1 1; have q4 := cell_of s1 2; have q5 := cell_of s1 3; go_simp; try rfl)
          try simp only [Act.put, List.setIfInBounds_toArray, List.set_cons_zero, List.set_cons_succ]
          refine wpAnyH_take (i := 5) (v := ?_) (ops_at rfl) (by kernel_rfl) (by kernel_rfl) (by kernel_rfl) (fun _ _ _ h => h) (Or.inl ⟨by rfl, ?ydx117235⟩) (by assumption) ?ndx117235
          case ydx117235 => (intro wS hSw; obtain ⟨s0, s1⟩ := hSw; have q0 := cell_of s0 0; have q1 := cell_of s0 1; have q2 := cell_of s1 0; have q3 := cell_of s1 1; have q4 := cell_of s1 2; have q5 := cell_of s1 3; go_simp; try rfl)
          try simp only [Act.put, List.setIfInBounds_toArray, List.set_cons_zero, List.set_cons_succ]
          refine wpAnyH_take (i := 6) (v := ?_) (ops_at rfl) (by kernel_rfl) (by kernel_rfl) (by kernel_rfl) (fun _ _ _ h => h) (Or.inl ⟨by rfl, ?ydx117236⟩) (by assumption) ?ndx117236
          case ydx117236 => (intro wS hSw; obtain ⟨s0, s1⟩ := hSw; have q0 := cell_of s0 0; have q1 := cell_of s0 1; have q2 := cell_of s1 0; have q3 := cell_of s1 1; have q4 := cell_of s1 2; have q5 := cell_of s1 3; go_simp; try rfl)
          try simp only [Act.put, List.setIfInBounds_toArray, List.set_cons_zero, List.set_cons_succ]
          have c0 := cell_of m_3723 0
          have c1 := cell_of m_3723 1
          have e0 := frozen_of m_3723 0
          have e1 := frozen_of m_3723 1
          simp only [List.getElem?_toArray, List.getElem?_cons_zero, List.getElem?_cons_succ] at c0 c1
          have far : ∀ x, x ≠ v0.heap.size → ((v3.setCell ⟨v0.heap.size, 0, none⟩ (.int .i64 (intU false t0))).setCell ⟨v0.heap.size, 1, none⟩ (.slice A n c)).heap[x]? = v3.heap[x]? := fun x hx => (set_far _ hx _).trans (set_far _ hx _)
          have FAR := Lib.hid far
          clear far
          have fin := set_self (set_self m_3723 0 (.int .i64 (intU false t0))) 1 (.slice A n c)
          have FIN := Lib.hid fin
          clear fin
          refine wpAnyH_ready (rs := [8]) (by kernel_rfl) (by simp) ?_
          refine AllReadyH.cons (ops_at rfl) (fun K hK => ?_) AllReadyH.nil
          go_simp
          refine hK.out _ _ ⟨(FAR.out _ (by omega)).trans f0_3723, (FAR.out _ (by omega)).trans f1_3723⟩ (fun hRs => ?_)
          clear hK K
          refine wpAnyH_take (i := 9) (v := ?_) (ops_at rfl) (by kernel_rfl) (by kernel_rfl) (by kernel_rfl) (fun _ _ _ h => h) (Or.inl ⟨by rfl, ?ydx117239⟩) (by assumption) ?ndx117239
          case ydx117239 => (intro wS hSw; obtain ⟨s0, s1⟩ := hSw; have q0 := cell_of s0 0; have q1 := cell_of s0 1; have q2 := cell_of s1 0; have q3 := cell_of s1 1; have q4 := cell_of s1 2; have q5 := cell_of s1 3; go_simp; try rfl)
          try simp only [Act.put, List.setIfInBounds_toArray, List.set_cons_zero, List.set_cons_succ]
          refine wpAnyH_done (by kernel_rfl) ?_ _
          go_wp2_with fail
          go_meet
          have hzf : ((v3.setCell ⟨v0.heap.size, 0, none⟩ (.int .i64 (intU false t0))).setCell ⟨v0.heap.size, 1, none⟩ (.slice A n c)).heap.size = v3.heap.size := by simp
          refine ⟨A, n, c, v0.heap.size, v2.heap.size, v3.heap.size, rfl, rfl, hl, by omega, by omega, by omega, ro_3723.keep fun b hb1 hb2 => FAR.out _ (by omega), by simpa using FIN.out, by omega, (hc3723.setCell (p := ⟨v0.heap.size, 0, none⟩) (by show _ ≤ v0.heap.size; omega) _).setCell (p := ⟨v0.heap.size, 1, none⟩) (by show _ ≤ v0.heap.size; omega) _⟩
      case rest =>
        obtain ⟨GA0, Gn0, Gc0, Gg, Glo, Ghi, rfl, rfl, Gl0, Gx1, Gx2, Gx3, Go0, Gb, Ggl, hb5⟩ := hcut
        obtain ⟨w5, rfl⟩ : ∃ w5, w5 = wc := ⟨_, rfl⟩
        have Ggh : Gg < w5.heap.size := heap_lt Gb
        have hz5 := hb5.size
        have hB5 : Below w.heap.size w w5 := Below.trans hB4 (hb5.mono (by omega))
        have hs0_5 := hs0_4.below hb5 (by omega)
        clear hs0_4
        have P_5 := (hb5.block _ (by omega)).trans P_4
        clear P_4
        have C_5 := (hb5.block _ (by omega)).trans C_4
        clear C_4
        have Wo0_5 := Wo0_4.below hb5 (by omega)
        clear Wo0_4
        have Wb_5 := (hb5.block _ (by omega)).trans Wb_4
        clear Wb_4
        have x0_5 := x0_4.below hb5 (by omega)
        clear x0_4
        have X0_5 := (hb5.block _ (by omega)).trans X0
        clear X0
        obtain rfl : Gn0 = Wn0 := Gl0.symm.trans Wl0
        have HY0 := Lib.hid Gl0
        have hy0 := HYB.out
        rw [Gl0] at hy0
        clear Wl0 Gl0
        have kc_Gb0 := cell_of Gb 0
        have kc_Gb1 := cell_of Gb 1
        have kc_Wb0 := cell_of Wb_5 0
        have kc_Wb1 := cell_of Wb_5 1
        simp only [List.getElem?_toArray, List.getElem?_cons_zero, List.getElem?_cons_succ] at kc_Gb0 kc_Gb1 kc_Wb0 kc_Wb1
        go_wp2_with fail
        refine (eqPuzzle_any _ _ _ _ _ _ _ _ _ _ _ _ HY0.out (by omega) Go0.seg Wo0_5.seg (by omega) (by omega)).mono ?_
        rintro e w6 ⟨rfl, hb6⟩
        clear kc_Gb0 kc_Gb1 kc_Wb0 kc_Wb1
        have hz6 := hb6.size
        have hB6 : Below w.heap.size w w6 := Below.trans hB5 (hb6.mono (by omega))
        have hs0_6 := hs0_5.below hb6 (by omega)
        clear hs0_5
        have P_6 := (hb6.block _ (by omega)).trans P_5
        clear P_5
        have C_6 := (hb6.block _ (by omega)).trans C_5
        clear C_5
        have Wo0_6 := Wo0_5.below hb6 (by omega)
        clear Wo0_5
        have Wb_6 := (hb6.block _ (by omega)).trans Wb_5
        clear Wb_5
        have x0_6 := x0_5.below hb6 (by omega)
        clear x0_5
        have X0_6 := (hb6.block _ (by omega)).trans X0_5
        clear X0_5
        have Go0_6 := Go0.below hb6 (by omega)
        clear Go0
        have Gb_6 := (hb6.block _ (by omega)).trans Gb
        clear Gb
        go_wp2_with fail
        refine wp_region_held_drew (S := fun wq => wq.heap[w3.heap.size]? = some (.cells #[.int .i64 t0, .slice x0A len0 len0] 35 (0, 0)) ∧ wq.heap[w.heap.size]? = some (.cells #[.int .i64 t0, .slice a0 len0 cap0] 30 (0, 0))) (by kernel_rfl) ⟨X0_6, P_6⟩ (fun hHrx12 => ?_)
        refine wpAnyH_take (i := 0) (v := ?_) (ops_at rfl) (by kernel_rfl) (by kernel_rfl) (by kernel_rfl) (fun _ _ _ h => h) (Or.inl ⟨by rfl, ?yrx120⟩) (by assumption) ?nrx120
        case yrx120 => (intro wS hSw; obtain ⟨s0, s1⟩ := hSw; have q0 := cell_of s0 0; have q1 := cell_of s0 1; have q2 := cell_of s1 0; have q3 := cell_of s1 1; go_simp; try rfl)
        try simp only [Act.put, List.setIfInBounds_toArray, List.set_cons_zero, List.set_cons_succ]
        refine wpAnyH_take (i := 1) (v := ?_) (ops_at rfl) (by kernel_rfl) (by kernel_rfl) (by kernel_rfl) (fun _ _ _ h => h) (Or.inl ⟨by rfl, ?yrx121⟩) (by assumption) ?nrx121
        case yrx121 => (intro wS hSw; obtain ⟨s0, s1⟩ := hSw; have q0 := cell_of s0 0; have q1 := cell_of s0 1; have q2 := cell_of s1 0; have q3 := cell_of s1 1; go_simp; try rfl)
        try simp only [Act.put, List.setIfInBounds_toArray, List.set_cons_zero, List.set_cons_succ]
        obtain ⟨w7, hw7⟩ : ∃ wz, w6.drew = wz := ⟨_, rfl⟩
        have hb7 : Below w6.heap.size w6 w7 := by rw [← hw7]; exact below_drewN (Below.refl _ _) 1
        have HW7 := Lib.hid hw7
        clear hw7
        have hz7 := hb7.size
        have hB7 : Below w.heap.size w w7 := Below.trans hB6 (hb7.mono (by omega))
        have hs0_7 := hs0_6.below hb7 (by omega)
        clear hs0_6
        have P_7 := (hb7.block _ (by omega)).trans P_6
        clear P_6
        have C_7 := (hb7.block _ (by omega)).trans C_6
        clear C_6
        have Wo0_7 := Wo0_6.below hb7 (by omega)
        clear Wo0_6
        have Wb_7 := (hb7.block _ (by omega)).trans Wb_6
        clear Wb_6
        have x0_7 := x0_6.below hb7 (by omega)
        clear x0_6
        have X0_7 := (hb7.block _ (by omega)).trans X0_6
        clear X0_6
        have Go0_7 := Go0_6.below hb7 (by omega)
        clear Go0_6
        have Gb_7 := (hb7.block _ (by omega)).trans Gb_6
        clear Gb_6
        refine wpAnyH_ready (rs := [2]) (by kernel_rfl) (by simp) ?_
        refine AllReadyH.cons (ops_at rfl) (fun K hK => ?_) AllReadyH.nil
        go_simp
        rw [HW7.out]
        refine (toPuzzle_any t0 a0 len0 cap0 z0 w.heap.size _ HN0.out hlen0 hs0_7 (by omega)).mono ?_
        rintro e w8 ⟨cbA, rfl, cb, hb8⟩
        have hz8 := hb8.size
        have hB8 : Below w.heap.size w w8 := Below.trans hB7 (hb8.mono (by omega))
        have hs0_8 := hs0_7.below hb8 (by omega)
        clear hs0_7
        have P_8 := (hb8.block _ (by omega)).trans P_7
        clear P_7
        have C_8 := (hb8.block _ (by omega)).trans C_7
        clear C_7
        have Wo0_8 := Wo0_7.below hb8 (by omega)
        clear Wo0_7
        have Wb_8 := (hb8.block _ (by omega)).trans Wb_7
        clear Wb_7
        have x0_8 := x0_7.below hb8 (by omega)
        clear x0_7
        have X0_8 := (hb8.block _ (by omega)).trans X0_7
        clear X0_7
        have Go0_8 := Go0_7.below hb8 (by omega)
        clear Go0_7
        have Gb_8 := (hb8.block _ (by omega)).trans Gb_7
        clear Gb_7
        refine hK.out _ _ ⟨X0_8, P_8⟩ (fun hHrx128 => ?_)
        clear hK K
        refine wpAnyH_ready (rs := [3]) (by kernel_rfl) (by simp) ?_
        refine AllReadyH.cons (ops_at rfl) (fun K hK => ?_) AllReadyH.nil
        go_simp
        refine (eqPuzzle_any _ _ _ _ _ _ _ _ _ _ _ _ HN0.out hlen0 x0_8.seg cb.seg (by omega) (by omega)).mono ?_
        rintro e w9 ⟨rfl, hb9⟩
        have hz9 := hb9.size
        have hB9 : Below w.heap.size w w9 := Below.trans hB8 (hb9.mono (by omega))
        have hs0_9 := hs0_8.below hb9 (by omega)
        clear hs0_8
        have P_9 := (hb9.block _ (by omega)).trans P_8
        clear P_8
        have C_9 := (hb9.block _ (by omega)).trans C_8
        clear C_8
        have Wo0_9 := Wo0_8.below hb9 (by omega)
        clear Wo0_8
        have Wb_9 := (hb9.block _ (by omega)).trans Wb_8
        clear Wb_8
        have x0_9 := x0_8.below hb9 (by omega)
        clear x0_8
        have X0_9 := (hb9.block _ (by omega)).trans X0_8
        clear X0_8
        have Go0_9 := Go0_8.below hb9 (by omega)
        clear Go0_8
        have Gb_9 := (hb9.block _ (by omega)).trans Gb_8
        clear Gb_8
        have cb_9 := cb.below hb9 (by omega)
        clear cb
        refine hK.out _ _ ⟨X0_9, P_9⟩ (fun hHrx129 => ?_)
        clear hK K
        refine wpAnyH_take (i := 4) (v := ?_) (ops_at rfl) (by kernel_rfl) (by kernel_rfl) (by kernel_rfl) (fun _ _ _ h => h) (Or.inl ⟨by rfl, ?yrx124⟩) (by assumption) ?nrx124
        case yrx124 => (intro wS hSw; obtain ⟨s0, s1⟩ := hSw; have q0 := cell_of s0 0; have q1 := cell_of s0 1; have q2 := cell_of s1 0; have q3 := cell_of s1 1; go_simp; try rfl)
        try simp only [Act.put, List.setIfInBounds_toArray, List.set_cons_zero, List.set_cons_succ]
        refine wpAnyH_done (by kernel_rfl) ?_ _
        have kc_X00 := cell_of X0_9 0
        have kc_X01 := cell_of X0_9 1
        simp only [List.getElem?_toArray, List.getElem?_cons_zero, List.getElem?_cons_succ] at kc_X00 kc_X01
        go_wp2_with fail
        refine (markPuzzle_any _ _ _ _ _ _ _ _ _ HN0.out (by omega) (by omega) (by omega) x0_9 (by omega)).mono ?_
        rintro e w10 ⟨rfl, x0_10, ho10⟩
        clear kc_X00 kc_X01
        have hz10 := ho10.size
        have hB10 : Below w.heap.size w w10 := Below.trans hB9 (ho10.below (by omega) (fun b hb => by omega))
        have hs0_10 := hs0_9.only ho10 (by omega) (fun b hb => by omega)
        clear hs0_9
        have P_10 := (ho10.block _ (by omega) (fun hs => by omega)).trans P_9
        clear P_9
        have C_10 := (ho10.block _ (by omega) (fun hs => by omega)).trans C_9
        clear C_9
        have Wo0_10 := Wo0_9.only ho10 (by omega) (fun b hb => by omega)
        clear Wo0_9
        have Wb_10 := (ho10.block _ (by omega) (fun hs => by omega)).trans Wb_9
        clear Wb_9
        have X0_10 := (ho10.block _ (by omega) (fun hs => by omega)).trans X0_9
        clear X0_9
        have Go0_10 := Go0_9.only ho10 (by omega) (fun b hb => by omega)
        clear Go0_9
        have Gb_10 := (ho10.block _ (by omega) (fun hs => by omega)).trans Gb_9
        clear Gb_9
        have kc_Gb0 := cell_of Gb_10 0
        have kc_Gb1 := cell_of Gb_10 1
        have kc_Wb0 := cell_of Wb_10 0
        have kc_Wb1 := cell_of Wb_10 1
        simp only [List.getElem?_toArray, List.getElem?_cons_zero, List.getElem?_cons_succ] at kc_Gb0 kc_Gb1 kc_Wb0 kc_Wb1
        go_wp2_with fail
        refine (eqPuzzle_any _ _ _ _ _ _ _ _ _ _ _ _ HY0.out (by omega) Go0_10.seg Wo0_10.seg (by omega) (by omega)).mono ?_
        rintro e w11 ⟨rfl, hb11⟩
        clear kc_Gb0 kc_Gb1 kc_Wb0 kc_Wb1
        have hz11 := hb11.size
        have hB11 : Below w.heap.size w w11 := Below.trans hB10 (hb11.mono (by omega))
        have hs0_11 := hs0_10.below hb11 (by omega)
        clear hs0_10
        have P_11 := (hb11.block _ (by omega)).trans P_10
        clear P_10
        have C_11 := (hb11.block _ (by omega)).trans C_10
        clear C_10
        have Wo0_11 := Wo0_10.below hb11 (by omega)
        clear Wo0_10
        have Wb_11 := (hb11.block _ (by omega)).trans Wb_10
        clear Wb_10
        have X0_11 := (hb11.block _ (by omega)).trans X0_10
        clear X0_10
        have Go0_11 := Go0_10.below hb11 (by omega)
        clear Go0_10
        have Gb_11 := (hb11.block _ (by omega)).trans Gb_10
        clear Gb_10
        have kc_Gb0 := cell_of Gb_11 0
        have kc_Gb1 := cell_of Gb_11 1
        simp only [List.getElem?_toArray, List.getElem?_cons_zero, List.getElem?_cons_succ] at kc_Gb0 kc_Gb1
        go_wp2_with fail
        refine (markPuzzle_any _ _ _ _ _ _ _ _ _ HY0.out (by omega) (by omega) (by omega) Go0_11 (by omega)).mono ?_
        rintro e w12 ⟨rfl, Go0_12, ho12⟩
        clear kc_Gb0 kc_Gb1
        have hz12 := ho12.size
        have hB12 : Below w.heap.size w w12 := Below.trans hB11 (ho12.below (by omega) (fun b hb => by omega))
        have hs0_12 := hs0_11.only ho12 (by omega) (fun b hb => by omega)
        clear hs0_11
        have P_12 := (ho12.block _ (by omega) (fun hs => by omega)).trans P_11
        clear P_11
        have C_12 := (ho12.block _ (by omega) (fun hs => by omega)).trans C_11
        clear C_11
        have Wo0_12 := Wo0_11.only ho12 (by omega) (fun b hb => by omega)
        clear Wo0_11
        have Wb_12 := (ho12.block _ (by omega) (fun hs => by omega)).trans Wb_11
        clear Wb_11
        have X0_12 := (ho12.block _ (by omega) (fun hs => by omega)).trans X0_11
        clear X0_11
        have Gb_12 := (ho12.block _ (by omega) (fun hs => by omega)).trans Gb_11
        clear Gb_11
        have kc_Gb0 := cell_of Gb_12 0
        have kc_Gb1 := cell_of Gb_12 1
        simp only [List.getElem?_toArray, List.getElem?_cons_zero, List.getElem?_cons_succ] at kc_Gb0 kc_Gb1
        go_wp2_with fail
        refine (heldPuzzle_any _ _ _ _ _ _ _ _ (by omega) (by omega) (by omega) Go0_12.seg (by omega)).mono ?_
        rintro e w13 ⟨rfl, hb13⟩
        clear kc_Gb0 kc_Gb1
        have hz13 := hb13.size
        have hB13 : Below w.heap.size w w13 := Below.trans hB12 (hb13.mono (by omega))
        have hs0_13 := hs0_12.below hb13 (by omega)
        clear hs0_12
        have P_13 := (hb13.block _ (by omega)).trans P_12
        clear P_12
        have C_13 := (hb13.block _ (by omega)).trans C_12
        clear C_12
        have Wo0_13 := Wo0_12.below hb13 (by omega)
        clear Wo0_12
        have Wb_13 := (hb13.block _ (by omega)).trans Wb_12
        clear Wb_12
        have X0_13 := (hb13.block _ (by omega)).trans X0_12
        clear X0_12
        have Go0_13 := Go0_12.below hb13 (by omega)
        clear Go0_12
        have Gb_13 := (hb13.block _ (by omega)).trans Gb_12
        clear Gb_12
        go_upto_region 24 with (fail)
        go_cut [14, 15] (fun sa sb wx => ∃ A n c g lo hi, sa = .pointer (some ⟨g, 0, none⟩) ∧ sb = .bool false ∧ (listU false (z0 ++ [(a1a, a1b, a1c, a1d)])).length = n ∧ w13.heap.size ≤ lo ∧ hi ≤ wx.heap.size ∧ (g < lo ∨ hi ≤ g) ∧ Own wx lo hi A (flat4 (listU false (z0 ++ [(a1a, a1b, a1c, a1d)]))) ∧ wx.heap[g]? = some (.cells #[.int .i64 (intU false t0), .slice A n c] 35 (0, 0)) ∧ w13.heap.size ≤ g ∧ Below w13.heap.size w13 wx)
        case first =>
          refine wp_region_held_drew (S := fun wq => wq.heap[w.heap.size]? = some (.cells #[.int .i64 t0, .slice a0 len0 cap0] 30 (0, 0)) ∧ wq.heap[w.heap.size + 1]? = some (.cells #[.int .i64 a1a, .int .i64 a1b, .int .i64 a1c, .int .i64 a1d] 23 (0, 0))) (by kernel_rfl) ⟨P_13, C_13⟩ (fun hHdx13 => ?_)
          refine wpAnyH_take (i := 0) (v := ?_) (ops_at rfl) (by kernel_rfl) (by kernel_rfl) (by kernel_rfl) (fun _ _ _ h => h) (Or.inl ⟨by rfl, ?ydx130⟩) (by assumption) ?ndx130
          case ydx130 => (intro wS hSw; obtain ⟨s0, s1⟩ := hSw; have q0 := cell_of s0 0; have q1 := cell_of s0 1; have q2 := cell_of s1 0; have q3 := cell_of s1 1; have q4 := cell_of s1 2; have q5 := cell_of s1 3; go_simp; try rfl)
          try simp only [Act.put, List.setIfInBounds_toArray, List.set_cons_zero, List.set_cons_succ]
          refine wpAnyH_take (i := 2) (v := ?_) (ops_at rfl) (by kernel_rfl) (by kernel_rfl) (by kernel_rfl) (fun _ _ _ h => h) (Or.inl ⟨by rfl, ?ydx132⟩) (by assumption) ?ndx132
          case ydx132 => (intro wS hSw; obtain ⟨s0, s1⟩ := hSw; have q0 := cell_of s0 0; have q1 := cell_of s0 1; have q2 := cell_of s1 0; have q3 := cell_of s1 1; have q4 := cell_of s1 2; have q5 := cell_of s1 3; go_simp; try rfl)
          try simp only [Act.put, List.setIfInBounds_toArray, List.set_cons_zero, List.set_cons_succ]
          obtain ⟨v0, hv0⟩ : ∃ v, w13.drew = v := ⟨_, rfl⟩
          have hc0 : Below w13.heap.size w13 v0 := by rw [← hv0]; exact (Below.refl _ _).drew
          rw [hv0] at hHdx13 ⊢
          clear hv0
          have hdz0 := hc0.size
          have f0_0 := hHdx13.1
          have f1_0 := hHdx13.2
          have sg_0 := hs0_13.below hc0 (by omega)
          refine wpAnyH_ready (rs := [1, 8]) (by kernel_rfl) (by simp) ?_
          refine AllReadyH.cons (ops_at rfl) (fun K hK => ?_) (AllReadyH.cons (ops_at rfl) (fun K hK => ?_) AllReadyH.nil)
          · skip
            go_simp
            refine (toPuzzle_any t0 a0 len0 cap0 z0 w.heap.size _ HN0.out hlen0 sg_0 (by omega)).mono ?_
            rintro e v1 ⟨cA, rfl, co_11, hd1⟩
            have hdz1 := hd1.size
            have hc11 := hc0.trans (hd1.mono (by omega))
            have f0_11 := (hd1.block _ (by omega)).trans f0_0
            have f1_11 := (hd1.block _ (by omega)).trans f1_0
            have sg_11 := sg_0.below hd1 (by omega)
            refine hK.out _ _ ⟨f0_11, f1_11⟩ (fun hR1 => ?_)
            clear hK K
            refine wpAnyH_ready (rs := [3, 8]) (by kernel_rfl) (by simp) ?_
            refine AllReadyH.cons (ops_at rfl) (fun K hK => ?_) (AllReadyH.cons (ops_at rfl) (fun K hK => ?_) AllReadyH.nil)
            · skip
              go_simp
              refine (toClue_any _ _ _ _ _).mono ?_
              rintro e v2 ⟨rfl, hd2⟩
              have hdz2 := hd2.size
              have hc213 := hc11.trans (hd2.mono (by omega))
              have f0_213 := (hd2.block _ (by omega)).trans f0_11
              have f1_213 := (hd2.block _ (by omega)).trans f1_11
              have sg_213 := sg_11.below hd2 (by omega)
              have co_213 := co_11.below hd2 (by omega)
              refine hK.out _ _ ⟨f0_213, f1_213⟩ (fun hR13 => ?_)
              clear hK K
              refine wpAnyH_ready (rs := [4, 8]) (by kernel_rfl) (by simp) ?_
              refine AllReadyH.cons (ops_at rfl) (fun K hK => ?_) (AllReadyH.cons (ops_at rfl) (fun K hK => ?_) AllReadyH.nil)
              · skip
                go_simp
                refine (impl_AddClue t0 _ _ _ a1a a1b a1c a1d z0 _ _ _ HN0.out hlen0 HNC co_213.seg (by omega) _ HQ.out).mono ?_
                rintro e v3 ⟨A, n, c, rfl, hl, ro_3134, hd3⟩
                have hdz3 := hd3.size
                have hc3134 := hc213.trans (hd3.mono (by omega))
                have f0_3134 := (hd3.block _ (by omega)).trans f0_213
                have f1_3134 := (hd3.block _ (by omega)).trans f1_213
                have sg_3134 := sg_213.below hd3 (by omega)
                have co_3134 := co_213.below hd3 (by omega)
                refine hK.out _ _ ⟨f0_3134, f1_3134⟩ (fun hR134 => ?_)
                clear hK K
                refine wpAnyH_take (i := 5) (v := ?_) (ops_at rfl) (by kernel_rfl) (by kernel_rfl) (by kernel_rfl) (fun _ _ _ h => h) (Or.inl ⟨by rfl, ?ydx131345⟩) (by assumption) ?ndx131345
                case ydx131345 => (intro wS hSw; obtain ⟨s0, s1⟩ := hSw; have q0 := cell_of s0 0; have q1 := cell_of s0 1; have q2 := cell_of s1 0; have q3 := cell_of s1 1; have q4 := cell_of s1 2; have q5 := cell_of s1 3; go_simp; try rfl)
                try simp only [Act.put, List.setIfInBounds_toArray, List.set_cons_zero, List.set_cons_succ]
                refine wpAnyH_take (i := 6) (v := ?_) (ops_at rfl) (by kernel_rfl) (by kernel_rfl) (by kernel_rfl) (fun _ _ _ h => h) (Or.inl ⟨by rfl, ?ydx131346⟩) (by assumption) ?ndx131346
                case ydx131346 => (intro wS hSw; obtain ⟨s0, s1⟩ := hSw; have q0 := cell_of s0 0; have q1 := cell_of s0 1; have q2 := cell_of s1 0; have q3 := cell_of s1 1; have q4 := cell_of s1 2; have q5 := cell_of s1 3; go_simp; try rfl)
                try simp only [Act.put, List.setIfInBounds_toArray, List.set_cons_zero, List.set_cons_succ]
                refine wpAnyH_take (i := 7) (v := ?_) (ops_at rfl) (by kernel_rfl) (by kernel_rfl) (by kernel_rfl) (fun _ _ _ h => h) (Or.inl ⟨by rfl, ?ydx131347⟩) (by assumption) ?ndx131347
                case ydx131347 => (intro wS hSw; obtain ⟨s0, s1⟩ := hSw; have q0 := cell_of s0 0; have q1 := cell_of s0 1; have q2 := cell_of s1 0; have q3 := cell_of s1 1; have q4 := cell_of s1 2; have q5 := cell_of s1 3; go_simp; try rfl)
                try simp only [Act.put, List.setIfInBounds_toArray, List.set_cons_zero, List.set_cons_succ]
                refine wpAnyH_ready (rs := [8]) (by kernel_rfl) (by simp) ?_
                refine AllReadyH.cons (ops_at rfl) (fun K hK => ?_) AllReadyH.nil
                go_simp
                obtain ⟨v4, hv4⟩ : ∃ v, v3.alloc (.cells #[.int .i64 0, .slice none 0 0] 35) = v := ⟨_, rfl⟩
                have hd4 : Below v3.heap.size v3 v4 := by rw [← hv4]; exact (Below.refl _ _).alloc (Nat.le_refl _) _
                have m_41348 : v4.heap[v3.heap.size]? = some (.cells #[.int .i64 0, .slice none 0 0] 35 (0, 0)) := by rw [← hv4]; exact new_at _ _ rfl
                have ml4 : v3.heap.size < v4.heap.size := by rw [← hv4]; simp
                have hdz4 := hd4.size
                have hc41348 := hc3134.trans (hd4.mono (by omega))
                have f0_41348 := (hd4.block _ (by omega)).trans f0_3134
                have f1_41348 := (hd4.block _ (by omega)).trans f1_3134
                have sg_41348 := sg_3134.below hd4 (by omega)
                have co_41348 := co_3134.below hd4 (by omega)
                have ro_41348 := ro_3134.below hd4 (by omega)
                rw [hv4]
                refine hK.out _ _ ⟨f0_41348, f1_41348⟩ (fun hR1348 => ?_)
                clear hK K
                clear hv4
                have c0 := cell_of m_41348 0
                have c1 := cell_of m_41348 1
                have e0 := frozen_of m_41348 0
                have e1 := frozen_of m_41348 1
                simp only [List.getElem?_toArray, List.getElem?_cons_zero, List.getElem?_cons_succ] at c0 c1
                have far : ∀ x, x ≠ v3.heap.size → ((v4.setCell ⟨v3.heap.size, 0, none⟩ (.int .i64 (intU false t0))).setCell ⟨v3.heap.size, 1, none⟩ (.slice A n c)).heap[x]? = v4.heap[x]? := fun x hx => (set_far _ hx _).trans (set_far _ hx _)
                have FAR := Lib.hid far
                clear far
                have fin := set_self (set_self m_41348 0 (.int .i64 (intU false t0))) 1 (.slice A n c)
                have FIN := Lib.hid fin
                clear fin
                refine wpAnyH_ready (rs := [9]) (by kernel_rfl) (by simp) ?_
                refine AllReadyH.cons (ops_at rfl) (fun K hK => ?_) AllReadyH.nil
                go_simp
                refine hK.out _ _ ⟨(FAR.out _ (by omega)).trans f0_41348, (FAR.out _ (by omega)).trans f1_41348⟩ (fun hRs => ?_)
                clear hK K
                refine wpAnyH_take (i := 10) (v := ?_) (ops_at rfl) (by kernel_rfl) (by kernel_rfl) (by kernel_rfl) (fun _ _ _ h => h) (Or.inl ⟨by rfl, ?ydx13134810⟩) (by assumption) ?ndx13134810
                case ydx13134810 => (intro wS hSw; obtain ⟨s0, s1⟩ := hSw; have q0 := cell_of s0 0; have q1 := cell_of s0 1; have q2 := cell_of s1 0; have q3 := cell_of s1 1; have q4 := cell_of s1 2; have q5 := cell_of s1 3; go_simp; try rfl)
                try simp only [Act.put, List.setIfInBounds_toArray, List.set_cons_zero, List.set_cons_succ]
                refine wpAnyH_done (by kernel_rfl) ?_ _
                go_wp2_with fail
                go_meet
                have hzf : ((v4.setCell ⟨v3.heap.size, 0, none⟩ (.int .i64 (intU false t0))).setCell ⟨v3.heap.size, 1, none⟩ (.slice A n c)).heap.size = v4.heap.size := by simp
                refine ⟨A, n, c, v3.heap.size, v2.heap.size, v3.heap.size, rfl, rfl, hl, by omega, by omega, by omega, ro_41348.keep fun b hb1 hb2 => FAR.out _ (by omega), by simpa using FIN.out, by omega, (hc41348.setCell (p := ⟨v3.heap.size, 0, none⟩) (by show _ ≤ v3.heap.size; omega) _).setCell (p := ⟨v3.heap.size, 1, none⟩) (by show _ ≤ v3.heap.size; omega) _⟩
              · skip
                go_simp
                obtain ⟨v3, hv3⟩ : ∃ v, v2.alloc (.cells #[.int .i64 0, .slice none 0 0] 35) = v := ⟨_, rfl⟩
                have hd3 : Below v2.heap.size v2 v3 := by rw [← hv3]; exact (Below.refl _ _).alloc (Nat.le_refl _) _
                have m_3138 : v3.heap[v2.heap.size]? = some (.cells #[.int .i64 0, .slice none 0 0] 35 (0, 0)) := by rw [← hv3]; exact new_at _ _ rfl
                have ml3 : v2.heap.size < v3.heap.size := by rw [← hv3]; simp
                have hdz3 := hd3.size
                have hc3138 := hc213.trans (hd3.mono (by omega))
                have f0_3138 := (hd3.block _ (by omega)).trans f0_213
                have f1_3138 := (hd3.block _ (by omega)).trans f1_213
                have sg_3138 := sg_213.below hd3 (by omega)
                have co_3138 := co_213.below hd3 (by omega)
                rw [hv3]
                refine hK.out _ _ ⟨f0_3138, f1_3138⟩ (fun hR138 => ?_)
                clear hK K
                clear hv3
                refine wpAnyH_ready (rs := [4]) (by kernel_rfl) (by simp) ?_
                refine AllReadyH.cons (ops_at rfl) (fun K hK => ?_) AllReadyH.nil
                go_simp
                refine (impl_AddClue t0 _ _ _ a1a a1b a1c a1d z0 _ _ _ HN0.out hlen0 HNC co_3138.seg (by omega) _ HQ.out).mono ?_
                rintro e v4 ⟨A, n, c, rfl, hl, ro_41384, hd4⟩
                have hdz4 := hd4.size
                have hc41384 := hc3138.trans (hd4.mono (by omega))
                have f0_41384 := (hd4.block _ (by omega)).trans f0_3138
                have f1_41384 := (hd4.block _ (by omega)).trans f1_3138
                have sg_41384 := sg_3138.below hd4 (by omega)
                have co_41384 := co_3138.below hd4 (by omega)
                have m_41384 := (hd4.block _ (by omega)).trans m_3138
                refine hK.out _ _ ⟨f0_41384, f1_41384⟩ (fun hR1384 => ?_)
                clear hK K
                refine wpAnyH_take (i := 5) (v := ?_) (ops_at rfl) (by kernel_rfl) (by kernel_rfl) (by kernel_rfl) (fun _ _ _ h => h) (Or.inl ⟨by rfl, ?ydx1313845⟩) (by assumption) ?ndx1313845
                case ydx1313845 => (intro wS hSw; obtain ⟨s0, s1⟩ := hSw; have q0 := cell_of s0 0; have q1 := cell_of s0 1; have q2 := cell_of s1 0; have q3 := cell_of s1 1; have q4 := cell_of s1 2; have q5 := cell_of s1 3; go_simp; try rfl)
                try simp only [Act.put, List.setIfInBounds_toArray, List.set_cons_zero, List.set_cons_succ]
                refine wpAnyH_take (i := 6) (v := ?_) (ops_at rfl) (by kernel_rfl) (by kernel_rfl) (by kernel_rfl) (fun _ _ _ h => h) (Or.inl ⟨by rfl, ?ydx1313846⟩) (by assumption) ?ndx1313846
                case ydx1313846 => (intro wS hSw; obtain ⟨s0, s1⟩ := hSw; have q0 := cell_of s0 0; have q1 := cell_of s0 1; have q2 := cell_of s1 0; have q3 := cell_of s1 1; have q4 := cell_of s1 2; have q5 := cell_of s1 3; go_simp; try rfl)
                try simp only [Act.put, List.setIfInBounds_toArray, List.set_cons_zero, List.set_cons_succ]
                refine wpAnyH_take (i := 7) (v := ?_) (ops_at rfl) (by kernel_rfl) (by kernel_rfl) (by kernel_rfl) (fun _ _ _ h => h) (Or.inl ⟨by rfl, ?ydx1313847⟩) (by assumption) ?ndx1313847
                case ydx1313847 => (intro wS hSw; obtain ⟨s0, s1⟩ := hSw; have q0 := cell_of s0 0; have q1 := cell_of s0 1; have q2 := cell_of s1 0; have q3 := cell_of s1 1; have q4 := cell_of s1 2; have q5 := cell_of s1 3; go_simp; try rfl)
                try simp only [Act.put, List.setIfInBounds_toArray, List.set_cons_zero, List.set_cons_succ]
                have c0 := cell_of m_41384 0
                have c1 := cell_of m_41384 1
                have e0 := frozen_of m_41384 0
                have e1 := frozen_of m_41384 1
                simp only [List.getElem?_toArray, List.getElem?_cons_zero, List.getElem?_cons_succ] at c0 c1
                have far : ∀ x, x ≠ v2.heap.size → ((v4.setCell ⟨v2.heap.size, 0, none⟩ (.int .i64 (intU false t0))).setCell ⟨v2.heap.size, 1, none⟩ (.slice A n c)).heap[x]? = v4.heap[x]? := fun x hx => (set_far _ hx _).trans (set_far _ hx _)
                have FAR := Lib.hid far
                clear far
                have fin := set_self (set_self m_41384 0 (.int .i64 (intU false t0))) 1 (.slice A n c)
                have FIN := Lib.hid fin
                clear fin
                refine wpAnyH_ready (rs := [9]) (by kernel_rfl) (by simp) ?_
                refine AllReadyH.cons (ops_at rfl) (fun K hK => ?_) AllReadyH.nil
                go_simp
                refine hK.out _ _ ⟨(FAR.out _ (by omega)).trans f0_41384, (FAR.out _ (by omega)).trans f1_41384⟩ (fun hRs => ?_)
                clear hK K
                refine wpAnyH_take (i := 10) (v := ?_) (ops_at rfl) (by kernel_rfl) (by kernel_rfl) (by kernel_rfl) (fun _ _ _ h => h) (Or.inl ⟨by rfl, ?ydx13138410⟩) (by assumption) ?ndx13138410
                case ydx13138410 => (intro wS hSw; obtain ⟨s0, s1⟩ := hSw; have q0 := cell_of s0 0; have q1 := cell_of s0 1; have q2 := cell_of s1 0; have q3 := cell_of s1 1; have q4 := cell_of s1 2; have q5 := cell_of s1 3; go_simp; try rfl)
                try simp only [Act.put, List.setIfInBounds_toArray, List.set_cons_zero, List.set_cons_succ]
                refine wpAnyH_done (by kernel_rfl) ?_ _
                go_wp2_with fail
                go_meet
                have hzf : ((v4.setCell ⟨v2.heap.size, 0, none⟩ (.int .i64 (intU false t0))).setCell ⟨v2.heap.size, 1, none⟩ (.slice A n c)).heap.size = v4.heap.size := by simp
                refine ⟨A, n, c, v2.heap.size, v3.heap.size, v4.heap.size, rfl, rfl, hl, by omega, by omega, by omega, ro_41384.keep fun b hb1 hb2 => FAR.out _ (by omega), by simpa using FIN.out, by omega, (hc41384.setCell (p := ⟨v2.heap.size, 0, none⟩) (by show _ ≤ v2.heap.size; omega) _).setCell (p := ⟨v2.heap.size, 1, none⟩) (by show _ ≤ v2.heap.size; omega) _⟩
            · skip
              go_simp
              obtain ⟨v2, hv2⟩ : ∃ v, v1.alloc (.cells #[.int .i64 0, .slice none 0 0] 35) = v := ⟨_, rfl⟩
              have hd2 : Below v1.heap.size v1 v2 := by rw [← hv2]; exact (Below.refl _ _).alloc (Nat.le_refl _) _
              have m_218 : v2.heap[v1.heap.size]? = some (.cells #[.int .i64 0, .slice none 0 0] 35 (0, 0)) := by rw [← hv2]; exact new_at _ _ rfl
              have ml2 : v1.heap.size < v2.heap.size := by rw [← hv2]; simp
              have hdz2 := hd2.size
              have hc218 := hc11.trans (hd2.mono (by omega))
              have f0_218 := (hd2.block _ (by omega)).trans f0_11
              have f1_218 := (hd2.block _ (by omega)).trans f1_11
              have sg_218 := sg_11.below hd2 (by omega)
              have co_218 := co_11.below hd2 (by omega)
              rw [hv2]
              refine hK.out _ _ ⟨f0_218, f1_218⟩ (fun hR18 => ?_)
              clear hK K
              clear hv2
              refine wpAnyH_ready (rs := [3]) (by kernel_rfl) (by simp) ?_
              refine AllReadyH.cons (ops_at rfl) (fun K hK => ?_) AllReadyH.nil
              go_simp
              refine (toClue_any _ _ _ _ _).mono ?_
              rintro e v3 ⟨rfl, hd3⟩
              have hdz3 := hd3.size
              have hc3183 := hc218.trans (hd3.mono (by omega))
              have f0_3183 := (hd3.block _ (by omega)).trans f0_218
              have f1_3183 := (hd3.block _ (by omega)).trans f1_218
              have sg_3183 := sg_218.below hd3 (by omega)
              have co_3183 := co_218.below hd3 (by omega)
              have m_3183 := (hd3.block _ (by omega)).trans m_218
              refine hK.out _ _ ⟨f0_3183, f1_3183⟩ (fun hR183 => ?_)
              clear hK K
              refine wpAnyH_ready (rs := [4]) (by kernel_rfl) (by simp) ?_
              refine AllReadyH.cons (ops_at rfl) (fun K hK => ?_) AllReadyH.nil
              go_simp
              refine (impl_AddClue t0 _ _ _ a1a a1b a1c a1d z0 _ _ _ HN0.out hlen0 HNC co_3183.seg (by omega) _ HQ.out).mono ?_
              rintro e v4 ⟨A, n, c, rfl, hl, ro_41834, hd4⟩
              have hdz4 := hd4.size
              have hc41834 := hc3183.trans (hd4.mono (by omega))
              have f0_41834 := (hd4.block _ (by omega)).trans f0_3183
              have f1_41834 := (hd4.block _ (by omega)).trans f1_3183
              have sg_41834 := sg_3183.below hd4 (by omega)
              have co_41834 := co_3183.below hd4 (by omega)
              have m_41834 := (hd4.block _ (by omega)).trans m_3183
              refine hK.out _ _ ⟨f0_41834, f1_41834⟩ (fun hR1834 => ?_)
              clear hK K
              refine wpAnyH_take (i := 5) (v := ?_) (ops_at rfl) (by kernel_rfl) (by kernel_rfl) (by kernel_rfl) (fun _ _ _ h => h) (Or.inl ⟨by rfl, ?ydx1318345⟩) (by assumption) ?ndx1318345
              case ydx1318345 => (intro wS hSw; obtain ⟨s0, s1⟩ := hSw; have q0 := cell_of s0 0; have q1 := cell_of s0 1; have q2 := cell_of s1 0; have q3 := cell_of s1 1; have q4 := cell_of s1 2; have q5 := cell_of s1 3; go_simp; try rfl)
              try simp only [Act.put, List.setIfInBounds_toArray, List.set_cons_zero, List.set_cons_succ]
              refine wpAnyH_take (i := 6) (v := ?_) (ops_at rfl) (by kernel_rfl) (by kernel_rfl) (by kernel_rfl) (fun _ _ _ h => h) (Or.inl ⟨by rfl, ?ydx1318346⟩) (by assumption) ?ndx1318346
              case ydx1318346 => (intro wS hSw; obtain ⟨s0, s1⟩ := hSw; have q0 := cell_of s0 0; have q1 := cell_of s0 1; have q2 := cell_of s1 0; have q3 := cell_of s1 1; have q4 := cell_of s1 2; have q5 := cell_of s1 3; go_simp; try rfl)
              try simp only [Act.put, List.setIfInBounds_toArray, List.set_cons_zero, List.set_cons_succ]
              refine wpAnyH_take (i := 7) (v := ?_) (ops_at rfl) (by kernel_rfl) (by kernel_rfl) (by kernel_rfl) (fun _ _ _ h => h) (Or.inl ⟨by rfl, ?ydx1318347⟩) (by assumption) ?ndx1318347
              case ydx1318347 => (intro wS hSw; obtain ⟨s0, s1⟩ := hSw; have q0 := cell_of s0 0; have q1 := cell_of s0 1; have q2 := cell_of s1 0; have q3 := cell_of s1 1; have q4 := cell_of s1 2; have q5 := cell_of s1 3; go_simp; try rfl)
              try simp only [Act.put, List.setIfInBounds_toArray, List.set_cons_zero, List.set_cons_succ]
              have c0 := cell_of m_41834 0
              have c1 := cell_of m_41834 1
              have e0 := frozen_of m_41834 0
              have e1 := frozen_of m_41834 1
              simp only [List.getElem?_toArray, List.getElem?_cons_zero, List.getElem?_cons_succ] at c0 c1
              have far : ∀ x, x ≠ v1.heap.size → ((v4.setCell ⟨v1.heap.size, 0, none⟩ (.int .i64 (intU false t0))).setCell ⟨v1.heap.size, 1, none⟩ (.slice A n c)).heap[x]? = v4.heap[x]? := fun x hx => (set_far _ hx _).trans (set_far _ hx _)
              have FAR := Lib.hid far
              clear far
              have fin := set_self (set_self m_41834 0 (.int .i64 (intU false t0))) 1 (.slice A n c)
              have FIN := Lib.hid fin
              clear fin
              refine wpAnyH_ready (rs := [9]) (by kernel_rfl) (by simp) ?_
              refine AllReadyH.cons (ops_at rfl) (fun K hK => ?_) AllReadyH.nil
              go_simp
              refine hK.out _ _ ⟨(FAR.out _ (by omega)).trans f0_41834, (FAR.out _ (by omega)).trans f1_41834⟩ (fun hRs => ?_)
              clear hK K
              refine wpAnyH_take (i := 10) (v := ?_) (ops_at rfl) (by kernel_rfl) (by kernel_rfl) (by kernel_rfl) (fun _ _ _ h => h) (Or.inl ⟨by rfl, ?ydx13183410⟩) (by assumption) ?ndx13183410
              case ydx13183410 => (intro wS hSw; obtain ⟨s0, s1⟩ := hSw; have q0 := cell_of s0 0; have q1 := cell_of s0 1; have q2 := cell_of s1 0; have q3 := cell_of s1 1; have q4 := cell_of s1 2; have q5 := cell_of s1 3; go_simp; try rfl)
              try simp only [Act.put, List.setIfInBounds_toArray, List.set_cons_zero, List.set_cons_succ]
              refine wpAnyH_done (by kernel_rfl) ?_ _
              go_wp2_with fail
              go_meet
              have hzf : ((v4.setCell ⟨v1.heap.size, 0, none⟩ (.int .i64 (intU false t0))).setCell ⟨v1.heap.size, 1, none⟩ (.slice A n c)).heap.size = v4.heap.size := by simp
              refine ⟨A, n, c, v1.heap.size, v3.heap.size, v4.heap.size, rfl, rfl, hl, by omega, by omega, by omega, ro_41834.keep fun b hb1 hb2 => FAR.out _ (by omega), by simpa using FIN.out, by omega, (hc41834.setCell (p := ⟨v1.heap.size, 0, none⟩) (by show _ ≤ v1.heap.size; omega) _).setCell (p := ⟨v1.heap.size, 1, none⟩) (by show _ ≤ v1.heap.size; omega) _⟩
          · skip
            go_simp
            obtain ⟨v1, hv1⟩ : ∃ v, v0.alloc (.cells #[.int .i64 0, .slice none 0 0] 35) = v := ⟨_, rfl⟩
            have hd1 : Below v0.heap.size v0 v1 := by rw [← hv1]; exact (Below.refl _ _).alloc (Nat.le_refl _) _
            have m_18 : v1.heap[v0.heap.size]? = some (.cells #[.int .i64 0, .slice none 0 0] 35 (0, 0)) := by rw [← hv1]; exact new_at _ _ rfl
            have ml1 : v0.heap.size < v1.heap.size := by rw [← hv1]; simp
            have hdz1 := hd1.size
            have hc18 := hc0.trans (hd1.mono (by omega))
            have f0_18 := (hd1.block _ (by omega)).trans f0_0
            have f1_18 := (hd1.block _ (by omega)).trans f1_0
            have sg_18 := sg_0.below hd1 (by omega)
            rw [hv1]
            refine hK.out _ _ ⟨f0_18, f1_18⟩ (fun hR8 => ?_)
            clear hK K
            clear hv1
            refine wpAnyH_ready (rs := [1]) (by kernel_rfl) (by simp) ?_
            refine AllReadyH.cons (ops_at rfl) (fun K hK => ?_) AllReadyH.nil
            go_simp
            refine (toPuzzle_any t0 a0 len0 cap0 z0 w.heap.size _ HN0.out hlen0 sg_18 (by omega)).mono ?_
            rintro e v2 ⟨cA, rfl, co_281, hd2⟩
            have hdz2 := hd2.size
            have hc281 := hc18.trans (hd2.mono (by omega))
            have f0_281 := (hd2.block _ (by omega)).trans f0_18
            have f1_281 := (hd2.block _ (by omega)).trans f1_18
            have sg_281 := sg_18.below hd2 (by omega)
            have m_281 := (hd2.block _ (by omega)).trans m_18
            refine hK.out _ _ ⟨f0_281, f1_281⟩ (fun hR81 => ?_)
            clear hK K
            refine wpAnyH_ready (rs := [3]) (by kernel_rfl) (by simp) ?_
            refine AllReadyH.cons (ops_at rfl) (fun K hK => ?_) AllReadyH.nil
            go_simp
            refine (toClue_any _ _ _ _ _).mono ?_
            rintro e v3 ⟨rfl, hd3⟩
            have hdz3 := hd3.size
            have hc3813 := hc281.trans (hd3.mono (by omega))
            have f0_3813 := (hd3.block _ (by omega)).trans f0_281
            have f1_3813 := (hd3.block _ (by omega)).trans f1_281
            have sg_3813 := sg_281.below hd3 (by omega)
            have co_3813 := co_281.below hd3 (by omega)
            have m_3813 := (hd3.block _ (by omega)).trans m_281
            refine hK.out _ _ ⟨f0_3813, f1_3813⟩ (fun hR813 => ?_)
            clear hK K
            refine wpAnyH_ready (rs := [4]) (by kernel_rfl) (by simp) ?_
            refine AllReadyH.cons (ops_at rfl) (fun K hK => ?_) AllReadyH.nil
            go_simp
            refine (impl_AddClue t0 _ _ _ a1a a1b a1c a1d z0 _ _ _ HN0.out hlen0 HNC co_3813.seg (by omega) _ HQ.out).mono ?_
            rintro e v4 ⟨A, n, c, rfl, hl, ro_48134, hd4⟩
            have hdz4 := hd4.size
            have hc48134 := hc3813.trans (hd4.mono (by omega))
            have f0_48134 := (hd4.block _ (by omega)).trans f0_3813
            have f1_48134 := (hd4.block _ (by omega)).trans f1_3813
            have sg_48134 := sg_3813.below hd4 (by omega)
            have co_48134 := co_3813.below hd4 (by omega)
            have m_48134 := (hd4.block _ (by omega)).trans m_3813
            refine hK.out _ _ ⟨f0_48134, f1_48134⟩ (fun hR8134 => ?_)
            clear hK K
            refine wpAnyH_take (i := 5) (v := ?_) (ops_at rfl) (by kernel_rfl) (by kernel_rfl) (by kernel_rfl) (fun _ _ _ h => h) (Or.inl ⟨by rfl, ?ydx1381345⟩) (by assumption) ?ndx1381345
            case ydx1381345 => (intro wS hSw; obtain ⟨s0, s1⟩ := hSw; have q0 := cell_of s0 0; have q1 := cell_of s0 1; have q2 := cell_of s1 0; have q3 := cell_of s1 1; have q4 := cell_of s1 2; have q5 := cell_of s1 3; go_simp; try rfl)
            try simp only [Act.put, List.setIfInBounds_toArray, List.set_cons_zero, List.set_cons_succ]
            refine wpAnyH_take (i := 6) (v := ?_) (ops_at rfl) (by kernel_rfl) (by kernel_rfl) (by kernel_rfl) (fun _ _ _ h => h) (Or.inl ⟨by rfl, ?ydx1381346⟩) (by assumption) ?ndx1381346
            case ydx1381346 => (intro wS hSw; obtain ⟨s0, s1⟩ := hSw; have q0 := cell_of s0 0; have q1 := cell_of s0 1; have q2 := cell_of s1 0; have q3 := cell_of s1 1; have q4 := cell_of s1 2; have q5 := cell_of s1 3; go_simp; try rfl)
            try simp only [Act.put, List.setIfInBounds_toArray, List.set_cons_zero, List.set_cons_succ]
            refine wpAnyH_take (i := 7) (v := ?_) (ops_at rfl) (by kernel_rfl) (by kernel_rfl) (by kernel_rfl) (fun _ _ _ h => h) (Or.inl ⟨by rfl, ?ydx1381347⟩) (by assumption) ?ndx1381347
            case ydx1381347 => (intro wS hSw; obtain ⟨s0, s1⟩ := hSw; have q0 := cell_of s0 0; have q1 := cell_of s0 1; have q2 := cell_of s1 0; have q3 := cell_of s1 1; have q4 := cell_of s1 2; have q5 := cell_of s1 3; go_simp; try rfl)
            try simp only [Act.put, List.setIfInBounds_toArray, List.set_cons_zero, List.set_cons_succ]
            have c0 := cell_of m_48134 0
            have c1 := cell_of m_48134 1
            have e0 := frozen_of m_48134 0
            have e1 := frozen_of m_48134 1
            simp only [List.getElem?_toArray, List.getElem?_cons_zero, List.getElem?_cons_succ] at c0 c1
            have far : ∀ x, x ≠ v0.heap.size → ((v4.setCell ⟨v0.heap.size, 0, none⟩ (.int .i64 (intU false t0))).setCell ⟨v0.heap.size, 1, none⟩ (.slice A n c)).heap[x]? = v4.heap[x]? := fun x hx => (set_far _ hx _).trans (set_far _ hx _)
            have FAR := Lib.hid far
            clear far
            have fin := set_self (set_self m_48134 0 (.int .i64 (intU false t0))) 1 (.slice A n c)
            have FIN := Lib.hid fin
            clear fin
            refine wpAnyH_ready (rs := [9]) (by kernel_rfl) (by simp) ?_
            refine AllReadyH.cons (ops_at rfl) (fun K hK => ?_) AllReadyH.nil
            go_simp
            refine hK.out _ _ ⟨(FAR.out _ (by omega)).trans f0_48134, (FAR.out _ (by omega)).trans f1_48134⟩ (fun hRs => ?_)
            clear hK K
            refine wpAnyH_take (i := 10) (v := ?_) (ops_at rfl) (by kernel_rfl) (by kernel_rfl) (by kernel_rfl) (fun _ _ _ h => h) (Or.inl ⟨by rfl, ?ydx13813410⟩) (by assumption) ?ndx13813410
            case ydx13813410 => (intro wS hSw; obtain ⟨s0, s1⟩ := hSw; have q0 := cell_of s0 0; have q1 := cell_of s0 1; have q2 := cell_of s1 0; have q3 := cell_of s1 1; have q4 := cell_of s1 2; have q5 := cell_of s1 3; go_simp; try rfl)
            try simp only [Act.put, List.setIfInBounds_toArray, List.set_cons_zero, List.set_cons_succ]
            refine wpAnyH_done (by kernel_rfl) ?_ _
            go_wp2_with fail
            go_meet
            have hzf : ((v4.setCell ⟨v0.heap.size, 0, none⟩ (.int .i64 (intU false t0))).setCell ⟨v0.heap.size, 1, none⟩ (.slice A n c)).heap.size = v4.heap.size := by simp
            refine ⟨A, n, c, v0.heap.size, v3.heap.size, v4.heap.size, rfl, rfl, hl, by omega, by omega, by omega, ro_48134.keep fun b hb1 hb2 => FAR.out _ (by omega), by simpa using FIN.out, by omega, (hc48134.setCell (p := ⟨v0.heap.size, 0, none⟩) (by show _ ≤ v0.heap.size; omega) _).setCell (p := ⟨v0.heap.size, 1, none⟩) (by show _ ≤ v0.heap.size; omega) _⟩
        case rest =>
          obtain ⟨HA0, Hn0, Hc0, Hg, Hlo, Hhi, rfl, rfl, Hl0, Hx1, Hx2, Hx3, Ho0, Hb, Hgl, hb14⟩ := hcut
          obtain ⟨w14, rfl⟩ : ∃ w14, w14 = wc := ⟨_, rfl⟩
          have Hgh : Hg < w14.heap.size := heap_lt Hb
          have hz14 := hb14.size
          have hB14 : Below w.heap.size w w14 := Below.trans hB13 (hb14.mono (by omega))
          have hs0_14 := hs0_13.below hb14 (by omega)
          clear hs0_13
          have P_14 := (hb14.block _ (by omega)).trans P_13
          clear P_13
          have C_14 := (hb14.block _ (by omega)).trans C_13
          clear C_13
          have Wo0_14 := Wo0_13.below hb14 (by omega)
          clear Wo0_13
          have Wb_14 := (hb14.block _ (by omega)).trans Wb_13
          clear Wb_13
          have X0_14 := (hb14.block _ (by omega)).trans X0_13
          clear X0_13
          have Go0_14 := Go0_13.below hb14 (by omega)
          clear Go0_13
          have Gb_14 := (hb14.block _ (by omega)).trans Gb_13
          clear Gb_13
          obtain rfl : Hn0 = Gn0 := Hl0.symm.trans HY0.out
          clear Hl0
          have kc_Hb0 := cell_of Hb 0
          have kc_Hb1 := cell_of Hb 1
          have kc_Wb0 := cell_of Wb_14 0
          have kc_Wb1 := cell_of Wb_14 1
          simp only [List.getElem?_toArray, List.getElem?_cons_zero, List.getElem?_cons_succ] at kc_Hb0 kc_Hb1 kc_Wb0 kc_Wb1
          go_wp2_with fail
          refine (eqPuzzle_any _ _ _ _ _ _ _ _ _ _ _ _ HY0.out (by omega) Ho0.seg Wo0_14.seg (by omega) (by omega)).mono ?_
          rintro e w15 ⟨rfl, hb15⟩
          clear kc_Hb0 kc_Hb1 kc_Wb0 kc_Wb1
          have hz15 := hb15.size
          have hB15 : Below w.heap.size w w15 := Below.trans hB14 (hb15.mono (by omega))
          have hs0_15 := hs0_14.below hb15 (by omega)
          clear hs0_14
          have P_15 := (hb15.block _ (by omega)).trans P_14
          clear P_14
          have C_15 := (hb15.block _ (by omega)).trans C_14
          clear C_14
          have Wo0_15 := Wo0_14.below hb15 (by omega)
          clear Wo0_14
          have Wb_15 := (hb15.block _ (by omega)).trans Wb_14
          clear Wb_14
          have X0_15 := (hb15.block _ (by omega)).trans X0_14
          clear X0_14
          have Go0_15 := Go0_14.below hb15 (by omega)
          clear Go0_14
          have Gb_15 := (hb15.block _ (by omega)).trans Gb_14
          clear Gb_14
          have Ho0_15 := Ho0.below hb15 (by omega)
          clear Ho0
          have Hb_15 := (hb15.block _ (by omega)).trans Hb
          clear Hb
          have kc_Gb0 := cell_of Gb_15 0
          have kc_Gb1 := cell_of Gb_15 1
          simp only [List.getElem?_toArray, List.getElem?_cons_zero, List.getElem?_cons_succ] at kc_Gb0 kc_Gb1
          go_wp2_with fail
          refine (heldPuzzle_any _ _ _ _ _ _ _ _ (by omega) (by omega) (by omega) Go0_15.seg (by omega)).mono ?_
          rintro e w16 ⟨rfl, hb16⟩
          clear kc_Gb0 kc_Gb1
          have hz16 := hb16.size
          have hB16 : Below w.heap.size w w16 := Below.trans hB15 (hb16.mono (by omega))
          have hs0_16 := hs0_15.below hb16 (by omega)
          clear hs0_15
          have P_16 := (hb16.block _ (by omega)).trans P_15
          clear P_15
          have C_16 := (hb16.block _ (by omega)).trans C_15
          clear C_15
          have Wo0_16 := Wo0_15.below hb16 (by omega)
          clear Wo0_15
          have Wb_16 := (hb16.block _ (by omega)).trans Wb_15
          clear Wb_15
          have X0_16 := (hb16.block _ (by omega)).trans X0_15
          clear X0_15
          have Go0_16 := Go0_15.below hb16 (by omega)
          clear Go0_15
          have Gb_16 := (hb16.block _ (by omega)).trans Gb_15
          clear Gb_15
          have Ho0_16 := Ho0_15.below hb16 (by omega)
          clear Ho0_15
          have Hb_16 := (hb16.block _ (by omega)).trans Hb_15
          clear Hb_15
          go_wp2
          go_ret
          exact ⟨rfl, hB16⟩

end LawAddClue
end Go.Proofs.Ytoheoojpmndhoaa
