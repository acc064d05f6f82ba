/-
  The clues without which there are as many solutions, by both programs.
  Conditions: none.
-/
import Derived.Test.YtoheoojpmndhoaaPzH
import Derived.Test.YtoheoojpmndhoaaPzY
import Derived.Test.YtoheoojpmndhoaaL1Own
import Derived.Test.YtoheoojpmndhoaaArr
namespace Go.Proofs.Ytoheoojpmndhoaa
set_option linter.unusedVariables false
set_option linter.unusedSimpArgs false
open Go.RowKit

set_option maxRecDepth 100000 in
set_option maxHeartbeats 4000000 in
theorem spec_NeedlessClues (t : Int) (A : Option Addr) (n c : Nat) (cs : List Clu) (lo hi : Nat) (w : World) (hn : cs.length = n) (hlen : n ≤ 1048576) (hnc : n ≤ c) (hs : Seg w lo hi A (flat4 cs)) (hB : hi ≤ w.heap.size) (q : Bool) (hq : puzB t cs = q) :
    Calls Try.prog 46 #[pzV t A n c] w (RetL q (someN q (needL t.toNat cs n)) w) := by
  obtain ⟨W, hW⟩ : ∃ W, w.alloc (.cells #[.int .i64 t, .slice A n c] 35) = W := ⟨_, rfl⟩
  have z0 : Below w.heap.size w W := by rw [← hW]; exact (Below.refl _ _).alloc (Nat.le_refl _) _
  have p0 : W.heap[w.heap.size]? = some (.cells #[.int .i64 t, .slice A n c] 35 (0, 0)) := by rw [← hW]; exact new_at _ _ rfl
  have hsz := heap_lt p0
  have sW := hs.below z0 hB
  have HW := Lib.hid hW
  have HN := Lib.hid hn
  have HQ := Lib.hid hq
  clear hW hn hq
  have q0 := cell_of p0 0
  have q1 := cell_of p0 1
  simp only [List.getElem?_toArray, List.getElem?_cons_zero, List.getElem?_cons_succ] at q0 q1
  go_enter Try.func46, Try.ntmps46
  go_wp2_with fail
  rw [HW.out]
  refine (pzGood_Q t A n c cs lo hi _ HN.out hlen sW (by omega) q HQ.out).mono ?_
  rintro e v1 ⟨rfl, hb1⟩
  have hz1 := hb1.size
  have y1 := z0.trans (hb1.mono (by omega))
  have p1 := (hb1.block _ hsz).trans p0
  have s1 := sW.below hb1 (by omega)
  clear q0 q1
  have q0 := cell_of p1 0
  have q1 := cell_of p1 1
  simp only [List.getElem?_toArray, List.getElem?_cons_zero, List.getElem?_cons_succ] at q0 q1
  cases q
  · go_wp2
    go_ret2
    exact ⟨none, 0, 0, rfl, rfl, Own.nil_, y1⟩
  · obtain ⟨⟨t1, t2⟩, h6, hcl⟩ := puzB_true.1 HQ.out
    obtain ⟨N, rfl⟩ : ∃ N : Nat, t = (N : Int) := ⟨t.toNat, by omega⟩
    have hN : N = 2 ∨ N = 3 ∨ N = 4 := by omega
    have hn6 : n ≤ 6 := by have := HN.out; omega
    have hv1 : w.heap.size < v1.heap.size := by omega
    have HLL := Lib.hid (show someN true (needL (Int.toNat (N : Int)) cs n) = needL N cs n from rfl)
    rw [HLL.out]
    obtain ⟨i0, hi0, hy0, hy1, hy2⟩ := info_parts int_info
    go_wp2_with fail
    refine (pzAll_any A n c cs N lo hi _ hN HN.out hlen hcl s1 (by omega)).mono ?_
    rintro e u1 ⟨v, vs, rfl, hr, hbu⟩
    obtain ⟨A', c', rfl⟩ := hr.form
    obtain ⟨M, hM⟩ : ∃ M, (solF toldV N cs).length = M := ⟨_, rfl⟩
    have HMM := Lib.hid (show cntC N cs = M from hM)
    rw [hM] at hr ⊢
    clear hr hM
    have hzu := hbu.size
    have yu := y1.trans (hbu.mono y1.size)
    have pu := (hbu.block _ (by omega)).trans p1
    have su := s1.below hbu (by omega)
    clear q0 q1
    have q0 := cell_of pu 0
    have q1 := cell_of pu 1
    simp only [List.getElem?_toArray, List.getElem?_cons_zero, List.getElem?_cons_succ] at q0 q1
    go_wp2
    clear q0 q1
    go_loopw [4, 6, 19] (fun o _ i wr => ∃ k : Nat, k ≤ n ∧ i = .int .i64 (k : Int) ∧ Below u1.heap.size u1 wr ∧ wr.ownsRow u1.heap.size 3 1 o (needL N cs k).length ((needL N cs k).map (Value.int .i64))) (fun _ _ i _ => n - (intOf i).toNat)
    case atStart => exact ⟨0, Nat.zero_le _, rfl, Below.refl _ _, World.ownsRow_nil _ _ _ _⟩
    case round =>
      rename World => wr
      obtain ⟨k, hk, rfl, hbr, hown⟩ := hrel
      obtain ⟨Ba, da, rfl⟩ := ownsRow_form hown
      obtain ⟨na, hna⟩ : ∃ na, (needL N cs k).length = na := ⟨_, rfl⟩
      rw [hna] at hown ⊢
      have hna6 : na ≤ 6 := by rw [← hna]; exact Nat.le_trans (needL_len _ _ _) (by omega)
      have HNA := Lib.hid hna
      have hzr := hbr.size
      have p2 := (hbr.block _ (by omega)).trans pu
      have s2 := su.below hbr (by omega)
      clear hna
      have q0 := cell_of p2 0
      have q1 := cell_of p2 1
      simp only [List.getElem?_toArray, List.getElem?_cons_zero, List.getElem?_cons_succ] at q0 q1
      by_cases hlt : k < n
      · have hlt' : decide ((k : Int) < (n : Int)) = true := decide_eq_true (by omega)
        go_wp2_with fail
        clear q0 q1
        refine wp_region_held_drew (S := (fun wq => wq.heap[w.heap.size]? = some (.cells #[.int .i64 (N : Int), .slice A n c] 35 (0, 0)))) (by kernel_rfl) p2 (fun hH0 => ?_)
        refine wpAnyH_take (i := 0) (v := ?_) (ops_at rfl) (by kernel_rfl) (by kernel_rfl) (by kernel_rfl) (fun _ _ _ h => h) (Or.inl ⟨by rfl, ?ya0⟩) (by assumption) ?na0
        case ya0 => (intro wS hSw; have q0 := cell_of hSw 0; have q1 := cell_of hSw 1; go_simp; try rfl)
        try simp only [Act.put, List.setIfInBounds_toArray, List.set_cons_zero, List.set_cons_succ]
        refine wpAnyH_take (i := 1) (v := ?_) (ops_at rfl) (by kernel_rfl) (by kernel_rfl) (by kernel_rfl) (fun _ _ _ h => h) (Or.inl ⟨by rfl, ?ya1⟩) (by assumption) ?na1
        case ya1 => (intro wS hSw; have q0 := cell_of hSw 0; have q1 := cell_of hSw 1; go_simp; try rfl)
        try simp only [Act.put, List.setIfInBounds_toArray, List.set_cons_zero, List.set_cons_succ]
        refine wpAnyH_take (i := 2) (v := ?_) (ops_at rfl) (by kernel_rfl) (by kernel_rfl) (by kernel_rfl) (fun _ _ _ h => h) (Or.inl ⟨by rfl, ?ya2⟩) (by assumption) ?na2
        case ya2 => (intro wS hSw; have q0 := cell_of hSw 0; have q1 := cell_of hSw 1; go_simp; try rfl)
        try simp only [Act.put, List.setIfInBounds_toArray, List.set_cons_zero, List.set_cons_succ]
        refine wpAnyH_take (i := 3) (v := ?_) (ops_at rfl) (by kernel_rfl) (by kernel_rfl) (by kernel_rfl) (fun _ _ _ h => h) (Or.inl ⟨by rfl, ?ya3⟩) (by assumption) ?na3
        case ya3 => (intro wS hSw; have q0 := cell_of hSw 0; have q1 := cell_of hSw 1; go_simp; try rfl)
        try simp only [Act.put, List.setIfInBounds_toArray, List.set_cons_zero, List.set_cons_succ]
        refine wpAnyH_take (i := 4) (v := ?_) (ops_at rfl) (by kernel_rfl) (by kernel_rfl) (by kernel_rfl) (fun _ _ _ h => h) (Or.inl ⟨by rfl, ?ya4⟩) (by assumption) ?na4
        case ya4 => (intro wS hSw; have q0 := cell_of hSw 0; have q1 := cell_of hSw 1; go_simp; try rfl)
        try simp only [Act.put, List.setIfInBounds_toArray, List.set_cons_zero, List.set_cons_succ]
        refine wpAnyH_take (i := 8) (v := ?_) (ops_at rfl) (by kernel_rfl) (by kernel_rfl) (by kernel_rfl) (fun _ _ _ h => h) (Or.inl ⟨by rfl, ?ya8⟩) (by assumption) ?na8
        case ya8 => (intro wS hSw; have q0 := cell_of hSw 0; have q1 := cell_of hSw 1; go_simp; try rfl)
        try simp only [Act.put, List.setIfInBounds_toArray, List.set_cons_zero, List.set_cons_succ]
        obtain ⟨v0, hv0⟩ : ∃ u, wr.drew = u := ⟨_, rfl⟩
        have hd0 : Below wr.heap.size wr v0 := by rw [← hv0]; exact (Below.refl _ _).drew
        rw [hv0] at hH0 ⊢
        clear hv0
        have hzd := hd0.size
        have s3 := s2.below hd0 (by omega)
        refine wpAnyH_ready (rs := [5]) (by kernel_rfl) (by simp) ?_
        refine AllReadyH.cons (ops_at rfl) (fun K hK => ?_) AllReadyH.nil
        go_simp
        refine (pzWithout_any A n c k cs lo hi _ HN.out hlen hnc hlt s3 (by omega)).mono ?_
        rintro e xa ⟨A2, n2, c2, rfl, hl2, hnc2, ho2, hbxa⟩
        have hzxa := hbxa.size
        have hPa := (hbxa.block _ (by omega)).trans hH0
        have hn2 : n2 ≤ 6 := by have := dropC_length (cs := cs) (k := k) (by rw [HN.out]; exact hlt); have := HN.out; omega
        have HCL := Lib.hid (dropC_clues (k := k) hcl)
        refine hK.out _ _ hPa (fun hH1 => ?_)
        clear hK K
        refine wpAnyH_ready (rs := [6]) (by kernel_rfl) (by simp) ?_
        refine AllReadyH.cons (ops_at rfl) (fun K hK => ?_) AllReadyH.nil
        go_simp
        refine (pzAll_any A2 n2 c2 (dropC cs k) N _ _ _ hN hl2 (by omega) HCL.out ho2.seg (Nat.le_refl _)).mono ?_
        rintro e xb ⟨v, vs, rfl, hr, hbxb⟩
        obtain ⟨A', c', rfl⟩ := hr.form
        obtain ⟨m, hm⟩ : ∃ m, (solF toldV N (dropC cs k)).length = m := ⟨_, rfl⟩
        have hm1 : cntC N (dropC cs k) = m := hm
        rw [hm] at hr ⊢
        clear hr hm
        have hPb := (hbxb.block _ (by omega)).trans hPa
        refine hK.out _ _ hPb (fun hH2 => ?_)
        clear hK K
        have HBY := Lib.hid (hbr.trans ((hd0.trans ((hbxa.trans (hbxb.mono hzxa)).mono hzd)).mono hzr))
        have HOWY := Lib.hid (row_below (row_below (row_below hown hd0) hbxa) hbxb)
        have hzY := HBY.out.size
        clear hown
        by_cases hmm : m = M
        · have emm : ((m : Int) == (M : Int)) = true := by simp [hmm]
          have HNJ := Lib.hid (needL_yes (by rw [hm1, HMM.out]; exact hmm))
          refine wpAnyH_take (i := 7) (v := ?_) (ops_at rfl) (by kernel_rfl) (by kernel_rfl) (by kernel_rfl) (fun _ _ _ h => h) (Or.inl ⟨by rfl, ?yb7⟩) (by assumption) ?nb7
          case yb7 => (intro wS hSw; go_simp; try rfl)
          try simp only [Act.put, List.setIfInBounds_toArray, List.set_cons_zero, List.set_cons_succ]
          refine wpAnyH_take (i := 9) (v := ?_) (ops_at rfl) (by kernel_rfl) (by kernel_rfl) (by kernel_rfl) (fun _ _ _ h => h) (Or.inl ⟨by rfl, ?yb9⟩) (by assumption) ?nb9
          case yb9 => (intro wS hSw; go_simp; try rfl)
          try simp only [Act.put, List.setIfInBounds_toArray, List.set_cons_zero, List.set_cons_succ]
          refine wpAnyH_done (by kernel_rfl) ?_ _
          have HOW1 := Lib.hid (HOWY.out.alloc (.cells #[.int .i64 (k : Int)] 3))
          have HSJ := Lib.hid (seg_one xb (k : Int) 3)
          have HLT := Lib.hid HOWY.out.lt
          go_wp2_with (at_builtin; refine wpList_append_seg _ rfl _ _ 39 rfl u1.heap.size 3 i0 Try.underlying39 hi0 hy0 hy1 hy2 _ na _ rfl HOW1.out _ 1 1 [(k : Int)] _ _ rfl rfl HSJ.out (by omega) (by simp; omega) ?_; intro v7 w7 hown7 hgr7; obtain ⟨A7, c7, rfl⟩ := ownsRow_form hown7; have HO7 := Lib.hid hown7; have HB7 := Lib.hid ((HBY.out.alloc HBY.out.size _).grown hgr7 (by simp; omega) (fun g' hg' => (HLT.out g' hg').1)); clear hown7 hgr7)
          go_roundw
          case rel => exact ⟨k + 1, by omega, by go_num, HB7.out, by rw [HNJ.out, List.length_append, HNA.out, List.map_append]; exact HO7.out⟩
          case measure => simp [intOf]; omega
        · have emm : ((m : Int) == (M : Int)) = false := by simp; omega
          have HNJ := Lib.hid (needL_no (by rw [hm1, HMM.out]; exact hmm))
          refine wpAnyH_take (i := 7) (v := ?_) (ops_at rfl) (by kernel_rfl) (by kernel_rfl) (by kernel_rfl) (fun _ _ _ h => h) (Or.inl ⟨by rfl, ?yc7⟩) (by assumption) ?nc7
          case yc7 => (intro wS hSw; go_simp; try rfl)
          try simp only [Act.put, List.setIfInBounds_toArray, List.set_cons_zero, List.set_cons_succ]
          refine wpAnyH_take (i := 9) (v := ?_) (ops_at rfl) (by kernel_rfl) (by kernel_rfl) (by kernel_rfl) (fun _ _ _ h => h) (Or.inl ⟨by rfl, ?yc9⟩) (by assumption) ?nc9
          case yc9 => (intro wS hSw; go_simp; try rfl)
          try simp only [Act.put, List.setIfInBounds_toArray, List.set_cons_zero, List.set_cons_succ]
          refine wpAnyH_done (by kernel_rfl) ?_ _
          go_wp2
          go_roundw
          case rel => exact ⟨k + 1, by omega, by go_num, HBY.out, by rw [HNJ.out, HNA.out]; exact HOWY.out⟩
          case measure => simp [intOf]; omega
      · obtain rfl : k = n := by omega
        have hfo := (ownsRow_own (ys := needL N cs k) (by rw [HNA.out]; exact hown)).2
        have hBR := yu.trans (hbr.mono yu.size)
        clear hown
        go_wp2
        go_ret2
        exact ⟨Ba, na, da, rfl, HNA.out, hfo.more (by omega) (Nat.le_refl _), hBR⟩

set_option maxRecDepth 100000 in
set_option maxHeartbeats 4000000 in
theorem impl_NeedlessClues (t : Int) (A : Option Addr) (n c : Nat) (cs : List Clu) (lo hi : Nat) (w : World) (hn : cs.length = n) (hlen : n ≤ 1048576) (hnc : n ≤ c) (hs : Seg w lo hi A (flat4 cs)) (hB : hi ≤ w.heap.size) (q : Bool) (hq : puzB t cs = q) :
    Calls Try.prog 47 #[pzV t A n c] w (RetL q (someN q (needL t.toNat cs n)) w) := by
  obtain ⟨d, hd⟩ : ∃ d, cntN t cs = d := ⟨_, rfl⟩
  have HDD := Lib.hid hd
  clear hd
  obtain ⟨W, hW⟩ : ∃ W, w.alloc (.cells #[.int .i64 t, .slice A n c] 35) = W := ⟨_, rfl⟩
  have z0 : Below w.heap.size w W := by rw [← hW]; exact (Below.refl _ _).alloc (Nat.le_refl _) _
  have p0 : W.heap[w.heap.size]? = some (.cells #[.int .i64 t, .slice A n c] 35 (0, 0)) := by rw [← hW]; exact new_at _ _ rfl
  have hsz := heap_lt p0
  have sW := hs.below z0 hB
  have HW := Lib.hid hW
  have HN := Lib.hid hn
  have HQ := Lib.hid hq
  clear hW hn hq
  have q0 := cell_of p0 0
  have q1 := cell_of p0 1
  simp only [List.getElem?_toArray, List.getElem?_cons_zero, List.getElem?_cons_succ] at q0 q1
  go_enter Try.func47, Try.ntmps47
  go_wp2_with fail
  rw [HW.out]
  refine (impl_CountSolutions t A n c cs lo hi _ HN.out hlen sW (by omega) q HQ.out d HDD.out).mono ?_
  rintro e v1 ⟨rfl, hb1⟩
  have hz1 := hb1.size
  have y1 := z0.trans (hb1.mono (by omega))
  have p1 := (hb1.block _ hsz).trans p0
  have s1 := sW.below hb1 (by omega)
  clear q0 q1
  have q0 := cell_of p1 0
  have q1 := cell_of p1 1
  simp only [List.getElem?_toArray, List.getElem?_cons_zero, List.getElem?_cons_succ] at q0 q1
  cases q
  · go_wp2
    go_ret2
    exact ⟨none, 0, 0, rfl, rfl, Own.nil_, y1⟩
  · obtain ⟨⟨t1, t2⟩, h6, hcl⟩ := puzB_true.1 HQ.out
    obtain ⟨N, rfl⟩ : ∃ N : Nat, t = (N : Int) := ⟨t.toNat, by omega⟩
    have hN : N = 2 ∨ N = 3 ∨ N = 4 := by omega
    have hn6 : n ≤ 6 := by have := HN.out; omega
    have hv1 : w.heap.size < v1.heap.size := by omega
    have HLL := Lib.hid (show someN true (needL (Int.toNat (N : Int)) cs n) = needL N cs n from rfl)
    rw [HLL.out]
    obtain ⟨i0, hi0, hy0, hy1, hy2⟩ := info_parts int_info
    obtain ⟨M, hM⟩ : ∃ M, cntC N cs = M := ⟨_, rfl⟩
    have hd2 : d = (M : Int) := by rw [← HDD.out, cntN, if_pos HQ.out, ← hM]; rfl
    subst hd2
    have HMM := Lib.hid hM
    clear hM
    have hzu := Nat.le_refl v1.heap.size
    obtain ⟨u1, hu1⟩ : ∃ u, v1 = u := ⟨_, rfl⟩
    subst hu1
    have yu := y1
    have pu := p1
    have su := s1
    go_wp2
    clear q0 q1
    go_loopw [6, 7, 18] (fun o _ i wr => ∃ k : Nat, k ≤ n ∧ i = .int .i64 (k : Int) ∧ Below v1.heap.size v1 wr ∧ wr.ownsRow v1.heap.size 3 1 o (needL N cs k).length ((needL N cs k).map (Value.int .i64))) (fun _ _ i _ => n - (intOf i).toNat)
    case atStart => exact ⟨0, Nat.zero_le _, rfl, Below.refl _ _, World.ownsRow_nil _ _ _ _⟩
    case round =>
      rename World => wr
      obtain ⟨k, hk, rfl, hbr, hown⟩ := hrel
      obtain ⟨Ba, da, rfl⟩ := ownsRow_form hown
      obtain ⟨na, hna⟩ : ∃ na, (needL N cs k).length = na := ⟨_, rfl⟩
      rw [hna] at hown ⊢
      have hna6 : na ≤ 6 := by rw [← hna]; exact Nat.le_trans (needL_len _ _ _) (by omega)
      have HNA := Lib.hid hna
      have hzr := hbr.size
      have p2 := (hbr.block _ (by omega)).trans pu
      have s2 := su.below hbr (by omega)
      clear hna
      have q0 := cell_of p2 0
      have q1 := cell_of p2 1
      simp only [List.getElem?_toArray, List.getElem?_cons_zero, List.getElem?_cons_succ] at q0 q1
      by_cases hlt : k < n
      · have hlt' : decide ((k : Int) < (n : Int)) = true := decide_eq_true (by omega)
        go_wp2_with fail
        refine (without_any (N : Int) A n c k cs lo hi _ HN.out (by omega) hnc hlt s2 (by omega)).mono ?_
        rintro e xa ⟨A2, n2, c2, rfl, hl2, hnc2, ho2, hbxa⟩
        have hzxa := hbxa.size
        have hn2 : n2 ≤ 6 := by have := dropC_length (cs := cs) (k := k) (by rw [HN.out]; exact hlt); have := HN.out; omega
        have HCL := Lib.hid (dropC_clues (k := k) hcl)
        go_wp2_with fail
        refine (countSolutions_any N A2 n2 c2 (dropC cs k) _ _ _ hN hl2 (by omega) HCL.out ho2.seg (Nat.le_refl _)).mono ?_
        rintro e xb ⟨rfl, hbxb⟩
        obtain ⟨m, hm⟩ : ∃ m, (solF toldV N (dropC cs k)).length = m := ⟨_, rfl⟩
        have hm1 : cntC N (dropC cs k) = m := hm
        rw [hm]
        clear hm q0 q1
        have HBY := Lib.hid (hbr.trans ((hbxa.trans (hbxb.mono hzxa)).mono hzr))
        have HOWY := Lib.hid (row_below (row_below hown hbxa) hbxb)
        have hzY := HBY.out.size
        clear hown
        by_cases hmm : m = M
        · have emm : ((m : Int) == (M : Int)) = true := by simp [hmm]
          have HNJ := Lib.hid (needL_yes (by rw [hm1, HMM.out]; exact hmm))
          have HOW1 := Lib.hid (HOWY.out.alloc (.cells #[.int .i64 (k : Int)] 3))
          have HSJ := Lib.hid (seg_one xb (k : Int) 3)
          have HLT := Lib.hid HOWY.out.lt
          go_wp2_with (at_builtin; refine wpList_append_seg _ rfl _ _ 39 rfl v1.heap.size 3 i0 Try.underlying39 hi0 hy0 hy1 hy2 _ na _ rfl HOW1.out _ 1 1 [(k : Int)] _ _ rfl rfl HSJ.out (by omega) (by simp; omega) ?_; intro v7 w7 hown7 hgr7; obtain ⟨A7, c7, rfl⟩ := ownsRow_form hown7; have HO7 := Lib.hid hown7; have HB7 := Lib.hid ((HBY.out.alloc HBY.out.size _).grown hgr7 (by simp; omega) (fun g' hg' => (HLT.out g' hg').1)); clear hown7 hgr7)
          go_roundw
          case rel => exact ⟨k + 1, by omega, by go_num, HB7.out, by rw [HNJ.out, List.length_append, HNA.out, List.map_append]; exact HO7.out⟩
          case measure => simp [intOf]; omega
        · have emm : ((m : Int) == (M : Int)) = false := by simp; omega
          have HNJ := Lib.hid (needL_no (by rw [hm1, HMM.out]; exact hmm))
          go_wp2
          go_roundw
          case rel => exact ⟨k + 1, by omega, by go_num, HBY.out, by rw [HNJ.out, HNA.out]; exact HOWY.out⟩
          case measure => simp [intOf]; omega
      · obtain rfl : k = n := by omega
        have hfo := (ownsRow_own (ys := needL N cs k) (by rw [HNA.out]; exact hown)).2
        have hBR := yu.trans (hbr.mono yu.size)
        clear hown
        go_wp2
        go_ret2
        exact ⟨Ba, na, da, rfl, HNA.out, hfo.more (by omega) (Nat.le_refl _), hBR⟩
end Go.Proofs.Ytoheoojpmndhoaa
