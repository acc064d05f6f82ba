/-
  How many hidden things fit the first clues, by both programs.
  Conditions: none.
-/
import Derived.Test.YtoheoojpmndhoaaPzH
import Derived.Test.YtoheoojpmndhoaaPzX
import Derived.Test.YtoheoojpmndhoaaL1Own
import Derived.Test.YtoheoojpmndhoaaArr
namespace Go.Proofs.Ytoheoojpmndhoaa
set_option linter.unusedVariables false
set_option linter.unusedSimpArgs false
open Go.RowKit

theorem leftL_set {N : Nat} {cs : List Clu} {n k m : Nat} (hm : cntC N (cs.take k) = m) (hk : k < n + 1) : (leftL N cs k ++ List.replicate (n + 1 - k) 0).set k (m : Int) = leftL N cs (k + 1) ++ List.replicate (n + 1 - (k + 1)) 0 := by
  obtain ⟨r, hr⟩ : ∃ r, n + 1 - k = r + 1 := ⟨n - k, by omega⟩
  rw [hr, show n + 1 - (k + 1) = r by omega, List.replicate_succ, leftL_succ, hm, List.set_append_right _ _ (by rw [leftL_length]; omega), leftL_length, Nat.sub_self]
  simp

set_option maxRecDepth 100000 in
set_option maxHeartbeats 4000000 in
theorem spec_LeftByClues (t : Int) (A : Option Addr) (n c : Nat) (cs : List Clu) (lo hi : Nat) (w : World) (hn : cs.length = n) (hlen : n ≤ 1048576) (hnc : n ≤ c) (hs : Seg w lo hi A (flat4 cs)) (hB : hi ≤ w.heap.size) (q : Bool) (hq : puzB t cs = q) :
    Calls Try.prog 53 #[pzV t A n c] w (RetL q (someN q (leftL t.toNat cs (n + 1))) w) := by
  obtain ⟨W, hW⟩ : ∃ W, w.alloc (.cells #[.int .i64 t, .slice A n c] 35) = W := ⟨_, rfl⟩
  have z0 : Below w.heap.size w W := by rw [← hW]; exact (Below.refl _ _).alloc (Nat.le_refl _) _
  have p0 : W.heap[w.heap.size]? = some (.cells #[.int .i64 t, .slice A n c] 35 (0, 0)) := by rw [← hW]; exact new_at _ _ rfl
  have hsz := heap_lt p0
  have sW := hs.below z0 hB
  have HW := Lib.hid hW
  have HN := Lib.hid hn
  have HQ := Lib.hid hq
  clear hW hn hq
  have q0 := cell_of p0 0
  have q1 := cell_of p0 1
  simp only [List.getElem?_toArray, List.getElem?_cons_zero, List.getElem?_cons_succ] at q0 q1
  go_enter Try.func53, Try.ntmps53
  go_wp2_with fail
  rw [HW.out]
  refine (pzGood_Q t A n c cs lo hi _ HN.out hlen sW (by omega) q HQ.out).mono ?_
  rintro e v1 ⟨rfl, hb1⟩
  have hz1 := hb1.size
  have y1 := z0.trans (hb1.mono (by omega))
  have p1 := (hb1.block _ hsz).trans p0
  have s1 := sW.below hb1 (by omega)
  clear q0 q1
  have q0 := cell_of p1 0
  have q1 := cell_of p1 1
  simp only [List.getElem?_toArray, List.getElem?_cons_zero, List.getElem?_cons_succ] at q0 q1
  cases q
  · go_wp2
    go_ret2
    exact ⟨none, 0, 0, rfl, rfl, Own.nil_, y1⟩
  · obtain ⟨⟨t1, t2⟩, h6, hcl⟩ := puzB_true.1 HQ.out
    obtain ⟨N, rfl⟩ : ∃ N : Nat, t = (N : Int) := ⟨t.toNat, by omega⟩
    have hN : N = 2 ∨ N = 3 ∨ N = 4 := by omega
    have hn6 : n ≤ 6 := by have := HN.out; omega
    have hv1 : w.heap.size < v1.heap.size := by omega
    have HLL := Lib.hid (show someN true (leftL (Int.toNat (N : Int)) cs (n + 1)) = leftL N cs (n + 1) from rfl)
    rw [HLL.out]
    obtain ⟨i0, hi0, hy0, hy1, hy2⟩ := info_parts int_info
    go_wp2
    clear q0 q1
    go_loopw [4, 5] (fun o i wr => ∃ k : Nat, k ≤ n + 1 ∧ i = .int .i64 (k : Int) ∧ Below v1.heap.size v1 wr ∧ wr.ownsRow v1.heap.size 3 1 o k ((leftL N cs k).map (Value.int .i64))) (fun _ i _ => n + 1 - (intOf i).toNat)
    case atStart => exact ⟨0, Nat.zero_le _, rfl, Below.refl _ _, World.ownsRow_nil _ _ _ _⟩
    case round =>
      rename World => wr
      obtain ⟨k, hk, rfl, hbr, hown⟩ := hrel
      obtain ⟨Ba, da, rfl⟩ := ownsRow_form hown
      have hzr := hbr.size
      have p2 := (hbr.block _ hv1).trans p1
      have q0 := cell_of p2 0
      have q1 := cell_of p2 1
      simp only [List.getElem?_toArray, List.getElem?_cons_zero, List.getElem?_cons_succ] at q0 q1
      by_cases hlt : k ≤ n
      · have tc := cut_to A n c k (by omega)
        have hle : decide ((k : Int) ≤ (n : Int)) = true := decide_eq_true (by omega)
        go_wp2_with fail
        clear q0 q1
        refine wp_region_held_drew (S := (fun wq => wq.heap[w.heap.size]? = some (.cells #[.int .i64 (N : Int), .slice A n c] 35 (0, 0)))) (by kernel_rfl) p2 (fun hH0 => ?_)
        refine wpAnyH_take (i := 0) (v := ?_) (ops_at rfl) (by kernel_rfl) (by kernel_rfl) (by kernel_rfl) (fun _ _ _ h => h) (Or.inl ⟨by rfl, ?ya0⟩) (by assumption) ?na0
        case ya0 => (intro wS hSw; have q0 := cell_of hSw 0; have q1 := cell_of hSw 1; go_simp; try rfl)
        try simp only [Act.put, List.setIfInBounds_toArray, List.set_cons_zero, List.set_cons_succ]
        refine wpAnyH_take (i := 1) (v := ?_) (ops_at rfl) (by kernel_rfl) (by kernel_rfl) (by kernel_rfl) (fun _ _ _ h => h) (Or.inl ⟨by rfl, ?ya1⟩) (by assumption) ?na1
        case ya1 => (intro wS hSw; have q0 := cell_of hSw 0; have q1 := cell_of hSw 1; go_simp; try rfl)
        try simp only [Act.put, List.setIfInBounds_toArray, List.set_cons_zero, List.set_cons_succ]
        refine wpAnyH_take (i := 2) (v := ?_) (ops_at rfl) (by kernel_rfl) (by kernel_rfl) (by kernel_rfl) (fun _ _ _ h => h) (Or.inl ⟨by rfl, ?ya2⟩) (by assumption) ?na2
        case ya2 => (intro wS hSw; have q0 := cell_of hSw 0; have q1 := cell_of hSw 1; go_simp; try rfl)
        try simp only [Act.put, List.setIfInBounds_toArray, List.set_cons_zero, List.set_cons_succ]
        refine wpAnyH_take (i := 3) (v := ?_) (ops_at rfl) (by kernel_rfl) (by kernel_rfl) (by kernel_rfl) (fun _ _ _ h => h) (Or.inl ⟨by rfl, ?ya3⟩) (by assumption) ?na3
        case ya3 => (intro wS hSw; have q0 := cell_of hSw 0; have q1 := cell_of hSw 1; go_simp; try rfl)
        try simp only [Act.put, List.setIfInBounds_toArray, List.set_cons_zero, List.set_cons_succ]
        refine wpAnyH_take (i := 4) (v := ?_) (ops_at rfl) (by kernel_rfl) (by kernel_rfl) (by kernel_rfl) (fun _ _ _ h => h) (Or.inl ⟨by rfl, ?ya4⟩) (by assumption) ?na4
        case ya4 => (intro wS hSw; have q0 := cell_of hSw 0; have q1 := cell_of hSw 1; go_simp; try rfl)
        try simp only [Act.put, List.setIfInBounds_toArray, List.set_cons_zero, List.set_cons_succ]
        refine wpAnyH_take (i := 5) (v := ?_) (ops_at rfl) (by kernel_rfl) (by kernel_rfl) (by kernel_rfl) (fun _ _ _ h => h) (Or.inl ⟨by rfl, ?ya5⟩) (by assumption) ?na5
        case ya5 => (intro wS hSw; have q0 := cell_of hSw 0; have q1 := cell_of hSw 1; go_simp; try rfl)
        try simp only [Act.put, List.setIfInBounds_toArray, List.set_cons_zero, List.set_cons_succ]
        refine wpAnyH_take (i := 6) (v := ?_) (ops_at rfl) (by kernel_rfl) (by kernel_rfl) (by kernel_rfl) (fun _ _ _ h => h) (Or.inl ⟨by rfl, ?ya6⟩) (by assumption) ?na6
        case ya6 => (intro wS hSw; have q0 := cell_of hSw 0; have q1 := cell_of hSw 1; go_simp; try rfl)
        try simp only [Act.put, List.setIfInBounds_toArray, List.set_cons_zero, List.set_cons_succ]
        obtain ⟨v0, hv0⟩ : ∃ u, wr.drew = u := ⟨_, rfl⟩
        have hd0 : Below wr.heap.size wr v0 := by rw [← hv0]; exact (Below.refl _ _).drew
        rw [hv0] at hH0 ⊢
        clear hv0
        have hzd := hd0.size
        have s0 := (s1.below hbr (by omega)).below hd0 (by omega)
        have sc := cut_seg s0 c 0 k (Nat.zero_le _) (by have := HN.out; omega) (by omega)
        have e1 : cutV A c 0 = A := by unfold cutV; cases A <;> simp [Addr.add]
        rw [e1, List.drop_zero] at sc
        have hkl : (cs.take k).length = k := by have := HN.out; simp; omega
        have HKL := Lib.hid hkl
        have hcl' : ∀ x ∈ cs.take k, clueB (N : Int) x = true := fun x hx => hcl x (List.mem_of_mem_take hx)
        clear e1 hkl
        refine wpAnyH_ready (rs := [7]) (by kernel_rfl) (by simp) ?_
        refine AllReadyH.cons (ops_at rfl) (fun K hK => ?_) AllReadyH.nil
        go_simp
        refine (pzAll_any A k c (cs.take k) N lo hi _ hN HKL.out (by omega) hcl' sc (by omega)).mono ?_
        rintro e v3 ⟨v, vs, rfl, hr, hb3⟩
        obtain ⟨A', c', rfl⟩ := hr.form
        obtain ⟨m, hm⟩ : ∃ m, (solF toldV N (cs.take k)).length = m := ⟨_, rfl⟩
        have hm1 : cntC N (cs.take k) = m := hm
        have hm2 : m ≤ 1296 := by rw [← hm1]; exact cntC_le hN _
        rw [hm] at hr ⊢
        clear hr hm
        have hz3 := hb3.size
        have hP3 := (hb3.block _ (by omega)).trans hH0
        have hw3 := row_below (row_below hown hd0) hb3
        refine hK.out _ _ hP3 (fun hH1 => ?_)
        clear hK K
        refine wpAnyH_take (i := 8) (v := ?_) (ops_at rfl) (by kernel_rfl) (by kernel_rfl) (by kernel_rfl) (fun _ _ _ h => h) (Or.inl ⟨by rfl, ?yb8⟩) (by assumption) ?nb8
        case yb8 => (intro wS hSw; go_simp; try rfl)
        try simp only [Act.put, List.setIfInBounds_toArray, List.set_cons_zero, List.set_cons_succ]
        refine wpAnyH_ready (rs := [9]) (by kernel_rfl) (by simp) ?_
        refine AllReadyH.cons (ops_at rfl) (fun K hK => ?_) AllReadyH.nil
        go_simp
        have hal := (Below.refl v3.heap.size v3).alloc (Nat.le_refl _) (.cells #[.int .i64 (m : Int)] 3)
        have hz4 : (v3.alloc (.cells #[.int .i64 (m : Int)] 3)).heap.size = v3.heap.size + 1 := by simp
        have hsg := seg_one v3 (m : Int) 3
        have hP4 := (hal.block _ (by omega)).trans hP3
        have hw4 := row_below hw3 hal
        have hB4 := hbr.trans ((hd0.trans ((hb3.trans (hal.mono hz3)).mono hzd)).mono hzr)
        obtain ⟨v4, hv4⟩ : ∃ u, v3.alloc (.cells #[.int .i64 (m : Int)] 3) = u := ⟨_, rfl⟩
        rw [hv4] at hal hz4 hsg hP4 hw4 hB4 ⊢
        clear hv4
        refine hK.out _ _ hP4 (fun hH2 => ?_)
        clear hK K
        refine wpAnyH_ready (rs := [10]) (by kernel_rfl) (by simp) ?_
        refine AllReadyH.cons (ops_at rfl) (fun K hK => ?_) AllReadyH.nil
        refine step_append_seg _ rfl (.tmp 16) (.tmp 25) 39 rfl v1.heap.size 3 i0 Try.underlying39 hi0 hy0 hy1 hy2 _ k _ rfl hw4 _ 1 1 [(m : Int)] _ _ rfl rfl hsg (by omega) (by omega) ?_
        intro v5 w5 hown5 hgr5
        obtain ⟨A5, c5, rfl⟩ := ownsRow_form hown5
        have hB5 := hB4.grown hgr5 (by omega) (fun g hg => (hw4.lt g hg).1)
        have hP5 := (hB5.block _ hv1).trans p1
        refine hK.out _ _ hP5 (fun hH3 => ?_)
        clear hK K
        refine wpAnyH_take (i := 11) (v := ?_) (ops_at rfl) (by kernel_rfl) (by kernel_rfl) (by kernel_rfl) (fun _ _ _ h => h) (Or.inl ⟨by rfl, ?yc11⟩) (by assumption) ?nc11
        case yc11 => (intro wS hSw; go_simp; try rfl)
        try simp only [Act.put, List.setIfInBounds_toArray, List.set_cons_zero, List.set_cons_succ]
        refine wpAnyH_done (by kernel_rfl) ?_ _
        go_wp2
        go_roundw
        case rel => exact ⟨k + 1, by omega, by go_num, hB5, by rw [leftL_succ, hm1, List.map_append]; exact hown5⟩
        case measure => simp [intOf]; omega
      · obtain rfl : k = n + 1 := by omega
        have hle : decide (((n + 1 : Nat) : Int) ≤ (n : Int)) = false := decide_eq_false (by omega)
        have hle' : decide ((n : Int) + 1 ≤ (n : Int)) = false := decide_eq_false (by omega)
        have hfo := (ownsRow_own (ys := leftL N cs (n + 1)) (by rw [leftL_length]; exact hown)).2
        have hBR := y1.trans (hbr.mono y1.size)
        clear hown
        go_wp2
        go_ret2
        exact ⟨Ba, n + 1, da, by first | rfl | simp, leftL_length _ _ _, hfo.more (by omega) (Nat.le_refl _), hBR⟩

set_option maxRecDepth 100000 in
set_option maxHeartbeats 4000000 in
theorem impl_LeftByClues (t : Int) (A : Option Addr) (n c : Nat) (cs : List Clu) (lo hi : Nat) (w : World) (hn : cs.length = n) (hlen : n ≤ 1048576) (hnc : n ≤ c) (hs : Seg w lo hi A (flat4 cs)) (hB : hi ≤ w.heap.size) (q : Bool) (hq : puzB t cs = q) :
    Calls Try.prog 54 #[pzV t A n c] w (RetL q (someN q (leftL t.toNat cs (n + 1))) w) := by
  obtain ⟨W, hW⟩ : ∃ W, w.alloc (.cells #[.int .i64 t, .slice A n c] 35) = W := ⟨_, rfl⟩
  have z0 : Below w.heap.size w W := by rw [← hW]; exact (Below.refl _ _).alloc (Nat.le_refl _) _
  have p0 : W.heap[w.heap.size]? = some (.cells #[.int .i64 t, .slice A n c] 35 (0, 0)) := by rw [← hW]; exact new_at _ _ rfl
  have hsz := heap_lt p0
  have sW := hs.below z0 hB
  have HW := Lib.hid hW
  have HN := Lib.hid hn
  have HQ := Lib.hid hq
  clear hW hn hq
  have q0 := cell_of p0 0
  have q1 := cell_of p0 1
  simp only [List.getElem?_toArray, List.getElem?_cons_zero, List.getElem?_cons_succ] at q0 q1
  go_enter Try.func54, Try.ntmps54
  go_wp2_with fail
  rw [HW.out]
  refine (impl_IsPuzzleQ t A n c cs lo hi _ HN.out hlen sW (by omega) q HQ.out).mono ?_
  rintro e v1 ⟨rfl, hb1⟩
  have hz1 := hb1.size
  have y1 := z0.trans (hb1.mono (by omega))
  have p1 := (hb1.block _ hsz).trans p0
  have s1 := sW.below hb1 (by omega)
  clear q0 q1
  have q0 := cell_of p1 0
  have q1 := cell_of p1 1
  simp only [List.getElem?_toArray, List.getElem?_cons_zero, List.getElem?_cons_succ] at q0 q1
  cases q
  · go_wp2
    go_ret2
    exact ⟨none, 0, 0, rfl, rfl, Own.nil_, y1⟩
  · obtain ⟨⟨t1, t2⟩, h6, hcl⟩ := puzB_true.1 HQ.out
    obtain ⟨N, rfl⟩ : ∃ N : Nat, t = (N : Int) := ⟨t.toNat, by omega⟩
    have hN : N = 2 ∨ N = 3 ∨ N = 4 := by omega
    have hn6 : n ≤ 6 := by have := HN.out; omega
    have hv1 : w.heap.size < v1.heap.size := by omega
    have HLL := Lib.hid (show someN true (leftL (Int.toNat (N : Int)) cs (n + 1)) = leftL N cs (n + 1) from rfl)
    rw [HLL.out]
    obtain ⟨i0, hi0, hy0, hy1, hy2⟩ := info_parts int_info
    have hmk : ∀ W : World, (Instr.makeSlice 39 (.int .i64 ((n : Int) + 1)) (.int .i64 ((n : Int) + 1))).run Try.prog W = .ok (.slice (some ⟨W.heap.size, 0, none⟩) (n + 1) (n + 1)) (W.alloc (.cells (madeCells #[.int .i64 0] (n + 1)) 3)) := fun W =>
      run_make_row' 39 3 (.int .i64 0) 8 Try.underlying39 int_info rfl .i64 .i64 (n + 1) (by omega) (by omega) W
    have hA0 : Arr (v1.alloc (.cells (madeCells #[.int .i64 0] (n + 1)) 3)) v1.heap.size 3 (leftL N cs 0 ++ List.replicate (n + 1 - 0) 0) := arr_new v1 3 (n + 1)
    have HA0 := Lib.hid hA0
    clear hA0
    go_wp2_with fail
    clear hmk q0 q1
    go_loopw [5, 16] (fun _ i wr => ∃ k : Nat, k ≤ n + 1 ∧ i = .int .i64 (k : Int) ∧ Below v1.heap.size v1 wr ∧ Arr wr v1.heap.size 3 (leftL N cs k ++ List.replicate (n + 1 - k) 0)) (fun _ i _ => n + 1 - (intOf i).toNat)
    case atStart => exact ⟨0, Nat.zero_le _, rfl, (Below.refl _ _).alloc (Nat.le_refl _) _, HA0.out⟩
    case round =>
      rename World => wr
      obtain ⟨k, hk, rfl, hbr, harr⟩ := hrel
      have hzr := hbr.size
      have hgr := harr.lt
      have p2 := (hbr.block _ hv1).trans p1
      have q0 := cell_of p2 0
      have q1 := cell_of p2 1
      simp only [List.getElem?_toArray, List.getElem?_cons_zero, List.getElem?_cons_succ] at q0 q1
      by_cases hlt : k < n + 1
      · have hlt' : decide ((k : Int) < (n : Int) + 1) = true := decide_eq_true (by omega)
        have s2 := s1.below hbr (by omega)
        have hcu := cut_any (N : Int) A n c 0 k wr hlen hnc (Nat.zero_le _) (by omega)
        have HCU := Lib.hid hcu
        clear hcu
        go_wp2_with fail
        first | refine HCU.out.mono ?_ | (simp only [Int.natCast_zero] at HCU; refine HCU.out.mono ?_)
        rintro e v2 ⟨rfl, hb2⟩
        have hz2 := hb2.size
        have sc := (cut_seg s2 k 0 k (Nat.zero_le _) (by have := HN.out; omega) (Nat.le_refl _)).below hb2 (by omega)
        rw [List.drop_zero] at sc
        have hkl : (cs.take k).length = k - 0 := by have := HN.out; simp; omega
        have HKL := Lib.hid hkl
        have hcl' : ∀ x ∈ cs.take k, clueB (N : Int) x = true := fun x hx => hcl x (List.mem_of_mem_take hx)
        clear hkl
        go_wp2_with fail
        refine (countSolutions_any N (cutV A k 0) (k - 0) (k - 0) (cs.take k) lo hi _ hN HKL.out (by omega) hcl' sc (by omega)).mono ?_
        rintro e v3 ⟨rfl, hb3⟩
        obtain ⟨m, hm⟩ : ∃ m, (solF toldV N (cs.take k)).length = m := ⟨_, rfl⟩
        have hm1 : cntC N (cs.take k) = m := hm
        have hm2 : m ≤ 1296 := by rw [← hm1]; exact cntC_le hN _
        rw [hm]
        clear hm
        have hz3 := hb3.size
        have harr3 := (harr.keep (hb2.block _ hgr)).keep (hb3.block _ (by omega))
        have hB3 := hbr.trans ((hb2.trans (hb3.mono hz2)).mono hzr)
        obtain ⟨uo, huo, hcell⟩ := harr3.at_ (k := k) (by simp [leftL_length]; omega)
        have hfz := harr3.frozen k
        have hset := harr3.set k (m : Int)
        rw [leftL_set hm1 (by omega)] at hset
        have HS := Lib.hid hset
        have HBS := Lib.hid (hB3.setCell (p := ⟨v1.heap.size, k, none⟩) (Nat.le_refl _) (.int .i64 (m : Int)))
        clear hset harr harr3 huo hB3 sc s2 q0 q1
        go_wp2
        go_roundw
        case rel => exact ⟨k + 1, by omega, by go_num, HBS.out, HS.out⟩
        case measure => simp [intOf]; omega
      · obtain rfl : k = n + 1 := by omega
        have hle' : decide ((n : Int) + 1 < (n : Int) + 1) = false := decide_eq_false (by omega)
        rw [Nat.sub_self, List.replicate_zero, List.append_nil] at harr
        have hfo := harr.own (lo := v1.heap.size) (hi := wr.heap.size) (Nat.le_refl _) hgr
        have hBR := y1.trans (hbr.mono y1.size)
        clear harr
        go_wp2
        go_ret2
        exact ⟨_, n + 1, n + 1, rfl, leftL_length _ _ _, hfo.more (by omega) (Nat.le_refl _), hBR⟩
end Go.Proofs.Ytoheoojpmndhoaa
