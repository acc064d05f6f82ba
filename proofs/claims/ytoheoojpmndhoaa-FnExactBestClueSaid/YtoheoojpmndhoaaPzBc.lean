/-
  The clue that alone the fewest hidden things fit, by both programs.
  Conditions: none.
-/
import Derived.Test.YtoheoojpmndhoaaPzH
import Derived.Test.YtoheoojpmndhoaaPzX
namespace Go.Proofs.Ytoheoojpmndhoaa
set_option linter.unusedVariables false
set_option linter.unusedSimpArgs false
open Go.RowKit

theorem cut_mid (A : Option Addr) (n c lo hi : Nat) (h1 : lo ≤ hi) (h2 : hi ≤ c) (W : World) : (Instr.sliceAt 33 (.slice A n c) (some (.int .i64 (lo : Int))) (some (.int .i64 (hi : Int))) none).run Try.prog W = .ok (.slice (cutV A c lo) (hi - lo) (c - lo)) W := by
  have ht : Try.prog.underlying 33 = some (.slice (Try.prog.elem 33)) := by kernel_rfl
  have hs : (sizeOf (Try.prog.elem 33)).run Try.prog W = .ok 4 W := by kernel_rfl
  rw [run_sliceAt_slice _ _ _ _ _ _ ht, run_slice_lh _ _ _ _ _ ht .i64 .i64 _ _ (by omega) (by omega) (by omega), hs]
  rfl

set_option maxRecDepth 100000 in
set_option maxHeartbeats 4000000 in
theorem spec_BestClue (t : Int) (A : Option Addr) (n c : Nat) (cs : List Clu) (lo hi : Nat) (w : World) (hn : cs.length = n) (hlen : n ≤ 1048576) (hnc : n ≤ c) (hs : Seg w lo hi A (flat4 cs)) (hB : hi ≤ w.heap.size) (q : Bool) (hq : bestB t cs = q) (d : Int) (hd : bestV t cs = d) :
    Calls Try.prog 55 #[pzV t A n c] w (fun e w' => e = .returned (.tuple #[.int .i64 d, .bool q]) ∧ Below w.heap.size w w') := by
  obtain ⟨g, hg⟩ : ∃ g, puzB t cs = g := ⟨_, rfl⟩
  have hqq : q = (g && decide (n ≠ 0)) := by rw [← hq, bestB, hg, hn]
  have HQQ := Lib.hid hqq
  have HQ0 := Lib.hid hq
  have HD := Lib.hid hd
  clear hqq hq hd
  obtain ⟨W, hW⟩ : ∃ W, w.alloc (.cells #[.int .i64 t, .slice A n c] 35) = W := ⟨_, rfl⟩
  have z0 : Below w.heap.size w W := by rw [← hW]; exact (Below.refl _ _).alloc (Nat.le_refl _) _
  have p0 : W.heap[w.heap.size]? = some (.cells #[.int .i64 t, .slice A n c] 35 (0, 0)) := by rw [← hW]; exact new_at _ _ rfl
  have hsz := heap_lt p0
  have sW := hs.below z0 hB
  have HW := Lib.hid hW
  have HN := Lib.hid hn
  have HQ := Lib.hid hg
  clear hW hn hg
  have q0 := cell_of p0 0
  have q1 := cell_of p0 1
  simp only [List.getElem?_toArray, List.getElem?_cons_zero, List.getElem?_cons_succ] at q0 q1
  go_enter Try.func55, Try.ntmps55
  go_wp2_with fail
  rw [HW.out]
  refine (pzGood_Q t A n c cs lo hi _ HN.out hlen sW (by omega) g HQ.out).mono ?_
  rintro e v1 ⟨rfl, hb1⟩
  have hz1 := hb1.size
  have y1 := z0.trans (hb1.mono (by omega))
  have p1 := (hb1.block _ hsz).trans p0
  have s1 := sW.below hb1 (by omega)
  clear q0 q1
  have q0 := cell_of p1 0
  have q1 := cell_of p1 1
  simp only [List.getElem?_toArray, List.getElem?_cons_zero, List.getElem?_cons_succ] at q0 q1
  cases g
  · obtain rfl : q = false := HQQ.out
    obtain rfl : d = 0 := by rw [← HD.out, bestV, HQ0.out]; rfl
    go_wp2
    go_ret2
    exact ⟨by simp, y1⟩
  · obtain ⟨⟨t1, t2⟩, h6, hcl⟩ := puzB_true.1 HQ.out
    obtain ⟨N, rfl⟩ : ∃ N : Nat, t = (N : Int) := ⟨t.toNat, by omega⟩
    have hN : N = 2 ∨ N = 3 ∨ N = 4 := by omega
    have hn6 : n ≤ 6 := by have := HN.out; omega
    have hv1 : w.heap.size < v1.heap.size := by omega
    by_cases h0 : n = 0
    · have e0 : ((n : Int) == 0) = true := by simp [h0]
      obtain rfl : q = false := by rw [HQQ.out, h0]; rfl
      obtain rfl : d = 0 := by rw [← HD.out, bestV, HQ0.out]; rfl
      go_wp2
      go_ret2
      exact ⟨by simp, y1⟩
    have e0 : ((n : Int) == 0) = false := by simp [h0]
    obtain rfl : q = true := by rw [HQQ.out, decide_eq_true h0]; rfl
    have hd2 : d = ((bestC N cs n).1 : Int) := by rw [← HD.out, bestV, if_pos HQ0.out, HN.out]; rfl
    have HD2 := Lib.hid hd2
    clear hd2
    go_wp2
    clear q0 q1
    go_loopw [4, 5, 6, 7, 20] (fun b l _ _ i wr => ∃ k bb ll : Nat, k ≤ n ∧ i = .int .i64 (k : Int) ∧ b = .int .i64 (bb : Int) ∧ l = .int .i64 (ll : Int) ∧ Below v1.heap.size v1 wr ∧ ((k = 0 ∧ bb = 0 ∧ ll = 0) ∨ (1 ≤ k ∧ bestC N cs k = (bb, ll)))) (fun _ _ _ _ i _ => n - (intOf i).toNat)
    case atStart => exact ⟨0, 0, 0, Nat.zero_le _, rfl, rfl, rfl, Below.refl _ _, .inl ⟨rfl, rfl, rfl⟩⟩
    case round =>
      rename World => wr
      obtain ⟨k, bb, ll, hk, rfl, rfl, rfl, hbr, hst⟩ := hrel
      have hzr := hbr.size
      have p2 := (hbr.block _ hv1).trans p1
      by_cases hlt : k < n
      · have hlt' : decide ((k : Int) < (n : Int)) = true := decide_eq_true (by omega)
        have tc := cut_mid A n c k (k + 1) (by omega) (by omega)
        have ek : ((k + 1 : Nat) : Int) = (k : Int) + 1 := by omega
        have ek1 : k + 1 - k = 1 := by omega
        rw [ek, ek1] at tc
        have tw : IntKind.i64.wrap ((k : Int) + 1) = (k : Int) + 1 := IntWalk.i64_in _ (by omega)
        have sc := fun (v : World) (hb : Below wr.heap.size wr v) => cut_seg ((s1.below hbr (by omega)).below hb (by omega)) c k (k + 1) (by omega) (by have := HN.out; omega) (by omega)
        obtain ⟨A2, hA2⟩ : ∃ x, cutV A c k = x := ⟨_, rfl⟩
        rw [hA2] at sc
        simp only [hA2] at tc
        have hkl : ((cs.take (k + 1)).drop k).length = 1 := by have := HN.out; simp; omega
        have HKL := Lib.hid hkl
        have HCL := Lib.hid (cutC_clues (l := k) (m := k + 1) hcl)
        have HSC := Lib.hid sc
        have HST := Lib.hid hst
        clear hkl sc hA2 hst ek ek1
        have q0 := cell_of p2 0
        have q1 := cell_of p2 1
        simp only [List.getElem?_toArray, List.getElem?_cons_zero, List.getElem?_cons_succ] at q0 q1
        go_wp2_with fail
        clear q0 q1
        refine wp_region_held_drew (S := (fun wq => wq.heap[w.heap.size]? = some (.cells #[.int .i64 (N : Int), .slice A n c] 35 (0, 0)))) (by kernel_rfl) p2 (fun hH0 => ?_)
        refine wpAnyH_take (i := 0) (v := ?_) (ops_at rfl) (by kernel_rfl) (by kernel_rfl) (by kernel_rfl) (fun _ _ _ h => h) (Or.inl ⟨by rfl, ?ya0⟩) (by assumption) ?na0
        case ya0 => (intro wS hSw; have q0 := cell_of hSw 0; have q1 := cell_of hSw 1; go_simp; try rfl)
        try simp only [Act.put, List.setIfInBounds_toArray, List.set_cons_zero, List.set_cons_succ]
        refine wpAnyH_take (i := 1) (v := ?_) (ops_at rfl) (by kernel_rfl) (by kernel_rfl) (by kernel_rfl) (fun _ _ _ h => h) (Or.inl ⟨by rfl, ?ya1⟩) (by assumption) ?na1
        case ya1 => (intro wS hSw; have q0 := cell_of hSw 0; have q1 := cell_of hSw 1; go_simp; try rfl)
        try simp only [Act.put, List.setIfInBounds_toArray, List.set_cons_zero, List.set_cons_succ]
        refine wpAnyH_take (i := 2) (v := ?_) (ops_at rfl) (by kernel_rfl) (by kernel_rfl) (by kernel_rfl) (fun _ _ _ h => h) (Or.inl ⟨by rfl, ?ya2⟩) (by assumption) ?na2
        case ya2 => (intro wS hSw; have q0 := cell_of hSw 0; have q1 := cell_of hSw 1; go_simp; try rfl)
        try simp only [Act.put, List.setIfInBounds_toArray, List.set_cons_zero, List.set_cons_succ]
        refine wpAnyH_take (i := 3) (v := ?_) (ops_at rfl) (by kernel_rfl) (by kernel_rfl) (by kernel_rfl) (fun _ _ _ h => h) (Or.inl ⟨by rfl, ?ya3⟩) (by assumption) ?na3
        case ya3 => (intro wS hSw; have q0 := cell_of hSw 0; have q1 := cell_of hSw 1; go_simp; try rfl)
        try simp only [Act.put, List.setIfInBounds_toArray, List.set_cons_zero, List.set_cons_succ]
        refine wpAnyH_take (i := 4) (v := ?_) (ops_at rfl) (by kernel_rfl) (by kernel_rfl) (by kernel_rfl) (fun _ _ _ h => h) (Or.inl ⟨by rfl, ?ya4⟩) (by assumption) ?na4
        case ya4 => (intro wS hSw; have q0 := cell_of hSw 0; have q1 := cell_of hSw 1; go_simp; try rfl)
        try simp only [Act.put, List.setIfInBounds_toArray, List.set_cons_zero, List.set_cons_succ]
        refine wpAnyH_take (i := 5) (v := ?_) (ops_at rfl) (by kernel_rfl) (by kernel_rfl) (by kernel_rfl) (fun _ _ _ h => h) (Or.inl ⟨by rfl, ?ya5⟩) (by assumption) ?na5
        case ya5 => (intro wS hSw; have q0 := cell_of hSw 0; have q1 := cell_of hSw 1; go_simp; try rfl)
        try simp only [Act.put, List.setIfInBounds_toArray, List.set_cons_zero, List.set_cons_succ]
        refine wpAnyH_take (i := 6) (v := ?_) (ops_at rfl) (by kernel_rfl) (by kernel_rfl) (by kernel_rfl) (fun _ _ _ h => h) (Or.inl ⟨by rfl, ?ya6⟩) (by assumption) ?na6
        case ya6 => (intro wS hSw; have q0 := cell_of hSw 0; have q1 := cell_of hSw 1; go_simp; try rfl)
        try simp only [Act.put, List.setIfInBounds_toArray, List.set_cons_zero, List.set_cons_succ]
        refine wpAnyH_take (i := 7) (v := ?_) (ops_at rfl) (by kernel_rfl) (by kernel_rfl) (by kernel_rfl) (fun _ _ _ h => h) (Or.inl ⟨by rfl, ?ya7⟩) (by assumption) ?na7
        case ya7 => (intro wS hSw; have q0 := cell_of hSw 0; have q1 := cell_of hSw 1; go_simp; try rfl)
        try simp only [Act.put, List.setIfInBounds_toArray, List.set_cons_zero, List.set_cons_succ]
        obtain ⟨v0, hv0⟩ : ∃ u, wr.drew = u := ⟨_, rfl⟩
        have hd0 : Below wr.heap.size wr v0 := by rw [← hv0]; exact (Below.refl _ _).drew
        rw [hv0] at hH0 ⊢
        clear hv0
        have hzd := hd0.size
        refine wpAnyH_ready (rs := [8]) (by kernel_rfl) (by simp) ?_
        refine AllReadyH.cons (ops_at rfl) (fun K hK => ?_) AllReadyH.nil
        go_simp
        refine (pzAll_any A2 1 _ _ N lo hi _ hN HKL.out (by omega) HCL.out (HSC.out v0 hd0) (by omega)).mono ?_
        rintro e v3 ⟨v, vs, rfl, hr, hb3⟩
        obtain ⟨A', c', rfl⟩ := hr.form
        obtain ⟨m, hm⟩ : ∃ m, (solF toldV N ((cs.take (k + 1)).drop k)).length = m := ⟨_, rfl⟩
        have hm1 : oneC N cs k = m := hm
        rw [hm] at hr ⊢
        clear hr hm
        have hP3 := (hb3.block _ (by omega)).trans hH0
        have hB3 := hbr.trans ((hd0.trans (hb3.mono hzd)).mono hzr)
        refine hK.out _ _ hP3 (fun hH1 => ?_)
        clear hK K
        refine wpAnyH_take (i := 9) (v := ?_) (ops_at rfl) (by kernel_rfl) (by kernel_rfl) (by kernel_rfl) (fun _ _ _ h => h) (Or.inl ⟨by rfl, ?yb9⟩) (by assumption) ?nb9
        case yb9 => (intro wS hSw; go_simp; try rfl)
        try simp only [Act.put, List.setIfInBounds_toArray, List.set_cons_zero, List.set_cons_succ]
        refine wpAnyH_take (i := 10) (v := ?_) (ops_at rfl) (by kernel_rfl) (by kernel_rfl) (by kernel_rfl) (fun _ _ _ h => h) (Or.inl ⟨by rfl, ?yb10⟩) (by assumption) ?nb10
        case yb10 => (intro wS hSw; go_simp; try rfl)
        try simp only [Act.put, List.setIfInBounds_toArray, List.set_cons_zero, List.set_cons_succ]
        refine wpAnyH_done (by kernel_rfl) ?_ _
        by_cases hk0 : k = 0
        · have ek0 : ((k : Int) == 0) = true := by simp [hk0]
          have hnx : bestC N cs (k + 1) = (k, m) := by subst hk0; rw [bestC_one, hm1]
          go_wp2
          go_roundw
          case rel => exact ⟨k + 1, _, _, by omega, by go_num, rfl, rfl, hB3, .inr ⟨by omega, hnx⟩⟩
          case measure => simp [intOf]; omega
        · have ek0 : ((k : Int) == 0) = false := by simp [hk0]
          have hbk : bestC N cs k = (bb, ll) := by rcases HST.out with h | h; exact absurd h.1 hk0; exact h.2
          by_cases hml : m < ll
          · have hml' : decide ((m : Int) < (ll : Int)) = true := decide_eq_true (by omega)
            have hnx : bestC N cs (k + 1) = (k, m) := by rw [bestC_yes (by rw [hm1, hbk]; exact hml), hm1]
            go_wp2
            go_roundw
            case rel => exact ⟨k + 1, _, _, by omega, by go_num, rfl, rfl, hB3, .inr ⟨by omega, hnx⟩⟩
            case measure => simp [intOf]; omega
          · have hml' : decide ((m : Int) < (ll : Int)) = false := decide_eq_false (by omega)
            have hnx : bestC N cs (k + 1) = (bb, ll) := by rw [bestC_no (by rw [hm1, hbk]; exact hml), hbk]
            go_wp2
            go_roundw
            case rel => exact ⟨k + 1, _, _, by omega, by go_num, rfl, rfl, hB3, .inr ⟨by omega, hnx⟩⟩
            case measure => simp [intOf]; omega
      · obtain rfl : k = n := by omega
        have hBR := y1.trans (hbr.mono y1.size)
        rcases hst with ⟨h1, -, -⟩ | ⟨h1, hbk⟩
        · exact absurd h1 h0
        rw [hbk] at HD2
        go_wp2
        go_ret2
        exact ⟨by rw [HD2.out]; rfl, hBR⟩

set_option maxRecDepth 100000 in
set_option maxHeartbeats 4000000 in
theorem impl_BestClue (t : Int) (A : Option Addr) (n c : Nat) (cs : List Clu) (lo hi : Nat) (w : World) (hn : cs.length = n) (hlen : n ≤ 1048576) (hnc : n ≤ c) (hs : Seg w lo hi A (flat4 cs)) (hB : hi ≤ w.heap.size) (q : Bool) (hq : bestB t cs = q) (d : Int) (hd : bestV t cs = d) :
    Calls Try.prog 56 #[pzV t A n c] w (fun e w' => e = .returned (.tuple #[.int .i64 d, .bool q]) ∧ Below w.heap.size w w') := by
  obtain ⟨g, hg⟩ : ∃ g, puzB t cs = g := ⟨_, rfl⟩
  have hqq : q = (g && decide (n ≠ 0)) := by rw [← hq, bestB, hg, hn]
  have HQQ := Lib.hid hqq
  have HQ0 := Lib.hid hq
  have HD := Lib.hid hd
  clear hqq hq hd
  obtain ⟨W, hW⟩ : ∃ W, w.alloc (.cells #[.int .i64 t, .slice A n c] 35) = W := ⟨_, rfl⟩
  have z0 : Below w.heap.size w W := by rw [← hW]; exact (Below.refl _ _).alloc (Nat.le_refl _) _
  have p0 : W.heap[w.heap.size]? = some (.cells #[.int .i64 t, .slice A n c] 35 (0, 0)) := by rw [← hW]; exact new_at _ _ rfl
  have hsz := heap_lt p0
  have sW := hs.below z0 hB
  have HW := Lib.hid hW
  have HN := Lib.hid hn
  have HQ := Lib.hid hg
  clear hW hn hg
  have q0 := cell_of p0 0
  have q1 := cell_of p0 1
  simp only [List.getElem?_toArray, List.getElem?_cons_zero, List.getElem?_cons_succ] at q0 q1
  go_enter Try.func56, Try.ntmps56
  go_wp2_with fail
  rw [HW.out]
  refine (impl_IsPuzzleQ t A n c cs lo hi _ HN.out hlen sW (by omega) g HQ.out).mono ?_
  rintro e v1 ⟨rfl, hb1⟩
  have hz1 := hb1.size
  have y1 := z0.trans (hb1.mono (by omega))
  have p1 := (hb1.block _ hsz).trans p0
  have s1 := sW.below hb1 (by omega)
  clear q0 q1
  have q0 := cell_of p1 0
  have q1 := cell_of p1 1
  simp only [List.getElem?_toArray, List.getElem?_cons_zero, List.getElem?_cons_succ] at q0 q1
  cases g
  · obtain rfl : q = false := HQQ.out
    obtain rfl : d = 0 := by rw [← HD.out, bestV, HQ0.out]; rfl
    go_wp2
    go_ret2
    exact ⟨by simp, y1⟩
  · obtain ⟨⟨t1, t2⟩, h6, hcl⟩ := puzB_true.1 HQ.out
    obtain ⟨N, rfl⟩ : ∃ N : Nat, t = (N : Int) := ⟨t.toNat, by omega⟩
    have hN : N = 2 ∨ N = 3 ∨ N = 4 := by omega
    have hn6 : n ≤ 6 := by have := HN.out; omega
    have hv1 : w.heap.size < v1.heap.size := by omega
    by_cases h0 : n = 0
    · have e0 : ((n : Int) == 0) = true := by simp [h0]
      obtain rfl : q = false := by rw [HQQ.out, h0]; rfl
      obtain rfl : d = 0 := by rw [← HD.out, bestV, HQ0.out]; rfl
      go_wp2
      go_ret2
      exact ⟨by simp, y1⟩
    have e0 : ((n : Int) == 0) = false := by simp [h0]
    obtain rfl : q = true := by rw [HQQ.out, decide_eq_true h0]; rfl
    have hd2 : d = ((bestC N cs n).1 : Int) := by rw [← HD.out, bestV, if_pos HQ0.out, HN.out]; rfl
    have HD2 := Lib.hid hd2
    clear hd2
    have hcu := fun wx => cut_any (N : Int) A n c 0 1 wx hlen hnc (by omega) (by omega)
    rw [show ((0 : Nat) : Int) = 0 from rfl, show ((1 : Nat) : Int) = 1 from rfl] at hcu
    rw [show 1 - 0 = 1 by omega] at hcu
    have HCU := Lib.hid hcu
    clear hcu
    go_wp2_with fail
    refine (HCU.out _).mono ?_
    rintro e ua ⟨rfl, hbua⟩
    have hzua := hbua.size
    have sc := (cut_seg s1 1 0 1 (by omega) (by have := HN.out; omega) (Nat.le_refl _)).below hbua (by omega)
    obtain ⟨A2, hA2⟩ : ∃ x, cutV A 1 0 = x := ⟨_, rfl⟩
    rw [hA2] at sc ⊢
    have hkl : ((cs.take 1).drop 0).length = 1 := by have := HN.out; simp; omega
    have HKL := Lib.hid hkl
    have HCL := Lib.hid (cutC_clues (l := 0) (m := 1) hcl)
    have HSC := Lib.hid sc
    clear hkl sc hA2
    go_wp2_with fail
    refine (countSolutions_any N A2 1 1 _ lo hi _ hN HKL.out (by omega) HCL.out HSC.out (by omega)).mono ?_
    rintro e ub ⟨rfl, hbub⟩
    obtain ⟨m, hm⟩ : ∃ m, (solF toldV N ((cs.take 1).drop 0)).length = m := ⟨_, rfl⟩
    have hm1 : oneC N cs 0 = m := hm
    rw [hm]
    clear hm HSC HCL HKL HCU
    have hzub := hbub.size
    have yb := y1.trans ((hbua.trans (hbub.mono hzua)).mono y1.size)
    have pb := (hbub.block _ (by omega)).trans ((hbua.block _ (by omega)).trans p1)
    have sb := (s1.below hbua (by omega)).below hbub (by omega)
    have hbest : bestC N cs 0 = (0, m) := by rw [bestC, hm1]
    have HBE := Lib.hid hbest
    clear hm1 hbest q0 q1
    have q0 := cell_of pb 0
    have q1 := cell_of pb 1
    simp only [List.getElem?_toArray, List.getElem?_cons_zero, List.getElem?_cons_succ] at q0 q1
    go_wp2
    clear q0 q1
    go_loopw [4, 5, 6, 7, 23] (fun b l _ _ i wr => ∃ k : Nat, k ≤ n ∧ i = .int .i64 (k : Int) ∧ Below ub.heap.size ub wr ∧ b = .int .i64 ((bestC N cs k).1 : Int) ∧ l = .int .i64 ((bestC N cs k).2 : Int)) (fun _ _ _ _ i _ => n - (intOf i).toNat)
    case atStart => exact ⟨0, Nat.zero_le _, rfl, Below.refl _ _, by rw [HBE.out]; rfl, by rw [HBE.out]⟩
    case round =>
      rename World => wr
      obtain ⟨k, hk, rfl, hbr, rfl, rfl⟩ := hrel
      have hzr := hbr.size
      have p2 := (hbr.block _ (by omega)).trans pb
      have s2 := sb.below hbr (by omega)
      obtain ⟨bb, ll, hbk⟩ : ∃ bb ll, bestC N cs k = (bb, ll) := ⟨_, _, rfl⟩
      rw [hbk]
      dsimp only
      have HBK := Lib.hid hbk
      clear hbk
      have q0 := cell_of p2 0
      have q1 := cell_of p2 1
      simp only [List.getElem?_toArray, List.getElem?_cons_zero, List.getElem?_cons_succ] at q0 q1
      by_cases hlt : k < n
      · have hlt' : decide ((k : Int) < (n : Int)) = true := decide_eq_true (by omega)
        have hcu := fun wx => cut_any (N : Int) A n c k (k + 1) wx hlen hnc (by omega) (by omega)
        rw [show ((k + 1 : Nat) : Int) = (k : Int) + 1 by omega] at hcu
        rw [show (k + 1) - k = 1 by omega] at hcu
        have HCU := Lib.hid hcu
        clear hcu
        go_wp2_with fail
        refine (HCU.out _).mono ?_
        rintro e xa ⟨rfl, hbxa⟩
        have hzxa := hbxa.size
        have sc := (cut_seg s2 (k + 1) k (k + 1) (by omega) (by have := HN.out; omega) (Nat.le_refl _)).below hbxa (by omega)
        obtain ⟨A2, hA2⟩ : ∃ x, cutV A (k + 1) k = x := ⟨_, rfl⟩
        rw [hA2] at sc ⊢
        have hkl : ((cs.take (k + 1)).drop k).length = 1 := by have := HN.out; simp; omega
        have HKL := Lib.hid hkl
        have HCL := Lib.hid (cutC_clues (l := k) (m := (k + 1)) hcl)
        have HSC := Lib.hid sc
        clear hkl sc hA2
        go_wp2_with fail
        refine (countSolutions_any N A2 1 1 _ lo hi _ hN HKL.out (by omega) HCL.out HSC.out (by omega)).mono ?_
        rintro e xb ⟨rfl, hbxb⟩
        obtain ⟨m, hm⟩ : ∃ m, (solF toldV N ((cs.take (k + 1)).drop k)).length = m := ⟨_, rfl⟩
        have hm1 : oneC N cs k = m := hm
        rw [hm]
        clear hm HSC HCL HKL HCU
        have hzxb := hbxb.size
        have hB3 := hbr.trans ((hbxa.trans (hbxb.mono hzxa)).mono hzr)
        clear q0 q1
        by_cases hml : m < ll
        · have hml' : decide ((m : Int) < (ll : Int)) = true := decide_eq_true (by omega)
          have hnx : bestC N cs (k + 1) = (k, m) := by rw [bestC_yes (by rw [hm1, HBK.out]; exact hml), hm1]
          go_wp2
          go_roundw
          case rel => exact ⟨k + 1, by omega, by go_num, hB3, by rw [hnx], by rw [hnx]⟩
          case measure => simp [intOf]; omega
        · have hml' : decide ((m : Int) < (ll : Int)) = false := decide_eq_false (by omega)
          have hnx : bestC N cs (k + 1) = (bb, ll) := by rw [bestC_no (by rw [hm1, HBK.out]; exact hml), HBK.out]
          go_wp2
          go_roundw
          case rel => exact ⟨k + 1, by omega, by go_num, hB3, by rw [hnx], by rw [hnx]⟩
          case measure => simp [intOf]; omega
      · obtain rfl : k = n := by omega
        have hBR := yb.trans (hbr.mono yb.size)
        go_wp2
        go_ret2
        exact ⟨by rw [HD2.out, HBK.out]; rfl, hBR⟩
end Go.Proofs.Ytoheoojpmndhoaa
