/-
  A puzzle without a clue, by both programs.
  Conditions: none.
-/
import Derived.Test.YtoheoojpmndhoaaPzY
namespace Go.Proofs.Ytoheoojpmndhoaa
set_option linter.unusedVariables false
set_option linter.unusedSimpArgs false
open Go.RowKit

/-- There is such a clue. -/
def dropB (t : Int) (cs : List Clu) (k : Int) : Bool := puzB t cs && inB k 0 ((cs.length : Int) - 1)
theorem dropB_true {t k : Int} {cs : List Clu} (h : dropB t cs k = true) : puzB t cs = true ∧ 0 ≤ k ∧ k < (cs.length : Int) := by
  simp only [dropB, Bool.and_eq_true, inB_true] at h
  exact ⟨h.1, by omega, by omega⟩

set_option maxHeartbeats 2000000 in
theorem spec_DropClue (t : Int) (A : Option Addr) (n c : Nat) (k : Int) (cs : List Clu) (lo hi : Nat) (w : World) (hn : cs.length = n) (hlen : n ≤ 1048576) (hnc : n ≤ c) (hs : Seg w lo hi A (flat4 cs)) (hB : hi ≤ w.heap.size) (hi0 : -9223372036854775808 ≤ k ∧ k ≤ 9223372036854775807) (q : Bool) (hq : dropB t cs k = q) :
    Calls Try.prog 48 #[pzV t A n c, .int .i64 k] w (RetU q (intU q t) (listU q (dropC cs k.toNat)) w) := by
  obtain ⟨W, hW⟩ : ∃ W, (w.alloc (.cells #[.int .i64 t, .slice A n c] 35)).alloc (.cells #[.int .i64 0, .slice none 0 0] 35) = W := ⟨_, rfl⟩
  have z0 : Below w.heap.size w W := by rw [← hW]; exact ((Below.refl _ _).alloc (Nat.le_refl _) _).alloc (by simp) _
  have p0 : W.heap[w.heap.size]? = some (.cells #[.int .i64 t, .slice A n c] 35 (0, 0)) := by rw [← hW]; exact (alloc_old _ (by simp) _).trans (new_at _ _ rfl)
  have r0 : W.heap[w.heap.size + 1]? = some (.cells #[.int .i64 0, .slice none 0 0] 35 (0, 0)) := by rw [← hW]; exact new_at _ _ (by simp)
  have hsz : w.heap.size + 1 < W.heap.size := heap_lt r0
  have sW := hs.below z0 hB
  have HW := Lib.hid hW
  clear hW
  obtain ⟨g, hg⟩ : ∃ g, puzB t cs = g := ⟨_, rfl⟩
  have HG := Lib.hid hg
  have HN := Lib.hid hn
  have q0 := cell_of p0 0
  have q1 := cell_of p0 1
  simp only [List.getElem?_toArray, List.getElem?_cons_zero, List.getElem?_cons_succ] at q0 q1
  clear hg hn
  go_enter Try.func48, Try.ntmps48
  go_wp2_with fail
  rw [HW.out]
  refine (pzGood_Q t A n c cs lo hi _ HN.out hlen sW (by omega) g HG.out).mono ?_
  rintro e v0 ⟨rfl, hb0⟩
  have hz0 := hb0.size
  have y0 := z0.trans (hb0.mono z0.size)
  have p_0 := (hb0.block _ (by omega)).trans p0
  have r_0 := (hb0.block _ (by omega)).trans r0
  clear q0 q1 p0 r0
  have q0 := cell_of p_0 0
  have q1 := cell_of p_0 1
  have c0 := cell_of r_0 0
  have c1 := cell_of r_0 1
  have f0 := frozen_of r_0 0
  have f1 := frozen_of r_0 1
  simp only [List.getElem?_toArray, List.getElem?_cons_zero, List.getElem?_cons_succ] at q0 q1 c0 c1
  have x0 := heap_lt r_0
  have far : ∀ (V : World) (v v' : Value) (x : Nat), x ≠ w.heap.size + 1 → ((V.setCell ⟨w.heap.size + 1, 0, none⟩ v).setCell ⟨w.heap.size + 1, 1, none⟩ v').heap[x]? = V.heap[x]? := fun V v v' x hx => (set_far _ hx _).trans (set_far _ hx _)
  have FAR := Lib.hid far
  clear far
  cases g
  · go_wp2_with fail
    obtain rfl : q = false := by rw [← hq]; simp [dropB, HG.out]
    refine bodyPost_ret (v := .tuple #[pzV 0 none 0 0, .bool false]) (by simp [results, Try.results48, go_sem, c0, c1]) rfl ⟨none, 0, 0, rfl, rfl, .inl rfl, ?_⟩
    exact (y0.setCell (p := ⟨w.heap.size + 1, 0, none⟩) (by simp) _).setCell (p := ⟨w.heap.size + 1, 1, none⟩) (by simp) _
  obtain ⟨v, hv⟩ : ∃ v, inB k 0 ((n : Int) - 1) = v := ⟨_, rfl⟩
  have HV := Lib.hid hv
  clear hv
  have h6 : n ≤ 6 := by have := (puzB_true.1 HG.out).2.1; have := HN.out; omega
  go_wp2_with fail
  refine (l1In_any _ _ _ v HV.out _).mono ?_
  rintro e w' ⟨rfl, rfl⟩
  cases v
  · go_wp2_with fail
    obtain rfl : q = false := by rw [← hq]; simp [dropB, HG.out, HN.out, HV.out]
    refine bodyPost_ret (v := .tuple #[pzV 0 none 0 0, .bool false]) (by simp [results, Try.results48, go_sem, c0, c1]) rfl ⟨none, 0, 0, rfl, rfl, .inl rfl, ?_⟩
    exact (y0.setCell (p := ⟨w.heap.size + 1, 0, none⟩) (by simp) _).setCell (p := ⟨w.heap.size + 1, 1, none⟩) (by simp) _
  have hk := inB_true.1 HV.out
  obtain ⟨j, rfl⟩ : ∃ j : Nat, k = (j : Int) := ⟨k.toNat, by omega⟩
  obtain rfl : q = true := by rw [← hq]; simp [dropB, HG.out, HN.out, HV.out]
  go_wp2_with fail
  refine wp_region_held_drew (S := fun wq => wq.heap[w.heap.size]? = some (.cells #[.int .i64 t, .slice A n c] 35 (0, 0))) (by kernel_rfl) p_0 (fun hH0 => ?_)
  refine wpAnyH_take (i := 0) (v := ?_) (ops_at rfl) (by kernel_rfl) (by kernel_rfl) (by kernel_rfl) (fun _ _ _ h => h) (Or.inl ⟨by rfl, ?ya0⟩) (by assumption) ?na0
  case ya0 => (intro wS hSw; have q0 := cell_of hSw 0; have q1 := cell_of hSw 1; go_simp; try rfl)
  try simp only [Act.put, List.setIfInBounds_toArray, List.set_cons_zero, List.set_cons_succ]
  refine wpAnyH_take (i := 1) (v := ?_) (ops_at rfl) (by kernel_rfl) (by kernel_rfl) (by kernel_rfl) (fun _ _ _ h => h) (Or.inl ⟨by rfl, ?ya1⟩) (by assumption) ?na1
  case ya1 => (intro wS hSw; have q0 := cell_of hSw 0; have q1 := cell_of hSw 1; go_simp; try rfl)
  try simp only [Act.put, List.setIfInBounds_toArray, List.set_cons_zero, List.set_cons_succ]
  refine wpAnyH_take (i := 2) (v := ?_) (ops_at rfl) (by kernel_rfl) (by kernel_rfl) (by kernel_rfl) (fun _ _ _ h => h) (Or.inl ⟨by rfl, ?ya2⟩) (by assumption) ?na2
  case ya2 => (intro wS hSw; have q0 := cell_of hSw 0; have q1 := cell_of hSw 1; go_simp; try rfl)
  try simp only [Act.put, List.setIfInBounds_toArray, List.set_cons_zero, List.set_cons_succ]
  refine wpAnyH_take (i := 3) (v := ?_) (ops_at rfl) (by kernel_rfl) (by kernel_rfl) (by kernel_rfl) (fun _ _ _ h => h) (Or.inl ⟨by rfl, ?ya3⟩) (by assumption) ?na3
  case ya3 => (intro wS hSw; have q0 := cell_of hSw 0; have q1 := cell_of hSw 1; go_simp; try rfl)
  try simp only [Act.put, List.setIfInBounds_toArray, List.set_cons_zero, List.set_cons_succ]
  refine wpAnyH_take (i := 4) (v := ?_) (ops_at rfl) (by kernel_rfl) (by kernel_rfl) (by kernel_rfl) (fun _ _ _ h => h) (Or.inl ⟨by rfl, ?ya4⟩) (by assumption) ?na4
  case ya4 => (intro wS hSw; have q0 := cell_of hSw 0; have q1 := cell_of hSw 1; go_simp; try rfl)
  try simp only [Act.put, List.setIfInBounds_toArray, List.set_cons_zero, List.set_cons_succ]
  refine wpAnyH_ready (rs := [5]) (by kernel_rfl) (by simp) ?_
  refine AllReadyH.cons (ops_at rfl) (fun K hK => ?_) AllReadyH.nil
  go_simp
  refine (pzWithout_any A n c j cs lo hi _ HN.out (by omega) hnc (by omega) (hs.below (y0.drew) hB) (by show hi ≤ v0.heap.size; omega)).mono ?_
  rintro e v2 ⟨A3, n3, c3, rfl, hl3, hc3, ho3, hb2⟩
  have hz2 := hb2.size
  have hz2' : v0.heap.size ≤ v2.heap.size := hz2
  have y2 := y0.drew.trans (hb2.mono (by show _ ≤ v0.heap.size; omega))
  have p_2 := (hb2.block _ (by show _ < v0.heap.size; omega)).trans p_0
  have r_2 := (hb2.block _ (by show _ < v0.heap.size; omega)).trans r_0
  refine hK.out _ _ p_2 (fun hR2 => ?_)
  clear hK K c0 c1 f0 f1
  refine wpAnyH_take (i := 6) (v := ?_) (ops_at rfl) (by kernel_rfl) (by kernel_rfl) (by kernel_rfl) (fun _ _ _ h => h) (Or.inl ⟨by rfl, ?yb6⟩) (by assumption) ?nb6
  case yb6 => (intro wS hSw; have q0 := cell_of hSw 0; have q1 := cell_of hSw 1; go_simp; try rfl)
  try simp only [Act.put, List.setIfInBounds_toArray, List.set_cons_zero, List.set_cons_succ]
  have c0 := cell_of r_2 0
  have c1 := cell_of r_2 1
  have f0 := frozen_of r_2 0
  have f1 := frozen_of r_2 1
  simp only [List.getElem?_toArray, List.getElem?_cons_zero, List.getElem?_cons_succ] at c0 c1
  refine wpAnyH_ready (rs := [7]) (by kernel_rfl) (by simp) ?_
  refine AllReadyH.cons (ops_at rfl) (fun K hK => ?_) AllReadyH.nil
  go_simp
  refine hK.out _ _ ((FAR.out _ _ _ _ (by omega)).trans p_2) (fun hR3 => ?_)
  clear hK K
  refine wpAnyH_ready (rs := [8]) (by kernel_rfl) (by simp) ?_
  refine AllReadyH.cons (ops_at rfl) (fun K hK => ?_) AllReadyH.nil
  go_simp
  refine hK.out _ _ ((FAR.out _ _ _ _ (by omega)).trans p_2) (fun hR4 => ?_)
  clear hK K
  refine wpAnyH_done (by kernel_rfl) ?_ _
  go_wp2
  have ho4 : Own v2 v0.heap.size v2.heap.size A3 (flat4 (dropC cs j)) := ho3
  have hl4 : (listU true (dropC cs (j : Int).toNat)).length = n3 := by simpa [listU] using hl3
  refine bodyPost_ret (v := .tuple #[pzV t A3 n3 c3, .bool true]) (by simp [results, Try.results48, go_sem, c0, c1]) rfl ⟨A3, n3, c3, rfl, hl4, ?_, (y2.setCell (p := ⟨w.heap.size + 1, 0, none⟩) (by simp) _).setCell (p := ⟨w.heap.size + 1, 1, none⟩) (by simp) _⟩
  simp only [World.size_setCell]
  have ho5 := (ho4.keep (w' := (v2.setCell ⟨w.heap.size + 1, 0, none⟩ (.int .i64 t)).setCell ⟨w.heap.size + 1, 1, none⟩ (.slice A3 n3 c3)) fun b hb1 hb2 => FAR.out _ _ _ _ (by omega)).more (show w.heap.size ≤ v0.heap.size by omega) (Nat.le_refl _)
  simpa [listU] using ho5

set_option maxHeartbeats 2000000 in
theorem impl_DropClue (t : Int) (A : Option Addr) (n c : Nat) (k : Int) (cs : List Clu) (lo hi : Nat) (w : World) (hn : cs.length = n) (hlen : n ≤ 1048576) (hnc : n ≤ c) (hs : Seg w lo hi A (flat4 cs)) (hB : hi ≤ w.heap.size) (hi0 : -9223372036854775808 ≤ k ∧ k ≤ 9223372036854775807) (q : Bool) (hq : dropB t cs k = q) :
    Calls Try.prog 49 #[pzV t A n c, .int .i64 k] w (RetU q (intU q t) (listU q (dropC cs k.toNat)) w) := by
  obtain ⟨W, hW⟩ : ∃ W, (w.alloc (.cells #[.int .i64 t, .slice A n c] 35)).alloc (.cells #[.int .i64 0, .slice none 0 0] 35) = W := ⟨_, rfl⟩
  have z0 : Below w.heap.size w W := by rw [← hW]; exact ((Below.refl _ _).alloc (Nat.le_refl _) _).alloc (by simp) _
  have p0 : W.heap[w.heap.size]? = some (.cells #[.int .i64 t, .slice A n c] 35 (0, 0)) := by rw [← hW]; exact (alloc_old _ (by simp) _).trans (new_at _ _ rfl)
  have r0 : W.heap[w.heap.size + 1]? = some (.cells #[.int .i64 0, .slice none 0 0] 35 (0, 0)) := by rw [← hW]; exact new_at _ _ (by simp)
  have hsz : w.heap.size + 1 < W.heap.size := heap_lt r0
  have sW := hs.below z0 hB
  have HW := Lib.hid hW
  clear hW
  obtain ⟨g, hg⟩ : ∃ g, puzB t cs = g := ⟨_, rfl⟩
  have HG := Lib.hid hg
  have HN := Lib.hid hn
  have q0 := cell_of p0 0
  have q1 := cell_of p0 1
  simp only [List.getElem?_toArray, List.getElem?_cons_zero, List.getElem?_cons_succ] at q0 q1
  clear hg hn
  go_enter Try.func49, Try.ntmps49
  go_wp2_with fail
  rw [HW.out]
  refine (impl_IsPuzzleQ t A n c cs lo hi _ HN.out hlen sW (by omega) g HG.out).mono ?_
  rintro e v0 ⟨rfl, hb0⟩
  have hz0 := hb0.size
  have y0 := z0.trans (hb0.mono z0.size)
  have p_0 := (hb0.block _ (by omega)).trans p0
  have r_0 := (hb0.block _ (by omega)).trans r0
  clear q0 q1 p0 r0
  have q0 := cell_of p_0 0
  have q1 := cell_of p_0 1
  have c0 := cell_of r_0 0
  have c1 := cell_of r_0 1
  have f0 := frozen_of r_0 0
  have f1 := frozen_of r_0 1
  simp only [List.getElem?_toArray, List.getElem?_cons_zero, List.getElem?_cons_succ] at q0 q1 c0 c1
  have x0 := heap_lt r_0
  have far : ∀ (V : World) (v v' : Value) (x : Nat), x ≠ w.heap.size + 1 → ((V.setCell ⟨w.heap.size + 1, 0, none⟩ v).setCell ⟨w.heap.size + 1, 1, none⟩ v').heap[x]? = V.heap[x]? := fun V v v' x hx => (set_far _ hx _).trans (set_far _ hx _)
  have FAR := Lib.hid far
  clear far
  cases g
  · go_wp2_with fail
    obtain rfl : q = false := by rw [← hq]; simp [dropB, HG.out]
    refine bodyPost_ret (v := .tuple #[pzV 0 none 0 0, .bool false]) (by simp [results, Try.results49, go_sem, c0, c1]) rfl ⟨none, 0, 0, rfl, rfl, .inl rfl, ?_⟩
    exact (y0.setCell (p := ⟨w.heap.size + 1, 0, none⟩) (by simp) _).setCell (p := ⟨w.heap.size + 1, 1, none⟩) (by simp) _
  have h6 : n ≤ 6 := by have := (puzB_true.1 HG.out).2.1; have := HN.out; omega
  by_cases hk0 : k < 0
  · have hk0' : decide (k < 0) = true := by simpa using hk0
    go_wp2_with fail
    obtain rfl : q = false := by rw [← hq]; simp [dropB, HG.out, HN.out, show inB k 0 ((n : Int) - 1) = false from inB_false.2 (by omega)]
    refine bodyPost_ret (v := .tuple #[pzV 0 none 0 0, .bool false]) (by simp [results, Try.results49, go_sem, c0, c1]) rfl ⟨none, 0, 0, rfl, rfl, .inl rfl, ?_⟩
    exact (y0.setCell (p := ⟨w.heap.size + 1, 0, none⟩) (by simp) _).setCell (p := ⟨w.heap.size + 1, 1, none⟩) (by simp) _
  have hk0' : decide (k < 0) = false := by simpa using hk0
  by_cases hk1 : (n : Int) ≤ k
  · have hk1' : decide ((n : Int) ≤ k) = true := by simpa using hk1
    go_wp2_with fail
    obtain rfl : q = false := by rw [← hq]; simp [dropB, HG.out, HN.out, show inB k 0 ((n : Int) - 1) = false from inB_false.2 (by omega)]
    refine bodyPost_ret (v := .tuple #[pzV 0 none 0 0, .bool false]) (by simp [results, Try.results49, go_sem, c0, c1]) rfl ⟨none, 0, 0, rfl, rfl, .inl rfl, ?_⟩
    exact (y0.setCell (p := ⟨w.heap.size + 1, 0, none⟩) (by simp) _).setCell (p := ⟨w.heap.size + 1, 1, none⟩) (by simp) _
  have hk1' : decide ((n : Int) ≤ k) = false := by simpa using hk1
  obtain ⟨j, rfl⟩ : ∃ j : Nat, k = (j : Int) := ⟨k.toNat, by omega⟩
  obtain rfl : q = true := by rw [← hq]; simp [dropB, HG.out, HN.out, show inB (j : Int) 0 ((n : Int) - 1) = true from inB_true.2 (by omega)]
  go_wp2_with fail
  refine (without_any t A n c j cs lo hi _ HN.out (by omega) hnc (by omega) (hs.below y0 hB) (by omega)).mono ?_
  rintro e v2 ⟨A3, n3, c3, rfl, hl3, hc3, ho3, hb2⟩
  have hz2 := hb2.size
  have y2 := y0.trans (hb2.mono (by omega))
  have r_2 := (hb2.block _ (by omega)).trans r_0
  clear c0 c1 f0 f1 q0 q1
  have c0 := cell_of r_2 0
  have c1 := cell_of r_2 1
  have f0 := frozen_of r_2 0
  have f1 := frozen_of r_2 1
  simp only [List.getElem?_toArray, List.getElem?_cons_zero, List.getElem?_cons_succ] at c0 c1
  go_wp2_with fail
  have hl4 : (listU true (dropC cs (j : Int).toNat)).length = n3 := by simpa [listU] using hl3
  have ho4 : Own v2 v0.heap.size v2.heap.size A3 (flat4 (dropC cs j)) := ho3
  refine bodyPost_ret (v := .tuple #[pzV t A3 n3 c3, .bool true]) (by simp [results, Try.results49, go_sem, c0, c1]) rfl ⟨A3, n3, c3, rfl, hl4, ?_, (y2.setCell (p := ⟨w.heap.size + 1, 0, none⟩) (by simp) _).setCell (p := ⟨w.heap.size + 1, 1, none⟩) (by simp) _⟩
  simp only [World.size_setCell]
  have ho5 := (ho4.keep (w' := (v2.setCell ⟨w.heap.size + 1, 0, none⟩ (.int .i64 t)).setCell ⟨w.heap.size + 1, 1, none⟩ (.slice A3 n3 c3)) fun b hb1 hb2 => FAR.out _ _ _ _ (by omega)).more (show w.heap.size ≤ v0.heap.size by omega) (Nat.le_refl _)
  simpa [listU] using ho5
end Go.Proofs.Ytoheoojpmndhoaa
