/-
  A puzzle with a clue more, by both programs.
  Conditions: none.
-/
import Derived.Test.YtoheoojpmndhoaaPzY
namespace Go.Proofs.Ytoheoojpmndhoaa
set_option linter.unusedVariables false
set_option linter.unusedSimpArgs false
open Go.RowKit

/-- append onto a full slice of clues: the row is new. -/
theorem run_append_full {w : World} (A : Option Addr) (n : Nat) (cs : List Clu) (x y z u : Int) (lo hi g : Nat) (hn : cs.length = n) (hlen : n ≤ 1000) (hs : Seg w lo hi A (flat4 cs)) (hg : w.heap[g]? = some (.cells #[.int .i64 x, .int .i64 y, .int .i64 z, .int .i64 u] 25 (0, 0))) (hA : A = none → n = 0) :
    ∃ v' w', (Builtin.append_ #[33, 33] 33 #[.slice A n n, .slice (some ⟨g, 0, none⟩) 1 1]).run Try.prog w = .ok v' w' ∧ w'.ownsRow w.heap.size 25 4 v' (n + 1) (vals4 (cs ++ [(x, y, z, u)])) ∧ Below w.heap.size w w' := by
  obtain ⟨i0, hi0, hz0, hz1, hz2⟩ := info_parts clue_infoI
  have hcell : ∀ (j : Nat) (v : Value), (vals4 [(x, y, z, u)])[j]? = some v → w.cell? ((⟨g, 0, none⟩ : Addr).add j) = some v := by
    intro j v hv
    have hj : j < 4 := by have := (List.getElem?_eq_some_iff.1 hv).1; simpa [vals4, flat4] using this
    rw [Addr.add_lit, cell_of hg]
    rw [← hv]
    rcases j with _ | _ | _ | _ | j
    · rfl
    · rfl
    · rfl
    · rfl
    · omega
  rcases A with _ | b
  · obtain rfl := hA rfl
    obtain rfl := List.eq_nil_of_length_eq_zero hn
    have hr := run_append_nil (P := Try.prog) w 33 33 25 i0 _ Try.underlying33 hi0 hz0 ⟨g, 0, none⟩ 1 1 (vals4 [(x, y, z, u)]) (by rw [hz1]; rfl) hcell (by omega) (by omega) (by rw [hz2]; omega)
    have hg1 := grownCap_ge w 1 0 25
    have hg2 := grownCap_le_maxLen w 1 0 25 (by unfold maxLen; omega)
    generalize grownCap w 1 0 25 = cap at hr hg1 hg2
    refine ⟨_, _, hr, ⟨rfl, .inr ⟨w.heap.size, cap, _, rfl, Nat.le_refl _, new_at _ _ rfl, hg1, hg2, ?_, ?_⟩⟩, (Below.refl _ _).drew.alloc (Nat.le_refl _) _⟩
    · simp [Builtin.zeroCells, Value.cells, vals4, flat4]
      omega
    · simp [vals4, flat4]
  · have hc := hs.cells
    have hr := run_append_grow (P := Try.prog) w 33 33 25 i0 _ Try.underlying33 hi0 hz0 b n n (vals4 cs) (by rw [hz1, vals4_length, hn]) hc ⟨g, 0, none⟩ 1 1 (vals4 [(x, y, z, u)]) (by rw [hz1]; rfl) hcell (by omega) (by omega) (by
      rw [hz2]
      rcases Nat.eq_zero_or_pos n with h0 | h0
      · subst h0; rw [nextslicecap_zero (by omega)]; omega
      · have := nextslicecap_succ h0; omega)
    have hg1 := grownCap_ge w (n + 1) n 25
    have hg2 := grownCap_le_maxLen w (n + 1) n 25 (by unfold maxLen; omega)
    generalize grownCap w (n + 1) n 25 = cap at hr hg1 hg2
    have hv : (vals4 cs).length = n * 4 := by rw [vals4_length, hn]
    have hv2 : (flat4 cs).length = n * 4 := by rw [flat4_length, hn]
    refine ⟨_, _, hr, ⟨by rw [vals4_length]; simp [hn], .inr ⟨w.heap.size, cap, _, rfl, Nat.le_refl _, new_at _ _ rfl, hg1, hg2, ?_, ?_⟩⟩, (Below.refl _ _).drew.alloc (Nat.le_refl _) _⟩
    · simp [Builtin.zeroCells, Value.cells, vals4, flat4, hv2]
      omega
    · rw [vals4_append]
      have e : (n + 1) * 4 = (vals4 cs ++ vals4 [(x, y, z, u)]).length := by rw [List.length_append, hv]; simp [vals4, flat4]; omega
      rw [e]
      have e2 : ∀ Z : Array Value, ((vals4 cs).toArray ++ (vals4 [(x, y, z, u)]).toArray ++ Z).toList = (vals4 cs ++ vals4 [(x, y, z, u)]) ++ Z.toList := fun Z => by simp
      rw [e2]
      exact List.take_left

set_option maxHeartbeats 2000000 in
set_option maxRecDepth 100000 in
theorem with_any (t : Int) (A : Option Addr) (n c : Nat) (x y z u : Int) (cs : List Clu) (lo hi : Nat) (w : World) (hn : cs.length = n) (hlen : n ≤ 1000) (hnc : n ≤ c) (hs : Seg w lo hi A (flat4 cs)) (hB : hi ≤ w.heap.size) :
    Calls Try.prog 85 #[pzV t A n c, clV (x, y, z, u)] w (RetPw t (cs ++ [(x, y, z, u)]) w) := by
  obtain ⟨A1, hA1⟩ : ∃ x, cutV A n 0 = x := ⟨_, rfl⟩
  have G1 := cut_seg hs n 0 n (by omega) (by omega) (by omega)
  rw [hA1, List.take_of_length_le (show cs.length ≤ n by omega), List.drop_zero] at G1
  have hnil : A1 = none → n = 0 := by
    intro h
    rcases hs with h0 | ⟨b, off, e, _⟩
    · rw [flat4_nil h0] at hn; simpa using hn.symm
    · rw [e] at hA1; unfold cutV at hA1; rw [h] at hA1; split at hA1 <;> simp at hA1
  have HA1 := Lib.hid hA1
  have HN := Lib.hid hn
  obtain ⟨W, hW⟩ : ∃ W, ((w.alloc (.cells #[.int .i64 t, .slice A n c] 35)).alloc (.cells #[.int .i64 x, .int .i64 y, .int .i64 z, .int .i64 u] 25)).alloc (.cells #[.int .i64 0, .slice none 0 0] 35) = W := ⟨_, rfl⟩
  have z0 : Below w.heap.size w W := by rw [← hW]; exact (((Below.refl _ _).alloc (Nat.le_refl _) _).alloc (by simp) _).alloc (by simp; omega) _
  have p0 : W.heap[w.heap.size]? = some (.cells #[.int .i64 t, .slice A n c] 35 (0, 0)) := by rw [← hW]; exact (alloc_old _ (by simp; omega) _).trans ((alloc_old _ (by simp) _).trans (new_at _ _ rfl))
  have c0 : W.heap[w.heap.size + 1]? = some (.cells #[.int .i64 x, .int .i64 y, .int .i64 z, .int .i64 u] 25 (0, 0)) := by rw [← hW]; exact (alloc_old _ (by simp) _).trans (new_at _ _ (by simp))
  have r0 : W.heap[w.heap.size + 1 + 1]? = some (.cells #[.int .i64 0, .slice none 0 0] 35 (0, 0)) := by rw [← hW]; exact new_at _ _ (by simp)
  have hsz : w.heap.size + 1 + 1 < W.heap.size := heap_lt r0
  have HW := Lib.hid hW
  have q0 := cell_of p0 0
  have q1 := cell_of p0 1
  simp only [List.getElem?_toArray, List.getElem?_cons_zero, List.getElem?_cons_succ] at q0 q1
  clear hW hA1 hn hs
  go_enter Try.func85, Try.ntmps85
  go_wp2_with fail
  rw [HW.out]
  refine (cut_any t A n c 0 n _ (by omega) hnc (by omega) (by omega)).mono ?_
  rintro e v1 ⟨rfl, hb1⟩
  rw [HA1.out, Nat.sub_zero]
  have hz1 := hb1.size
  have y1 := z0.trans (hb1.mono (by omega))
  obtain ⟨v2, hv2⟩ : ∃ v, v1.alloc (.cells #[.int .i64 t, .slice A1 n n] 35) = v := ⟨_, rfl⟩
  have hb2 : Below v1.heap.size v1 v2 := by rw [← hv2]; exact (Below.refl _ _).alloc (Nat.le_refl _) _
  have l2 : v2.heap[v1.heap.size]? = some (.cells #[.int .i64 t, .slice A1 n n] 35 (0, 0)) := by rw [← hv2]; exact new_at _ _ rfl
  obtain ⟨v3, hv3⟩ : ∃ v, v2.alloc (.cells #[.int .i64 x, .int .i64 y, .int .i64 z, .int .i64 u] 25) = v := ⟨_, rfl⟩
  have hb3 : Below v2.heap.size v2 v3 := by rw [← hv3]; exact (Below.refl _ _).alloc (Nat.le_refl _) _
  have n3 : v3.heap[v2.heap.size]? = some (.cells #[.int .i64 x, .int .i64 y, .int .i64 z, .int .i64 u] 25 (0, 0)) := by rw [← hv3]; exact new_at _ _ rfl
  have hs2 : v2.heap.size = v1.heap.size + 1 := by rw [← hv2]; simp
  rw [hs2] at n3
  have hz2 := hb2.size
  have hz3 := hb3.size
  have y3 := (y1.trans (hb2.mono (by omega))).trans (hb3.mono (by omega))
  obtain ⟨v', w4, hrun, ho, hb4⟩ := run_append_full A1 n cs x y z u lo hi (v1.heap.size + 1) HN.out hlen (G1.below y3 hB) n3 hnil
  obtain ⟨A4, c4, rfl, hl4, hc4, ho4⟩ := seg_of_row4 ho
  have HV2 := Lib.hid hv2
  have HV3 := Lib.hid hv3
  have HRUN := Lib.hid hrun
  have hz4 := hb4.size
  have y4 := y3.trans (hb4.mono (by omega))
  have qq0 := cell_of ((hb1.block _ (by omega)).trans c0) 0
  have qq1 := cell_of ((hb1.block _ (by omega)).trans c0) 1
  have qq2 := cell_of ((hb1.block _ (by omega)).trans c0) 2
  have qq3 := cell_of ((hb1.block _ (by omega)).trans c0) 3
  have l4 := ((hb4.block _ (by omega)).trans (hb3.block _ (by omega))).trans l2
  have r4 := ((((hb4.block _ (by omega)).trans (hb3.block _ (by omega))).trans (hb2.block _ (by omega))).trans (hb1.block _ (by omega))).trans r0
  have d0 := cell_of l4 0
  have d1 := cell_of l4 1
  have e0 := cell_of r4 0
  have e1 := cell_of r4 1
  have f0 := frozen_of l4 1
  have f1 := frozen_of r4 0
  have f2 := frozen_of r4 1
  simp only [List.getElem?_toArray, List.getElem?_cons_zero, List.getElem?_cons_succ] at qq0 qq1 qq2 qq3 d0 d1 e0 e1
  have b1 : w.heap.size + 1 < v1.heap.size := by omega
  have b2 : w.heap.size + 1 + 1 ≠ v1.heap.size := by omega
  have b3 : v1.heap.size ≠ w.heap.size + 1 + 1 := by omega
  clear q0 q1 p0 c0 r0 hv2 hv3 hrun l2 n3 ho G1
  go_wp2_with (at_builtin; rw [HV2.out, HV3.out]; refine Lib.wpList_append_run _ rfl _ _ _ _ rfl _ _ rfl rfl _ _ HRUN.out ?_)
  refine bodyPost_ret (v := pzV t A4 (n + 1) c4) (by simp [results, Try.results85, go_sem, e0, e1]) rfl ⟨A4, n + 1, c4, rfl, by rw [← hl4], by omega, ?_, ((y4.setCell (by simp; omega) _).setCell (by simp; omega) _).setCell (by simp; omega) _⟩
  simp only [World.size_setCell]
  exact (ho4.keep fun b h1 h2 => (set_far _ (by simp; omega) _).trans ((set_far _ (by simp; omega) _).trans (set_far _ (by simp; omega) _))).more (by omega) (Nat.le_refl _)

/-- A clue may come behind. -/
def addB (t : Int) (cs : List Clu) (c : Clu) : Bool := puzB t cs && (clueB t c && decide (cs.length ≠ 6))

set_option maxHeartbeats 4000000 in
theorem impl_AddClue (t : Int) (A : Option Addr) (n c : Nat) (x y z u : Int) (cs : List Clu) (lo hi : Nat) (w : World) (hn : cs.length = n) (hlen : n ≤ 1048576) (hnc : n ≤ c) (hs : Seg w lo hi A (flat4 cs)) (hB : hi ≤ w.heap.size) (q : Bool) (hq : addB t cs (x, y, z, u) = q) :
    Calls Try.prog 52 #[pzV t A n c, clV (x, y, z, u)] w (RetU q (intU q t) (listU q (cs ++ [(x, y, z, u)])) w) := by
  obtain ⟨W, hW⟩ : ∃ W, ((w.alloc (.cells #[.int .i64 t, .slice A n c] 35)).alloc (.cells #[.int .i64 x, .int .i64 y, .int .i64 z, .int .i64 u] 25)).alloc (.cells #[.int .i64 0, .slice none 0 0] 35) = W := ⟨_, rfl⟩
  have z0 : Below w.heap.size w W := by rw [← hW]; exact (((Below.refl _ _).alloc (Nat.le_refl _) _).alloc (by simp) _).alloc (by simp; omega) _
  have p0 : W.heap[w.heap.size]? = some (.cells #[.int .i64 t, .slice A n c] 35 (0, 0)) := by rw [← hW]; exact (alloc_old _ (by simp; omega) _).trans ((alloc_old _ (by simp) _).trans (new_at _ _ rfl))
  have k0 : W.heap[w.heap.size + 1]? = some (.cells #[.int .i64 x, .int .i64 y, .int .i64 z, .int .i64 u] 25 (0, 0)) := by rw [← hW]; exact (alloc_old _ (by simp) _).trans (new_at _ _ (by simp))
  have r0 : W.heap[w.heap.size + 1 + 1]? = some (.cells #[.int .i64 0, .slice none 0 0] 35 (0, 0)) := by rw [← hW]; exact new_at _ _ (by simp)
  have hsz : w.heap.size + 1 + 1 < W.heap.size := heap_lt r0
  have sW := hs.below z0 hB
  have HW := Lib.hid hW
  clear hW
  obtain ⟨g, hg⟩ : ∃ g, puzB t cs = g := ⟨_, rfl⟩
  have HG := Lib.hid hg
  have HN := Lib.hid hn
  obtain ⟨v, hv⟩ : ∃ v, clK x t y z u = v := ⟨_, rfl⟩
  have HV := Lib.hid hv
  have hv' : clueB t (x, y, z, u) = v := hv
  have HV' := Lib.hid hv'
  have q0 := cell_of p0 0
  have q1 := cell_of p0 1
  simp only [List.getElem?_toArray, List.getElem?_cons_zero, List.getElem?_cons_succ] at q0 q1
  clear hg hn hv hv'
  go_enter Try.func52, Try.ntmps52
  go_wp2_with fail
  rw [HW.out]
  refine (impl_IsPuzzleQ t A n c cs lo hi _ HN.out hlen sW (by omega) g HG.out).mono ?_
  rintro e v0 ⟨rfl, hb0⟩
  have hz0 := hb0.size
  have y0 := z0.trans (hb0.mono (by omega))
  have p_0 := (hb0.block _ (by omega)).trans p0
  have k_0 := (hb0.block _ (by omega)).trans k0
  have r_0 := (hb0.block _ (by omega)).trans r0
  clear q0 q1 p0 r0 k0
  have far : ∀ (V : World) (v v' : Value) (x : Nat), x ≠ w.heap.size + 1 + 1 → ((V.setCell ⟨w.heap.size + 1 + 1, 0, none⟩ v).setCell ⟨w.heap.size + 1 + 1, 1, none⟩ v').heap[x]? = V.heap[x]? := fun V v v' x hx => (set_far _ hx _).trans (set_far _ hx _)
  have FAR := Lib.hid far
  clear far
  have q0 := cell_of p_0 0
  have q1 := cell_of p_0 1
  have k0 := cell_of k_0 0
  have k1 := cell_of k_0 1
  have k2 := cell_of k_0 2
  have k3 := cell_of k_0 3
  have c0 := cell_of r_0 0
  have c1 := cell_of r_0 1
  have f0 := frozen_of r_0 0
  have f1 := frozen_of r_0 1
  simp only [List.getElem?_toArray, List.getElem?_cons_zero, List.getElem?_cons_succ] at q0 q1 k0 k1 k2 k3 c0 c1
  cases g
  · go_wp2_with fail
    obtain rfl : q = false := by rw [← hq]; simp [addB, HG.out]
    refine bodyPost_ret (v := .tuple #[pzV 0 none 0 0, .bool false]) (by simp [results, Try.results52, go_sem, c0, c1]) rfl ⟨none, 0, 0, rfl, rfl, .inl rfl, ?_⟩
    exact (y0.setCell (p := ⟨w.heap.size + 1 + 1, 0, none⟩) (by simp; omega) _).setCell (p := ⟨w.heap.size + 1 + 1, 1, none⟩) (by simp; omega) _
  obtain ⟨⟨t1, t2⟩, h6, -⟩ := puzB_true.1 HG.out
  rw [HN.out] at h6
  by_cases hs6 : n = 6
  · have e6 : ((n : Int) == 6) = true := by simp [hs6]
    have HS6 := Lib.hid hs6
    clear hs6
    go_wp2_with fail
    obtain rfl : q = false := by rw [← hq]; simp [addB, HN.out, HS6.out]
    refine bodyPost_ret (v := .tuple #[pzV 0 none 0 0, .bool false]) (by simp [results, Try.results52, go_sem, c0, c1]) rfl ⟨none, 0, 0, rfl, rfl, .inl rfl, ?_⟩
    exact (y0.setCell (p := ⟨w.heap.size + 1 + 1, 0, none⟩) (by simp; omega) _).setCell (p := ⟨w.heap.size + 1 + 1, 1, none⟩) (by simp; omega) _
  have e6 : ((n : Int) == 6) = false := by simp; omega
  go_wp2_with fail
  refine (isNoneOf_any t x y z u (by omega) _).mono ?_
  rintro e v1 ⟨he, hb1⟩
  rw [HV.out] at he
  clear q0 q1 k0 k1 k2 k3 c0 c1 f0 f1
  have hz1 := hb1.size
  have y1 := y0.trans (hb1.mono (by omega))
  have p_1 := (hb1.block _ (by omega)).trans p_0
  have k_1 := (hb1.block _ (by omega)).trans k_0
  have r_1 := (hb1.block _ (by omega)).trans r_0
  have q0 := cell_of p_1 0
  have q1 := cell_of p_1 1
  have k0 := cell_of k_1 0
  have k1 := cell_of k_1 1
  have k2 := cell_of k_1 2
  have k3 := cell_of k_1 3
  have c0 := cell_of r_1 0
  have c1 := cell_of r_1 1
  have f0 := frozen_of r_1 0
  have f1 := frozen_of r_1 1
  simp only [List.getElem?_toArray, List.getElem?_cons_zero, List.getElem?_cons_succ] at q0 q1 k0 k1 k2 k3 c0 c1
  clear e6
  cases v
  · subst he
    go_wp2_with fail
    obtain rfl : q = false := by rw [← hq]; simp [addB, HV'.out]
    refine bodyPost_ret (v := .tuple #[pzV 0 none 0 0, .bool false]) (by simp [results, Try.results52, go_sem, c0, c1]) rfl ⟨none, 0, 0, rfl, rfl, .inl rfl, ?_⟩
    exact (y1.setCell (p := ⟨w.heap.size + 1 + 1, 0, none⟩) (by simp; omega) _).setCell (p := ⟨w.heap.size + 1 + 1, 1, none⟩) (by simp; omega) _
  subst he
  obtain rfl : q = true := by rw [← hq]; simp [addB, HG.out, HV'.out, HN.out, hs6]
  go_wp2_with fail
  refine (with_any t A n c x y z u cs lo hi _ HN.out (by omega) hnc (hs.below y1 hB) (by omega)).mono ?_
  rintro e v2 ⟨A3, n3, c3, rfl, hl3, hc3, ho3, hb2⟩
  clear q0 q1 k0 k1 k2 k3 c0 c1 f0 f1
  have hz2 := hb2.size
  have y2 := y1.trans (hb2.mono (by omega))
  have p_2 := (hb2.block _ (by omega)).trans p_1
  have k_2 := (hb2.block _ (by omega)).trans k_1
  have r_2 := (hb2.block _ (by omega)).trans r_1
  have q0 := cell_of p_2 0
  have q1 := cell_of p_2 1
  have k0 := cell_of k_2 0
  have k1 := cell_of k_2 1
  have k2 := cell_of k_2 2
  have k3 := cell_of k_2 3
  have c0 := cell_of r_2 0
  have c1 := cell_of r_2 1
  have f0 := frozen_of r_2 0
  have f1 := frozen_of r_2 1
  simp only [List.getElem?_toArray, List.getElem?_cons_zero, List.getElem?_cons_succ] at q0 q1 k0 k1 k2 k3 c0 c1
  clear q0 q1 k0 k1 k2 k3
  go_wp2_with fail
  have hl4 : (listU true (cs ++ [(x, y, z, u)])).length = n3 := by simpa [listU] using hl3
  have ho4 : Own v2 v1.heap.size v2.heap.size A3 (flat4 (cs ++ [(x, y, z, u)])) := ho3
  refine bodyPost_ret (v := .tuple #[pzV t A3 n3 c3, .bool true]) (by simp [results, Try.results52, go_sem, c0, c1]) rfl ⟨A3, n3, c3, rfl, hl4, ?_, (y2.setCell (p := ⟨w.heap.size + 1 + 1, 0, none⟩) (by simp; omega) _).setCell (p := ⟨w.heap.size + 1 + 1, 1, none⟩) (by simp; omega) _⟩
  simp only [World.size_setCell]
  have ho5 := (ho4.keep (w' := (v2.setCell ⟨w.heap.size + 1 + 1, 0, none⟩ (.int .i64 t)).setCell ⟨w.heap.size + 1 + 1, 1, none⟩ (.slice A3 n3 c3)) fun b hb1 hb2 => FAR.out _ _ _ _ (by omega)).more (show w.heap.size ≤ v1.heap.size by omega) (Nat.le_refl _)
  simpa [listU] using ho5

set_option maxHeartbeats 4000000 in
theorem spec_AddClue (t : Int) (A : Option Addr) (n c : Nat) (x y z u : Int) (cs : List Clu) (lo hi : Nat) (w : World) (hn : cs.length = n) (hlen : n ≤ 1048576) (hnc : n ≤ c) (hs : Seg w lo hi A (flat4 cs)) (hB : hi ≤ w.heap.size) (q : Bool) (hq : addB t cs (x, y, z, u) = q) :
    Calls Try.prog 51 #[pzV t A n c, clV (x, y, z, u)] w (RetU q (intU q t) (listU q (cs ++ [(x, y, z, u)])) w) := by
  obtain ⟨W, hW⟩ : ∃ W, ((w.alloc (.cells #[.int .i64 t, .slice A n c] 35)).alloc (.cells #[.int .i64 x, .int .i64 y, .int .i64 z, .int .i64 u] 25)).alloc (.cells #[.int .i64 0, .slice none 0 0] 35) = W := ⟨_, rfl⟩
  have z0 : Below w.heap.size w W := by rw [← hW]; exact (((Below.refl _ _).alloc (Nat.le_refl _) _).alloc (by simp) _).alloc (by simp; omega) _
  have p0 : W.heap[w.heap.size]? = some (.cells #[.int .i64 t, .slice A n c] 35 (0, 0)) := by rw [← hW]; exact (alloc_old _ (by simp; omega) _).trans ((alloc_old _ (by simp) _).trans (new_at _ _ rfl))
  have k0 : W.heap[w.heap.size + 1]? = some (.cells #[.int .i64 x, .int .i64 y, .int .i64 z, .int .i64 u] 25 (0, 0)) := by rw [← hW]; exact (alloc_old _ (by simp) _).trans (new_at _ _ (by simp))
  have r0 : W.heap[w.heap.size + 1 + 1]? = some (.cells #[.int .i64 0, .slice none 0 0] 35 (0, 0)) := by rw [← hW]; exact new_at _ _ (by simp)
  have hsz : w.heap.size + 1 + 1 < W.heap.size := heap_lt r0
  have sW := hs.below z0 hB
  have HW := Lib.hid hW
  clear hW
  obtain ⟨g, hg⟩ : ∃ g, puzB t cs = g := ⟨_, rfl⟩
  have HG := Lib.hid hg
  have HN := Lib.hid hn
  obtain ⟨v, hv⟩ : ∃ v, clK x t y z u = v := ⟨_, rfl⟩
  have HV := Lib.hid hv
  have hv' : clueB t (x, y, z, u) = v := hv
  have HV' := Lib.hid hv'
  have q0 := cell_of p0 0
  have q1 := cell_of p0 1
  simp only [List.getElem?_toArray, List.getElem?_cons_zero, List.getElem?_cons_succ] at q0 q1
  clear hg hn hv hv'
  go_enter Try.func51, Try.ntmps51
  go_wp2_with fail
  rw [HW.out]
  refine (pzGood_Q t A n c cs lo hi _ HN.out hlen sW (by omega) g HG.out).mono ?_
  rintro e v0 ⟨rfl, hb0⟩
  have hz0 := hb0.size
  have y0 := z0.trans (hb0.mono (by omega))
  have p_0 := (hb0.block _ (by omega)).trans p0
  have k_0 := (hb0.block _ (by omega)).trans k0
  have r_0 := (hb0.block _ (by omega)).trans r0
  clear q0 q1 p0 r0 k0
  have far : ∀ (V : World) (v v' : Value) (x : Nat), x ≠ w.heap.size + 1 + 1 → ((V.setCell ⟨w.heap.size + 1 + 1, 0, none⟩ v).setCell ⟨w.heap.size + 1 + 1, 1, none⟩ v').heap[x]? = V.heap[x]? := fun V v v' x hx => (set_far _ hx _).trans (set_far _ hx _)
  have FAR := Lib.hid far
  clear far
  have q0 := cell_of p_0 0
  have q1 := cell_of p_0 1
  have k0 := cell_of k_0 0
  have k1 := cell_of k_0 1
  have k2 := cell_of k_0 2
  have k3 := cell_of k_0 3
  have c0 := cell_of r_0 0
  have c1 := cell_of r_0 1
  have f0 := frozen_of r_0 0
  have f1 := frozen_of r_0 1
  simp only [List.getElem?_toArray, List.getElem?_cons_zero, List.getElem?_cons_succ] at q0 q1 k0 k1 k2 k3 c0 c1
  cases g
  · go_wp2_with fail
    obtain rfl : q = false := by rw [← hq]; simp [addB, HG.out]
    refine bodyPost_ret (v := .tuple #[pzV 0 none 0 0, .bool false]) (by simp [results, Try.results51, go_sem, c0, c1]) rfl ⟨none, 0, 0, rfl, rfl, .inl rfl, ?_⟩
    exact (y0.setCell (p := ⟨w.heap.size + 1 + 1, 0, none⟩) (by simp; omega) _).setCell (p := ⟨w.heap.size + 1 + 1, 1, none⟩) (by simp; omega) _
  obtain ⟨⟨t1, t2⟩, h6, -⟩ := puzB_true.1 HG.out
  rw [HN.out] at h6
  go_wp2_with fail
  refine (pzClue_any t x y z u (by omega) _).mono ?_
  rintro e v1 ⟨he, hb1⟩
  rw [HV.out] at he
  clear q0 q1 k0 k1 k2 k3 c0 c1 f0 f1
  have hz1 := hb1.size
  have y1 := y0.trans (hb1.mono (by omega))
  have p_1 := (hb1.block _ (by omega)).trans p_0
  have k_1 := (hb1.block _ (by omega)).trans k_0
  have r_1 := (hb1.block _ (by omega)).trans r_0
  have q0 := cell_of p_1 0
  have q1 := cell_of p_1 1
  have k0 := cell_of k_1 0
  have k1 := cell_of k_1 1
  have k2 := cell_of k_1 2
  have k3 := cell_of k_1 3
  have c0 := cell_of r_1 0
  have c1 := cell_of r_1 1
  have f0 := frozen_of r_1 0
  have f1 := frozen_of r_1 1
  simp only [List.getElem?_toArray, List.getElem?_cons_zero, List.getElem?_cons_succ] at q0 q1 k0 k1 k2 k3 c0 c1
  cases v
  · subst he
    go_wp2_with fail
    obtain rfl : q = false := by rw [← hq]; simp [addB, HV'.out]
    refine bodyPost_ret (v := .tuple #[pzV 0 none 0 0, .bool false]) (by simp [results, Try.results51, go_sem, c0, c1]) rfl ⟨none, 0, 0, rfl, rfl, .inl rfl, ?_⟩
    exact (y1.setCell (p := ⟨w.heap.size + 1 + 1, 0, none⟩) (by simp; omega) _).setCell (p := ⟨w.heap.size + 1 + 1, 1, none⟩) (by simp; omega) _
  subst he
  by_cases hs6 : n = 6
  · have e6 : ((n : Int) == 6) = true := by simp [hs6]
    have HS6 := Lib.hid hs6
    clear hs6
    go_wp2_with fail
    obtain rfl : q = false := by rw [← hq]; simp [addB, HN.out, HS6.out]
    refine bodyPost_ret (v := .tuple #[pzV 0 none 0 0, .bool false]) (by simp [results, Try.results51, go_sem, c0, c1]) rfl ⟨none, 0, 0, rfl, rfl, .inl rfl, ?_⟩
    exact (y1.setCell (p := ⟨w.heap.size + 1 + 1, 0, none⟩) (by simp; omega) _).setCell (p := ⟨w.heap.size + 1 + 1, 1, none⟩) (by simp; omega) _
  have e6 : ((n : Int) == 6) = false := by simp; omega
  obtain rfl : q = true := by rw [← hq]; simp [addB, HG.out, HV'.out, HN.out, hs6]
  go_wp2_with fail
  clear e6
  clear q0 q1 k0 k1 k2 k3 c0 c1 f0 f1
  obtain ⟨i0, hi0, hz0', hz1', hz2'⟩ := info_parts clue_infoI
  obtain ⟨vd, hvd⟩ : ∃ vd, v1.drew = vd := ⟨_, rfl⟩
  have yd : Below w.heap.size w vd := by rw [← hvd]; exact y1.drew
  have p_d : vd.heap[w.heap.size]? = some (.cells #[.int .i64 t, .slice A n c] 35 (0, 0)) := by rw [← hvd]; exact p_1
  have k_d : vd.heap[w.heap.size + 1]? = some (.cells #[.int .i64 x, .int .i64 y, .int .i64 z, .int .i64 u] 25 (0, 0)) := by rw [← hvd]; exact k_1
  have r_d : vd.heap[w.heap.size + 1 + 1]? = some (.cells #[.int .i64 0, .slice none 0 0] 35 (0, 0)) := by rw [← hvd]; exact r_1
  refine wp_region_held_drew (S := fun wq => wq.heap[w.heap.size]? = some (.cells #[.int .i64 t, .slice A n c] 35 (0, 0)) ∧ wq.heap[w.heap.size + 1]? = some (.cells #[.int .i64 x, .int .i64 y, .int .i64 z, .int .i64 u] 25 (0, 0))) (by kernel_rfl) ⟨p_1, k_1⟩ (fun hH0 => ?_)
  refine wpAnyH_take (i := 0) (v := ?_) (ops_at rfl) (by kernel_rfl) (by kernel_rfl) (by kernel_rfl) (fun _ _ _ h => h) (Or.inl ⟨by rfl, ?ya0⟩) (by assumption) ?na0
  case ya0 => (intro wS hSw; obtain ⟨s0, s1⟩ := hSw; have q0 := cell_of s0 0; have q1 := cell_of s0 1; have k0 := cell_of s1 0; have k1 := cell_of s1 1; have k2 := cell_of s1 2; have k3 := cell_of s1 3; go_simp; try rfl)
  try simp only [Act.put, List.setIfInBounds_toArray, List.set_cons_zero, List.set_cons_succ]
  refine wpAnyH_take (i := 1) (v := ?_) (ops_at rfl) (by kernel_rfl) (by kernel_rfl) (by kernel_rfl) (fun _ _ _ h => h) (Or.inl ⟨by rfl, ?ya1⟩) (by assumption) ?na1
  case ya1 => (intro wS hSw; obtain ⟨s0, s1⟩ := hSw; have q0 := cell_of s0 0; have q1 := cell_of s0 1; have k0 := cell_of s1 0; have k1 := cell_of s1 1; have k2 := cell_of s1 2; have k3 := cell_of s1 3; go_simp; try rfl)
  try simp only [Act.put, List.setIfInBounds_toArray, List.set_cons_zero, List.set_cons_succ]
  refine wpAnyH_take (i := 3) (v := ?_) (ops_at rfl) (by kernel_rfl) (by kernel_rfl) (by kernel_rfl) (fun _ _ _ h => h) (Or.inl ⟨by rfl, ?ya3⟩) (by assumption) ?na3
  case ya3 => (intro wS hSw; obtain ⟨s0, s1⟩ := hSw; have q0 := cell_of s0 0; have q1 := cell_of s0 1; have k0 := cell_of s1 0; have k1 := cell_of s1 1; have k2 := cell_of s1 2; have k3 := cell_of s1 3; go_simp; try rfl)
  try simp only [Act.put, List.setIfInBounds_toArray, List.set_cons_zero, List.set_cons_succ]
  refine wpAnyH_take (i := 4) (v := ?_) (ops_at rfl) (by kernel_rfl) (by kernel_rfl) (by kernel_rfl) (fun _ _ _ h => h) (Or.inl ⟨by rfl, ?ya4⟩) (by assumption) ?na4
  case ya4 => (intro wS hSw; obtain ⟨s0, s1⟩ := hSw; have q0 := cell_of s0 0; have q1 := cell_of s0 1; have k0 := cell_of s1 0; have k1 := cell_of s1 1; have k2 := cell_of s1 2; have k3 := cell_of s1 3; go_simp; try rfl)
  try simp only [Act.put, List.setIfInBounds_toArray, List.set_cons_zero, List.set_cons_succ]
  refine wpAnyH_take (i := 6) (v := ?_) (ops_at rfl) (by kernel_rfl) (by kernel_rfl) (by kernel_rfl) (fun _ _ _ h => h) (Or.inl ⟨by rfl, ?ya6⟩) (by assumption) ?na6
  case ya6 => (intro wS hSw; obtain ⟨s0, s1⟩ := hSw; have q0 := cell_of s0 0; have q1 := cell_of s0 1; have k0 := cell_of s1 0; have k1 := cell_of s1 1; have k2 := cell_of s1 2; have k3 := cell_of s1 3; go_simp; try rfl)
  try simp only [Act.put, List.setIfInBounds_toArray, List.set_cons_zero, List.set_cons_succ]
  rw [hvd] at hH0 ⊢
  have HVD := Lib.hid hvd
  clear hvd p_1 k_1 r_1
  have xr := heap_lt r_d
  refine wpAnyH_ready (rs := [2, 7]) (by kernel_rfl) (by simp) ?_
  refine AllReadyH.cons (ops_at rfl) (fun K hK => ?_) (AllReadyH.cons (ops_at rfl) (fun K hK => ?_) AllReadyH.nil)
  · go_simp
    obtain ⟨u1, hv1⟩ : ∃ v, vd.alloc (.cells #[] 25) = v := ⟨_, rfl⟩
    have hc1 : Below vd.heap.size vd u1 := by rw [← hv1]; exact (Below.refl _ _).alloc (Nat.le_refl _) _
    have R2 : u1.ownsRow vd.heap.size 25 4 (.slice (some ⟨vd.heap.size, 0, none⟩) 0 0) 0 [] := by rw [← hv1]; exact World.ownsRow_lit vd #[] 0 (by omega) (Nat.zero_le _) rfl
    have rz2 : vd.heap.size < u1.heap.size := by rw [← hv1]; simp
    have hc1' : Below vd.heap.size vd u1 := hc1.mono (by omega)
    have cz1 := hc1'.size
    have y_u12 := yd.trans (hc1'.mono yd.size)
    have p_u12 := (hc1'.block _ (by omega)).trans p_d
    have k_u12 := (hc1'.block _ (by omega)).trans k_d
    have r_u12 := (hc1'.block _ (by omega)).trans r_d
    rw [hv1]
    refine hK.out _ _ ⟨p_u12, k_u12⟩ (fun hR2 => ?_)
    clear hK K
    clear hv1
    refine wpAnyH_ready (rs := [5, 7]) (by kernel_rfl) (by simp) ?_
    refine AllReadyH.cons (ops_at rfl) (fun K hK => ?_) (AllReadyH.cons (ops_at rfl) (fun K hK => ?_) AllReadyH.nil)
    · have sg25 := hs.below y_u12 hB
      refine step_append_flat4 _ rfl (.tmp 25) (.tmp 27) 33 rfl vd.heap.size 25 i0 Try.underlying33 hi0 hz0' hz1' hz2' _ 0 _ rfl R2 A n c cs _ _ rfl HN.out sg25 (by omega) (by omega) ?_
      intro v25 u2 ho25 hg25
      have lt25 := R2.lt
      have hc2' : Below vd.heap.size u1 u2 := below_of_grown4 hg25 (fun g hg => (lt25 g hg).1) (by omega)
      have cz2 := hc2'.size
      have y_u225 := y_u12.trans (hc2'.mono yd.size)
      have p_u225 := (hc2'.block _ (by omega)).trans p_u12
      have k_u225 := (hc2'.block _ (by omega)).trans k_u12
      have r_u225 := (hc2'.block _ (by omega)).trans r_u12
      refine hK.out _ _ ⟨p_u225, k_u225⟩ (fun hR25 => ?_)
      clear hK K
      refine wpAnyH_ready (rs := [7]) (by kernel_rfl) (by simp) ?_
      refine AllReadyH.cons (ops_at rfl) (fun K hK => ?_) AllReadyH.nil
      go_simp
      obtain ⟨u3, hv3⟩ : ∃ v, u2.alloc (.cells #[.int .i64 x, .int .i64 y, .int .i64 z, .int .i64 u] 25) = v := ⟨_, rfl⟩
      have hc3 : Below u2.heap.size u2 u3 := by rw [← hv3]; exact (Below.refl _ _).alloc (Nat.le_refl _) _
      have N257 : u3.heap[u2.heap.size]? = some (.cells #[.int .i64 x, .int .i64 y, .int .i64 z, .int .i64 u] 25 (0, 0)) := by rw [← hv3]; exact new_at _ _ rfl
      have G257 : Seg u3 u2.heap.size (u2.heap.size + 1) (some ⟨u2.heap.size, 0, none⟩) (flat4 [(x, y, z, u)]) := by rw [← hv3]; exact seg_clue u2 x y z u _
      have gz257 : u2.heap.size + 1 ≤ u3.heap.size := by rw [← hv3]; simp
      have R257 := ho25.alloc (.cells #[.int .i64 x, .int .i64 y, .int .i64 z, .int .i64 u] 25)
      rw [hv3] at R257
      have hc3' : Below vd.heap.size u2 u3 := hc3.mono (by omega)
      have cz3 := hc3'.size
      have y_u3257 := y_u225.trans (hc3'.mono yd.size)
      have p_u3257 := (hc3'.block _ (by omega)).trans p_u225
      have k_u3257 := (hc3'.block _ (by omega)).trans k_u225
      have r_u3257 := (hc3'.block _ (by omega)).trans r_u225
      rw [hv3]
      refine hK.out _ _ ⟨p_u3257, k_u3257⟩ (fun hR257 => ?_)
      clear hK K
      clear hv3
      refine wpAnyH_ready (rs := [8]) (by kernel_rfl) (by simp) ?_
      refine AllReadyH.cons (ops_at rfl) (fun K hK => ?_) AllReadyH.nil
      refine step_append_flat4 _ rfl (.tmp 28) (.tmp 30) 33 rfl vd.heap.size 25 i0 Try.underlying33 hi0 hz0' hz1' hz2' _ (0 + n) _ rfl R257 _ 1 1 [(x, y, z, u)] _ _ rfl rfl G257 (by omega) (by omega) ?_
      intro v2578 u4 ho2578 hg2578
      have lt2578 := R257.lt
      have hc4' : Below vd.heap.size u3 u4 := below_of_grown4 hg2578 (fun g hg => (lt2578 g hg).1) (by omega)
      have cz4 := hc4'.size
      have y_u42578 := y_u3257.trans (hc4'.mono yd.size)
      have p_u42578 := (hc4'.block _ (by omega)).trans p_u3257
      have k_u42578 := (hc4'.block _ (by omega)).trans k_u3257
      have r_u42578 := (hc4'.block _ (by omega)).trans r_u3257
      refine hK.out _ _ ⟨p_u42578, k_u42578⟩ (fun hR2578 => ?_)
      clear hK K
      have hF : u4.ownsRow vd.heap.size 25 4 v2578 (0 + n + 1) (vals4 (cs ++ [(x, y, z, u)])) := by rw [vals4_append]; simpa using ho2578
      obtain ⟨A3, c3, rfl, f1, f2, f3⟩ := seg_of_row4 hF
      obtain ⟨n3, hn3⟩ : ∃ n3, 0 + n + 1 = n3 := ⟨_, rfl⟩
      rw [hn3] at f1 f2 ⊢
      clear hF ho2578
      refine wpAnyH_take (i := 9) (v := ?_) (ops_at rfl) (by kernel_rfl) (by kernel_rfl) (by kernel_rfl) (fun _ _ _ h => h) (Or.inl ⟨by rfl, ?yt25789⟩) (by assumption) ?nt25789
      case yt25789 => (intro wS hSw; obtain ⟨s0, s1⟩ := hSw; have q0 := cell_of s0 0; have q1 := cell_of s0 1; have k0 := cell_of s1 0; have k1 := cell_of s1 1; have k2 := cell_of s1 2; have k3 := cell_of s1 3; go_simp; try rfl)
      try simp only [Act.put, List.setIfInBounds_toArray, List.set_cons_zero, List.set_cons_succ]
      have c0 := cell_of r_u42578 0
      have c1 := cell_of r_u42578 1
      have f0 := frozen_of r_u42578 0
      have ff1 := frozen_of r_u42578 1
      simp only [List.getElem?_toArray, List.getElem?_cons_zero, List.getElem?_cons_succ] at c0 c1
      refine wpAnyH_ready (rs := [10]) (by kernel_rfl) (by simp) ?_
      refine AllReadyH.cons (ops_at rfl) (fun K hK => ?_) AllReadyH.nil
      go_simp
      refine hK.out _ _ ⟨(FAR.out _ _ _ _ (by omega)).trans p_u42578, (FAR.out _ _ _ _ (by omega)).trans k_u42578⟩ (fun hR10 => ?_)
      clear hK K
      refine wpAnyH_ready (rs := [11]) (by kernel_rfl) (by simp) ?_
      refine AllReadyH.cons (ops_at rfl) (fun K hK => ?_) AllReadyH.nil
      go_simp
      refine hK.out _ _ ⟨(FAR.out _ _ _ _ (by omega)).trans p_u42578, (FAR.out _ _ _ _ (by omega)).trans k_u42578⟩ (fun hR11 => ?_)
      clear hK K
      refine wpAnyH_done (by kernel_rfl) ?_ _
      go_wp2
      have hl4 : (listU true (cs ++ [(x, y, z, u)])).length = n3 := by simpa [listU] using f1
      have ho4 : Own u4 vd.heap.size u4.heap.size A3 (flat4 (cs ++ [(x, y, z, u)])) := f3
      refine bodyPost_ret (v := .tuple #[pzV t A3 n3 c3, .bool true]) (by simp [results, Try.results51, go_sem, c0, c1]) rfl ⟨A3, n3, c3, rfl, hl4, ?_, (y_u42578.setCell (p := ⟨w.heap.size + 1 + 1, 0, none⟩) (by simp; omega) _).setCell (p := ⟨w.heap.size + 1 + 1, 1, none⟩) (by simp; omega) _⟩
      simp only [World.size_setCell]
      have ho5 := (ho4.keep (w' := (u4.setCell ⟨w.heap.size + 1 + 1, 0, none⟩ (.int .i64 t)).setCell ⟨w.heap.size + 1 + 1, 1, none⟩ (.slice A3 n3 c3)) fun b hb1 hb2 => FAR.out _ _ _ _ (by omega)).more (show w.heap.size ≤ vd.heap.size by omega) (Nat.le_refl _)
      simpa [listU] using ho5
    · go_simp
      obtain ⟨u2, hv2⟩ : ∃ v, u1.alloc (.cells #[.int .i64 x, .int .i64 y, .int .i64 z, .int .i64 u] 25) = v := ⟨_, rfl⟩
      have hc2 : Below u1.heap.size u1 u2 := by rw [← hv2]; exact (Below.refl _ _).alloc (Nat.le_refl _) _
      have N27 : u2.heap[u1.heap.size]? = some (.cells #[.int .i64 x, .int .i64 y, .int .i64 z, .int .i64 u] 25 (0, 0)) := by rw [← hv2]; exact new_at _ _ rfl
      have G27 : Seg u2 u1.heap.size (u1.heap.size + 1) (some ⟨u1.heap.size, 0, none⟩) (flat4 [(x, y, z, u)]) := by rw [← hv2]; exact seg_clue u1 x y z u _
      have gz27 : u1.heap.size + 1 ≤ u2.heap.size := by rw [← hv2]; simp
      have R27 := R2.alloc (.cells #[.int .i64 x, .int .i64 y, .int .i64 z, .int .i64 u] 25)
      rw [hv2] at R27
      have hc2' : Below vd.heap.size u1 u2 := hc2.mono (by omega)
      have cz2 := hc2'.size
      have y_u227 := y_u12.trans (hc2'.mono yd.size)
      have p_u227 := (hc2'.block _ (by omega)).trans p_u12
      have k_u227 := (hc2'.block _ (by omega)).trans k_u12
      have r_u227 := (hc2'.block _ (by omega)).trans r_u12
      rw [hv2]
      refine hK.out _ _ ⟨p_u227, k_u227⟩ (fun hR27 => ?_)
      clear hK K
      clear hv2
      refine wpAnyH_ready (rs := [5]) (by kernel_rfl) (by simp) ?_
      refine AllReadyH.cons (ops_at rfl) (fun K hK => ?_) AllReadyH.nil
      have sg275 := hs.below y_u227 hB
      refine step_append_flat4 _ rfl (.tmp 25) (.tmp 27) 33 rfl vd.heap.size 25 i0 Try.underlying33 hi0 hz0' hz1' hz2' _ 0 _ rfl R27 A n c cs _ _ rfl HN.out sg275 (by omega) (by omega) ?_
      intro v275 u3 ho275 hg275
      have lt275 := R27.lt
      have hc3' : Below vd.heap.size u2 u3 := below_of_grown4 hg275 (fun g hg => (lt275 g hg).1) (by omega)
      have G275 := G27.grown hg275 (by omega) (fun g hg => by have hg2 : some (vd.heap.size) = some g := hg; injection hg2 with hg2; omega)
      have cz3 := hc3'.size
      have y_u3275 := y_u227.trans (hc3'.mono yd.size)
      have p_u3275 := (hc3'.block _ (by omega)).trans p_u227
      have k_u3275 := (hc3'.block _ (by omega)).trans k_u227
      have r_u3275 := (hc3'.block _ (by omega)).trans r_u227
      refine hK.out _ _ ⟨p_u3275, k_u3275⟩ (fun hR275 => ?_)
      clear hK K
      refine wpAnyH_ready (rs := [8]) (by kernel_rfl) (by simp) ?_
      refine AllReadyH.cons (ops_at rfl) (fun K hK => ?_) AllReadyH.nil
      refine step_append_flat4 _ rfl (.tmp 28) (.tmp 30) 33 rfl vd.heap.size 25 i0 Try.underlying33 hi0 hz0' hz1' hz2' _ (0 + n) _ rfl ho275 _ 1 1 [(x, y, z, u)] _ _ rfl rfl G275 (by omega) (by omega) ?_
      intro v2758 u4 ho2758 hg2758
      have lt2758 := ho275.lt
      have hc4' : Below vd.heap.size u3 u4 := below_of_grown4 hg2758 (fun g hg => (lt2758 g hg).1) (by omega)
      have cz4 := hc4'.size
      have y_u42758 := y_u3275.trans (hc4'.mono yd.size)
      have p_u42758 := (hc4'.block _ (by omega)).trans p_u3275
      have k_u42758 := (hc4'.block _ (by omega)).trans k_u3275
      have r_u42758 := (hc4'.block _ (by omega)).trans r_u3275
      refine hK.out _ _ ⟨p_u42758, k_u42758⟩ (fun hR2758 => ?_)
      clear hK K
      have hF : u4.ownsRow vd.heap.size 25 4 v2758 (0 + n + 1) (vals4 (cs ++ [(x, y, z, u)])) := by rw [vals4_append]; simpa using ho2758
      obtain ⟨A3, c3, rfl, f1, f2, f3⟩ := seg_of_row4 hF
      obtain ⟨n3, hn3⟩ : ∃ n3, 0 + n + 1 = n3 := ⟨_, rfl⟩
      rw [hn3] at f1 f2 ⊢
      clear hF ho2758
      refine wpAnyH_take (i := 9) (v := ?_) (ops_at rfl) (by kernel_rfl) (by kernel_rfl) (by kernel_rfl) (fun _ _ _ h => h) (Or.inl ⟨by rfl, ?yt27589⟩) (by assumption) ?nt27589
      case yt27589 => (intro wS hSw; obtain ⟨s0, s1⟩ := hSw; have q0 := cell_of s0 0; have q1 := cell_of s0 1; have k0 := cell_of s1 0; have k1 := cell_of s1 1; have k2 := cell_of s1 2; have k3 := cell_of s1 3; go_simp; try rfl)
      try simp only [Act.put, List.setIfInBounds_toArray, List.set_cons_zero, List.set_cons_succ]
      have c0 := cell_of r_u42758 0
      have c1 := cell_of r_u42758 1
      have f0 := frozen_of r_u42758 0
      have ff1 := frozen_of r_u42758 1
      simp only [List.getElem?_toArray, List.getElem?_cons_zero, List.getElem?_cons_succ] at c0 c1
      refine wpAnyH_ready (rs := [10]) (by kernel_rfl) (by simp) ?_
      refine AllReadyH.cons (ops_at rfl) (fun K hK => ?_) AllReadyH.nil
      go_simp
      refine hK.out _ _ ⟨(FAR.out _ _ _ _ (by omega)).trans p_u42758, (FAR.out _ _ _ _ (by omega)).trans k_u42758⟩ (fun hR10 => ?_)
      clear hK K
      refine wpAnyH_ready (rs := [11]) (by kernel_rfl) (by simp) ?_
      refine AllReadyH.cons (ops_at rfl) (fun K hK => ?_) AllReadyH.nil
      go_simp
      refine hK.out _ _ ⟨(FAR.out _ _ _ _ (by omega)).trans p_u42758, (FAR.out _ _ _ _ (by omega)).trans k_u42758⟩ (fun hR11 => ?_)
      clear hK K
      refine wpAnyH_done (by kernel_rfl) ?_ _
      go_wp2
      have hl4 : (listU true (cs ++ [(x, y, z, u)])).length = n3 := by simpa [listU] using f1
      have ho4 : Own u4 vd.heap.size u4.heap.size A3 (flat4 (cs ++ [(x, y, z, u)])) := f3
      refine bodyPost_ret (v := .tuple #[pzV t A3 n3 c3, .bool true]) (by simp [results, Try.results51, go_sem, c0, c1]) rfl ⟨A3, n3, c3, rfl, hl4, ?_, (y_u42758.setCell (p := ⟨w.heap.size + 1 + 1, 0, none⟩) (by simp; omega) _).setCell (p := ⟨w.heap.size + 1 + 1, 1, none⟩) (by simp; omega) _⟩
      simp only [World.size_setCell]
      have ho5 := (ho4.keep (w' := (u4.setCell ⟨w.heap.size + 1 + 1, 0, none⟩ (.int .i64 t)).setCell ⟨w.heap.size + 1 + 1, 1, none⟩ (.slice A3 n3 c3)) fun b hb1 hb2 => FAR.out _ _ _ _ (by omega)).more (show w.heap.size ≤ vd.heap.size by omega) (Nat.le_refl _)
      simpa [listU] using ho5
  · go_simp
    obtain ⟨u1, hv1⟩ : ∃ v, vd.alloc (.cells #[.int .i64 x, .int .i64 y, .int .i64 z, .int .i64 u] 25) = v := ⟨_, rfl⟩
    have hc1 : Below vd.heap.size vd u1 := by rw [← hv1]; exact (Below.refl _ _).alloc (Nat.le_refl _) _
    have N7 : u1.heap[vd.heap.size]? = some (.cells #[.int .i64 x, .int .i64 y, .int .i64 z, .int .i64 u] 25 (0, 0)) := by rw [← hv1]; exact new_at _ _ rfl
    have G7 : Seg u1 vd.heap.size (vd.heap.size + 1) (some ⟨vd.heap.size, 0, none⟩) (flat4 [(x, y, z, u)]) := by rw [← hv1]; exact seg_clue vd x y z u _
    have gz7 : vd.heap.size + 1 ≤ u1.heap.size := by rw [← hv1]; simp
    have hc1' : Below vd.heap.size vd u1 := hc1.mono (by omega)
    have cz1 := hc1'.size
    have y_u17 := yd.trans (hc1'.mono yd.size)
    have p_u17 := (hc1'.block _ (by omega)).trans p_d
    have k_u17 := (hc1'.block _ (by omega)).trans k_d
    have r_u17 := (hc1'.block _ (by omega)).trans r_d
    rw [hv1]
    refine hK.out _ _ ⟨p_u17, k_u17⟩ (fun hR7 => ?_)
    clear hK K
    clear hv1
    refine wpAnyH_ready (rs := [2]) (by kernel_rfl) (by simp) ?_
    refine AllReadyH.cons (ops_at rfl) (fun K hK => ?_) AllReadyH.nil
    go_simp
    obtain ⟨u2, hv2⟩ : ∃ v, u1.alloc (.cells #[] 25) = v := ⟨_, rfl⟩
    have hc2 : Below u1.heap.size u1 u2 := by rw [← hv2]; exact (Below.refl _ _).alloc (Nat.le_refl _) _
    have R72 : u2.ownsRow vd.heap.size 25 4 (.slice (some ⟨u1.heap.size, 0, none⟩) 0 0) 0 [] := by rw [← hv2]; exact World.ownsRow_lit u1 #[] 0 (by omega) (Nat.zero_le _) rfl
    have rz72 : u1.heap.size < u2.heap.size := by rw [← hv2]; simp
    have G72 := G7.below hc2 (by omega)
    have hc2' : Below vd.heap.size u1 u2 := hc2.mono (by omega)
    have cz2 := hc2'.size
    have y_u272 := y_u17.trans (hc2'.mono yd.size)
    have p_u272 := (hc2'.block _ (by omega)).trans p_u17
    have k_u272 := (hc2'.block _ (by omega)).trans k_u17
    have r_u272 := (hc2'.block _ (by omega)).trans r_u17
    rw [hv2]
    refine hK.out _ _ ⟨p_u272, k_u272⟩ (fun hR72 => ?_)
    clear hK K
    clear hv2
    refine wpAnyH_ready (rs := [5]) (by kernel_rfl) (by simp) ?_
    refine AllReadyH.cons (ops_at rfl) (fun K hK => ?_) AllReadyH.nil
    have sg725 := hs.below y_u272 hB
    refine step_append_flat4 _ rfl (.tmp 25) (.tmp 27) 33 rfl vd.heap.size 25 i0 Try.underlying33 hi0 hz0' hz1' hz2' _ 0 _ rfl R72 A n c cs _ _ rfl HN.out sg725 (by omega) (by omega) ?_
    intro v725 u3 ho725 hg725
    have lt725 := R72.lt
    have hc3' : Below vd.heap.size u2 u3 := below_of_grown4 hg725 (fun g hg => (lt725 g hg).1) (by omega)
    have G725 := G72.grown hg725 (by omega) (fun g hg => by have hg2 : some (u1.heap.size) = some g := hg; injection hg2 with hg2; omega)
    have cz3 := hc3'.size
    have y_u3725 := y_u272.trans (hc3'.mono yd.size)
    have p_u3725 := (hc3'.block _ (by omega)).trans p_u272
    have k_u3725 := (hc3'.block _ (by omega)).trans k_u272
    have r_u3725 := (hc3'.block _ (by omega)).trans r_u272
    refine hK.out _ _ ⟨p_u3725, k_u3725⟩ (fun hR725 => ?_)
    clear hK K
    refine wpAnyH_ready (rs := [8]) (by kernel_rfl) (by simp) ?_
    refine AllReadyH.cons (ops_at rfl) (fun K hK => ?_) AllReadyH.nil
    refine step_append_flat4 _ rfl (.tmp 28) (.tmp 30) 33 rfl vd.heap.size 25 i0 Try.underlying33 hi0 hz0' hz1' hz2' _ (0 + n) _ rfl ho725 _ 1 1 [(x, y, z, u)] _ _ rfl rfl G725 (by omega) (by omega) ?_
    intro v7258 u4 ho7258 hg7258
    have lt7258 := ho725.lt
    have hc4' : Below vd.heap.size u3 u4 := below_of_grown4 hg7258 (fun g hg => (lt7258 g hg).1) (by omega)
    have cz4 := hc4'.size
    have y_u47258 := y_u3725.trans (hc4'.mono yd.size)
    have p_u47258 := (hc4'.block _ (by omega)).trans p_u3725
    have k_u47258 := (hc4'.block _ (by omega)).trans k_u3725
    have r_u47258 := (hc4'.block _ (by omega)).trans r_u3725
    refine hK.out _ _ ⟨p_u47258, k_u47258⟩ (fun hR7258 => ?_)
    clear hK K
    have hF : u4.ownsRow vd.heap.size 25 4 v7258 (0 + n + 1) (vals4 (cs ++ [(x, y, z, u)])) := by rw [vals4_append]; simpa using ho7258
    obtain ⟨A3, c3, rfl, f1, f2, f3⟩ := seg_of_row4 hF
    obtain ⟨n3, hn3⟩ : ∃ n3, 0 + n + 1 = n3 := ⟨_, rfl⟩
    rw [hn3] at f1 f2 ⊢
    clear hF ho7258
    refine wpAnyH_take (i := 9) (v := ?_) (ops_at rfl) (by kernel_rfl) (by kernel_rfl) (by kernel_rfl) (fun _ _ _ h => h) (Or.inl ⟨by rfl, ?yt72589⟩) (by assumption) ?nt72589
    case yt72589 => (intro wS hSw; obtain ⟨s0, s1⟩ := hSw; have q0 := cell_of s0 0; have q1 := cell_of s0 1; have k0 := cell_of s1 0; have k1 := cell_of s1 1; have k2 := cell_of s1 2; have k3 := cell_of s1 3; go_simp; try rfl)
    try simp only [Act.put, List.setIfInBounds_toArray, List.set_cons_zero, List.set_cons_succ]
    have c0 := cell_of r_u47258 0
    have c1 := cell_of r_u47258 1
    have f0 := frozen_of r_u47258 0
    have ff1 := frozen_of r_u47258 1
    simp only [List.getElem?_toArray, List.getElem?_cons_zero, List.getElem?_cons_succ] at c0 c1
    refine wpAnyH_ready (rs := [10]) (by kernel_rfl) (by simp) ?_
    refine AllReadyH.cons (ops_at rfl) (fun K hK => ?_) AllReadyH.nil
    go_simp
    refine hK.out _ _ ⟨(FAR.out _ _ _ _ (by omega)).trans p_u47258, (FAR.out _ _ _ _ (by omega)).trans k_u47258⟩ (fun hR10 => ?_)
    clear hK K
    refine wpAnyH_ready (rs := [11]) (by kernel_rfl) (by simp) ?_
    refine AllReadyH.cons (ops_at rfl) (fun K hK => ?_) AllReadyH.nil
    go_simp
    refine hK.out _ _ ⟨(FAR.out _ _ _ _ (by omega)).trans p_u47258, (FAR.out _ _ _ _ (by omega)).trans k_u47258⟩ (fun hR11 => ?_)
    clear hK K
    refine wpAnyH_done (by kernel_rfl) ?_ _
    go_wp2
    have hl4 : (listU true (cs ++ [(x, y, z, u)])).length = n3 := by simpa [listU] using f1
    have ho4 : Own u4 vd.heap.size u4.heap.size A3 (flat4 (cs ++ [(x, y, z, u)])) := f3
    refine bodyPost_ret (v := .tuple #[pzV t A3 n3 c3, .bool true]) (by simp [results, Try.results51, go_sem, c0, c1]) rfl ⟨A3, n3, c3, rfl, hl4, ?_, (y_u47258.setCell (p := ⟨w.heap.size + 1 + 1, 0, none⟩) (by simp; omega) _).setCell (p := ⟨w.heap.size + 1 + 1, 1, none⟩) (by simp; omega) _⟩
    simp only [World.size_setCell]
    have ho5 := (ho4.keep (w' := (u4.setCell ⟨w.heap.size + 1 + 1, 0, none⟩ (.int .i64 t)).setCell ⟨w.heap.size + 1 + 1, 1, none⟩ (.slice A3 n3 c3)) fun b hb1 hb2 => FAR.out _ _ _ _ (by omega)).more (show w.heap.size ≤ vd.heap.size by omega) (Nat.le_refl _)
    simpa [listU] using ho5
end Go.Proofs.Ytoheoojpmndhoaa
