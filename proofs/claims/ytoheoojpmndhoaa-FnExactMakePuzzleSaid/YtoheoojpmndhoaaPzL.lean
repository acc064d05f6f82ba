/-
  A puzzle is made, as the written program does it.
  Conditions: none.
-/
import Derived.Test.YtoheoojpmndhoaaPzJ
import Derived.Test.YtoheoojpmndhoaaPzT
import Derived.Test.YtoheoojpmndhoaaClus
namespace Go.Proofs.Ytoheoojpmndhoaa
set_option linter.unusedVariables false
set_option linter.unusedSimpArgs false
open Go.RowKit

theorem Part.as {w : World} {g T n k k' : Nat} {xs ys : List Int} (h : Part w g T n k xs) (hk : k' ≤ k) (he : ∀ j, j < k' → ys.getD j 0 = xs.getD j 0) : Part w g T n k' ys := by
  obtain ⟨cs, hb, hs, hc⟩ := h
  exact ⟨cs, hb, hs, fun j hj => by rw [he j hj]; exact hc j (by omega)⟩
theorem Part.at_ {w : World} {g T n k j : Nat} {xs : List Int} {x : Int} (h : Part w g T n k xs) (hj : j < k) (hx : xs[j]? = some x) : w.cell? ⟨g, j, none⟩ = some (.int .i64 x) := by
  obtain ⟨cs, hb, hs, hc⟩ := h
  rw [cell_of hb, hc j hj]
  simp [List.getD, hx]
theorem flat4_pre {cs ds : List Clu} {j : Nat} (h : j < cs.length * 4) : (flat4 (cs ++ ds)).getD j 0 = (flat4 cs).getD j 0 := by
  rw [flat4_append]
  simp only [List.getD]
  rw [List.getElem?_append_left (by rw [flat4_length]; omega)]
theorem flat4_last {cs : List Clu} {k a b t u : Int} {j : Nat} (h : j < cs.length * 4 + 3) : (flat4 (cs ++ [(k, a, b, u)])).getD j 0 = (flat4 (cs ++ [(k, a, b, t)])).getD j 0 := by
  simp only [flat4_append, List.getD]
  by_cases h1 : j < cs.length * 4
  · rw [List.getElem?_append_left (by rw [flat4_length]; omega), List.getElem?_append_left (by rw [flat4_length]; omega)]
  · rw [List.getElem?_append_right (by rw [flat4_length]; omega), List.getElem?_append_right (by rw [flat4_length]; omega), flat4_length]
    obtain ⟨i, hi⟩ : ∃ i, j - cs.length * 4 = i := ⟨_, rfl⟩
    rw [hi]
    have : i < 3 := by omega
    match i, this with
    | 0, _ => rfl
    | 1, _ => rfl
    | 2, _ => rfl

set_option maxHeartbeats 4000000 in
set_option maxRecDepth 100000 in
theorem impl_MakePuzzle (A : Option Addr) (n c : Nat) (j z : Int) (xs : List Int) (lo hi : Nat) (w : World) (hn : xs.length = n) (hlen : n ≤ 1048576) (hs : Seg w lo hi A xs) (hB : hi ≤ w.heap.size) (hj : -9223372036854775808 ≤ j ∧ j ≤ 9223372036854775807) (hz : -9223372036854775808 ≤ z ∧ z ≤ 9223372036854775807) (q : Bool) (hq : makeB xs j z = q) :
    Calls Try.prog 60 #[.slice A n c, .int .i64 j, .int .i64 z] w (RetU q (intU q n) (listU q (mkL xs j.toNat z)) w) := by
  obtain ⟨u, hu⟩ : ∃ u, hidB xs = u := ⟨_, rfl⟩
  obtain ⟨v, hv⟩ : ∃ v, inB j 0 6 = v := ⟨_, rfl⟩
  obtain ⟨x, hx⟩ : ∃ x, inB z 0 9999 = x := ⟨_, rfl⟩
  have hqq : q = (u && (v && x)) := by rw [← hq, makeB, hu, hv, hx]
  obtain ⟨W, hW⟩ : ∃ W, w.alloc (.cells #[.int .i64 0, .slice none 0 0] 35) = W := ⟨_, rfl⟩
  have z0 : Below w.heap.size w W := by rw [← hW]; exact (Below.refl _ _).alloc (Nat.le_refl _) _
  have r0 : W.heap[w.heap.size]? = some (.cells #[.int .i64 0, .slice none 0 0] 35 (0, 0)) := by rw [← hW]; exact new_at _ _ rfl
  have hsz := heap_lt r0
  have sW := hs.below z0 hB
  have HW := Lib.hid hW
  have HN := Lib.hid hn
  have HU := Lib.hid hu
  have HV := Lib.hid hv
  have HX := Lib.hid hx
  clear hW hn hu hv hx hq
  go_enter Try.func60, Try.ntmps60
  go_wp2_with fail
  rw [HW.out]
  refine (areHidden_any A n c xs lo hi _ HN.out hlen sW (by omega) u HU.out).mono ?_
  rintro e v1 ⟨rfl, hb1⟩
  have hz1 := hb1.size
  have y1 := z0.trans (hb1.mono (by omega))
  have r1 := (hb1.block _ (by omega)).trans r0
  clear r0
  cases u
  · have c0 := cell_of r1 0
    have c1 := cell_of r1 1
    have f0 := frozen_of r1 0
    have f1 := frozen_of r1 1
    simp only [List.getElem?_toArray, List.getElem?_cons_zero, List.getElem?_cons_succ] at c0 c1
    go_wp2_with fail
    have e : q = false := by rw [hqq]; simp
    subst e
    refine bodyPost_ret (v := .tuple #[pzV 0 none 0 0, .bool false]) (by simp [results, Try.results60, go_sem, c0, c1]) rfl ⟨none, 0, 0, rfl, rfl, .inl rfl, ?_⟩
    exact (y1.setCell (p := ⟨w.heap.size, 0, none⟩) (by simp) _).setCell (p := ⟨w.heap.size, 1, none⟩) (by simp) _
  by_cases hj0 : j < 0
  · have d1 : decide (j < 0) = true := by simpa using hj0
    have c0 := cell_of r1 0
    have c1 := cell_of r1 1
    have f0 := frozen_of r1 0
    have f1 := frozen_of r1 1
    simp only [List.getElem?_toArray, List.getElem?_cons_zero, List.getElem?_cons_succ] at c0 c1
    go_wp2_with fail
    have e : q = false := by rw [hqq, show v = false from HV.out.symm.trans (inB_false.2 (by omega))]; simp
    subst e
    refine bodyPost_ret (v := .tuple #[pzV 0 none 0 0, .bool false]) (by simp [results, Try.results60, go_sem, c0, c1]) rfl ⟨none, 0, 0, rfl, rfl, .inl rfl, ?_⟩
    exact (y1.setCell (p := ⟨w.heap.size, 0, none⟩) (by simp) _).setCell (p := ⟨w.heap.size, 1, none⟩) (by simp) _
  by_cases hj6 : j > 6
  · have d1 : decide (j > 6) = true := by simpa using hj6
    have c0 := cell_of r1 0
    have c1 := cell_of r1 1
    have f0 := frozen_of r1 0
    have f1 := frozen_of r1 1
    simp only [List.getElem?_toArray, List.getElem?_cons_zero, List.getElem?_cons_succ] at c0 c1
    go_wp2_with fail
    have e : q = false := by rw [hqq, show v = false from HV.out.symm.trans (inB_false.2 (by omega))]; simp
    subst e
    refine bodyPost_ret (v := .tuple #[pzV 0 none 0 0, .bool false]) (by simp [results, Try.results60, go_sem, c0, c1]) rfl ⟨none, 0, 0, rfl, rfl, .inl rfl, ?_⟩
    exact (y1.setCell (p := ⟨w.heap.size, 0, none⟩) (by simp) _).setCell (p := ⟨w.heap.size, 1, none⟩) (by simp) _
  by_cases hz0' : z < 0
  · have d1 : decide (z < 0) = true := by simpa using hz0'
    have c0 := cell_of r1 0
    have c1 := cell_of r1 1
    have f0 := frozen_of r1 0
    have f1 := frozen_of r1 1
    simp only [List.getElem?_toArray, List.getElem?_cons_zero, List.getElem?_cons_succ] at c0 c1
    go_wp2_with fail
    have e : q = false := by rw [hqq, show x = false from HX.out.symm.trans (inB_false.2 (by omega))]; simp
    subst e
    refine bodyPost_ret (v := .tuple #[pzV 0 none 0 0, .bool false]) (by simp [results, Try.results60, go_sem, c0, c1]) rfl ⟨none, 0, 0, rfl, rfl, .inl rfl, ?_⟩
    exact (y1.setCell (p := ⟨w.heap.size, 0, none⟩) (by simp) _).setCell (p := ⟨w.heap.size, 1, none⟩) (by simp) _
  by_cases hz9 : z > 9999
  · have d1 : decide (z > 9999) = true := by simpa using hz9
    have c0 := cell_of r1 0
    have c1 := cell_of r1 1
    have f0 := frozen_of r1 0
    have f1 := frozen_of r1 1
    simp only [List.getElem?_toArray, List.getElem?_cons_zero, List.getElem?_cons_succ] at c0 c1
    go_wp2_with fail
    have e : q = false := by rw [hqq, show x = false from HX.out.symm.trans (inB_false.2 (by omega))]; simp
    subst e
    refine bodyPost_ret (v := .tuple #[pzV 0 none 0 0, .bool false]) (by simp [results, Try.results60, go_sem, c0, c1]) rfl ⟨none, 0, 0, rfl, rfl, .inl rfl, ?_⟩
    exact (y1.setCell (p := ⟨w.heap.size, 0, none⟩) (by simp) _).setCell (p := ⟨w.heap.size, 1, none⟩) (by simp) _
  obtain ⟨h2, h4, hx6⟩ := hidB_at HU.out
  rw [HN.out] at h2 h4
  clear hx6
  have ev : v = true := HV.out.symm.trans (inB_true.2 (by omega))
  have ex : x = true := HX.out.symm.trans (inB_true.2 (by omega))
  have e : q = true := by rw [hqq, ev, ex]; rfl
  subst e
  clear hqq ev ex HV HX
  obtain ⟨J, rfl⟩ : ∃ J : Nat, j = (J : Int) := ⟨j.toNat, by omega⟩
  have hmk := make_clues J (by omega)
  have d1 : decide ((J : Int) < 0) = false := by simp
  have d2 : decide ((J : Int) > 6) = false := by simpa using hj6
  have d3 : decide (z < 0) = false := by simpa using hz0'
  have d4 : decide (z > 9999) = false := by simpa using hz9
  go_wp2
  clear hmk d1 d2 d3 d4
  obtain ⟨V, hV⟩ : ∃ V, v1.alloc (.cells (madeCells #[.int .i64 0, .int .i64 0, .int .i64 0, .int .i64 0] (J * 4)) 25) = V := ⟨_, rfl⟩
  have hbV : Below v1.heap.size v1 V := by rw [← hV]; exact (Below.refl _ _).alloc (Nat.le_refl _) _
  have hsV : V.heap.size = v1.heap.size + 1 := by rw [← hV]; simp
  have hpV : Part V v1.heap.size 25 (J * 4) 0 (flat4 (mkL xs 0 z)) := by rw [← hV]; exact clue_part_new _ _ _ _ _ _ _ _
  obtain ⟨U, hU⟩ : ∃ U, V.alloc (.cells #[.int .i64 (n : Int), .slice (some ⟨v1.heap.size, 0, none⟩) J J] 35) = U := ⟨_, rfl⟩
  have hbU : Below v1.heap.size v1 U := by rw [← hU]; exact hbV.alloc (by omega) _
  have hsU : v1.heap.size + 1 < U.heap.size := by rw [← hU]; simp; omega
  have hpU : Part U v1.heap.size 25 (J * 4) (0 * 4) (flat4 (mkL xs 0 z)) := by rw [← hU]; exact hpV.keep (alloc_old _ (by omega) _)
  have hqU : U.heap[v1.heap.size + 1]? = some (.cells #[.int .i64 (n : Int), .slice (some ⟨v1.heap.size, 0, none⟩) J J] 35 (0, 0)) := by rw [← hU]; exact new_at _ _ (by omega)
  rw [hV]
  try rw [hsV]
  rw [hU]
  clear hV hU hpV hbV hsV
  go_loopw [9, 10, 11, 41] (fun zz _ _ i wr => ∃ d : Nat, d ≤ J ∧ i = .int .i64 (d : Int) ∧ zz = .int .i64 (mkZ d z) ∧ Below v1.heap.size v1 wr ∧ wr.heap[v1.heap.size + 1]? = some (.cells #[.int .i64 (n : Int), .slice (some ⟨v1.heap.size, 0, none⟩) J J] 35 (0, 0)) ∧ Part wr v1.heap.size 25 (J * 4) (d * 4) (flat4 (mkL xs d z))) (fun _ _ _ i _ => J - (intOf i).toNat)
  case atStart => exact ⟨0, Nat.zero_le _, rfl, rfl, hbU, hqU, hpU⟩
  case round =>
    obtain ⟨d, hd, rfl, rfl, hb, hp, hP⟩ := hrel
    clear hbU hqU hpU
    have hbz := y1.trans (hb.mono (by omega))
    have hpz := heap_lt hp
    by_cases hlt : d < J
    · have m0 := mkZ_in (z := z) (by omega) d
      obtain ⟨m, hm⟩ : ∃ m, mkZ d z = m := ⟨_, rfl⟩
      rw [hm] at m0 ⊢
      have n1 := nxtZ_in m
      have n2 := nxtZ_in (nxtZ m)
      obtain ⟨k, hk⟩ : ∃ k, nxtZ m % 6 = k := ⟨_, rfl⟩
      have k1 : 0 ≤ k ∧ k ≤ 5 := by omega
      have t6 : Int.tmod (nxtZ m) 6 = k := by rw [tmod6 n1.1, hk]
      have w6 : IntKind.i64.wrap k = k := IntWalk.i64_in _ (by omega)
      obtain ⟨y, hy⟩ : ∃ y, nxtZ (nxtZ m) = y := ⟨_, rfl⟩
      rw [hy] at n2
      have hok : ValOk (n : Int) k (mkA (n : Int) k y) (mkB (n : Int) k y) := mk_ok (by omega)
      obtain ⟨a, ha⟩ : ∃ a, mkA (n : Int) k y = a := ⟨_, rfl⟩
      obtain ⟨b, hb'⟩ : ∃ b, mkB (n : Int) k y = b := ⟨_, rfl⟩
      rw [ha, hb'] at hok
      obtain ⟨t, ht⟩ : ∃ t, toldK k a b xs = t := ⟨_, rfl⟩
      have hC : mkC xs k y = (k, a, b, t) := by rw [mkC, HN.out, ha, hb', ht]
      have hL : mkL xs (d + 1) z = mkL xs d z ++ [(k, a, b, t)] := by rw [mkL_succ, hm, hk, hy, hC]
      have hl : (mkL xs d z).length = d := mkL_length _ _ _
      have hZ : mkZ (d + 1) z = y := by rw [mkZ_succ, hm, hy]
      have hP0 : Part wr v1.heap.size 25 (J * 4) (d * 4) (flat4 (mkL xs d z ++ [(k, a, b, 0)])) := hP.as (Nat.le_refl _) fun j hj => flat4_pre (by omega)
      have HA := Lib.hid ha
      have HB' := Lib.hid hb'
      have HT := Lib.hid ht
      have HY := Lib.hid hy
      have HL := Lib.hid hL
      have HZ := Lib.hid hZ
      have HLEN := Lib.hid hl
      have HOK := Lib.hid hok
      clear hk hy hL hZ hC hm ha hb' ht hl hP hok
      go_wp2_with fail
      refine (nextNumber_any m (by omega) _).mono ?_
      rintro e v2 ⟨rfl, rfl⟩
      go_wp2_with fail
      refine (nextNumber_any (nxtZ m) n1 _).mono ?_
      rintro e v2 ⟨rfl, rfl⟩
      rw [HY.out]
      go_wp2_with fail
      refine wp_region_held_drew (S := fun wq => wq.heap[v1.heap.size + 1]? = some (.cells #[.int .i64 (n : Int), .slice (some ⟨v1.heap.size, 0, none⟩) J J] 35 (0, 0))) (by kernel_rfl) hp (fun hH0 => ?_)
      refine wpAnyH_take (i := 0) (v := ?_) (ops_at rfl) (by kernel_rfl) (by kernel_rfl) (by kernel_rfl) (fun _ _ _ h => h) (Or.inl ⟨by rfl, ?ya0⟩) (by assumption) ?na0
      case ya0 => (intro wS hSw; have q0 := cell_of hSw 1; simp only [List.getElem?_toArray, List.getElem?_cons_zero, List.getElem?_cons_succ] at q0; go_simp; try rfl)
      try simp only [Act.put, List.setIfInBounds_toArray, List.set_cons_zero, List.set_cons_succ]
      refine wpAnyH_take (i := 1) (v := ?_) (ops_at rfl) (by kernel_rfl) (by kernel_rfl) (by kernel_rfl) (fun _ _ _ h => h) (Or.inl ⟨by rfl, ?ya1⟩) (by assumption) ?na1
      case ya1 => (intro wS hSw; have q0 := cell_of hSw 1; simp only [List.getElem?_toArray, List.getElem?_cons_zero, List.getElem?_cons_succ] at q0; go_simp; try rfl)
      try simp only [Act.put, List.setIfInBounds_toArray, List.set_cons_zero, List.set_cons_succ]
      refine wpAnyH_take (i := 2) (v := ?_) (ops_at rfl) (by kernel_rfl) (by kernel_rfl) (by kernel_rfl) (fun _ _ _ h => h) (Or.inl ⟨by rfl, ?ya2⟩) (by assumption) ?na2
      case ya2 => (intro wS hSw; have q0 := cell_of hSw 1; simp only [List.getElem?_toArray, List.getElem?_cons_zero, List.getElem?_cons_succ] at q0; go_simp; try rfl)
      try simp only [Act.put, List.setIfInBounds_toArray, List.set_cons_zero, List.set_cons_succ]
      refine wpAnyH_take (i := 3) (v := ?_) (ops_at rfl) (by kernel_rfl) (by kernel_rfl) (by kernel_rfl) (fun _ _ _ h => h) (Or.inl ⟨by rfl, ?ya3⟩) (by assumption) ?na3
      case ya3 => (intro wS hSw; have q0 := cell_of hSw 1; simp only [List.getElem?_toArray, List.getElem?_cons_zero, List.getElem?_cons_succ] at q0; go_simp; try rfl)
      try simp only [Act.put, List.setIfInBounds_toArray, List.set_cons_zero, List.set_cons_succ]
      refine wpAnyH_take (i := 4) (v := ?_) (ops_at rfl) (by kernel_rfl) (by kernel_rfl) (by kernel_rfl) (fun _ _ _ h => h) (Or.inl ⟨by rfl, ?ya4⟩) (by assumption) ?na4
      case ya4 => (intro wS hSw; have q0 := cell_of hSw 1; simp only [List.getElem?_toArray, List.getElem?_cons_zero, List.getElem?_cons_succ] at q0; go_simp; try rfl)
      try simp only [Act.put, List.setIfInBounds_toArray, List.set_cons_zero, List.set_cons_succ]
      refine wpAnyH_take (i := 5) (v := ?_) (ops_at rfl) (by kernel_rfl) (by kernel_rfl) (by kernel_rfl) (fun _ _ _ h => h) (Or.inl ⟨by rfl, ?ya5⟩) (by assumption) ?na5
      case ya5 => (intro wS hSw; have q0 := cell_of hSw 1; simp only [List.getElem?_toArray, List.getElem?_cons_zero, List.getElem?_cons_succ] at q0; go_simp; try rfl)
      try simp only [Act.put, List.setIfInBounds_toArray, List.set_cons_zero, List.set_cons_succ]
      refine wpAnyH_take (i := 6) (v := ?_) (ops_at rfl) (by kernel_rfl) (by kernel_rfl) (by kernel_rfl) (fun _ _ _ h => h) (Or.inl ⟨by rfl, ?ya6⟩) (by assumption) ?na6
      case ya6 => (intro wS hSw; have q0 := cell_of hSw 1; simp only [List.getElem?_toArray, List.getElem?_cons_zero, List.getElem?_cons_succ] at q0; go_simp; try rfl)
      try simp only [Act.put, List.setIfInBounds_toArray, List.set_cons_zero, List.set_cons_succ]
      obtain ⟨w0, hw0⟩ : ∃ v, wr.drew = v := ⟨_, rfl⟩
      have hb0 : Below wr.heap.size wr w0 := by rw [← hw0]; exact (Below.refl _ _).drew
      rw [hw0] at hH0 ⊢
      clear hw0
      have hz0 := hb0.size
      have P0 := hP0.keep (hb0.block _ (by omega))
      have W0 := hb.trans (hb0.mono (by omega))
      refine wpAnyH_ready (rs := [7]) (by kernel_rfl) (by simp) ?_
      refine AllReadyH.cons (ops_at rfl) (fun K hK => ?_) AllReadyH.nil
      go_simp
      refine (clueToMake_any n k y _ h2 h4 k1 n2).mono ?_
      rintro e w1 ⟨he, hb1'⟩
      rw [HA.out, HB'.out] at he
      subst he
      have hz1' := hb1'.size
      have p1 := (hb1'.block _ (by omega)).trans hH0
      have P1 := P0.keep (hb1'.block _ (by omega))
      have W1 := W0.trans (hb1'.mono (by omega))
      refine hK.out _ _ p1 (fun hR7 => ?_)
      clear hK K
      refine wpAnyH_take (i := 8) (v := ?_) (ops_at rfl) (by kernel_rfl) (by kernel_rfl) (by kernel_rfl) (fun _ _ _ h => h) (Or.inl ⟨by rfl, ?yb8⟩) (by assumption) ?nb8
      case yb8 => (intro wS hSw; have q0 := cell_of hSw 1; simp only [List.getElem?_toArray, List.getElem?_cons_zero, List.getElem?_cons_succ] at q0; go_simp; try rfl)
      try simp only [Act.put, List.setIfInBounds_toArray, List.set_cons_zero, List.set_cons_succ]
      have P2 := P1.quad hlt (x := k) (y := a) (z := b) (u := 0) (by rw [List.getElem?_append_right (by rw [HLEN.out]; exact Nat.le_refl _), HLEN.out, Nat.sub_self]; rfl)
      obtain ⟨g0, hg0⟩ := P1.cell (d * 4) (by omega)
      obtain ⟨g1, hg1⟩ := P1.cell (d * 4 + 1) (by omega)
      obtain ⟨g2, hg2⟩ := P1.cell (d * 4 + 2) (by omega)
      obtain ⟨g3, hg3⟩ := P1.cell (d * 4 + 3) (by omega)
      have e0 := P1.frozen (d * 4)
      have e1 := P1.frozen (d * 4 + 1)
      have e2 := P1.frozen (d * 4 + 2)
      have e3 := P1.frozen (d * 4 + 3)
      obtain ⟨w2, hw2⟩ : ∃ v, (((w1.setCell ⟨v1.heap.size, d * 4, none⟩ (.int .i64 k)).setCell ⟨v1.heap.size, d * 4 + 1, none⟩ (.int .i64 a)).setCell ⟨v1.heap.size, d * 4 + 2, none⟩ (.int .i64 b)).setCell ⟨v1.heap.size, d * 4 + 3, none⟩ (.int .i64 0) = v := ⟨_, rfl⟩
      have W2 : Below v1.heap.size v1 w2 := by rw [← hw2]; exact (((W1.setCell (Nat.le_refl _) _).setCell (Nat.le_refl _) _).setCell (Nat.le_refl _) _).setCell (Nat.le_refl _) _
      have p2 : w2.heap[v1.heap.size + 1]? = some (.cells #[.int .i64 (n : Int), .slice (some ⟨v1.heap.size, 0, none⟩) J J] 35 (0, 0)) := by rw [← hw2]; exact (set_far _ (by simp) _).trans ((set_far _ (by simp) _).trans ((set_far _ (by simp) _).trans ((set_far _ (by simp) _).trans p1)))
      have s2 : w2.heap.size = w1.heap.size := by rw [← hw2]; simp
      rw [hw2] at P2
      have HW2 := Lib.hid hw2
      clear hw2
      refine wpAnyH_ready (rs := [9]) (by kernel_rfl) (by simp) ?_
      refine AllReadyH.cons (ops_at rfl) (fun K hK => ?_) AllReadyH.nil
      go_simp
      rw [HW2.out]
      refine hK.out _ _ p2 (fun hR9 => ?_)
      clear hK K
      refine wpAnyH_done (by kernel_rfl) ?_ _
      clear hg0 hg1 hg2 hg3 e0 e1 e2 e3
      go_wp2_with fail
      have hxk : (mkL xs d z ++ [(k, a, b, 0)])[d]? = some (k, a, b, 0) := by rw [List.getElem?_append_right (by rw [HLEN.out]; exact Nat.le_refl _), HLEN.out, Nat.sub_self]; rfl
      obtain ⟨x0, x1, x2, x3⟩ := flat4_at hxk
      have c0 := P2.at_ (j := d * 4) (by omega) x0
      have c1 := P2.at_ (j := d * 4 + 1) (by omega) x1
      have c2 := P2.at_ (j := d * 4 + 2) (by omega) x2
      have c3 := P2.at_ (j := d * 4 + 3) (by omega) x3
      clear x0 x1 x2 x3 hxk
      refine wp_region_held_drew (S := fun wq => wq.heap[v1.heap.size + 1]? = some (.cells #[.int .i64 (n : Int), .slice (some ⟨v1.heap.size, 0, none⟩) J J] 35 (0, 0))) (by kernel_rfl) p2 (fun hH2 => ?_)
      refine wpAnyH_take (i := 0) (v := ?_) (ops_at rfl) (by kernel_rfl) (by kernel_rfl) (by kernel_rfl) (fun _ _ _ h => h) (Or.inl ⟨by rfl, ?yc0⟩) (by assumption) ?nc0
      case yc0 => (intro wS hSw; have q0 := cell_of hSw 1; simp only [List.getElem?_toArray, List.getElem?_cons_zero, List.getElem?_cons_succ] at q0; go_simp; try rfl)
      try simp only [Act.put, List.setIfInBounds_toArray, List.set_cons_zero, List.set_cons_succ]
      refine wpAnyH_take (i := 1) (v := ?_) (ops_at rfl) (by kernel_rfl) (by kernel_rfl) (by kernel_rfl) (fun _ _ _ h => h) (Or.inl ⟨by rfl, ?yc1⟩) (by assumption) ?nc1
      case yc1 => (intro wS hSw; have q0 := cell_of hSw 1; simp only [List.getElem?_toArray, List.getElem?_cons_zero, List.getElem?_cons_succ] at q0; go_simp; try rfl)
      try simp only [Act.put, List.setIfInBounds_toArray, List.set_cons_zero, List.set_cons_succ]
      refine wpAnyH_take (i := 2) (v := ?_) (ops_at rfl) (by kernel_rfl) (by kernel_rfl) (by kernel_rfl) (fun _ _ _ h => h) (Or.inl ⟨by rfl, ?yc2⟩) (by assumption) ?nc2
      case yc2 => (intro wS hSw; have q0 := cell_of hSw 1; simp only [List.getElem?_toArray, List.getElem?_cons_zero, List.getElem?_cons_succ] at q0; go_simp; try rfl)
      try simp only [Act.put, List.setIfInBounds_toArray, List.set_cons_zero, List.set_cons_succ]
      refine wpAnyH_take (i := 3) (v := ?_) (ops_at rfl) (by kernel_rfl) (by kernel_rfl) (by kernel_rfl) (fun _ _ _ h => h) (Or.inl ⟨by rfl, ?yc3⟩) (by assumption) ?nc3
      case yc3 => (intro wS hSw; have q0 := cell_of hSw 1; simp only [List.getElem?_toArray, List.getElem?_cons_zero, List.getElem?_cons_succ] at q0; go_simp; try rfl)
      try simp only [Act.put, List.setIfInBounds_toArray, List.set_cons_zero, List.set_cons_succ]
      refine wpAnyH_take (i := 4) (v := ?_) (ops_at rfl) (by kernel_rfl) (by kernel_rfl) (by kernel_rfl) (fun _ _ _ h => h) (Or.inl ⟨by rfl, ?yc4⟩) (by assumption) ?nc4
      case yc4 => (intro wS hSw; have q0 := cell_of hSw 1; simp only [List.getElem?_toArray, List.getElem?_cons_zero, List.getElem?_cons_succ] at q0; go_simp; try rfl)
      try simp only [Act.put, List.setIfInBounds_toArray, List.set_cons_zero, List.set_cons_succ]
      refine wpAnyH_take (i := 5) (v := ?_) (ops_at rfl) (by kernel_rfl) (by kernel_rfl) (by kernel_rfl) (fun _ _ _ h => h) (Or.inl ⟨by rfl, ?yc5⟩) (by assumption) ?nc5
      case yc5 => (intro wS hSw; have q0 := cell_of hSw 1; simp only [List.getElem?_toArray, List.getElem?_cons_zero, List.getElem?_cons_succ] at q0; go_simp; try rfl)
      try simp only [Act.put, List.setIfInBounds_toArray, List.set_cons_zero, List.set_cons_succ]
      refine wpAnyH_take (i := 6) (v := ?_) (ops_at rfl) (by kernel_rfl) (by kernel_rfl) (by kernel_rfl) (fun _ _ _ h => h) (Or.inl ⟨by rfl, ?yc6⟩) (by assumption) ?nc6
      case yc6 => (intro wS hSw; have q0 := cell_of hSw 1; simp only [List.getElem?_toArray, List.getElem?_cons_zero, List.getElem?_cons_succ] at q0; go_simp; try rfl)
      try simp only [Act.put, List.setIfInBounds_toArray, List.set_cons_zero, List.set_cons_succ]
      refine wpAnyH_take (i := 8) (v := ?_) (ops_at rfl) (by kernel_rfl) (by kernel_rfl) (by kernel_rfl) (fun _ _ _ h => h) (Or.inl ⟨by rfl, ?yc8⟩) (by assumption) ?nc8
      case yc8 => (intro wS hSw; have q0 := cell_of hSw 1; simp only [List.getElem?_toArray, List.getElem?_cons_zero, List.getElem?_cons_succ] at q0; go_simp; try rfl)
      try simp only [Act.put, List.setIfInBounds_toArray, List.set_cons_zero, List.set_cons_succ]
      obtain ⟨w3, hw3⟩ : ∃ v, w2.drew = v := ⟨_, rfl⟩
      have hb3 : Below w2.heap.size w2 w3 := by rw [← hw3]; exact (Below.refl _ _).drew
      have c0' : w3.cell? ⟨v1.heap.size, d * 4, none⟩ = some (.int .i64 k) := by rw [← hw3]; exact c0
      have c1' : w3.cell? ⟨v1.heap.size, d * 4 + 1, none⟩ = some (.int .i64 a) := by rw [← hw3]; exact c1
      have c2' : w3.cell? ⟨v1.heap.size, d * 4 + 2, none⟩ = some (.int .i64 b) := by rw [← hw3]; exact c2
      have c3' : w3.cell? ⟨v1.heap.size, d * 4 + 3, none⟩ = some (.int .i64 0) := by rw [← hw3]; exact c3
      rw [hw3] at hH2 ⊢
      clear hw3 c0 c1 c2 c3
      have hz3 := hb3.size
      have P3 := P2.keep (hb3.block _ (by omega))
      have W3 := W2.trans (hb3.mono (by omega))
      have y3 := y1.trans (W3.mono (by omega))
      refine wpAnyH_ready (rs := [7]) (by kernel_rfl) (by simp) ?_
      refine AllReadyH.cons (ops_at rfl) (fun K hK => ?_) AllReadyH.nil
      go_simp
      refine hK.out _ _ hH2 (fun hR7 => ?_)
      clear hK K c0' c1' c2' c3'
      refine wpAnyH_ready (rs := [9]) (by kernel_rfl) (by simp) ?_
      refine AllReadyH.cons (ops_at rfl) (fun K hK => ?_) AllReadyH.nil
      go_simp
      refine (toldOf_any A n c k a b 0 xs lo hi _ HN.out HU.out HOK.out (hs.below y3 hB) (by omega)).mono ?_
      rintro e w4 ⟨he, hb4⟩
      rw [HT.out] at he
      subst he
      have hz4 := hb4.size
      have p4 := (hb4.block _ (by omega)).trans hH2
      have P4 := P3.keep (hb4.block _ (by omega))
      have W4 := W3.trans (hb4.mono (by omega))
      refine hK.out _ _ p4 (fun hR9 => ?_)
      clear hK K
      refine wpAnyH_take (i := 10) (v := ?_) (ops_at rfl) (by kernel_rfl) (by kernel_rfl) (by kernel_rfl) (fun _ _ _ h => h) (Or.inl ⟨by rfl, ?yd10⟩) (by assumption) ?nd10
      case yd10 => (intro wS hSw; have q0 := cell_of hSw 1; simp only [List.getElem?_toArray, List.getElem?_cons_zero, List.getElem?_cons_succ] at q0; go_simp; try rfl)
      try simp only [Act.put, List.setIfInBounds_toArray, List.set_cons_zero, List.set_cons_succ]
      refine wpAnyH_take (i := 11) (v := ?_) (ops_at rfl) (by kernel_rfl) (by kernel_rfl) (by kernel_rfl) (fun _ _ _ h => h) (Or.inl ⟨by rfl, ?yd11⟩) (by assumption) ?nd11
      case yd11 => (intro wS hSw; have q0 := cell_of hSw 1; simp only [List.getElem?_toArray, List.getElem?_cons_zero, List.getElem?_cons_succ] at q0; go_simp; try rfl)
      try simp only [Act.put, List.setIfInBounds_toArray, List.set_cons_zero, List.set_cons_succ]
      have P5 : Part w4 v1.heap.size 25 (J * 4) (d * 4 + 3) (flat4 (mkL xs d z ++ [(k, a, b, t)])) := P4.as (by omega) fun j hj => flat4_last (by rw [HLEN.out]; exact hj)
      have hxk : (mkL xs d z ++ [(k, a, b, t)])[d]? = some (k, a, b, t) := by rw [List.getElem?_append_right (by rw [HLEN.out]; exact Nat.le_refl _), HLEN.out, Nat.sub_self]; rfl
      have P6 := P5.step (by omega) (flat4_at hxk).2.2.2
      rw [show d * 4 + 3 + 1 = (d + 1) * 4 by omega, ← HL.out] at P6
      clear hxk
      obtain ⟨g3, hg3⟩ := P5.cell (d * 4 + 3) (by omega)
      have e3 := P5.frozen (d * 4 + 3)
      have p6 : (w4.setCell ⟨v1.heap.size, d * 4 + 3, none⟩ (.int .i64 t)).heap[v1.heap.size + 1]? = some (.cells #[.int .i64 (n : Int), .slice (some ⟨v1.heap.size, 0, none⟩) J J] 35 (0, 0)) := (set_far _ (by simp) _).trans p4
      have W6 : Below v1.heap.size v1 (w4.setCell ⟨v1.heap.size, d * 4 + 3, none⟩ (.int .i64 t)) := W4.setCell (p := ⟨v1.heap.size, d * 4 + 3, none⟩) (Nat.le_refl _) _
      refine wpAnyH_ready (rs := [12]) (by kernel_rfl) (by simp) ?_
      refine AllReadyH.cons (ops_at rfl) (fun K hK => ?_) AllReadyH.nil
      go_simp
      refine hK.out _ _ p6 (fun hR12 => ?_)
      clear hK K
      refine wpAnyH_done (by kernel_rfl) ?_ _
      go_wp2
      go_roundw
      case rel => exact ⟨d + 1, by omega, by go_num, by rw [HZ.out], W6, p6, P6⟩
      case measure => simp [intOf]; omega
    · obtain rfl : d = J := by omega
      have c0 := cell_of hp 0
      have c1 := cell_of hp 1
      have R1 := (hb.block _ (by omega)).trans r1
      have u0 := cell_of R1 0
      have u1 := cell_of R1 1
      have g0 := frozen_of R1 0
      have g1 := frozen_of R1 1
      simp only [List.getElem?_toArray, List.getElem?_cons_zero, List.getElem?_cons_succ] at c0 c1 u0 u1
      have ll : (flat4 (mkL xs d z)).length = d * 4 := by rw [flat4_length, mkL_length]
      have ne : v1.heap.size + 1 ≠ w.heap.size := by omega
      have ne2 : w.heap.size ≠ v1.heap.size + 1 := by omega
      have o4 : Own wr v1.heap.size (v1.heap.size + 1) (some ⟨v1.heap.size, 0, none⟩) (flat4 (mkL xs d z)) := by rw [← ll] at hP; exact Part.own (by rw [ll] at hP ⊢; exact hP) (Nat.le_refl _) (by omega)
      go_wp2
      refine bodyPost_ret (v := .tuple #[pzV n (some ⟨v1.heap.size, 0, none⟩) d d, .bool true]) (by simp [results, Try.results60, go_sem, u0, u1]) rfl ⟨some ⟨v1.heap.size, 0, none⟩, d, d, rfl, by simp [listU, mkL_length], ?_, (hbz.setCell (p := ⟨w.heap.size, 0, none⟩) (by simp) _).setCell (p := ⟨w.heap.size, 1, none⟩) (by simp) _⟩
      simp only [World.size_setCell]
      have o5 := (o4.keep (w' := (wr.setCell ⟨w.heap.size, 0, none⟩ (.int .i64 (n : Int))).setCell ⟨w.heap.size, 1, none⟩ (.slice (some ⟨v1.heap.size, 0, none⟩) d d)) fun b hb1 hb2 => (set_far _ (by simp; omega) _).trans (set_far _ (by simp; omega) _)).more (show w.heap.size ≤ v1.heap.size by omega) (show v1.heap.size + 1 ≤ wr.heap.size by omega)
      simpa [listU] using o5
end Go.Proofs.Ytoheoojpmndhoaa
