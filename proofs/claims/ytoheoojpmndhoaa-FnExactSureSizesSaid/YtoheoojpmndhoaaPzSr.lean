/-
  The sizes that are sure, by both programs.
  Conditions: none.
-/
import Derived.Test.YtoheoojpmndhoaaPzFs
import Derived.Test.YtoheoojpmndhoaaL1Own
namespace Go.Proofs.Ytoheoojpmndhoaa
set_option linter.unusedVariables false
set_option linter.unusedSimpArgs false
open Go.RowKit Go.Shelf
attribute [local go_sem] Oper.semAt_some

/-- The first k sizes kept where they are the other's, else -1. -/
def stepK (o t : List Int) (k : Nat) : List Int := (List.range o.length).map fun j => if j < k ∧ t.getD j 0 ≠ o.getD j 0 then -1 else o.getD j 0
def stepS (o t : List Int) : List Int := stepK o t o.length
theorem stepK_len (o t : List Int) (k : Nat) : (stepK o t k).length = o.length := by simp [stepK]
theorem stepK_zero (o t : List Int) : stepK o t 0 = o := by
  refine List.ext_getElem (by simp [stepK]) fun j h1 h2 => ?_
  simp [stepK, List.getD, List.getElem?_eq_getElem h2]
theorem stepK_get {o t : List Int} {k : Nat} (hk : k < o.length) : (stepK o t k).getD k 0 = o.getD k 0 := by
  simp [stepK, List.getD, hk]
theorem stepK_same {o t : List Int} {k : Nat} (h : t.getD k 0 = o.getD k 0) : stepK o t (k + 1) = stepK o t k := by
  unfold stepK
  refine List.map_congr_left fun j _ => ?_
  by_cases hj : j = k
  · subst hj; rw [if_neg (fun e => e.2 h), if_neg (fun e => e.2 h)]
  · have e : (j < k + 1) = (j < k) := by simp; omega
    simp only [e]
theorem stepK_diff {o t : List Int} {k : Nat} (hk : k < o.length) (h : t.getD k 0 ≠ o.getD k 0) : stepK o t (k + 1) = (stepK o t k).set k (-1) := by
  refine List.ext_getElem (by simp [stepK]) fun j h1 h2 => ?_
  rw [List.getElem_set]
  by_cases hj : k = j
  · subst hj
    rw [if_pos rfl]
    simp only [stepK, List.getElem_map, List.getElem_range]
    rw [if_pos ⟨Nat.lt_succ_self _, h⟩]
  · rw [if_neg hj]
    simp only [stepK, List.getElem_map, List.getElem_range]
    have e : (j < k + 1) = (j < k) := by simp; omega
    simp only [e]
/-- The sizes that are sure behind some solutions. -/
def sureL (x : List Int) (L : List (List Int)) : List Int := L.foldl stepS x
theorem sureL_snoc (x : List Int) (L : List (List Int)) (t : List Int) : sureL x (L ++ [t]) = stepS (sureL x L) t := by simp [sureL]
theorem sureL_len (x : List Int) (L : List (List Int)) : (sureL x L).length = x.length := by
  unfold sureL
  induction L generalizing x with
  | nil => rfl
  | cons t L ih => rw [List.foldl_cons, ih, stepS, stepK_len]
noncomputable def sureS (t : Int) (cs : List Clu) : List Int := sureL (sol1 t cs) (solF toldV t.toNat cs)

theorem Own.get_ {w : World} {lo hi g k : Nat} {xs : List Int} (h : Own w lo hi (some ⟨g, 0, none⟩) xs) (hk : k < xs.length) : w.cell? ⟨g, k, none⟩ = some (.int .i64 (xs.getD k 0)) ∧ w.frozen? ⟨g, k, none⟩ = false ∧ lo ≤ g ∧ g < hi := by
  rcases h with rfl | ⟨b, cs, T, e, h1, h2, hb, hc⟩
  · simp at hk
  · injection e with e
    injection e with e
    subst e
    exact ⟨by rw [cell_of hb]; exact hc k hk, frozen_of hb k, h1, h2⟩
theorem Own.set_ {w : World} {lo hi g : Nat} {xs : List Int} (h : Own w lo hi (some ⟨g, 0, none⟩) xs) (k : Nat) (u : Int) : Own (w.setCell ⟨g, k, none⟩ (.int .i64 u)) lo hi (some ⟨g, 0, none⟩) (xs.set k u) := by
  rcases h with rfl | ⟨b, cs, T, e, h1, h2, hb, hc⟩
  · exact .inl rfl
  · injection e with e
    injection e with e
    subst e
    refine .inr ⟨g, _, T, rfl, h1, h2, set_self hb k _, fun j hj => ?_⟩
    rw [List.length_set] at hj
    have hcj := hc j hj
    by_cases hjk : k = j
    · subst hjk
      have hs : k < cs.size := (Array.getElem?_eq_some_iff.1 hcj).1
      rw [Array.setIfInBounds, dif_pos hs, Array.getElem?_set_self, List.getD, List.getElem?_set_self hj]
      rfl
    · rw [Array.getElem?_setIfInBounds_ne hjk, hcj, List.getD, List.getD, List.getElem?_set_ne hjk]

set_option maxRecDepth 100000 in
set_option maxHeartbeats 4000000 in
theorem spec_SureSizes (t : Int) (A : Option Addr) (n c : Nat) (cs : List Clu) (lo hi : Nat) (w : World) (hn : cs.length = n) (hlen : n ≤ 1048576) (hnc : n ≤ c) (hs : Seg w lo hi A (flat4 cs)) (hB : hi ≤ w.heap.size) (q : Bool) (hq : haveB t cs = q) :
    Calls Try.prog 42 #[pzV t A n c] w (RetL q (someN q (sureS t cs)) w) := by
  obtain ⟨g, hg⟩ : ∃ g, puzB t cs = g := ⟨_, rfl⟩
  have HQ0 := Lib.hid hq
  clear hq
  obtain ⟨W, hW⟩ : ∃ W, w.alloc (.cells #[.int .i64 t, .slice A n c] 35) = W := ⟨_, rfl⟩
  have z0 : Below w.heap.size w W := by rw [← hW]; exact (Below.refl _ _).alloc (Nat.le_refl _) _
  have p0 : W.heap[w.heap.size]? = some (.cells #[.int .i64 t, .slice A n c] 35 (0, 0)) := by rw [← hW]; exact new_at _ _ rfl
  have hsz := heap_lt p0
  have sW := hs.below z0 hB
  have HW := Lib.hid hW
  have HN := Lib.hid hn
  have HQ := Lib.hid hg
  clear hW hn hg
  have q0 := cell_of p0 0
  have q1 := cell_of p0 1
  simp only [List.getElem?_toArray, List.getElem?_cons_zero, List.getElem?_cons_succ] at q0 q1
  go_enter Try.func42, Try.ntmps42
  go_wp2_with fail
  rw [HW.out]
  refine (pzGood_Q t A n c cs lo hi _ HN.out hlen sW (by omega) g HQ.out).mono ?_
  rintro e v1 ⟨rfl, hb1⟩
  have hz1 := hb1.size
  have y1 := z0.trans (hb1.mono (by omega))
  have p1 := (hb1.block _ hsz).trans p0
  have s1 := sW.below hb1 (by omega)
  clear q0 q1
  have q0 := cell_of p1 0
  have q1 := cell_of p1 1
  simp only [List.getElem?_toArray, List.getElem?_cons_zero, List.getElem?_cons_succ] at q0 q1
  cases g
  · obtain rfl : q = false := by rw [← HQ0.out, haveB, HQ.out]; rfl
    go_wp2
    go_ret2
    exact ⟨none, 0, 0, rfl, rfl, Own.nil_, y1⟩
  · obtain ⟨⟨t1, t2⟩, h6, hcl⟩ := puzB_true.1 HQ.out
    obtain ⟨N, rfl⟩ : ∃ N : Nat, t = (N : Int) := ⟨t.toNat, by omega⟩
    have hN : N = 2 ∨ N = 3 ∨ N = 4 := by omega
    have hn6 : n ≤ 6 := by have := HN.out; omega
    have hv1 : w.heap.size < v1.heap.size := by omega
    go_wp2_with fail
    refine (pzAll_any A n c cs N lo hi _ hN HN.out hlen hcl s1 (by omega)).mono ?_
    rintro e u1 ⟨v, vs, rfl, hr, hbu⟩
    obtain ⟨A', c', rfl⟩ := hr.form
    have hzu := hbu.size
    have yu := y1.trans (hbu.mono y1.size)
    obtain ⟨L, hL⟩ : ∃ L, solF toldV N cs = L := ⟨_, rfl⟩
    have hlen4 : ∀ y ∈ L, y.length = N := fun y hy => (solF_mem (v := toldV) (cs := cs) (by rw [hL]; exact hy)).1
    have hLb : L.length ≤ 1296 := by rw [← hL]; have hle := solF_length toldV N cs; rcases hN with rfl | rfl | rfl <;> exact Nat.le_trans hle (by decide)
    rw [hL] at hr ⊢
    clear q0 q1
    cases L with
    | nil =>
      obtain rfl : q = false := by rw [← HQ0.out, haveB, HQ.out, show ((N : Int)).toNat = N from rfl, hL]; rfl
      clear hr
      go_wp2
      go_ret2
      exact ⟨none, 0, 0, rfl, rfl, Own.nil_, yu⟩
    | cons x xs =>
      obtain rfl : q = true := by rw [← HQ0.out, haveB, HQ.out, show ((N : Int)).toNat = N from rfl, hL]; rfl
      have hs1 : sureS (N : Int) cs = sureL x (x :: xs) := by rw [sureS, sol1, show ((N : Int)).toNat = N from rfl, hL]; rfl
      have hx4 : x.length = N := hlen4 x List.mem_cons_self
      obtain ⟨gg, B, d, rfl, h1, h2, hcell, hown⟩ := hr.at_ (k := 0) (xs := x) rfl
      obtain ⟨LL, hLL⟩ : ∃ LL, x :: xs = LL := ⟨_, rfl⟩
      rw [hLL] at hr hs1 hlen4 hLb
      rw [show (x :: xs).length = LL.length by rw [hLL]]
      obtain ⟨m, hm⟩ : ∃ m, LL.length = m := ⟨_, rfl⟩
      rw [hm] at hLb
      have hm0 : 0 < m := by rw [← hm, ← hLL]; simp
      have em : ((m : Int) == 0) = false := by simp; omega
      have em2 : (0 : Int) < (m : Int) := by omega
      have HS1 := Lib.hid hs1
      have HM := Lib.hid hm
      have HX4 := Lib.hid hx4
      have HR := Lib.hid hr
      have HL4 := Lib.hid hlen4
      rw [hm]
      rw [hx4] at hcell
      clear hm hs1 hx4 hLL hlen4 hr hL
      go_wp2_with fail
      refine (l1Own_any B N d x _ _ _ HX4.out (by omega) hown.seg (Nat.le_refl _)).mono ?_
      rintro e u2 ⟨A5, c5, rfl, hrow, hb2⟩
      have hz2 := hb2.size
      obtain ⟨g5, hg5⟩ : ∃ g5, A5 = some ⟨g5, 0, none⟩ := by
        rcases hrow.2 with ⟨_, h0⟩ | ⟨g, cap, cur, hv, _⟩
        · omega
        · injection hv with e1 e2 e3; exact ⟨g, e1⟩
      subst hg5
      have ho5 := (ownsRow_own (ys := x) (by rw [HX4.out]; exact hrow)).2
      have y2 := yu.trans (hb2.mono yu.size)
      clear hrow hcell hown
      have HO5 := Lib.hid ho5
      have HB2 := Lib.hid hb2
      clear ho5 hb2
      go_wp2
      go_loopw [7, 8, 26, 31, 32] (fun _ _ i _ _ wr => ∃ j : Nat, j ≤ m ∧ i = .int .i64 (j : Int) ∧ Below u1.heap.size u1 wr ∧ u2.heap.size ≤ wr.heap.size ∧ Own wr u1.heap.size u2.heap.size (some ⟨g5, 0, none⟩) (sureL x (LL.take j))) (fun _ _ i _ _ _ => m - (intOf i).toNat)
      case atStart => exact ⟨0, Nat.zero_le _, rfl, HB2.out, Nat.le_refl _, by rw [List.take_zero]; exact HO5.out⟩
      case round =>
        rename World => wr
        obtain ⟨j, hj, rfl, hbr, hzr2, hown⟩ := hrel
        have hzr := hbr.size
        have hol := sureL_len x (LL.take j)
        rw [HX4.out] at hol
        obtain ⟨ol, hole⟩ : ∃ ol, sureL x (LL.take j) = ol := ⟨_, rfl⟩
        rw [hole] at hol hown
        have HOL := Lib.hid hole
        have HLN := Lib.hid hol
        clear hol hole
        by_cases hlt : j < m
        · have hlt' : decide ((j : Int) < (m : Int)) = true := decide_eq_true (by omega)
          have hltI : (j : Int) < (m : Int) := by omega
          obtain ⟨th, hth⟩ : ∃ th, LL[j]? = some th := ⟨LL[j]'(by rw [HM.out]; exact hlt), List.getElem?_eq_getElem _⟩
          have htl : th.length = N := HL4.out th (List.mem_of_getElem? hth)
          have htk : LL.take (j + 1) = LL.take j ++ [th] := by rw [List.take_add_one, hth]; rfl
          obtain ⟨g9, B9, d9, e9, h91, h92, hc9, ho9⟩ := HR.out.at_ hth
          injection e9 with e9
          injection e9 with e9
          subst e9
          rw [htl] at hc9
          have hcr := (hbr.cell (p := ⟨gg, j, none⟩) h92).trans hc9
          have HTL := Lib.hid htl
          have HTK := Lib.hid htk
          obtain ⟨g3, rfl⟩ : ∃ g3, B9 = some ⟨g3, 0, none⟩ := by
            rcases ho9 with h | ⟨b, cs', T, e, _⟩
            · rw [h] at htl; simp at htl; omega
            · exact ⟨b, e⟩
          have HB := Lib.hid hbr
          have HO := Lib.hid hown
          have HTH := Lib.hid (fun (wq : World) (hq : Below u1.heap.size u1 wq) => ho9.below hq (Nat.le_refl _))
          clear hth htl htk hown
          go_wp2
          clear hc9 hcr
          go_loopw [8, 32] (fun _ i wz => ∃ k : Nat, k ≤ N ∧ i = .int .i64 (k : Int) ∧ Below u1.heap.size u1 wz ∧ u2.heap.size ≤ wz.heap.size ∧ Own wz u1.heap.size u2.heap.size (some ⟨g5, 0, none⟩) (stepK ol th k)) (fun _ i _ => N - (intOf i).toNat)
          case atStart => exact ⟨0, Nat.zero_le _, rfl, HB.out, hzr2, by rw [stepK_zero]; exact HO.out⟩
          case round =>
            rename World => wz
            obtain ⟨k, hk, rfl, hbz, hzz, howz⟩ := hrel
            have hzz1 := hbz.size
            by_cases hlk : k < N
            · have hlk' : decide ((k : Int) < (N : Int)) = true := decide_eq_true (by omega)
              have hlkI : (k : Int) < (N : Int) := by omega
              obtain ⟨hca, hfa, hga, hgb⟩ := howz.get_ (k := k) (by rw [stepK_len, HLN.out]; exact hlk)
              rw [stepK_get (by rw [HLN.out]; exact hlk)] at hca
              obtain ⟨hcb, -, hgc, hgd⟩ := (HTH.out wz hbz).get_ (k := k) (by rw [HTL.out]; exact hlk)
              obtain ⟨va, hva⟩ : ∃ va, ol.getD k 0 = va := ⟨_, rfl⟩
              obtain ⟨vb, hvb⟩ : ∃ vb, th.getD k 0 = vb := ⟨_, rfl⟩
              rw [hva] at hca
              rw [hvb] at hcb
              have HVA := Lib.hid hva
              have HVB := Lib.hid hvb
              have HOZ := Lib.hid howz
              have HBZ := Lib.hid hbz
              clear hva hvb howz hbz
              go_wp2_with fail
              refine wp_region_held_drew (S := (fun wq => wq.cell? ⟨g3, k, none⟩ = some (.int .i64 vb) ∧ wq.cell? ⟨g5, k, none⟩ = some (.int .i64 va))) (by kernel_rfl) ⟨hcb, hca⟩ (fun hH0 => ?_)
              by_cases hvv : vb = va
              · have env : (vb != va) = false := by simp [hvv]
                have hnx := stepK_same (o := ol) (t := th) (k := k) (by rw [HVA.out, HVB.out, hvv])
                have HNX := Lib.hid hnx
                clear hnx
                refine wpAnyH_take (i := 0) (v := ?_) (ops_at rfl) (by kernel_rfl) (by kernel_rfl) (by kernel_rfl) (fun _ _ _ h => h) (Or.inl ⟨by rfl, ?ya0⟩) (by assumption) ?na0
                case ya0 => (intro wS hSw; obtain ⟨q0, q1⟩ := hSw; go_simp; try rfl)
                try simp only [Act.put, List.setIfInBounds_toArray, List.set_cons_zero, List.set_cons_succ]
                refine wpAnyH_take (i := 1) (v := ?_) (ops_at rfl) (by kernel_rfl) (by kernel_rfl) (by kernel_rfl) (fun _ _ _ h => h) (Or.inl ⟨by rfl, ?ya1⟩) (by assumption) ?na1
                case ya1 => (intro wS hSw; obtain ⟨q0, q1⟩ := hSw; go_simp; try rfl)
                try simp only [Act.put, List.setIfInBounds_toArray, List.set_cons_zero, List.set_cons_succ]
                refine wpAnyH_take (i := 2) (v := ?_) (ops_at rfl) (by kernel_rfl) (by kernel_rfl) (by kernel_rfl) (fun _ _ _ h => h) (Or.inl ⟨by rfl, ?ya2⟩) (by assumption) ?na2
                case ya2 => (intro wS hSw; obtain ⟨q0, q1⟩ := hSw; go_simp; try rfl)
                try simp only [Act.put, List.setIfInBounds_toArray, List.set_cons_zero, List.set_cons_succ]
                refine wpAnyH_take (i := 3) (v := ?_) (ops_at rfl) (by kernel_rfl) (by kernel_rfl) (by kernel_rfl) (fun _ _ _ h => h) (Or.inl ⟨by rfl, ?ya3⟩) (by assumption) ?na3
                case ya3 => (intro wS hSw; obtain ⟨q0, q1⟩ := hSw; go_simp; try rfl)
                try simp only [Act.put, List.setIfInBounds_toArray, List.set_cons_zero, List.set_cons_succ]
                refine wpAnyH_take (i := 4) (v := ?_) (ops_at rfl) (by kernel_rfl) (by kernel_rfl) (by kernel_rfl) (fun _ _ _ h => h) (Or.inl ⟨by rfl, ?ya4⟩) (by assumption) ?na4
                case ya4 => (intro wS hSw; obtain ⟨q0, q1⟩ := hSw; go_simp; try rfl)
                try simp only [Act.put, List.setIfInBounds_toArray, List.set_cons_zero, List.set_cons_succ]
                refine wpAnyH_take (i := 5) (v := ?_) (ops_at rfl) (by kernel_rfl) (by kernel_rfl) (by kernel_rfl) (fun _ _ _ h => h) (Or.inl ⟨by rfl, ?ya5⟩) (by assumption) ?na5
                case ya5 => (intro wS hSw; obtain ⟨q0, q1⟩ := hSw; go_simp; try rfl)
                try simp only [Act.put, List.setIfInBounds_toArray, List.set_cons_zero, List.set_cons_succ]
                refine wpAnyH_take (i := 6) (v := ?_) (ops_at rfl) (by kernel_rfl) (by kernel_rfl) (by kernel_rfl) (fun _ _ _ h => h) (Or.inl ⟨by rfl, ?ya6⟩) (by assumption) ?na6
                case ya6 => (intro wS hSw; obtain ⟨q0, q1⟩ := hSw; go_simp; try rfl)
                try simp only [Act.put, List.setIfInBounds_toArray, List.set_cons_zero, List.set_cons_succ]
                refine wpAnyH_take (i := 7) (v := ?_) (ops_at rfl) (by kernel_rfl) (by kernel_rfl) (by kernel_rfl) (fun _ _ _ h => h) (Or.inl ⟨by rfl, ?ya7⟩) (by assumption) ?na7
                case ya7 => (intro wS hSw; obtain ⟨q0, q1⟩ := hSw; go_simp; try rfl)
                try simp only [Act.put, List.setIfInBounds_toArray, List.set_cons_zero, List.set_cons_succ]
                refine wpAnyH_take (i := 8) (v := ?_) (ops_at rfl) (by kernel_rfl) (by kernel_rfl) (by kernel_rfl) (fun _ _ _ h => h) (Or.inl ⟨by rfl, ?ya8⟩) (by assumption) ?na8
                case ya8 => (intro wS hSw; obtain ⟨q0, q1⟩ := hSw; go_simp; try rfl)
                try simp only [Act.put, List.setIfInBounds_toArray, List.set_cons_zero, List.set_cons_succ]
                refine wpAnyH_done (by kernel_rfl) ?_ _
                go_wp2
                go_roundw
                case rel => exact ⟨k + 1, by omega, by go_num, below_drewN HBZ.out 1, hzz, by rw [HNX.out]; exact HOZ.out⟩
                case measure => simp [intOf]; omega
              · have env : (vb != va) = true := by simpa using hvv
                have hnx := stepK_diff (o := ol) (t := th) (k := k) (by rw [HLN.out]; exact hlk) (by rw [HVA.out, HVB.out]; exact hvv)
                have HNX := Lib.hid hnx
                clear hnx
                obtain ⟨wy, hwy⟩ : ∃ wy, wz.drew = wy := ⟨_, rfl⟩
                have HBY := Lib.hid (show Below u1.heap.size u1 wy by rw [← hwy]; exact below_drewN HBZ.out 1)
                have HOY := Lib.hid (show Own wy u1.heap.size u2.heap.size (some ⟨g5, 0, none⟩) (stepK ol th k) by rw [← hwy]; exact HOZ.out)
                have hzy : wy.heap.size = wz.heap.size := by rw [← hwy]; rfl
                have hca2 : wy.cell? ⟨g5, k, none⟩ = some (.int .i64 va) := by rw [← hwy]; exact hca
                have hfa2 : wy.frozen? ⟨g5, k, none⟩ = false := by rw [← hwy]; exact hfa
                refine wpAnyH_take (i := 0) (v := ?_) (ops_at rfl) (by kernel_rfl) (by kernel_rfl) (by kernel_rfl) (fun _ _ _ h => h) (Or.inl ⟨by rfl, ?yb0⟩) (by assumption) ?nb0
                case yb0 => (intro wS hSw; obtain ⟨q0, q1⟩ := hSw; go_simp; try rfl)
                try simp only [Act.put, List.setIfInBounds_toArray, List.set_cons_zero, List.set_cons_succ]
                refine wpAnyH_take (i := 1) (v := ?_) (ops_at rfl) (by kernel_rfl) (by kernel_rfl) (by kernel_rfl) (fun _ _ _ h => h) (Or.inl ⟨by rfl, ?yb1⟩) (by assumption) ?nb1
                case yb1 => (intro wS hSw; obtain ⟨q0, q1⟩ := hSw; go_simp; try rfl)
                try simp only [Act.put, List.setIfInBounds_toArray, List.set_cons_zero, List.set_cons_succ]
                refine wpAnyH_take (i := 2) (v := ?_) (ops_at rfl) (by kernel_rfl) (by kernel_rfl) (by kernel_rfl) (fun _ _ _ h => h) (Or.inl ⟨by rfl, ?yb2⟩) (by assumption) ?nb2
                case yb2 => (intro wS hSw; obtain ⟨q0, q1⟩ := hSw; go_simp; try rfl)
                try simp only [Act.put, List.setIfInBounds_toArray, List.set_cons_zero, List.set_cons_succ]
                refine wpAnyH_take (i := 3) (v := ?_) (ops_at rfl) (by kernel_rfl) (by kernel_rfl) (by kernel_rfl) (fun _ _ _ h => h) (Or.inl ⟨by rfl, ?yb3⟩) (by assumption) ?nb3
                case yb3 => (intro wS hSw; obtain ⟨q0, q1⟩ := hSw; go_simp; try rfl)
                try simp only [Act.put, List.setIfInBounds_toArray, List.set_cons_zero, List.set_cons_succ]
                refine wpAnyH_take (i := 4) (v := ?_) (ops_at rfl) (by kernel_rfl) (by kernel_rfl) (by kernel_rfl) (fun _ _ _ h => h) (Or.inl ⟨by rfl, ?yb4⟩) (by assumption) ?nb4
                case yb4 => (intro wS hSw; obtain ⟨q0, q1⟩ := hSw; go_simp; try rfl)
                try simp only [Act.put, List.setIfInBounds_toArray, List.set_cons_zero, List.set_cons_succ]
                refine wpAnyH_take (i := 5) (v := ?_) (ops_at rfl) (by kernel_rfl) (by kernel_rfl) (by kernel_rfl) (fun _ _ _ h => h) (Or.inl ⟨by rfl, ?yb5⟩) (by assumption) ?nb5
                case yb5 => (intro wS hSw; obtain ⟨q0, q1⟩ := hSw; go_simp; try rfl)
                try simp only [Act.put, List.setIfInBounds_toArray, List.set_cons_zero, List.set_cons_succ]
                refine wpAnyH_take (i := 6) (v := ?_) (ops_at rfl) (by kernel_rfl) (by kernel_rfl) (by kernel_rfl) (fun _ _ _ h => h) (Or.inl ⟨by rfl, ?yb6⟩) (by assumption) ?nb6
                case yb6 => (intro wS hSw; obtain ⟨q0, q1⟩ := hSw; go_simp; try rfl)
                try simp only [Act.put, List.setIfInBounds_toArray, List.set_cons_zero, List.set_cons_succ]
                refine wpAnyH_take (i := 7) (v := ?_) (ops_at rfl) (by kernel_rfl) (by kernel_rfl) (by kernel_rfl) (fun _ _ _ h => h) (Or.inl ⟨by rfl, ?yb7⟩) (by assumption) ?nb7
                case yb7 => (intro wS hSw; obtain ⟨q0, q1⟩ := hSw; go_simp; try rfl)
                try simp only [Act.put, List.setIfInBounds_toArray, List.set_cons_zero, List.set_cons_succ]
                refine wpAnyH_take (i := 8) (v := ?_) (ops_at rfl) (by kernel_rfl) (by kernel_rfl) (by kernel_rfl) (fun _ _ _ h => h) (Or.inl ⟨by rfl, ?yb8⟩) (by assumption) ?nb8
                case yb8 => (intro wS hSw; obtain ⟨q0, q1⟩ := hSw; go_simp; try rfl)
                try simp only [Act.put, List.setIfInBounds_toArray, List.set_cons_zero, List.set_cons_succ]
                refine wpAnyH_done (by kernel_rfl) ?_ _
                rw [hwy]
                clear hwy hca hfa hcb
                go_wp2
                have HBS := Lib.hid (HBY.out.setCell (p := ⟨g5, k, none⟩) (by show u1.heap.size ≤ g5; omega) (.int .i64 (-1)))
                have HOS := Lib.hid (HOY.out.set_ k (-1))
                go_roundw
                case rel => exact ⟨k + 1, by omega, by go_num, HBS.out, by simp only [World.size_setCell]; omega, by rw [HNX.out]; exact HOS.out⟩
                case measure => simp [intOf]; omega
            · obtain rfl : k = N := by omega
              have hlk' : decide ((k : Int) < (k : Int)) = false := decide_eq_false (by omega)
              have hns : sureL x (LL.take (j + 1)) = stepK ol th k := by rw [HTK.out, sureL_snoc, HOL.out, stepS, HLN.out]
              have HNS := Lib.hid hns
              have HOZ := Lib.hid howz
              have HBZ := Lib.hid hbz
              clear hns howz hbz
              go_wp2
              go_roundw
              case rel => exact ⟨j + 1, by omega, by go_num, HBZ.out, hzz, by rw [HNS.out]; exact HOZ.out⟩
              case measure => simp [intOf]; omega
        · obtain rfl : j = m := by omega
          have hlt' : decide ((j : Int) < (j : Int)) = false := decide_eq_false (by omega)
          have hfo : sureS (N : Int) cs = ol := by rw [HS1.out, ← HOL.out, List.take_of_length_le (by rw [HM.out]; exact Nat.le_refl _)]
          have HFO := Lib.hid hfo
          have HO := Lib.hid hown
          have HBE := Lib.hid (yu.trans (hbr.mono yu.size))
          clear hfo hown hbr
          go_wp2
          go_ret2
          exact ⟨some ⟨g5, 0, none⟩, N, c5, rfl, by rw [someN, if_pos rfl, HFO.out]; exact HLN.out, by rw [someN, if_pos rfl, HFO.out]; exact HO.out.more (by omega) hzr2, HBE.out⟩

set_option maxRecDepth 100000 in
set_option maxHeartbeats 4000000 in
theorem impl_SureSizes (t : Int) (A : Option Addr) (n c : Nat) (cs : List Clu) (lo hi : Nat) (w : World) (hn : cs.length = n) (hlen : n ≤ 1048576) (hnc : n ≤ c) (hs : Seg w lo hi A (flat4 cs)) (hB : hi ≤ w.heap.size) (q : Bool) (hq : haveB t cs = q) :
    Calls Try.prog 43 #[pzV t A n c] w (RetL q (someN q (sureS t cs)) w) := by
  refine (callsIn_wide (n := 7)).1 ?_
  refine callsIn_of_wp_marks Try.func43 rfl trivial ?_ rfl
  simp only [Try.ntmps43, List.size_toArray, List.length_cons, List.length_nil, Nat.reduceAdd, Nat.reduceSub, Array.replicate_succ, Array.replicate_zero, List.push_toArray, List.append_toArray, List.nil_append, List.cons_append]
  obtain ⟨W, hW⟩ : ∃ W, w.alloc (.cells #[.int .i64 t, .slice A n c] 35) = W := ⟨_, rfl⟩
  have z0 : Below w.heap.size w W := by rw [← hW]; exact (Below.refl _ _).alloc (Nat.le_refl _) _
  have p0 : W.heap[w.heap.size]? = some (.cells #[.int .i64 t, .slice A n c] 35 (0, 0)) := by rw [← hW]; exact new_at _ _ rfl
  have hsz : w.heap.size < W.heap.size := heap_lt p0
  have sW := hs.below z0 hB
  have HW := Lib.hid hW
  have HQ0 := Lib.hid hq
  have HN := Lib.hid hn
  clear hW hn hq
  have q0 := cell_of p0 0
  have q1 := cell_of p0 1
  simp only [List.getElem?_toArray, List.getElem?_cons_zero, List.getElem?_cons_succ] at q0 q1
  gi_wp2
  rw [HW.out]
  refine ⟨trivial, (callsIn_wide.2 (impl_FirstSolution t A n c cs lo hi _ HN.out hlen hnc sW (by omega) q HQ0.out)).mono ?_⟩
  rintro e v0 ⟨A1, n1, c1, rfl, hl1, ho1, hb0⟩
  have hz0 := hb0.size
  have y0 := z0.trans (hb0.mono z0.size)
  have p_0 := (hb0.block _ (by omega)).trans p0
  have s_0 := sW.below hb0 (by omega)
  obtain ⟨v1, hv1⟩ : ∃ v1, v0.alloc (.cells #[.slice A1 n1 c1] 39) = v1 := ⟨_, rfl⟩
  have hb1 : Below v0.heap.size v0 v1 := by rw [← hv1]; exact (Below.refl _ _).alloc (Nat.le_refl _) _
  have hz1 : v1.heap.size = v0.heap.size + 1 := by rw [← hv1]; simp
  have m1 : v1.heap[v0.heap.size]? = some (.cells #[.slice A1 n1 c1] 39 (0, 0)) := by rw [← hv1]; exact new_at _ _ rfl
  have y1 := y0.trans (hb1.mono y0.size)
  have p_1 := (hb1.block _ (by omega)).trans p_0
  have s_1 := s_0.below hb1 (by omega)
  have HV1 := Lib.hid hv1
  have HB1 := Lib.hid hb1
  have hwv : w.heap.size < v0.heap.size := by omega
  clear q0 q1 hv1 hb1
  have q0 := cell_of p_0 0
  have q1 := cell_of p_0 1
  simp only [List.getElem?_toArray, List.getElem?_cons_zero, List.getElem?_cons_succ] at q0 q1
  cases q
  · gi_wp2
    rw [HV1.out]
    refine ⟨.tuple #[.slice none 0 0, .bool false], by simp [results, Try.results43, go_sem], none, 0, 0, rfl, rfl, Own.nil_, y1⟩
  obtain ⟨hpz, x0, xs0, hL⟩ := haveB_true HQ0.out
  obtain ⟨⟨t1, t2⟩, h6, hcl⟩ := puzB_true.1 hpz
  have hln := sol1_len HQ0.out
  obtain ⟨N, rfl⟩ : ∃ N : Nat, t = (N : Int) := ⟨t.toNat, by omega⟩
  have hN : N = 2 ∨ N = 3 ∨ N = 4 := by omega
  obtain rfl : n1 = N := by rw [← hl1, someN, if_pos rfl]; exact hln
  rw [someN, if_pos rfl] at ho1
  obtain ⟨x, hx⟩ : ∃ x, sol1 (n1 : Int) cs = x := ⟨_, rfl⟩
  rw [hx] at ho1 hln
  have hln2 : x.length = n1 := hln
  obtain ⟨g1, rfl⟩ : ∃ g1, A1 = some ⟨g1, 0, none⟩ := by
    rcases ho1 with h | ⟨b, cs', T, e, _⟩
    · rw [h] at hln2; simp at hln2; omega
    · exact ⟨b, e⟩
  obtain ⟨-, -, hg1, hg2⟩ := ho1.get_ (k := 0) (by omega)
  have hss : sureS (n1 : Int) cs = sureL x (solF toldV n1 cs) := by rw [sureS, hx]; rfl
  have HSS := Lib.hid hss
  have HO1 := Lib.hid (ho1.below HB1.out (Nat.le_refl _))
  have HCL := Lib.hid hcl
  have HLN := Lib.hid hln2
  clear hcl hL hln hln2 hx hss ho1 hl1
  gi_wp2
  rw [HV1.out]
  clear q0 q1
  have q0 := cell_of p_1 0
  have q1 := cell_of p_1 1
  simp only [List.getElem?_toArray, List.getElem?_cons_zero, List.getElem?_cons_succ] at q0 q1
  gi_wp2
  refine ⟨trivial, (callsIn_wide.2 (solutions_any (n1 : Int) A n c _)).mono ?_⟩
  rintro e V ⟨rfl, hV⟩
  have hVb : Below v1.heap.size v1 V := by rw [hV]; exact (Below.refl _ _).alloc (Nat.le_refl _) _
  have hVs : V.heap.size = v1.heap.size + 1 := by rw [hV]; simp
  have hVp : V.heap[v0.heap.size + 1]? = some (.cells #[.int .i64 (n1 : Int), .slice A n c] 35 (0, 0)) := by rw [hV]; exact new_at _ _ (by omega)
  have sV := s_1.below hVb (by omega)
  clear hV q0 q1
  gi_wp2
  refine range_seq (gf := 103) (lb := #[.pointer (some ⟨v0.heap.size + 1, 0, none⟩)]) rfl (enters_of Try.func103 (by kernel_rfl) rfl) (sol_seq (v0.heap.size + 1) n1 A n c cs lo hi hN V hVp HN.out hlen HCL.out sV (by omega)) (fun b hb => by show b < V.heap.size; omega) (Below.refl _ _) ?hps ?hput
    (fun m pre W' => W'.heap[v0.heap.size]? = some (.cells #[.slice (some ⟨g1, 0, none⟩) n1 c1] 39 (0, 0)) ∧ Own W' W.heap.size v0.heap.size (some ⟨g1, 0, none⟩) (sureL x pre) ∧ Below w.heap.size w W')
    (fun m cc pre W' => False) ?hI ?hIx ?h0
    (fun args => { tmps := #[.agg #[.int .i64 (n1 : Int), .slice A n c], .pointer (some ⟨w.heap.size, 0, none⟩), .slice none 0 0, .bool false, .pointer (some ⟨v0.heap.size, 0, none⟩), .bool true, args.getD 0 undef, undef, undef, .tuple #[.slice (some ⟨g1, 0, none⟩) n1 c1, .bool true], .agg #[.int .i64 (n1 : Int), .slice A n c], .tuple #[.slice (some ⟨g1, 0, none⟩) n1 c1, .bool true], .slice (some ⟨g1, 0, none⟩) n1 c1, .bool true, .bool true, .bool false, .agg #[.int .i64 (n1 : Int), .slice A n c], .func (.func 103) #[] #[.pointer (some ⟨v0.heap.size + 1, 0, none⟩)], args.getD 0 undef, undef, undef, undef, undef, undef, undef, undef, undef, undef, undef, undef, undef, undef, undef, undef, undef, undef, undef], defers := [] })
    ?hassign ?hbody ?hdone ?hstop
  case hps => rintro B m W0 x args W1 ⟨_, _, rfl, _⟩; rfl
  case hput =>
    rintro m W0 x args W1 o hm hR ⟨A', c', rfl, h3⟩
    exact ⟨A', c', rfl, by have hz : (W1.putObj (V.heap.size + 1) o).heap.size = W1.heap.size := (by simp); rw [hz]; exact h3.keep fun b h1 h2 => World.putObj_heap_other (by omega)⟩
  case hI =>
    rintro m hm s W' W2 ⟨h1, h2, h3⟩ ho
    have hl := heap_lt h1
    exact ⟨(ho.block _ hl (fun hs => by have := hs.1; omega)).trans h1, h2.only ho (by omega) (fun g hg => .inr (by have := hg.1; omega)), h3.trans (ho.below h3.size (fun k hk => by have := hk.1; omega))⟩
  case hIx => rintro m cc hm s W' W2 h ho; exact h
  case h0 =>
    intro W' hbW hR
    exact ⟨(hbW.block _ (by omega)).trans ((hVb.block _ (by omega)).trans m1), (HO1.out.below hVb (by omega)).below hbW (by omega), (y1.trans (hVb.mono y1.size)).trans (hbW.mono (by omega))⟩
  case hassign =>
    rintro l' args W' K hsz hK
    obtain ⟨v, rfl⟩ : ∃ v, args = #[v] := ⟨args[0]'(by rw [hsz]; decide), by apply Array.ext <;> simp_all⟩
    gi_wp2
    exact hK
  case hbody =>
    rintro m pre th args W0 W1 hm hm0 hpre ⟨hbx, hown, hb⟩ ho ⟨A', c', rfl, hth⟩
    have hzo := ho.size
    have hl0 := heap_lt hbx
    have hbx1 := (ho.block _ hl0 (fun hs => by have := hs.1; omega)).trans hbx
    have ho2 := hown.only ho (by omega) (fun g hg => .inr (by have := hg.1; omega))
    have hb2 : Below w.heap.size w W1 := hb.trans (ho.below hb.size (fun k hk => by have := hk.1; omega))
    have htl : th.length = n1 := (solF_mem (v := toldV) (cs := cs) (hpre.subset (by simp : th ∈ pre ++ [th]))).1
    rw [htl]
    obtain ⟨g3, rfl⟩ : ∃ g3, A' = some ⟨g3, 0, none⟩ := by
      rcases hth with h | ⟨b, cs', T, e, _⟩
      · rw [h] at htl; simp at htl; omega
      · exact ⟨b, e⟩
    obtain ⟨-, -, hg3, hg4⟩ := hth.get_ (k := 0) (by omega)
    have hol := sureL_len x pre
    rw [HLN.out] at hol
    have hsn : sureL x (pre ++ [th]) = stepS (sureL x pre) th := sureL_snoc x pre th
    obtain ⟨ol, hole⟩ : ∃ ol, sureL x pre = ol := ⟨_, rfl⟩
    rw [hole] at hol hsn ho2
    have HSN := Lib.hid hsn
    have HOLN := Lib.hid hol
    have HTL := Lib.hid htl
    have HTH := Lib.hid hth
    have HO2 := Lib.hid ho2
    have HB2 := Lib.hid hb2
    have HBX := Lib.hid hbx1
    clear hole hol hsn htl hth ho2 hb2 hbx1 hbx hown hb ho hpre
    gi_wp2
    gi_loopw [7, 8, 21] (fun _ _ i wz => ∃ k : Nat, k ≤ n1 ∧ i = .int .i64 (k : Int) ∧ (∀ b, b ≠ g1 → wz.heap[b]? = W1.heap[b]?) ∧ wz.heap.size = W1.heap.size ∧ Own wz W.heap.size v0.heap.size (some ⟨g1, 0, none⟩) (stepK ol th k) ∧ Below w.heap.size w wz) (fun _ _ i _ => n1 - (intOf i).toNat)
    case atStart => exact ⟨0, Nat.zero_le _, rfl, fun _ _ => rfl, rfl, by rw [stepK_zero]; exact HO2.out, HB2.out⟩
    case round =>
      rename World => wz
      obtain ⟨k, hk, hik, hfar, hzz, howz, hbz⟩ := hrel
      subst hik
      have HFAR := Lib.hid hfar
      have hbz1 := (hfar _ (by omega)).trans HBX.out
      have q0 := cell_of hbz1 0
      simp only [List.getElem?_toArray, List.getElem?_cons_zero] at q0
      by_cases hlk : k < n1
      · have hlk' : decide ((k : Int) < (n1 : Int)) = true := decide_eq_true (by omega)
        have hlkI : (k : Int) < (n1 : Int) := by omega
        obtain ⟨hca, hfa, -, -⟩ := howz.get_ (k := k) (by rw [stepK_len, HOLN.out]; exact hlk)
        rw [stepK_get (by rw [HOLN.out]; exact hlk)] at hca
        obtain ⟨hcb, -, -, -⟩ := (HTH.out.keep (w' := wz) (fun b h1 h2 => HFAR.out b (by omega))).get_ (k := k) (by rw [HTL.out]; exact hlk)
        obtain ⟨va, hva⟩ : ∃ va, ol.getD k 0 = va := ⟨_, rfl⟩
        obtain ⟨vb, hvb⟩ : ∃ vb, th.getD k 0 = vb := ⟨_, rfl⟩
        rw [hva] at hca
        rw [hvb] at hcb
        have HVA := Lib.hid hva
        have HVB := Lib.hid hvb
        have HOZ := Lib.hid howz
        have HBZ := Lib.hid hbz
        clear hva hvb howz hbz hfar
        by_cases hvv : vb = va
        · have env : (vb != va) = false := by simp [hvv]
          have hnx := stepK_same (o := ol) (t := th) (k := k) (by rw [HVA.out, HVB.out, hvv])
          have HNX := Lib.hid hnx
          clear hnx
          gi_wp2
          go_roundw
          case rel => exact ⟨k + 1, by omega, by go_num, HFAR.out, hzz, by rw [HNX.out]; exact HOZ.out, HBZ.out⟩
          case measure => simp [intOf]; omega
        · have env : (vb != va) = true := by simpa using hvv
          have hnx := stepK_diff (o := ol) (t := th) (k := k) (by rw [HOLN.out]; exact hlk) (by rw [HVA.out, HVB.out]; exact hvv)
          have HNX := Lib.hid hnx
          have HBS := Lib.hid (HBZ.out.setCell (p := ⟨g1, k, none⟩) (by show w.heap.size ≤ g1; omega) (.int .i64 (-1)))
          have HOS := Lib.hid (HOZ.out.set_ k (-1))
          have HF2 := Lib.hid (show ∀ b, b ≠ g1 → (wz.setCell ⟨g1, k, none⟩ (.int .i64 (-1))).heap[b]? = W1.heap[b]? from fun b hb => (set_far _ hb _).trans (HFAR.out b hb))
          clear hnx
          gi_wp2
          go_roundw
          case rel => exact ⟨k + 1, by omega, by go_num, HF2.out, by simpa using hzz, by rw [HNX.out]; exact HOS.out, HBS.out⟩
          case measure => simp [intOf]; omega
      · obtain hkn : k = n1 := by omega
        have hlk' : decide ((k : Int) < (n1 : Int)) = false := decide_eq_false (by omega)
        have hst : stepK ol th k = sureL x (pre ++ [th]) := by rw [HSN.out, stepS, HOLN.out, hkn]
        gi_wp2
        refine ⟨⟨by omega, fun b h1 h2 => HFAR.out b (by omega)⟩, fun b hb => HFAR.out b (by omega), hbz1, by rw [← hst]; exact howz, hbz⟩
  case hdone =>
    rintro m W' hm ⟨hbx, hown, hb⟩ hD
    have q0 := cell_of hbx 0
    simp only [List.getElem?_toArray, List.getElem?_cons_zero] at q0
    have hdl := heap_lt hD
    gi_wp2
    refine ⟨by simp, .inl ⟨_, _, rfl, run_takeDeferred hD, ?_⟩⟩
    have hon := only_putObj (B := V.heap.size) (m := V.heap.size + 1) (Only.refl _ W') ⟨Nat.le_refl _, by omega⟩ (.deferred none)
    refine ⟨.tuple #[.slice (some ⟨g1, 0, none⟩) n1 c1, .bool true], by simp [results, Try.results43, go_sem], some ⟨g1, 0, none⟩, n1, c1, rfl, ?_, ?_, hb.trans (hon.below hb.size (fun k hk => by have := hk.1; omega))⟩
    · rw [someN, if_pos rfl, HSS.out, sureL_len]; exact HLN.out
    · rw [someN, if_pos rfl, HSS.out]; exact (hown.only hon (by omega) (fun g hg => .inr (by have := hg.1; omega))).more (by omega) (by simp; omega)
  case hstop => rintro m cc pre W' hm hpre h hD; exact h.elim
end Go.Proofs.Ytoheoojpmndhoaa
