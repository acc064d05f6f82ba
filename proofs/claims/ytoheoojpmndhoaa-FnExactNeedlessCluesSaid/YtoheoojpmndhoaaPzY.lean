/-
  Two lists of clues one behind the other, a puzzle without a clue, and with one more, as the written program has them.
  Conditions: none.
-/
import Derived.Test.YtoheoojpmndhoaaPzX
import Derived.Deep.DeepCutAuto
namespace Go.Proofs.Ytoheoojpmndhoaa
set_option linter.unusedVariables false
set_option linter.unusedSimpArgs false
open Go.RowKit

theorem row_form4 {w : World} {base T n : Nat} {v : Value} {xs : List Value} (h : w.ownsRow base T 4 v n xs) : ∃ A c, v = .slice A n c := by
  rcases h.2 with ⟨hv, rfl⟩ | ⟨g, cap, cur, hv, _⟩
  · exact ⟨none, 0, hv⟩
  · exact ⟨_, cap, hv⟩

set_option maxHeartbeats 2000000 in
set_option maxRecDepth 100000 in
theorem concat_any (g n1 c1 n2 c2 : Nat) (A1 A2 : Option Addr) (a b : List Clu) (lo hi : Nat) (w : World) (h1 : a.length = n1) (h2 : b.length = n2) (hlen : n1 + n2 ≤ 1000)
    (hg : w.heap[g]? = some (.cells #[.slice A1 n1 c1, .slice A2 n2 c2] 33 (0, 0))) (s1 : Seg w lo hi A1 (flat4 a)) (s2 : Seg w lo hi A2 (flat4 b)) (hB : hi ≤ w.heap.size) :
    Calls Try.prog 107 #[.slice (some ⟨g, 0, none⟩) 2 2] w (RetCl (a ++ b) w) := by
  obtain ⟨i0, hi0, hz0, hz1, hz2⟩ := info_parts clue_infoI
  have e0 := cell_of hg 0
  have e1 := cell_of hg 1
  simp only [List.getElem?_toArray, List.getElem?_cons_zero, List.getElem?_cons_succ] at e0 e1
  have hgl := heap_lt hg
  have H1 := Lib.hid h1
  have H2 := Lib.hid h2
  clear h1 h2
  go_enter Try.func107, Try.ntmps107
  go_wp2
  go_loop [3, 5, 11] (fun s _ i => (i = .int .i64 0 ∧ s = .int .i64 0) ∨ (i = .int .i64 1 ∧ s = .int .i64 (n1 : Int)) ∨ (i = .int .i64 2 ∧ s = .int .i64 ((n1 + n2 : Nat) : Int))) (fun _ _ i => 2 - (intOf i).toNat)
  case atStart => exact .inl ⟨rfl, rfl⟩
  case round =>
    rcases hrel with ⟨rfl, rfl⟩ | ⟨rfl, rfl⟩ | ⟨rfl, rfl⟩
    · go_wp2
      go_round
      case rel => exact .inr (.inl ⟨by go_num, by go_num⟩)
      case measure => simp [intOf]
    · go_wp2
      go_round
      case rel => exact .inr (.inr ⟨by go_num, by go_num⟩)
      case measure => simp [intOf]
    · go_wp2_with (go_at_call 121; refine (grow_any (n1 + n2) hlen _).mono ?_; rintro e w1 ⟨v, rfl, hv, hb1⟩)
      obtain ⟨A4, c4, rfl⟩ := row_form4 hv
      have HV := Lib.hid hv
      clear hv
      go_wp2
      go_loopw [6, 8, 27] (fun v _ i wr => Below w.heap.size w wr ∧ ((i = .int .i64 0 ∧ wr.ownsRow w.heap.size 25 4 v 0 []) ∨ (i = .int .i64 1 ∧ wr.ownsRow w.heap.size 25 4 v n1 (vals4 a)) ∨ (i = .int .i64 2 ∧ wr.ownsRow w.heap.size 25 4 v (n1 + n2) (vals4 (a ++ b))))) (fun _ _ i _ => 2 - (intOf i).toNat)
      case atStart => exact ⟨hb1, .inl ⟨rfl, HV.out⟩⟩
      case round =>
      obtain ⟨hbx, ⟨rfl, hv⟩ | ⟨rfl, hv⟩ | ⟨rfl, hv⟩⟩ := hrel
      · have hc : wr.cell? ⟨g, 0, none⟩ = some (.slice A1 n1 c1) := (hbx.cell (p := ⟨g, 0, none⟩) hgl).trans e0
        have SG := Lib.hid (s1.below hbx hB)
        obtain ⟨A4, c4, rfl⟩ := row_form4 hv
        go_wp2_with (at_builtin; refine wpList_append_flat4 _ rfl _ _ 33 rfl w.heap.size 25 i0 Try.underlying33 hi0 hz0 hz1 hz2 _ 0 _ rfl hv _ n1 _ a lo hi rfl H1.out SG.out (by omega) hbx.size ?_; intro v2 w2 ho2 hg2; have hb2 := below_of_grown4 hg2 (fun g hg => (hv.lt g hg).1) hbx.size; have HO := Lib.hid ho2; clear ho2 hg2; obtain ⟨A3, c3, rfl⟩ := row_form4 HO.out)
        go_roundw
        case rel => exact ⟨hbx.trans (hb2.mono (Nat.le_refl _)), .inr (.inl ⟨by go_num, by have := HO.out; simpa using this⟩)⟩
        case measure => simp [intOf]
      · have hc : wr.cell? ⟨g, 1, none⟩ = some (.slice A2 n2 c2) := (hbx.cell (p := ⟨g, 1, none⟩) hgl).trans e1
        have SG := Lib.hid (s2.below hbx hB)
        obtain ⟨A4, c4, rfl⟩ := row_form4 hv
        go_wp2_with (at_builtin; refine wpList_append_flat4 _ rfl _ _ 33 rfl w.heap.size 25 i0 Try.underlying33 hi0 hz0 hz1 hz2 _ n1 _ rfl hv _ n2 _ b lo hi rfl H2.out SG.out (by omega) hbx.size ?_; intro v2 w2 ho2 hg2; have hb2 := below_of_grown4 hg2 (fun g hg => (hv.lt g hg).1) hbx.size; have HO := Lib.hid ho2; clear ho2 hg2; obtain ⟨A3, c3, rfl⟩ := row_form4 HO.out)
        go_roundw
        case rel => exact ⟨hbx.trans (hb2.mono (Nat.le_refl _)), .inr (.inr ⟨by go_num, by have := HO.out; rw [vals4_append]; exact this⟩)⟩
        case measure => simp [intOf]
      · obtain ⟨A4, c4, hq, f1, f2, f3⟩ := seg_of_row4 hv
        subst hq
        clear hv
        go_wp2
        go_ret
        exact ⟨A4, _, c4, rfl, f1, f2, f3, hbx⟩

/-- A puzzle is answered; its clues lie in new memory of their own. -/
def RetPw (t : Int) (bs : List Clu) (w : World) (e : Ending) (w' : World) : Prop :=
  ∃ A n c, e = .returned (pzV t A n c) ∧ bs.length = n ∧ n ≤ c ∧ Own w' w.heap.size w'.heap.size A (flat4 bs) ∧ Below w.heap.size w w'

set_option maxHeartbeats 4000000 in
theorem without_any (t : Int) (A : Option Addr) (n c k : Nat) (cs : List Clu) (lo hi : Nat) (w : World) (hn : cs.length = n) (hlen : n ≤ 1000) (hnc : n ≤ c) (hk : k < n) (hs : Seg w lo hi A (flat4 cs)) (hB : hi ≤ w.heap.size) :
    Calls Try.prog 82 #[pzV t A n c, .int .i64 (k : Int)] w (RetPw t (dropC cs k) w) := by
  have t3 : IntKind.i64.wrap ((k : Int) + 1) = ((k + 1 : Nat) : Int) := by rw [IntWalk.i64_in _ (by omega)]; omega
  obtain ⟨A1, hA1⟩ : ∃ x, cutV A k 0 = x := ⟨_, rfl⟩
  obtain ⟨A2, hA2⟩ : ∃ x, cutV A n (k + 1) = x := ⟨_, rfl⟩
  have G1 := cut_seg hs k 0 k (by omega) (by omega) (by omega)
  have G2 := cut_seg hs n (k + 1) n (by omega) (by omega) (by omega)
  rw [hA1] at G1
  rw [hA2, List.take_of_length_le (show cs.length ≤ n by omega)] at G2
  have HA1 := Lib.hid hA1
  have HA2 := Lib.hid hA2
  have HN := Lib.hid hn
  obtain ⟨W, hW⟩ : ∃ W, (w.alloc (.cells #[.int .i64 t, .slice A n c] 35)).alloc (.cells #[.int .i64 0, .slice none 0 0] 35) = W := ⟨_, rfl⟩
  have z0 : Below w.heap.size w W := by rw [← hW]; exact ((Below.refl _ _).alloc (Nat.le_refl _) _).alloc (by simp) _
  have p0 : W.heap[w.heap.size]? = some (.cells #[.int .i64 t, .slice A n c] 35 (0, 0)) := by rw [← hW]; exact (alloc_old _ (by simp) _).trans (new_at _ _ rfl)
  have r0 : W.heap[w.heap.size + 1]? = some (.cells #[.int .i64 0, .slice none 0 0] 35 (0, 0)) := by rw [← hW]; exact new_at _ _ (by simp)
  have hsz : w.heap.size + 1 < W.heap.size := heap_lt r0
  have HW := Lib.hid hW
  clear hW hA1 hA2 hn hs
  go_enter Try.func82, Try.ntmps82
  go_upto_region 1 with (fail)
  go_cut [5, 6] (fun s5 s6 wx => ∃ g5 g6 : Nat, s5 = .pointer (some ⟨g5, 0, none⟩) ∧ s6 = .pointer (some ⟨g6, 0, none⟩) ∧ wx.heap[g5]? = some (.cells #[.int .i64 t, .slice A1 k k] 35 (0, 0)) ∧ wx.heap[g6]? = some (.cells #[.int .i64 t, .slice A2 (n - (k + 1)) (n - (k + 1))] 35 (0, 0)) ∧ Below w.heap.size w wx ∧ wx.heap[w.heap.size]? = some (.cells #[.int .i64 t, .slice A n c] 35 (0, 0)) ∧ wx.heap[w.heap.size + 1]? = some (.cells #[.int .i64 0, .slice none 0 0] 35 (0, 0)) ∧ w.heap.size + 1 < g5 ∧ w.heap.size + 1 < g6)
  case first =>
    rw [HW.out]
    refine wp_region_held_drew (S := fun wq => wq.heap[w.heap.size]? = some (.cells #[.int .i64 t, .slice A n c] 35 (0, 0))) (by kernel_rfl) p0 (fun hH0 => ?_)
    refine wpAnyH_take (i := 0) (v := ?_) (ops_at rfl) (by kernel_rfl) (by kernel_rfl) (by kernel_rfl) (fun _ _ _ h => h) (Or.inl ⟨by rfl, ?ya0⟩) (by assumption) ?na0
    case ya0 => (intro wS hSw; have q0 := cell_of hSw 0; have q1 := cell_of hSw 1; go_simp; try rfl)
    try simp only [Act.put, List.setIfInBounds_toArray, List.set_cons_zero, List.set_cons_succ]
    refine wpAnyH_take (i := 1) (v := ?_) (ops_at rfl) (by kernel_rfl) (by kernel_rfl) (by kernel_rfl) (fun _ _ _ h => h) (Or.inl ⟨by rfl, ?ya1⟩) (by assumption) ?na1
    case ya1 => (intro wS hSw; have q0 := cell_of hSw 0; have q1 := cell_of hSw 1; go_simp; try rfl)
    try simp only [Act.put, List.setIfInBounds_toArray, List.set_cons_zero, List.set_cons_succ]
    refine wpAnyH_take (i := 3) (v := ?_) (ops_at rfl) (by kernel_rfl) (by kernel_rfl) (by kernel_rfl) (fun _ _ _ h => h) (Or.inl ⟨by rfl, ?ya3⟩) (by assumption) ?na3
    case ya3 => (intro wS hSw; have q0 := cell_of hSw 0; have q1 := cell_of hSw 1; go_simp; try rfl)
    try simp only [Act.put, List.setIfInBounds_toArray, List.set_cons_zero, List.set_cons_succ]
    refine wpAnyH_take (i := 4) (v := ?_) (ops_at rfl) (by kernel_rfl) (by kernel_rfl) (by kernel_rfl) (fun _ _ _ h => h) (Or.inl ⟨by rfl, ?ya4⟩) (by assumption) ?na4
    case ya4 => (intro wS hSw; have q0 := cell_of hSw 0; have q1 := cell_of hSw 1; go_simp; try rfl)
    try simp only [Act.put, List.setIfInBounds_toArray, List.set_cons_zero, List.set_cons_succ]
    refine wpAnyH_take (i := 5) (v := ?_) (ops_at rfl) (by kernel_rfl) (by kernel_rfl) (by kernel_rfl) (fun _ _ _ h => h) (Or.inl ⟨by rfl, ?ya5⟩) (by assumption) ?na5
    case ya5 => (intro wS hSw; have q0 := cell_of hSw 0; have q1 := cell_of hSw 1; go_simp; try rfl)
    try simp only [Act.put, List.setIfInBounds_toArray, List.set_cons_zero, List.set_cons_succ]
    refine wpAnyH_take (i := 6) (v := ?_) (ops_at rfl) (by kernel_rfl) (by kernel_rfl) (by kernel_rfl) (fun _ _ _ h => h) (Or.inl ⟨by rfl, ?ya6⟩) (by assumption) ?na6
    case ya6 => (intro wS hSw; have q0 := cell_of hSw 0; have q1 := cell_of hSw 1; go_simp; try rfl)
    try simp only [Act.put, List.setIfInBounds_toArray, List.set_cons_zero, List.set_cons_succ]
    refine wpAnyH_take (i := 7) (v := ?_) (ops_at rfl) (by kernel_rfl) (by kernel_rfl) (by kernel_rfl) (fun _ _ _ h => h) (Or.inl ⟨by rfl, ?ya7⟩) (by assumption) ?na7
    case ya7 => (intro wS hSw; have q0 := cell_of hSw 0; have q1 := cell_of hSw 1; go_simp; try rfl)
    try simp only [Act.put, List.setIfInBounds_toArray, List.set_cons_zero, List.set_cons_succ]
    refine wpAnyH_take (i := 8) (v := ?_) (ops_at rfl) (by kernel_rfl) (by kernel_rfl) (by kernel_rfl) (fun _ _ _ h => h) (Or.inl ⟨by rfl, ?ya8⟩) (by assumption) ?na8
    case ya8 => (intro wS hSw; have q0 := cell_of hSw 0; have q1 := cell_of hSw 1; go_simp; try rfl)
    try simp only [Act.put, List.setIfInBounds_toArray, List.set_cons_zero, List.set_cons_succ]
    obtain ⟨v0, hv0⟩ : ∃ v, W.drew = v := ⟨_, rfl⟩
    have y0 : Below w.heap.size w v0 := by rw [← hv0]; exact z0.drew
    have p_0 : v0.heap[w.heap.size]? = some (.cells #[.int .i64 t, .slice A n c] 35 (0, 0)) := by rw [← hv0]; exact p0
    have r_0 : v0.heap[w.heap.size + 1]? = some (.cells #[.int .i64 0, .slice none 0 0] 35 (0, 0)) := by rw [← hv0]; exact r0
    have x0 : w.heap.size + 1 < v0.heap.size := by rw [← hv0]; exact hsz
    rw [hv0]
    clear hv0 z0 p0 r0 hsz
    refine wpAnyH_ready (rs := [2, 10, 11]) (by kernel_rfl) (by simp) ?_
    refine AllReadyH.cons (ops_at rfl) (fun K hK => ?_) (AllReadyH.cons (ops_at rfl) (fun K hK => ?_) (AllReadyH.cons (ops_at rfl) (fun K hK => ?_) AllReadyH.nil))
    · go_simp
      refine (cut_any t A n c 0 k _ (by omega) hnc (by omega) (by omega)).mono ?_
      rintro e v1 ⟨rfl, hb1⟩
      rw [HA1.out]
      rw [Nat.sub_zero]
      have hz1 := hb1.size
      have y1 := y0.trans (hb1.mono (by omega))
      have x1 : w.heap.size + 1 < v1.heap.size := by omega
      have p_1 := (hb1.block _ (by omega)).trans p_0
      have r_1 := (hb1.block _ (by omega)).trans r_0
      refine hK.out _ _ p_1 (fun hRz1 => ?_)
      clear hK K
      refine wpAnyH_ready (rs := [9, 10, 11]) (by kernel_rfl) (by simp) ?_
      refine AllReadyH.cons (ops_at rfl) (fun K hK => ?_) (AllReadyH.cons (ops_at rfl) (fun K hK => ?_) (AllReadyH.cons (ops_at rfl) (fun K hK => ?_) AllReadyH.nil))
      · go_simp
        refine (cut_any t A n c (k + 1) n _ (by omega) hnc (by omega) (by omega)).mono ?_
        rintro e v2 ⟨rfl, hb2⟩
        rw [HA2.out]
        have hz2 := hb2.size
        have y2 := y1.trans (hb2.mono (by omega))
        have x2 : w.heap.size + 1 < v2.heap.size := by omega
        have p_2 := (hb2.block _ (by omega)).trans p_1
        have r_2 := (hb2.block _ (by omega)).trans r_1
        refine hK.out _ _ p_2 (fun hRz22 => ?_)
        clear hK K
        refine wpAnyH_ready (rs := [10, 11]) (by kernel_rfl) (by simp) ?_
        refine AllReadyH.cons (ops_at rfl) (fun K hK => ?_) (AllReadyH.cons (ops_at rfl) (fun K hK => ?_) AllReadyH.nil)
        · go_simp
          obtain ⟨v3, hv3⟩ : ∃ v, v2.alloc (.cells #[.int .i64 0, .slice none 0 0] 35) = v := ⟨_, rfl⟩
          have hb3 : Below v2.heap.size v2 v3 := by rw [← hv3]; exact (Below.refl _ _).alloc (Nat.le_refl _) _
          have m10_3 : v3.heap[v2.heap.size]? = some (.cells #[.int .i64 0, .slice none 0 0] 35 (0, 0)) := by rw [← hv3]; exact new_at _ _ rfl
          have hlt3 := heap_lt m10_3
          have hz3 := hb3.size
          have y3 := y2.trans (hb3.mono (by omega))
          have x3 : w.heap.size + 1 < v3.heap.size := by omega
          have p_3 := (hb3.block _ (by omega)).trans p_2
          have r_3 := (hb3.block _ (by omega)).trans r_2
          rw [hv3]
          refine hK.out _ _ p_3 (fun hRz293 => ?_)
          clear hK K
          clear hv3
          refine wpAnyH_ready (rs := [11]) (by kernel_rfl) (by simp) ?_
          refine AllReadyH.cons (ops_at rfl) (fun K hK => ?_) AllReadyH.nil
          go_simp
          obtain ⟨v4, hv4⟩ : ∃ v, v3.alloc (.cells #[.int .i64 0, .slice none 0 0] 35) = v := ⟨_, rfl⟩
          have hb4 : Below v3.heap.size v3 v4 := by rw [← hv4]; exact (Below.refl _ _).alloc (Nat.le_refl _) _
          have m11_4 : v4.heap[v3.heap.size]? = some (.cells #[.int .i64 0, .slice none 0 0] 35 (0, 0)) := by rw [← hv4]; exact new_at _ _ rfl
          have hlt4 := heap_lt m11_4
          have hz4 := hb4.size
          have y4 := y3.trans (hb4.mono (by omega))
          have x4 : w.heap.size + 1 < v4.heap.size := by omega
          have p_4 := (hb4.block _ (by omega)).trans p_3
          have r_4 := (hb4.block _ (by omega)).trans r_3
          have m10_4 := (hb4.block _ (by omega)).trans m10_3
          rw [hv4]
          refine hK.out _ _ p_4 (fun hRz29104 => ?_)
          clear hK K
          clear hv4
          have c0 := cell_of m10_4 0
          have c1 := cell_of m10_4 1
          have f0 := frozen_of m10_4 0
          have f1 := frozen_of m10_4 1
          simp only [List.getElem?_toArray, List.getElem?_cons_zero, List.getElem?_cons_succ] at c0 c1
          refine wpAnyH_ready (rs := [12]) (by kernel_rfl) (by simp) ?_
          refine AllReadyH.cons (ops_at rfl) (fun K hK => ?_) AllReadyH.nil
          go_simp
          have a1 := set_self (set_self m10_4 0 (.int .i64 t)) 1 (.slice A1 k k)
          have hne : v3.heap.size ≠ v2.heap.size := by omega
          have hne1 : w.heap.size ≠ v2.heap.size := by omega
          have hne2 : w.heap.size + 1 ≠ v2.heap.size := by omega
          have a2 := (set_far ((v4).setCell ⟨v2.heap.size, 0, none⟩ (.int .i64 t)) (p := ⟨v2.heap.size, 1, none⟩) hne (.slice A1 k k)).trans ((set_far v4 (p := ⟨v2.heap.size, 0, none⟩) hne (.int .i64 t)).trans m11_4)
          have a3 := (set_far ((v4).setCell ⟨v2.heap.size, 0, none⟩ (.int .i64 t)) (p := ⟨v2.heap.size, 1, none⟩) hne1 (.slice A1 k k)).trans ((set_far v4 (p := ⟨v2.heap.size, 0, none⟩) hne1 (.int .i64 t)).trans p_4)
          have a4 := (set_far ((v4).setCell ⟨v2.heap.size, 0, none⟩ (.int .i64 t)) (p := ⟨v2.heap.size, 1, none⟩) hne2 (.slice A1 k k)).trans ((set_far v4 (p := ⟨v2.heap.size, 0, none⟩) hne2 (.int .i64 t)).trans r_4)
          have a5 := (y4.setCell (p := ⟨v2.heap.size, 0, none⟩) (by show w.heap.size ≤ v2.heap.size; omega) (.int .i64 t)).setCell (p := ⟨v2.heap.size, 1, none⟩) (by show w.heap.size ≤ v2.heap.size; omega) (.slice A1 k k)
          refine hK.out _ _ a3 (fun hR12 => ?_)
          clear hK K c0 c1 f0 f1
          obtain ⟨vs, hvs⟩ : ∃ v, (v4.setCell ⟨v2.heap.size, 0, none⟩ (.int .i64 t)).setCell ⟨v2.heap.size, 1, none⟩ (.slice A1 k k) = v := ⟨_, rfl⟩
          have hsx : vs.heap.size = v4.heap.size := by rw [← hvs]; simp
          rw [hvs] at a1 a2 a3 a4 a5 hR12 ⊢
          have hlt : w.heap.size + 1 < vs.heap.size := by omega
          clear hvs hsx
          have c0 := cell_of a2 0
          have c1 := cell_of a2 1
          have f0 := frozen_of a2 0
          have f1 := frozen_of a2 1
          simp only [List.getElem?_toArray, List.getElem?_cons_zero, List.getElem?_cons_succ] at c0 c1
          refine wpAnyH_ready (rs := [13]) (by kernel_rfl) (by simp) ?_
          refine AllReadyH.cons (ops_at rfl) (fun K hK => ?_) AllReadyH.nil
          go_simp
          have b2 := set_self (set_self a2 0 (.int .i64 t)) 1 (.slice A2 (n - (k + 1)) (n - (k + 1)))
          have hnf : v2.heap.size ≠ v3.heap.size := by omega
          have hnf1 : w.heap.size ≠ v3.heap.size := by omega
          have hnf2 : w.heap.size + 1 ≠ v3.heap.size := by omega
          have b1 := (set_far (vs.setCell ⟨v3.heap.size, 0, none⟩ (.int .i64 t)) (p := ⟨v3.heap.size, 1, none⟩) hnf (.slice A2 (n - (k + 1)) (n - (k + 1)))).trans ((set_far vs (p := ⟨v3.heap.size, 0, none⟩) hnf (.int .i64 t)).trans a1)
          have b3 := (set_far (vs.setCell ⟨v3.heap.size, 0, none⟩ (.int .i64 t)) (p := ⟨v3.heap.size, 1, none⟩) hnf1 (.slice A2 (n - (k + 1)) (n - (k + 1)))).trans ((set_far vs (p := ⟨v3.heap.size, 0, none⟩) hnf1 (.int .i64 t)).trans a3)
          have b4 := (set_far (vs.setCell ⟨v3.heap.size, 0, none⟩ (.int .i64 t)) (p := ⟨v3.heap.size, 1, none⟩) hnf2 (.slice A2 (n - (k + 1)) (n - (k + 1)))).trans ((set_far vs (p := ⟨v3.heap.size, 0, none⟩) hnf2 (.int .i64 t)).trans a4)
          have b5 := (a5.setCell (p := ⟨v3.heap.size, 0, none⟩) (by show w.heap.size ≤ v3.heap.size; omega) (.int .i64 t)).setCell (p := ⟨v3.heap.size, 1, none⟩) (by show w.heap.size ≤ v3.heap.size; omega) (.slice A2 (n - (k + 1)) (n - (k + 1)))
          refine hK.out _ _ b3 (fun hR13 => ?_)
          clear hK K
          refine wpAnyH_done (by kernel_rfl) ?_ _
          go_wp2_with fail
          go_meet
          exact ⟨_, _, rfl, rfl, by simpa using b1, by simpa using b2, b5, b3, b4, by omega, by omega⟩
        · go_simp
          obtain ⟨v3, hv3⟩ : ∃ v, v2.alloc (.cells #[.int .i64 0, .slice none 0 0] 35) = v := ⟨_, rfl⟩
          have hb3 : Below v2.heap.size v2 v3 := by rw [← hv3]; exact (Below.refl _ _).alloc (Nat.le_refl _) _
          have m11_3 : v3.heap[v2.heap.size]? = some (.cells #[.int .i64 0, .slice none 0 0] 35 (0, 0)) := by rw [← hv3]; exact new_at _ _ rfl
          have hlt3 := heap_lt m11_3
          have hz3 := hb3.size
          have y3 := y2.trans (hb3.mono (by omega))
          have x3 : w.heap.size + 1 < v3.heap.size := by omega
          have p_3 := (hb3.block _ (by omega)).trans p_2
          have r_3 := (hb3.block _ (by omega)).trans r_2
          rw [hv3]
          refine hK.out _ _ p_3 (fun hRz293 => ?_)
          clear hK K
          clear hv3
          refine wpAnyH_ready (rs := [10]) (by kernel_rfl) (by simp) ?_
          refine AllReadyH.cons (ops_at rfl) (fun K hK => ?_) AllReadyH.nil
          go_simp
          obtain ⟨v4, hv4⟩ : ∃ v, v3.alloc (.cells #[.int .i64 0, .slice none 0 0] 35) = v := ⟨_, rfl⟩
          have hb4 : Below v3.heap.size v3 v4 := by rw [← hv4]; exact (Below.refl _ _).alloc (Nat.le_refl _) _
          have m10_4 : v4.heap[v3.heap.size]? = some (.cells #[.int .i64 0, .slice none 0 0] 35 (0, 0)) := by rw [← hv4]; exact new_at _ _ rfl
          have hlt4 := heap_lt m10_4
          have hz4 := hb4.size
          have y4 := y3.trans (hb4.mono (by omega))
          have x4 : w.heap.size + 1 < v4.heap.size := by omega
          have p_4 := (hb4.block _ (by omega)).trans p_3
          have r_4 := (hb4.block _ (by omega)).trans r_3
          have m11_4 := (hb4.block _ (by omega)).trans m11_3
          rw [hv4]
          refine hK.out _ _ p_4 (fun hRz29114 => ?_)
          clear hK K
          clear hv4
          have c0 := cell_of m10_4 0
          have c1 := cell_of m10_4 1
          have f0 := frozen_of m10_4 0
          have f1 := frozen_of m10_4 1
          simp only [List.getElem?_toArray, List.getElem?_cons_zero, List.getElem?_cons_succ] at c0 c1
          refine wpAnyH_ready (rs := [12]) (by kernel_rfl) (by simp) ?_
          refine AllReadyH.cons (ops_at rfl) (fun K hK => ?_) AllReadyH.nil
          go_simp
          have a1 := set_self (set_self m10_4 0 (.int .i64 t)) 1 (.slice A1 k k)
          have hne : v2.heap.size ≠ v3.heap.size := by omega
          have hne1 : w.heap.size ≠ v3.heap.size := by omega
          have hne2 : w.heap.size + 1 ≠ v3.heap.size := by omega
          have a2 := (set_far ((v4).setCell ⟨v3.heap.size, 0, none⟩ (.int .i64 t)) (p := ⟨v3.heap.size, 1, none⟩) hne (.slice A1 k k)).trans ((set_far v4 (p := ⟨v3.heap.size, 0, none⟩) hne (.int .i64 t)).trans m11_4)
          have a3 := (set_far ((v4).setCell ⟨v3.heap.size, 0, none⟩ (.int .i64 t)) (p := ⟨v3.heap.size, 1, none⟩) hne1 (.slice A1 k k)).trans ((set_far v4 (p := ⟨v3.heap.size, 0, none⟩) hne1 (.int .i64 t)).trans p_4)
          have a4 := (set_far ((v4).setCell ⟨v3.heap.size, 0, none⟩ (.int .i64 t)) (p := ⟨v3.heap.size, 1, none⟩) hne2 (.slice A1 k k)).trans ((set_far v4 (p := ⟨v3.heap.size, 0, none⟩) hne2 (.int .i64 t)).trans r_4)
          have a5 := (y4.setCell (p := ⟨v3.heap.size, 0, none⟩) (by show w.heap.size ≤ v3.heap.size; omega) (.int .i64 t)).setCell (p := ⟨v3.heap.size, 1, none⟩) (by show w.heap.size ≤ v3.heap.size; omega) (.slice A1 k k)
          refine hK.out _ _ a3 (fun hR12 => ?_)
          clear hK K c0 c1 f0 f1
          obtain ⟨vs, hvs⟩ : ∃ v, (v4.setCell ⟨v3.heap.size, 0, none⟩ (.int .i64 t)).setCell ⟨v3.heap.size, 1, none⟩ (.slice A1 k k) = v := ⟨_, rfl⟩
          have hsx : vs.heap.size = v4.heap.size := by rw [← hvs]; simp
          rw [hvs] at a1 a2 a3 a4 a5 hR12 ⊢
          have hlt : w.heap.size + 1 < vs.heap.size := by omega
          clear hvs hsx
          have c0 := cell_of a2 0
          have c1 := cell_of a2 1
          have f0 := frozen_of a2 0
          have f1 := frozen_of a2 1
          simp only [List.getElem?_toArray, List.getElem?_cons_zero, List.getElem?_cons_succ] at c0 c1
          refine wpAnyH_ready (rs := [13]) (by kernel_rfl) (by simp) ?_
          refine AllReadyH.cons (ops_at rfl) (fun K hK => ?_) AllReadyH.nil
          go_simp
          have b2 := set_self (set_self a2 0 (.int .i64 t)) 1 (.slice A2 (n - (k + 1)) (n - (k + 1)))
          have hnf : v3.heap.size ≠ v2.heap.size := by omega
          have hnf1 : w.heap.size ≠ v2.heap.size := by omega
          have hnf2 : w.heap.size + 1 ≠ v2.heap.size := by omega
          have b1 := (set_far (vs.setCell ⟨v2.heap.size, 0, none⟩ (.int .i64 t)) (p := ⟨v2.heap.size, 1, none⟩) hnf (.slice A2 (n - (k + 1)) (n - (k + 1)))).trans ((set_far vs (p := ⟨v2.heap.size, 0, none⟩) hnf (.int .i64 t)).trans a1)
          have b3 := (set_far (vs.setCell ⟨v2.heap.size, 0, none⟩ (.int .i64 t)) (p := ⟨v2.heap.size, 1, none⟩) hnf1 (.slice A2 (n - (k + 1)) (n - (k + 1)))).trans ((set_far vs (p := ⟨v2.heap.size, 0, none⟩) hnf1 (.int .i64 t)).trans a3)
          have b4 := (set_far (vs.setCell ⟨v2.heap.size, 0, none⟩ (.int .i64 t)) (p := ⟨v2.heap.size, 1, none⟩) hnf2 (.slice A2 (n - (k + 1)) (n - (k + 1)))).trans ((set_far vs (p := ⟨v2.heap.size, 0, none⟩) hnf2 (.int .i64 t)).trans a4)
          have b5 := (a5.setCell (p := ⟨v2.heap.size, 0, none⟩) (by show w.heap.size ≤ v2.heap.size; omega) (.int .i64 t)).setCell (p := ⟨v2.heap.size, 1, none⟩) (by show w.heap.size ≤ v2.heap.size; omega) (.slice A2 (n - (k + 1)) (n - (k + 1)))
          refine hK.out _ _ b3 (fun hR13 => ?_)
          clear hK K
          refine wpAnyH_done (by kernel_rfl) ?_ _
          go_wp2_with fail
          go_meet
          exact ⟨_, _, rfl, rfl, by simpa using b1, by simpa using b2, b5, b3, b4, by omega, by omega⟩
      · go_simp
        obtain ⟨v2, hv2⟩ : ∃ v, v1.alloc (.cells #[.int .i64 0, .slice none 0 0] 35) = v := ⟨_, rfl⟩
        have hb2 : Below v1.heap.size v1 v2 := by rw [← hv2]; exact (Below.refl _ _).alloc (Nat.le_refl _) _
        have m10_2 : v2.heap[v1.heap.size]? = some (.cells #[.int .i64 0, .slice none 0 0] 35 (0, 0)) := by rw [← hv2]; exact new_at _ _ rfl
        have hlt2 := heap_lt m10_2
        have hz2 := hb2.size
        have y2 := y1.trans (hb2.mono (by omega))
        have x2 : w.heap.size + 1 < v2.heap.size := by omega
        have p_2 := (hb2.block _ (by omega)).trans p_1
        have r_2 := (hb2.block _ (by omega)).trans r_1
        rw [hv2]
        refine hK.out _ _ p_2 (fun hRz22 => ?_)
        clear hK K
        clear hv2
        refine wpAnyH_ready (rs := [9, 11]) (by kernel_rfl) (by simp) ?_
        refine AllReadyH.cons (ops_at rfl) (fun K hK => ?_) (AllReadyH.cons (ops_at rfl) (fun K hK => ?_) AllReadyH.nil)
        · go_simp
          refine (cut_any t A n c (k + 1) n _ (by omega) hnc (by omega) (by omega)).mono ?_
          rintro e v3 ⟨rfl, hb3⟩
          rw [HA2.out]
          have hz3 := hb3.size
          have y3 := y2.trans (hb3.mono (by omega))
          have x3 : w.heap.size + 1 < v3.heap.size := by omega
          have p_3 := (hb3.block _ (by omega)).trans p_2
          have r_3 := (hb3.block _ (by omega)).trans r_2
          have m10_3 := (hb3.block _ (by omega)).trans m10_2
          refine hK.out _ _ p_3 (fun hRz2103 => ?_)
          clear hK K
          refine wpAnyH_ready (rs := [11]) (by kernel_rfl) (by simp) ?_
          refine AllReadyH.cons (ops_at rfl) (fun K hK => ?_) AllReadyH.nil
          go_simp
          obtain ⟨v4, hv4⟩ : ∃ v, v3.alloc (.cells #[.int .i64 0, .slice none 0 0] 35) = v := ⟨_, rfl⟩
          have hb4 : Below v3.heap.size v3 v4 := by rw [← hv4]; exact (Below.refl _ _).alloc (Nat.le_refl _) _
          have m11_4 : v4.heap[v3.heap.size]? = some (.cells #[.int .i64 0, .slice none 0 0] 35 (0, 0)) := by rw [← hv4]; exact new_at _ _ rfl
          have hlt4 := heap_lt m11_4
          have hz4 := hb4.size
          have y4 := y3.trans (hb4.mono (by omega))
          have x4 : w.heap.size + 1 < v4.heap.size := by omega
          have p_4 := (hb4.block _ (by omega)).trans p_3
          have r_4 := (hb4.block _ (by omega)).trans r_3
          have m10_4 := (hb4.block _ (by omega)).trans m10_3
          rw [hv4]
          refine hK.out _ _ p_4 (fun hRz21094 => ?_)
          clear hK K
          clear hv4
          have c0 := cell_of m10_4 0
          have c1 := cell_of m10_4 1
          have f0 := frozen_of m10_4 0
          have f1 := frozen_of m10_4 1
          simp only [List.getElem?_toArray, List.getElem?_cons_zero, List.getElem?_cons_succ] at c0 c1
          refine wpAnyH_ready (rs := [12]) (by kernel_rfl) (by simp) ?_
          refine AllReadyH.cons (ops_at rfl) (fun K hK => ?_) AllReadyH.nil
          go_simp
          have a1 := set_self (set_self m10_4 0 (.int .i64 t)) 1 (.slice A1 k k)
          have hne : v3.heap.size ≠ v1.heap.size := by omega
          have hne1 : w.heap.size ≠ v1.heap.size := by omega
          have hne2 : w.heap.size + 1 ≠ v1.heap.size := by omega
          have a2 := (set_far ((v4).setCell ⟨v1.heap.size, 0, none⟩ (.int .i64 t)) (p := ⟨v1.heap.size, 1, none⟩) hne (.slice A1 k k)).trans ((set_far v4 (p := ⟨v1.heap.size, 0, none⟩) hne (.int .i64 t)).trans m11_4)
          have a3 := (set_far ((v4).setCell ⟨v1.heap.size, 0, none⟩ (.int .i64 t)) (p := ⟨v1.heap.size, 1, none⟩) hne1 (.slice A1 k k)).trans ((set_far v4 (p := ⟨v1.heap.size, 0, none⟩) hne1 (.int .i64 t)).trans p_4)
          have a4 := (set_far ((v4).setCell ⟨v1.heap.size, 0, none⟩ (.int .i64 t)) (p := ⟨v1.heap.size, 1, none⟩) hne2 (.slice A1 k k)).trans ((set_far v4 (p := ⟨v1.heap.size, 0, none⟩) hne2 (.int .i64 t)).trans r_4)
          have a5 := (y4.setCell (p := ⟨v1.heap.size, 0, none⟩) (by show w.heap.size ≤ v1.heap.size; omega) (.int .i64 t)).setCell (p := ⟨v1.heap.size, 1, none⟩) (by show w.heap.size ≤ v1.heap.size; omega) (.slice A1 k k)
          refine hK.out _ _ a3 (fun hR12 => ?_)
          clear hK K c0 c1 f0 f1
          obtain ⟨vs, hvs⟩ : ∃ v, (v4.setCell ⟨v1.heap.size, 0, none⟩ (.int .i64 t)).setCell ⟨v1.heap.size, 1, none⟩ (.slice A1 k k) = v := ⟨_, rfl⟩
          have hsx : vs.heap.size = v4.heap.size := by rw [← hvs]; simp
          rw [hvs] at a1 a2 a3 a4 a5 hR12 ⊢
          have hlt : w.heap.size + 1 < vs.heap.size := by omega
          clear hvs hsx
          have c0 := cell_of a2 0
          have c1 := cell_of a2 1
          have f0 := frozen_of a2 0
          have f1 := frozen_of a2 1
          simp only [List.getElem?_toArray, List.getElem?_cons_zero, List.getElem?_cons_succ] at c0 c1
          refine wpAnyH_ready (rs := [13]) (by kernel_rfl) (by simp) ?_
          refine AllReadyH.cons (ops_at rfl) (fun K hK => ?_) AllReadyH.nil
          go_simp
          have b2 := set_self (set_self a2 0 (.int .i64 t)) 1 (.slice A2 (n - (k + 1)) (n - (k + 1)))
          have hnf : v1.heap.size ≠ v3.heap.size := by omega
          have hnf1 : w.heap.size ≠ v3.heap.size := by omega
          have hnf2 : w.heap.size + 1 ≠ v3.heap.size := by omega
          have b1 := (set_far (vs.setCell ⟨v3.heap.size, 0, none⟩ (.int .i64 t)) (p := ⟨v3.heap.size, 1, none⟩) hnf (.slice A2 (n - (k + 1)) (n - (k + 1)))).trans ((set_far vs (p := ⟨v3.heap.size, 0, none⟩) hnf (.int .i64 t)).trans a1)
          have b3 := (set_far (vs.setCell ⟨v3.heap.size, 0, none⟩ (.int .i64 t)) (p := ⟨v3.heap.size, 1, none⟩) hnf1 (.slice A2 (n - (k + 1)) (n - (k + 1)))).trans ((set_far vs (p := ⟨v3.heap.size, 0, none⟩) hnf1 (.int .i64 t)).trans a3)
          have b4 := (set_far (vs.setCell ⟨v3.heap.size, 0, none⟩ (.int .i64 t)) (p := ⟨v3.heap.size, 1, none⟩) hnf2 (.slice A2 (n - (k + 1)) (n - (k + 1)))).trans ((set_far vs (p := ⟨v3.heap.size, 0, none⟩) hnf2 (.int .i64 t)).trans a4)
          have b5 := (a5.setCell (p := ⟨v3.heap.size, 0, none⟩) (by show w.heap.size ≤ v3.heap.size; omega) (.int .i64 t)).setCell (p := ⟨v3.heap.size, 1, none⟩) (by show w.heap.size ≤ v3.heap.size; omega) (.slice A2 (n - (k + 1)) (n - (k + 1)))
          refine hK.out _ _ b3 (fun hR13 => ?_)
          clear hK K
          refine wpAnyH_done (by kernel_rfl) ?_ _
          go_wp2_with fail
          go_meet
          exact ⟨_, _, rfl, rfl, by simpa using b1, by simpa using b2, b5, b3, b4, by omega, by omega⟩
        · go_simp
          obtain ⟨v3, hv3⟩ : ∃ v, v2.alloc (.cells #[.int .i64 0, .slice none 0 0] 35) = v := ⟨_, rfl⟩
          have hb3 : Below v2.heap.size v2 v3 := by rw [← hv3]; exact (Below.refl _ _).alloc (Nat.le_refl _) _
          have m11_3 : v3.heap[v2.heap.size]? = some (.cells #[.int .i64 0, .slice none 0 0] 35 (0, 0)) := by rw [← hv3]; exact new_at _ _ rfl
          have hlt3 := heap_lt m11_3
          have hz3 := hb3.size
          have y3 := y2.trans (hb3.mono (by omega))
          have x3 : w.heap.size + 1 < v3.heap.size := by omega
          have p_3 := (hb3.block _ (by omega)).trans p_2
          have r_3 := (hb3.block _ (by omega)).trans r_2
          have m10_3 := (hb3.block _ (by omega)).trans m10_2
          rw [hv3]
          refine hK.out _ _ p_3 (fun hRz2103 => ?_)
          clear hK K
          clear hv3
          refine wpAnyH_ready (rs := [9]) (by kernel_rfl) (by simp) ?_
          refine AllReadyH.cons (ops_at rfl) (fun K hK => ?_) AllReadyH.nil
          go_simp
          refine (cut_any t A n c (k + 1) n _ (by omega) hnc (by omega) (by omega)).mono ?_
          rintro e v4 ⟨rfl, hb4⟩
          rw [HA2.out]
          have hz4 := hb4.size
          have y4 := y3.trans (hb4.mono (by omega))
          have x4 : w.heap.size + 1 < v4.heap.size := by omega
          have p_4 := (hb4.block _ (by omega)).trans p_3
          have r_4 := (hb4.block _ (by omega)).trans r_3
          have m10_4 := (hb4.block _ (by omega)).trans m10_3
          have m11_4 := (hb4.block _ (by omega)).trans m11_3
          refine hK.out _ _ p_4 (fun hRz210114 => ?_)
          clear hK K
          have c0 := cell_of m10_4 0
          have c1 := cell_of m10_4 1
          have f0 := frozen_of m10_4 0
          have f1 := frozen_of m10_4 1
          simp only [List.getElem?_toArray, List.getElem?_cons_zero, List.getElem?_cons_succ] at c0 c1
          refine wpAnyH_ready (rs := [12]) (by kernel_rfl) (by simp) ?_
          refine AllReadyH.cons (ops_at rfl) (fun K hK => ?_) AllReadyH.nil
          go_simp
          have a1 := set_self (set_self m10_4 0 (.int .i64 t)) 1 (.slice A1 k k)
          have hne : v2.heap.size ≠ v1.heap.size := by omega
          have hne1 : w.heap.size ≠ v1.heap.size := by omega
          have hne2 : w.heap.size + 1 ≠ v1.heap.size := by omega
          have a2 := (set_far ((v4).setCell ⟨v1.heap.size, 0, none⟩ (.int .i64 t)) (p := ⟨v1.heap.size, 1, none⟩) hne (.slice A1 k k)).trans ((set_far v4 (p := ⟨v1.heap.size, 0, none⟩) hne (.int .i64 t)).trans m11_4)
          have a3 := (set_far ((v4).setCell ⟨v1.heap.size, 0, none⟩ (.int .i64 t)) (p := ⟨v1.heap.size, 1, none⟩) hne1 (.slice A1 k k)).trans ((set_far v4 (p := ⟨v1.heap.size, 0, none⟩) hne1 (.int .i64 t)).trans p_4)
          have a4 := (set_far ((v4).setCell ⟨v1.heap.size, 0, none⟩ (.int .i64 t)) (p := ⟨v1.heap.size, 1, none⟩) hne2 (.slice A1 k k)).trans ((set_far v4 (p := ⟨v1.heap.size, 0, none⟩) hne2 (.int .i64 t)).trans r_4)
          have a5 := (y4.setCell (p := ⟨v1.heap.size, 0, none⟩) (by show w.heap.size ≤ v1.heap.size; omega) (.int .i64 t)).setCell (p := ⟨v1.heap.size, 1, none⟩) (by show w.heap.size ≤ v1.heap.size; omega) (.slice A1 k k)
          refine hK.out _ _ a3 (fun hR12 => ?_)
          clear hK K c0 c1 f0 f1
          obtain ⟨vs, hvs⟩ : ∃ v, (v4.setCell ⟨v1.heap.size, 0, none⟩ (.int .i64 t)).setCell ⟨v1.heap.size, 1, none⟩ (.slice A1 k k) = v := ⟨_, rfl⟩
          have hsx : vs.heap.size = v4.heap.size := by rw [← hvs]; simp
          rw [hvs] at a1 a2 a3 a4 a5 hR12 ⊢
          have hlt : w.heap.size + 1 < vs.heap.size := by omega
          clear hvs hsx
          have c0 := cell_of a2 0
          have c1 := cell_of a2 1
          have f0 := frozen_of a2 0
          have f1 := frozen_of a2 1
          simp only [List.getElem?_toArray, List.getElem?_cons_zero, List.getElem?_cons_succ] at c0 c1
          refine wpAnyH_ready (rs := [13]) (by kernel_rfl) (by simp) ?_
          refine AllReadyH.cons (ops_at rfl) (fun K hK => ?_) AllReadyH.nil
          go_simp
          have b2 := set_self (set_self a2 0 (.int .i64 t)) 1 (.slice A2 (n - (k + 1)) (n - (k + 1)))
          have hnf : v1.heap.size ≠ v2.heap.size := by omega
          have hnf1 : w.heap.size ≠ v2.heap.size := by omega
          have hnf2 : w.heap.size + 1 ≠ v2.heap.size := by omega
          have b1 := (set_far (vs.setCell ⟨v2.heap.size, 0, none⟩ (.int .i64 t)) (p := ⟨v2.heap.size, 1, none⟩) hnf (.slice A2 (n - (k + 1)) (n - (k + 1)))).trans ((set_far vs (p := ⟨v2.heap.size, 0, none⟩) hnf (.int .i64 t)).trans a1)
          have b3 := (set_far (vs.setCell ⟨v2.heap.size, 0, none⟩ (.int .i64 t)) (p := ⟨v2.heap.size, 1, none⟩) hnf1 (.slice A2 (n - (k + 1)) (n - (k + 1)))).trans ((set_far vs (p := ⟨v2.heap.size, 0, none⟩) hnf1 (.int .i64 t)).trans a3)
          have b4 := (set_far (vs.setCell ⟨v2.heap.size, 0, none⟩ (.int .i64 t)) (p := ⟨v2.heap.size, 1, none⟩) hnf2 (.slice A2 (n - (k + 1)) (n - (k + 1)))).trans ((set_far vs (p := ⟨v2.heap.size, 0, none⟩) hnf2 (.int .i64 t)).trans a4)
          have b5 := (a5.setCell (p := ⟨v2.heap.size, 0, none⟩) (by show w.heap.size ≤ v2.heap.size; omega) (.int .i64 t)).setCell (p := ⟨v2.heap.size, 1, none⟩) (by show w.heap.size ≤ v2.heap.size; omega) (.slice A2 (n - (k + 1)) (n - (k + 1)))
          refine hK.out _ _ b3 (fun hR13 => ?_)
          clear hK K
          refine wpAnyH_done (by kernel_rfl) ?_ _
          go_wp2_with fail
          go_meet
          exact ⟨_, _, rfl, rfl, by simpa using b1, by simpa using b2, b5, b3, b4, by omega, by omega⟩
      · go_simp
        obtain ⟨v2, hv2⟩ : ∃ v, v1.alloc (.cells #[.int .i64 0, .slice none 0 0] 35) = v := ⟨_, rfl⟩
        have hb2 : Below v1.heap.size v1 v2 := by rw [← hv2]; exact (Below.refl _ _).alloc (Nat.le_refl _) _
        have m11_2 : v2.heap[v1.heap.size]? = some (.cells #[.int .i64 0, .slice none 0 0] 35 (0, 0)) := by rw [← hv2]; exact new_at _ _ rfl
        have hlt2 := heap_lt m11_2
        have hz2 := hb2.size
        have y2 := y1.trans (hb2.mono (by omega))
        have x2 : w.heap.size + 1 < v2.heap.size := by omega
        have p_2 := (hb2.block _ (by omega)).trans p_1
        have r_2 := (hb2.block _ (by omega)).trans r_1
        rw [hv2]
        refine hK.out _ _ p_2 (fun hRz22 => ?_)
        clear hK K
        clear hv2
        refine wpAnyH_ready (rs := [9, 10]) (by kernel_rfl) (by simp) ?_
        refine AllReadyH.cons (ops_at rfl) (fun K hK => ?_) (AllReadyH.cons (ops_at rfl) (fun K hK => ?_) AllReadyH.nil)
        · go_simp
          refine (cut_any t A n c (k + 1) n _ (by omega) hnc (by omega) (by omega)).mono ?_
          rintro e v3 ⟨rfl, hb3⟩
          rw [HA2.out]
          have hz3 := hb3.size
          have y3 := y2.trans (hb3.mono (by omega))
          have x3 : w.heap.size + 1 < v3.heap.size := by omega
          have p_3 := (hb3.block _ (by omega)).trans p_2
          have r_3 := (hb3.block _ (by omega)).trans r_2
          have m11_3 := (hb3.block _ (by omega)).trans m11_2
          refine hK.out _ _ p_3 (fun hRz2113 => ?_)
          clear hK K
          refine wpAnyH_ready (rs := [10]) (by kernel_rfl) (by simp) ?_
          refine AllReadyH.cons (ops_at rfl) (fun K hK => ?_) AllReadyH.nil
          go_simp
          obtain ⟨v4, hv4⟩ : ∃ v, v3.alloc (.cells #[.int .i64 0, .slice none 0 0] 35) = v := ⟨_, rfl⟩
          have hb4 : Below v3.heap.size v3 v4 := by rw [← hv4]; exact (Below.refl _ _).alloc (Nat.le_refl _) _
          have m10_4 : v4.heap[v3.heap.size]? = some (.cells #[.int .i64 0, .slice none 0 0] 35 (0, 0)) := by rw [← hv4]; exact new_at _ _ rfl
          have hlt4 := heap_lt m10_4
          have hz4 := hb4.size
          have y4 := y3.trans (hb4.mono (by omega))
          have x4 : w.heap.size + 1 < v4.heap.size := by omega
          have p_4 := (hb4.block _ (by omega)).trans p_3
          have r_4 := (hb4.block _ (by omega)).trans r_3
          have m11_4 := (hb4.block _ (by omega)).trans m11_3
          rw [hv4]
          refine hK.out _ _ p_4 (fun hRz21194 => ?_)
          clear hK K
          clear hv4
          have c0 := cell_of m10_4 0
          have c1 := cell_of m10_4 1
          have f0 := frozen_of m10_4 0
          have f1 := frozen_of m10_4 1
          simp only [List.getElem?_toArray, List.getElem?_cons_zero, List.getElem?_cons_succ] at c0 c1
          refine wpAnyH_ready (rs := [12]) (by kernel_rfl) (by simp) ?_
          refine AllReadyH.cons (ops_at rfl) (fun K hK => ?_) AllReadyH.nil
          go_simp
          have a1 := set_self (set_self m10_4 0 (.int .i64 t)) 1 (.slice A1 k k)
          have hne : v1.heap.size ≠ v3.heap.size := by omega
          have hne1 : w.heap.size ≠ v3.heap.size := by omega
          have hne2 : w.heap.size + 1 ≠ v3.heap.size := by omega
          have a2 := (set_far ((v4).setCell ⟨v3.heap.size, 0, none⟩ (.int .i64 t)) (p := ⟨v3.heap.size, 1, none⟩) hne (.slice A1 k k)).trans ((set_far v4 (p := ⟨v3.heap.size, 0, none⟩) hne (.int .i64 t)).trans m11_4)
          have a3 := (set_far ((v4).setCell ⟨v3.heap.size, 0, none⟩ (.int .i64 t)) (p := ⟨v3.heap.size, 1, none⟩) hne1 (.slice A1 k k)).trans ((set_far v4 (p := ⟨v3.heap.size, 0, none⟩) hne1 (.int .i64 t)).trans p_4)
          have a4 := (set_far ((v4).setCell ⟨v3.heap.size, 0, none⟩ (.int .i64 t)) (p := ⟨v3.heap.size, 1, none⟩) hne2 (.slice A1 k k)).trans ((set_far v4 (p := ⟨v3.heap.size, 0, none⟩) hne2 (.int .i64 t)).trans r_4)
          have a5 := (y4.setCell (p := ⟨v3.heap.size, 0, none⟩) (by show w.heap.size ≤ v3.heap.size; omega) (.int .i64 t)).setCell (p := ⟨v3.heap.size, 1, none⟩) (by show w.heap.size ≤ v3.heap.size; omega) (.slice A1 k k)
          refine hK.out _ _ a3 (fun hR12 => ?_)
          clear hK K c0 c1 f0 f1
          obtain ⟨vs, hvs⟩ : ∃ v, (v4.setCell ⟨v3.heap.size, 0, none⟩ (.int .i64 t)).setCell ⟨v3.heap.size, 1, none⟩ (.slice A1 k k) = v := ⟨_, rfl⟩
          have hsx : vs.heap.size = v4.heap.size := by rw [← hvs]; simp
          rw [hvs] at a1 a2 a3 a4 a5 hR12 ⊢
          have hlt : w.heap.size + 1 < vs.heap.size := by omega
          clear hvs hsx
          have c0 := cell_of a2 0
          have c1 := cell_of a2 1
          have f0 := frozen_of a2 0
          have f1 := frozen_of a2 1
          simp only [List.getElem?_toArray, List.getElem?_cons_zero, List.getElem?_cons_succ] at c0 c1
          refine wpAnyH_ready (rs := [13]) (by kernel_rfl) (by simp) ?_
          refine AllReadyH.cons (ops_at rfl) (fun K hK => ?_) AllReadyH.nil
          go_simp
          have b2 := set_self (set_self a2 0 (.int .i64 t)) 1 (.slice A2 (n - (k + 1)) (n - (k + 1)))
          have hnf : v3.heap.size ≠ v1.heap.size := by omega
          have hnf1 : w.heap.size ≠ v1.heap.size := by omega
          have hnf2 : w.heap.size + 1 ≠ v1.heap.size := by omega
          have b1 := (set_far (vs.setCell ⟨v1.heap.size, 0, none⟩ (.int .i64 t)) (p := ⟨v1.heap.size, 1, none⟩) hnf (.slice A2 (n - (k + 1)) (n - (k + 1)))).trans ((set_far vs (p := ⟨v1.heap.size, 0, none⟩) hnf (.int .i64 t)).trans a1)
          have b3 := (set_far (vs.setCell ⟨v1.heap.size, 0, none⟩ (.int .i64 t)) (p := ⟨v1.heap.size, 1, none⟩) hnf1 (.slice A2 (n - (k + 1)) (n - (k + 1)))).trans ((set_far vs (p := ⟨v1.heap.size, 0, none⟩) hnf1 (.int .i64 t)).trans a3)
          have b4 := (set_far (vs.setCell ⟨v1.heap.size, 0, none⟩ (.int .i64 t)) (p := ⟨v1.heap.size, 1, none⟩) hnf2 (.slice A2 (n - (k + 1)) (n - (k + 1)))).trans ((set_far vs (p := ⟨v1.heap.size, 0, none⟩) hnf2 (.int .i64 t)).trans a4)
          have b5 := (a5.setCell (p := ⟨v1.heap.size, 0, none⟩) (by show w.heap.size ≤ v1.heap.size; omega) (.int .i64 t)).setCell (p := ⟨v1.heap.size, 1, none⟩) (by show w.heap.size ≤ v1.heap.size; omega) (.slice A2 (n - (k + 1)) (n - (k + 1)))
          refine hK.out _ _ b3 (fun hR13 => ?_)
          clear hK K
          refine wpAnyH_done (by kernel_rfl) ?_ _
          go_wp2_with fail
          go_meet
          exact ⟨_, _, rfl, rfl, by simpa using b1, by simpa using b2, b5, b3, b4, by omega, by omega⟩
        · go_simp
          obtain ⟨v3, hv3⟩ : ∃ v, v2.alloc (.cells #[.int .i64 0, .slice none 0 0] 35) = v := ⟨_, rfl⟩
          have hb3 : Below v2.heap.size v2 v3 := by rw [← hv3]; exact (Below.refl _ _).alloc (Nat.le_refl _) _
          have m10_3 : v3.heap[v2.heap.size]? = some (.cells #[.int .i64 0, .slice none 0 0] 35 (0, 0)) := by rw [← hv3]; exact new_at _ _ rfl
          have hlt3 := heap_lt m10_3
          have hz3 := hb3.size
          have y3 := y2.trans (hb3.mono (by omega))
          have x3 : w.heap.size + 1 < v3.heap.size := by omega
          have p_3 := (hb3.block _ (by omega)).trans p_2
          have r_3 := (hb3.block _ (by omega)).trans r_2
          have m11_3 := (hb3.block _ (by omega)).trans m11_2
          rw [hv3]
          refine hK.out _ _ p_3 (fun hRz2113 => ?_)
          clear hK K
          clear hv3
          refine wpAnyH_ready (rs := [9]) (by kernel_rfl) (by simp) ?_
          refine AllReadyH.cons (ops_at rfl) (fun K hK => ?_) AllReadyH.nil
          go_simp
          refine (cut_any t A n c (k + 1) n _ (by omega) hnc (by omega) (by omega)).mono ?_
          rintro e v4 ⟨rfl, hb4⟩
          rw [HA2.out]
          have hz4 := hb4.size
          have y4 := y3.trans (hb4.mono (by omega))
          have x4 : w.heap.size + 1 < v4.heap.size := by omega
          have p_4 := (hb4.block _ (by omega)).trans p_3
          have r_4 := (hb4.block _ (by omega)).trans r_3
          have m11_4 := (hb4.block _ (by omega)).trans m11_3
          have m10_4 := (hb4.block _ (by omega)).trans m10_3
          refine hK.out _ _ p_4 (fun hRz211104 => ?_)
          clear hK K
          have c0 := cell_of m10_4 0
          have c1 := cell_of m10_4 1
          have f0 := frozen_of m10_4 0
          have f1 := frozen_of m10_4 1
          simp only [List.getElem?_toArray, List.getElem?_cons_zero, List.getElem?_cons_succ] at c0 c1
          refine wpAnyH_ready (rs := [12]) (by kernel_rfl) (by simp) ?_
          refine AllReadyH.cons (ops_at rfl) (fun K hK => ?_) AllReadyH.nil
          go_simp
          have a1 := set_self (set_self m10_4 0 (.int .i64 t)) 1 (.slice A1 k k)
          have hne : v1.heap.size ≠ v2.heap.size := by omega
          have hne1 : w.heap.size ≠ v2.heap.size := by omega
          have hne2 : w.heap.size + 1 ≠ v2.heap.size := by omega
          have a2 := (set_far ((v4).setCell ⟨v2.heap.size, 0, none⟩ (.int .i64 t)) (p := ⟨v2.heap.size, 1, none⟩) hne (.slice A1 k k)).trans ((set_far v4 (p := ⟨v2.heap.size, 0, none⟩) hne (.int .i64 t)).trans m11_4)
          have a3 := (set_far ((v4).setCell ⟨v2.heap.size, 0, none⟩ (.int .i64 t)) (p := ⟨v2.heap.size, 1, none⟩) hne1 (.slice A1 k k)).trans ((set_far v4 (p := ⟨v2.heap.size, 0, none⟩) hne1 (.int .i64 t)).trans p_4)
          have a4 := (set_far ((v4).setCell ⟨v2.heap.size, 0, none⟩ (.int .i64 t)) (p := ⟨v2.heap.size, 1, none⟩) hne2 (.slice A1 k k)).trans ((set_far v4 (p := ⟨v2.heap.size, 0, none⟩) hne2 (.int .i64 t)).trans r_4)
          have a5 := (y4.setCell (p := ⟨v2.heap.size, 0, none⟩) (by show w.heap.size ≤ v2.heap.size; omega) (.int .i64 t)).setCell (p := ⟨v2.heap.size, 1, none⟩) (by show w.heap.size ≤ v2.heap.size; omega) (.slice A1 k k)
          refine hK.out _ _ a3 (fun hR12 => ?_)
          clear hK K c0 c1 f0 f1
          obtain ⟨vs, hvs⟩ : ∃ v, (v4.setCell ⟨v2.heap.size, 0, none⟩ (.int .i64 t)).setCell ⟨v2.heap.size, 1, none⟩ (.slice A1 k k) = v := ⟨_, rfl⟩
          have hsx : vs.heap.size = v4.heap.size := by rw [← hvs]; simp
          rw [hvs] at a1 a2 a3 a4 a5 hR12 ⊢
          have hlt : w.heap.size + 1 < vs.heap.size := by omega
          clear hvs hsx
          have c0 := cell_of a2 0
          have c1 := cell_of a2 1
          have f0 := frozen_of a2 0
          have f1 := frozen_of a2 1
          simp only [List.getElem?_toArray, List.getElem?_cons_zero, List.getElem?_cons_succ] at c0 c1
          refine wpAnyH_ready (rs := [13]) (by kernel_rfl) (by simp) ?_
          refine AllReadyH.cons (ops_at rfl) (fun K hK => ?_) AllReadyH.nil
          go_simp
          have b2 := set_self (set_self a2 0 (.int .i64 t)) 1 (.slice A2 (n - (k + 1)) (n - (k + 1)))
          have hnf : v2.heap.size ≠ v1.heap.size := by omega
          have hnf1 : w.heap.size ≠ v1.heap.size := by omega
          have hnf2 : w.heap.size + 1 ≠ v1.heap.size := by omega
          have b1 := (set_far (vs.setCell ⟨v1.heap.size, 0, none⟩ (.int .i64 t)) (p := ⟨v1.heap.size, 1, none⟩) hnf (.slice A2 (n - (k + 1)) (n - (k + 1)))).trans ((set_far vs (p := ⟨v1.heap.size, 0, none⟩) hnf (.int .i64 t)).trans a1)
          have b3 := (set_far (vs.setCell ⟨v1.heap.size, 0, none⟩ (.int .i64 t)) (p := ⟨v1.heap.size, 1, none⟩) hnf1 (.slice A2 (n - (k + 1)) (n - (k + 1)))).trans ((set_far vs (p := ⟨v1.heap.size, 0, none⟩) hnf1 (.int .i64 t)).trans a3)
          have b4 := (set_far (vs.setCell ⟨v1.heap.size, 0, none⟩ (.int .i64 t)) (p := ⟨v1.heap.size, 1, none⟩) hnf2 (.slice A2 (n - (k + 1)) (n - (k + 1)))).trans ((set_far vs (p := ⟨v1.heap.size, 0, none⟩) hnf2 (.int .i64 t)).trans a4)
          have b5 := (a5.setCell (p := ⟨v1.heap.size, 0, none⟩) (by show w.heap.size ≤ v1.heap.size; omega) (.int .i64 t)).setCell (p := ⟨v1.heap.size, 1, none⟩) (by show w.heap.size ≤ v1.heap.size; omega) (.slice A2 (n - (k + 1)) (n - (k + 1)))
          refine hK.out _ _ b3 (fun hR13 => ?_)
          clear hK K
          refine wpAnyH_done (by kernel_rfl) ?_ _
          go_wp2_with fail
          go_meet
          exact ⟨_, _, rfl, rfl, by simpa using b1, by simpa using b2, b5, b3, b4, by omega, by omega⟩
    · go_simp
      obtain ⟨v1, hv1⟩ : ∃ v, v0.alloc (.cells #[.int .i64 0, .slice none 0 0] 35) = v := ⟨_, rfl⟩
      have hb1 : Below v0.heap.size v0 v1 := by rw [← hv1]; exact (Below.refl _ _).alloc (Nat.le_refl _) _
      have m10_1 : v1.heap[v0.heap.size]? = some (.cells #[.int .i64 0, .slice none 0 0] 35 (0, 0)) := by rw [← hv1]; exact new_at _ _ rfl
      have hlt1 := heap_lt m10_1
      have hz1 := hb1.size
      have y1 := y0.trans (hb1.mono (by omega))
      have x1 : w.heap.size + 1 < v1.heap.size := by omega
      have p_1 := (hb1.block _ (by omega)).trans p_0
      have r_1 := (hb1.block _ (by omega)).trans r_0
      rw [hv1]
      refine hK.out _ _ p_1 (fun hRz1 => ?_)
      clear hK K
      clear hv1
      refine wpAnyH_ready (rs := [2, 11]) (by kernel_rfl) (by simp) ?_
      refine AllReadyH.cons (ops_at rfl) (fun K hK => ?_) (AllReadyH.cons (ops_at rfl) (fun K hK => ?_) AllReadyH.nil)
      · go_simp
        refine (cut_any t A n c 0 k _ (by omega) hnc (by omega) (by omega)).mono ?_
        rintro e v2 ⟨rfl, hb2⟩
        rw [HA1.out]
        rw [Nat.sub_zero]
        have hz2 := hb2.size
        have y2 := y1.trans (hb2.mono (by omega))
        have x2 : w.heap.size + 1 < v2.heap.size := by omega
        have p_2 := (hb2.block _ (by omega)).trans p_1
        have r_2 := (hb2.block _ (by omega)).trans r_1
        have m10_2 := (hb2.block _ (by omega)).trans m10_1
        refine hK.out _ _ p_2 (fun hRz102 => ?_)
        clear hK K
        refine wpAnyH_ready (rs := [9, 11]) (by kernel_rfl) (by simp) ?_
        refine AllReadyH.cons (ops_at rfl) (fun K hK => ?_) (AllReadyH.cons (ops_at rfl) (fun K hK => ?_) AllReadyH.nil)
        · go_simp
          refine (cut_any t A n c (k + 1) n _ (by omega) hnc (by omega) (by omega)).mono ?_
          rintro e v3 ⟨rfl, hb3⟩
          rw [HA2.out]
          have hz3 := hb3.size
          have y3 := y2.trans (hb3.mono (by omega))
          have x3 : w.heap.size + 1 < v3.heap.size := by omega
          have p_3 := (hb3.block _ (by omega)).trans p_2
          have r_3 := (hb3.block _ (by omega)).trans r_2
          have m10_3 := (hb3.block _ (by omega)).trans m10_2
          refine hK.out _ _ p_3 (fun hRz1023 => ?_)
          clear hK K
          refine wpAnyH_ready (rs := [11]) (by kernel_rfl) (by simp) ?_
          refine AllReadyH.cons (ops_at rfl) (fun K hK => ?_) AllReadyH.nil
          go_simp
          obtain ⟨v4, hv4⟩ : ∃ v, v3.alloc (.cells #[.int .i64 0, .slice none 0 0] 35) = v := ⟨_, rfl⟩
          have hb4 : Below v3.heap.size v3 v4 := by rw [← hv4]; exact (Below.refl _ _).alloc (Nat.le_refl _) _
          have m11_4 : v4.heap[v3.heap.size]? = some (.cells #[.int .i64 0, .slice none 0 0] 35 (0, 0)) := by rw [← hv4]; exact new_at _ _ rfl
          have hlt4 := heap_lt m11_4
          have hz4 := hb4.size
          have y4 := y3.trans (hb4.mono (by omega))
          have x4 : w.heap.size + 1 < v4.heap.size := by omega
          have p_4 := (hb4.block _ (by omega)).trans p_3
          have r_4 := (hb4.block _ (by omega)).trans r_3
          have m10_4 := (hb4.block _ (by omega)).trans m10_3
          rw [hv4]
          refine hK.out _ _ p_4 (fun hRz10294 => ?_)
          clear hK K
          clear hv4
          have c0 := cell_of m10_4 0
          have c1 := cell_of m10_4 1
          have f0 := frozen_of m10_4 0
          have f1 := frozen_of m10_4 1
          simp only [List.getElem?_toArray, List.getElem?_cons_zero, List.getElem?_cons_succ] at c0 c1
          refine wpAnyH_ready (rs := [12]) (by kernel_rfl) (by simp) ?_
          refine AllReadyH.cons (ops_at rfl) (fun K hK => ?_) AllReadyH.nil
          go_simp
          have a1 := set_self (set_self m10_4 0 (.int .i64 t)) 1 (.slice A1 k k)
          have hne : v3.heap.size ≠ v0.heap.size := by omega
          have hne1 : w.heap.size ≠ v0.heap.size := by omega
          have hne2 : w.heap.size + 1 ≠ v0.heap.size := by omega
          have a2 := (set_far ((v4).setCell ⟨v0.heap.size, 0, none⟩ (.int .i64 t)) (p := ⟨v0.heap.size, 1, none⟩) hne (.slice A1 k k)).trans ((set_far v4 (p := ⟨v0.heap.size, 0, none⟩) hne (.int .i64 t)).trans m11_4)
          have a3 := (set_far ((v4).setCell ⟨v0.heap.size, 0, none⟩ (.int .i64 t)) (p := ⟨v0.heap.size, 1, none⟩) hne1 (.slice A1 k k)).trans ((set_far v4 (p := ⟨v0.heap.size, 0, none⟩) hne1 (.int .i64 t)).trans p_4)
          have a4 := (set_far ((v4).setCell ⟨v0.heap.size, 0, none⟩ (.int .i64 t)) (p := ⟨v0.heap.size, 1, none⟩) hne2 (.slice A1 k k)).trans ((set_far v4 (p := ⟨v0.heap.size, 0, none⟩) hne2 (.int .i64 t)).trans r_4)
          have a5 := (y4.setCell (p := ⟨v0.heap.size, 0, none⟩) (by show w.heap.size ≤ v0.heap.size; omega) (.int .i64 t)).setCell (p := ⟨v0.heap.size, 1, none⟩) (by show w.heap.size ≤ v0.heap.size; omega) (.slice A1 k k)
          refine hK.out _ _ a3 (fun hR12 => ?_)
          clear hK K c0 c1 f0 f1
          obtain ⟨vs, hvs⟩ : ∃ v, (v4.setCell ⟨v0.heap.size, 0, none⟩ (.int .i64 t)).setCell ⟨v0.heap.size, 1, none⟩ (.slice A1 k k) = v := ⟨_, rfl⟩
          have hsx : vs.heap.size = v4.heap.size := by rw [← hvs]; simp
          rw [hvs] at a1 a2 a3 a4 a5 hR12 ⊢
          have hlt : w.heap.size + 1 < vs.heap.size := by omega
          clear hvs hsx
          have c0 := cell_of a2 0
          have c1 := cell_of a2 1
          have f0 := frozen_of a2 0
          have f1 := frozen_of a2 1
          simp only [List.getElem?_toArray, List.getElem?_cons_zero, List.getElem?_cons_succ] at c0 c1
          refine wpAnyH_ready (rs := [13]) (by kernel_rfl) (by simp) ?_
          refine AllReadyH.cons (ops_at rfl) (fun K hK => ?_) AllReadyH.nil
          go_simp
          have b2 := set_self (set_self a2 0 (.int .i64 t)) 1 (.slice A2 (n - (k + 1)) (n - (k + 1)))
          have hnf : v0.heap.size ≠ v3.heap.size := by omega
          have hnf1 : w.heap.size ≠ v3.heap.size := by omega
          have hnf2 : w.heap.size + 1 ≠ v3.heap.size := by omega
          have b1 := (set_far (vs.setCell ⟨v3.heap.size, 0, none⟩ (.int .i64 t)) (p := ⟨v3.heap.size, 1, none⟩) hnf (.slice A2 (n - (k + 1)) (n - (k + 1)))).trans ((set_far vs (p := ⟨v3.heap.size, 0, none⟩) hnf (.int .i64 t)).trans a1)
          have b3 := (set_far (vs.setCell ⟨v3.heap.size, 0, none⟩ (.int .i64 t)) (p := ⟨v3.heap.size, 1, none⟩) hnf1 (.slice A2 (n - (k + 1)) (n - (k + 1)))).trans ((set_far vs (p := ⟨v3.heap.size, 0, none⟩) hnf1 (.int .i64 t)).trans a3)
          have b4 := (set_far (vs.setCell ⟨v3.heap.size, 0, none⟩ (.int .i64 t)) (p := ⟨v3.heap.size, 1, none⟩) hnf2 (.slice A2 (n - (k + 1)) (n - (k + 1)))).trans ((set_far vs (p := ⟨v3.heap.size, 0, none⟩) hnf2 (.int .i64 t)).trans a4)
          have b5 := (a5.setCell (p := ⟨v3.heap.size, 0, none⟩) (by show w.heap.size ≤ v3.heap.size; omega) (.int .i64 t)).setCell (p := ⟨v3.heap.size, 1, none⟩) (by show w.heap.size ≤ v3.heap.size; omega) (.slice A2 (n - (k + 1)) (n - (k + 1)))
          refine hK.out _ _ b3 (fun hR13 => ?_)
          clear hK K
          refine wpAnyH_done (by kernel_rfl) ?_ _
          go_wp2_with fail
          go_meet
          exact ⟨_, _, rfl, rfl, by simpa using b1, by simpa using b2, b5, b3, b4, by omega, by omega⟩
        · go_simp
          obtain ⟨v3, hv3⟩ : ∃ v, v2.alloc (.cells #[.int .i64 0, .slice none 0 0] 35) = v := ⟨_, rfl⟩
          have hb3 : Below v2.heap.size v2 v3 := by rw [← hv3]; exact (Below.refl _ _).alloc (Nat.le_refl _) _
          have m11_3 : v3.heap[v2.heap.size]? = some (.cells #[.int .i64 0, .slice none 0 0] 35 (0, 0)) := by rw [← hv3]; exact new_at _ _ rfl
          have hlt3 := heap_lt m11_3
          have hz3 := hb3.size
          have y3 := y2.trans (hb3.mono (by omega))
          have x3 : w.heap.size + 1 < v3.heap.size := by omega
          have p_3 := (hb3.block _ (by omega)).trans p_2
          have r_3 := (hb3.block _ (by omega)).trans r_2
          have m10_3 := (hb3.block _ (by omega)).trans m10_2
          rw [hv3]
          refine hK.out _ _ p_3 (fun hRz1023 => ?_)
          clear hK K
          clear hv3
          refine wpAnyH_ready (rs := [9]) (by kernel_rfl) (by simp) ?_
          refine AllReadyH.cons (ops_at rfl) (fun K hK => ?_) AllReadyH.nil
          go_simp
          refine (cut_any t A n c (k + 1) n _ (by omega) hnc (by omega) (by omega)).mono ?_
          rintro e v4 ⟨rfl, hb4⟩
          rw [HA2.out]
          have hz4 := hb4.size
          have y4 := y3.trans (hb4.mono (by omega))
          have x4 : w.heap.size + 1 < v4.heap.size := by omega
          have p_4 := (hb4.block _ (by omega)).trans p_3
          have r_4 := (hb4.block _ (by omega)).trans r_3
          have m10_4 := (hb4.block _ (by omega)).trans m10_3
          have m11_4 := (hb4.block _ (by omega)).trans m11_3
          refine hK.out _ _ p_4 (fun hRz102114 => ?_)
          clear hK K
          have c0 := cell_of m10_4 0
          have c1 := cell_of m10_4 1
          have f0 := frozen_of m10_4 0
          have f1 := frozen_of m10_4 1
          simp only [List.getElem?_toArray, List.getElem?_cons_zero, List.getElem?_cons_succ] at c0 c1
          refine wpAnyH_ready (rs := [12]) (by kernel_rfl) (by simp) ?_
          refine AllReadyH.cons (ops_at rfl) (fun K hK => ?_) AllReadyH.nil
          go_simp
          have a1 := set_self (set_self m10_4 0 (.int .i64 t)) 1 (.slice A1 k k)
          have hne : v2.heap.size ≠ v0.heap.size := by omega
          have hne1 : w.heap.size ≠ v0.heap.size := by omega
          have hne2 : w.heap.size + 1 ≠ v0.heap.size := by omega
          have a2 := (set_far ((v4).setCell ⟨v0.heap.size, 0, none⟩ (.int .i64 t)) (p := ⟨v0.heap.size, 1, none⟩) hne (.slice A1 k k)).trans ((set_far v4 (p := ⟨v0.heap.size, 0, none⟩) hne (.int .i64 t)).trans m11_4)
          have a3 := (set_far ((v4).setCell ⟨v0.heap.size, 0, none⟩ (.int .i64 t)) (p := ⟨v0.heap.size, 1, none⟩) hne1 (.slice A1 k k)).trans ((set_far v4 (p := ⟨v0.heap.size, 0, none⟩) hne1 (.int .i64 t)).trans p_4)
          have a4 := (set_far ((v4).setCell ⟨v0.heap.size, 0, none⟩ (.int .i64 t)) (p := ⟨v0.heap.size, 1, none⟩) hne2 (.slice A1 k k)).trans ((set_far v4 (p := ⟨v0.heap.size, 0, none⟩) hne2 (.int .i64 t)).trans r_4)
          have a5 := (y4.setCell (p := ⟨v0.heap.size, 0, none⟩) (by show w.heap.size ≤ v0.heap.size; omega) (.int .i64 t)).setCell (p := ⟨v0.heap.size, 1, none⟩) (by show w.heap.size ≤ v0.heap.size; omega) (.slice A1 k k)
          refine hK.out _ _ a3 (fun hR12 => ?_)
          clear hK K c0 c1 f0 f1
          obtain ⟨vs, hvs⟩ : ∃ v, (v4.setCell ⟨v0.heap.size, 0, none⟩ (.int .i64 t)).setCell ⟨v0.heap.size, 1, none⟩ (.slice A1 k k) = v := ⟨_, rfl⟩
          have hsx : vs.heap.size = v4.heap.size := by rw [← hvs]; simp
          rw [hvs] at a1 a2 a3 a4 a5 hR12 ⊢
          have hlt : w.heap.size + 1 < vs.heap.size := by omega
          clear hvs hsx
          have c0 := cell_of a2 0
          have c1 := cell_of a2 1
          have f0 := frozen_of a2 0
          have f1 := frozen_of a2 1
          simp only [List.getElem?_toArray, List.getElem?_cons_zero, List.getElem?_cons_succ] at c0 c1
          refine wpAnyH_ready (rs := [13]) (by kernel_rfl) (by simp) ?_
          refine AllReadyH.cons (ops_at rfl) (fun K hK => ?_) AllReadyH.nil
          go_simp
          have b2 := set_self (set_self a2 0 (.int .i64 t)) 1 (.slice A2 (n - (k + 1)) (n - (k + 1)))
          have hnf : v0.heap.size ≠ v2.heap.size := by omega
          have hnf1 : w.heap.size ≠ v2.heap.size := by omega
          have hnf2 : w.heap.size + 1 ≠ v2.heap.size := by omega
          have b1 := (set_far (vs.setCell ⟨v2.heap.size, 0, none⟩ (.int .i64 t)) (p := ⟨v2.heap.size, 1, none⟩) hnf (.slice A2 (n - (k + 1)) (n - (k + 1)))).trans ((set_far vs (p := ⟨v2.heap.size, 0, none⟩) hnf (.int .i64 t)).trans a1)
          have b3 := (set_far (vs.setCell ⟨v2.heap.size, 0, none⟩ (.int .i64 t)) (p := ⟨v2.heap.size, 1, none⟩) hnf1 (.slice A2 (n - (k + 1)) (n - (k + 1)))).trans ((set_far vs (p := ⟨v2.heap.size, 0, none⟩) hnf1 (.int .i64 t)).trans a3)
          have b4 := (set_far (vs.setCell ⟨v2.heap.size, 0, none⟩ (.int .i64 t)) (p := ⟨v2.heap.size, 1, none⟩) hnf2 (.slice A2 (n - (k + 1)) (n - (k + 1)))).trans ((set_far vs (p := ⟨v2.heap.size, 0, none⟩) hnf2 (.int .i64 t)).trans a4)
          have b5 := (a5.setCell (p := ⟨v2.heap.size, 0, none⟩) (by show w.heap.size ≤ v2.heap.size; omega) (.int .i64 t)).setCell (p := ⟨v2.heap.size, 1, none⟩) (by show w.heap.size ≤ v2.heap.size; omega) (.slice A2 (n - (k + 1)) (n - (k + 1)))
          refine hK.out _ _ b3 (fun hR13 => ?_)
          clear hK K
          refine wpAnyH_done (by kernel_rfl) ?_ _
          go_wp2_with fail
          go_meet
          exact ⟨_, _, rfl, rfl, by simpa using b1, by simpa using b2, b5, b3, b4, by omega, by omega⟩
      · go_simp
        obtain ⟨v2, hv2⟩ : ∃ v, v1.alloc (.cells #[.int .i64 0, .slice none 0 0] 35) = v := ⟨_, rfl⟩
        have hb2 : Below v1.heap.size v1 v2 := by rw [← hv2]; exact (Below.refl _ _).alloc (Nat.le_refl _) _
        have m11_2 : v2.heap[v1.heap.size]? = some (.cells #[.int .i64 0, .slice none 0 0] 35 (0, 0)) := by rw [← hv2]; exact new_at _ _ rfl
        have hlt2 := heap_lt m11_2
        have hz2 := hb2.size
        have y2 := y1.trans (hb2.mono (by omega))
        have x2 : w.heap.size + 1 < v2.heap.size := by omega
        have p_2 := (hb2.block _ (by omega)).trans p_1
        have r_2 := (hb2.block _ (by omega)).trans r_1
        have m10_2 := (hb2.block _ (by omega)).trans m10_1
        rw [hv2]
        refine hK.out _ _ p_2 (fun hRz102 => ?_)
        clear hK K
        clear hv2
        refine wpAnyH_ready (rs := [2]) (by kernel_rfl) (by simp) ?_
        refine AllReadyH.cons (ops_at rfl) (fun K hK => ?_) AllReadyH.nil
        go_simp
        refine (cut_any t A n c 0 k _ (by omega) hnc (by omega) (by omega)).mono ?_
        rintro e v3 ⟨rfl, hb3⟩
        rw [HA1.out]
        rw [Nat.sub_zero]
        have hz3 := hb3.size
        have y3 := y2.trans (hb3.mono (by omega))
        have x3 : w.heap.size + 1 < v3.heap.size := by omega
        have p_3 := (hb3.block _ (by omega)).trans p_2
        have r_3 := (hb3.block _ (by omega)).trans r_2
        have m10_3 := (hb3.block _ (by omega)).trans m10_2
        have m11_3 := (hb3.block _ (by omega)).trans m11_2
        refine hK.out _ _ p_3 (fun hRz10113 => ?_)
        clear hK K
        refine wpAnyH_ready (rs := [9]) (by kernel_rfl) (by simp) ?_
        refine AllReadyH.cons (ops_at rfl) (fun K hK => ?_) AllReadyH.nil
        go_simp
        refine (cut_any t A n c (k + 1) n _ (by omega) hnc (by omega) (by omega)).mono ?_
        rintro e v4 ⟨rfl, hb4⟩
        rw [HA2.out]
        have hz4 := hb4.size
        have y4 := y3.trans (hb4.mono (by omega))
        have x4 : w.heap.size + 1 < v4.heap.size := by omega
        have p_4 := (hb4.block _ (by omega)).trans p_3
        have r_4 := (hb4.block _ (by omega)).trans r_3
        have m10_4 := (hb4.block _ (by omega)).trans m10_3
        have m11_4 := (hb4.block _ (by omega)).trans m11_3
        refine hK.out _ _ p_4 (fun hRz101124 => ?_)
        clear hK K
        have c0 := cell_of m10_4 0
        have c1 := cell_of m10_4 1
        have f0 := frozen_of m10_4 0
        have f1 := frozen_of m10_4 1
        simp only [List.getElem?_toArray, List.getElem?_cons_zero, List.getElem?_cons_succ] at c0 c1
        refine wpAnyH_ready (rs := [12]) (by kernel_rfl) (by simp) ?_
        refine AllReadyH.cons (ops_at rfl) (fun K hK => ?_) AllReadyH.nil
        go_simp
        have a1 := set_self (set_self m10_4 0 (.int .i64 t)) 1 (.slice A1 k k)
        have hne : v1.heap.size ≠ v0.heap.size := by omega
        have hne1 : w.heap.size ≠ v0.heap.size := by omega
        have hne2 : w.heap.size + 1 ≠ v0.heap.size := by omega
        have a2 := (set_far ((v4).setCell ⟨v0.heap.size, 0, none⟩ (.int .i64 t)) (p := ⟨v0.heap.size, 1, none⟩) hne (.slice A1 k k)).trans ((set_far v4 (p := ⟨v0.heap.size, 0, none⟩) hne (.int .i64 t)).trans m11_4)
        have a3 := (set_far ((v4).setCell ⟨v0.heap.size, 0, none⟩ (.int .i64 t)) (p := ⟨v0.heap.size, 1, none⟩) hne1 (.slice A1 k k)).trans ((set_far v4 (p := ⟨v0.heap.size, 0, none⟩) hne1 (.int .i64 t)).trans p_4)
        have a4 := (set_far ((v4).setCell ⟨v0.heap.size, 0, none⟩ (.int .i64 t)) (p := ⟨v0.heap.size, 1, none⟩) hne2 (.slice A1 k k)).trans ((set_far v4 (p := ⟨v0.heap.size, 0, none⟩) hne2 (.int .i64 t)).trans r_4)
        have a5 := (y4.setCell (p := ⟨v0.heap.size, 0, none⟩) (by show w.heap.size ≤ v0.heap.size; omega) (.int .i64 t)).setCell (p := ⟨v0.heap.size, 1, none⟩) (by show w.heap.size ≤ v0.heap.size; omega) (.slice A1 k k)
        refine hK.out _ _ a3 (fun hR12 => ?_)
        clear hK K c0 c1 f0 f1
        obtain ⟨vs, hvs⟩ : ∃ v, (v4.setCell ⟨v0.heap.size, 0, none⟩ (.int .i64 t)).setCell ⟨v0.heap.size, 1, none⟩ (.slice A1 k k) = v := ⟨_, rfl⟩
        have hsx : vs.heap.size = v4.heap.size := by rw [← hvs]; simp
        rw [hvs] at a1 a2 a3 a4 a5 hR12 ⊢
        have hlt : w.heap.size + 1 < vs.heap.size := by omega
        clear hvs hsx
        have c0 := cell_of a2 0
        have c1 := cell_of a2 1
        have f0 := frozen_of a2 0
        have f1 := frozen_of a2 1
        simp only [List.getElem?_toArray, List.getElem?_cons_zero, List.getElem?_cons_succ] at c0 c1
        refine wpAnyH_ready (rs := [13]) (by kernel_rfl) (by simp) ?_
        refine AllReadyH.cons (ops_at rfl) (fun K hK => ?_) AllReadyH.nil
        go_simp
        have b2 := set_self (set_self a2 0 (.int .i64 t)) 1 (.slice A2 (n - (k + 1)) (n - (k + 1)))
        have hnf : v0.heap.size ≠ v1.heap.size := by omega
        have hnf1 : w.heap.size ≠ v1.heap.size := by omega
        have hnf2 : w.heap.size + 1 ≠ v1.heap.size := by omega
        have b1 := (set_far (vs.setCell ⟨v1.heap.size, 0, none⟩ (.int .i64 t)) (p := ⟨v1.heap.size, 1, none⟩) hnf (.slice A2 (n - (k + 1)) (n - (k + 1)))).trans ((set_far vs (p := ⟨v1.heap.size, 0, none⟩) hnf (.int .i64 t)).trans a1)
        have b3 := (set_far (vs.setCell ⟨v1.heap.size, 0, none⟩ (.int .i64 t)) (p := ⟨v1.heap.size, 1, none⟩) hnf1 (.slice A2 (n - (k + 1)) (n - (k + 1)))).trans ((set_far vs (p := ⟨v1.heap.size, 0, none⟩) hnf1 (.int .i64 t)).trans a3)
        have b4 := (set_far (vs.setCell ⟨v1.heap.size, 0, none⟩ (.int .i64 t)) (p := ⟨v1.heap.size, 1, none⟩) hnf2 (.slice A2 (n - (k + 1)) (n - (k + 1)))).trans ((set_far vs (p := ⟨v1.heap.size, 0, none⟩) hnf2 (.int .i64 t)).trans a4)
        have b5 := (a5.setCell (p := ⟨v1.heap.size, 0, none⟩) (by show w.heap.size ≤ v1.heap.size; omega) (.int .i64 t)).setCell (p := ⟨v1.heap.size, 1, none⟩) (by show w.heap.size ≤ v1.heap.size; omega) (.slice A2 (n - (k + 1)) (n - (k + 1)))
        refine hK.out _ _ b3 (fun hR13 => ?_)
        clear hK K
        refine wpAnyH_done (by kernel_rfl) ?_ _
        go_wp2_with fail
        go_meet
        exact ⟨_, _, rfl, rfl, by simpa using b1, by simpa using b2, b5, b3, b4, by omega, by omega⟩
    · go_simp
      obtain ⟨v1, hv1⟩ : ∃ v, v0.alloc (.cells #[.int .i64 0, .slice none 0 0] 35) = v := ⟨_, rfl⟩
      have hb1 : Below v0.heap.size v0 v1 := by rw [← hv1]; exact (Below.refl _ _).alloc (Nat.le_refl _) _
      have m11_1 : v1.heap[v0.heap.size]? = some (.cells #[.int .i64 0, .slice none 0 0] 35 (0, 0)) := by rw [← hv1]; exact new_at _ _ rfl
      have hlt1 := heap_lt m11_1
      have hz1 := hb1.size
      have y1 := y0.trans (hb1.mono (by omega))
      have x1 : w.heap.size + 1 < v1.heap.size := by omega
      have p_1 := (hb1.block _ (by omega)).trans p_0
      have r_1 := (hb1.block _ (by omega)).trans r_0
      rw [hv1]
      refine hK.out _ _ p_1 (fun hRz1 => ?_)
      clear hK K
      clear hv1
      refine wpAnyH_ready (rs := [2, 10]) (by kernel_rfl) (by simp) ?_
      refine AllReadyH.cons (ops_at rfl) (fun K hK => ?_) (AllReadyH.cons (ops_at rfl) (fun K hK => ?_) AllReadyH.nil)
      · go_simp
        refine (cut_any t A n c 0 k _ (by omega) hnc (by omega) (by omega)).mono ?_
        rintro e v2 ⟨rfl, hb2⟩
        rw [HA1.out]
        rw [Nat.sub_zero]
        have hz2 := hb2.size
        have y2 := y1.trans (hb2.mono (by omega))
        have x2 : w.heap.size + 1 < v2.heap.size := by omega
        have p_2 := (hb2.block _ (by omega)).trans p_1
        have r_2 := (hb2.block _ (by omega)).trans r_1
        have m11_2 := (hb2.block _ (by omega)).trans m11_1
        refine hK.out _ _ p_2 (fun hRz112 => ?_)
        clear hK K
        refine wpAnyH_ready (rs := [9, 10]) (by kernel_rfl) (by simp) ?_
        refine AllReadyH.cons (ops_at rfl) (fun K hK => ?_) (AllReadyH.cons (ops_at rfl) (fun K hK => ?_) AllReadyH.nil)
        · go_simp
          refine (cut_any t A n c (k + 1) n _ (by omega) hnc (by omega) (by omega)).mono ?_
          rintro e v3 ⟨rfl, hb3⟩
          rw [HA2.out]
          have hz3 := hb3.size
          have y3 := y2.trans (hb3.mono (by omega))
          have x3 : w.heap.size + 1 < v3.heap.size := by omega
          have p_3 := (hb3.block _ (by omega)).trans p_2
          have r_3 := (hb3.block _ (by omega)).trans r_2
          have m11_3 := (hb3.block _ (by omega)).trans m11_2
          refine hK.out _ _ p_3 (fun hRz1123 => ?_)
          clear hK K
          refine wpAnyH_ready (rs := [10]) (by kernel_rfl) (by simp) ?_
          refine AllReadyH.cons (ops_at rfl) (fun K hK => ?_) AllReadyH.nil
          go_simp
          obtain ⟨v4, hv4⟩ : ∃ v, v3.alloc (.cells #[.int .i64 0, .slice none 0 0] 35) = v := ⟨_, rfl⟩
          have hb4 : Below v3.heap.size v3 v4 := by rw [← hv4]; exact (Below.refl _ _).alloc (Nat.le_refl _) _
          have m10_4 : v4.heap[v3.heap.size]? = some (.cells #[.int .i64 0, .slice none 0 0] 35 (0, 0)) := by rw [← hv4]; exact new_at _ _ rfl
          have hlt4 := heap_lt m10_4
          have hz4 := hb4.size
          have y4 := y3.trans (hb4.mono (by omega))
          have x4 : w.heap.size + 1 < v4.heap.size := by omega
          have p_4 := (hb4.block _ (by omega)).trans p_3
          have r_4 := (hb4.block _ (by omega)).trans r_3
          have m11_4 := (hb4.block _ (by omega)).trans m11_3
          rw [hv4]
          refine hK.out _ _ p_4 (fun hRz11294 => ?_)
          clear hK K
          clear hv4
          have c0 := cell_of m10_4 0
          have c1 := cell_of m10_4 1
          have f0 := frozen_of m10_4 0
          have f1 := frozen_of m10_4 1
          simp only [List.getElem?_toArray, List.getElem?_cons_zero, List.getElem?_cons_succ] at c0 c1
          refine wpAnyH_ready (rs := [12]) (by kernel_rfl) (by simp) ?_
          refine AllReadyH.cons (ops_at rfl) (fun K hK => ?_) AllReadyH.nil
          go_simp
          have a1 := set_self (set_self m10_4 0 (.int .i64 t)) 1 (.slice A1 k k)
          have hne : v0.heap.size ≠ v3.heap.size := by omega
          have hne1 : w.heap.size ≠ v3.heap.size := by omega
          have hne2 : w.heap.size + 1 ≠ v3.heap.size := by omega
          have a2 := (set_far ((v4).setCell ⟨v3.heap.size, 0, none⟩ (.int .i64 t)) (p := ⟨v3.heap.size, 1, none⟩) hne (.slice A1 k k)).trans ((set_far v4 (p := ⟨v3.heap.size, 0, none⟩) hne (.int .i64 t)).trans m11_4)
          have a3 := (set_far ((v4).setCell ⟨v3.heap.size, 0, none⟩ (.int .i64 t)) (p := ⟨v3.heap.size, 1, none⟩) hne1 (.slice A1 k k)).trans ((set_far v4 (p := ⟨v3.heap.size, 0, none⟩) hne1 (.int .i64 t)).trans p_4)
          have a4 := (set_far ((v4).setCell ⟨v3.heap.size, 0, none⟩ (.int .i64 t)) (p := ⟨v3.heap.size, 1, none⟩) hne2 (.slice A1 k k)).trans ((set_far v4 (p := ⟨v3.heap.size, 0, none⟩) hne2 (.int .i64 t)).trans r_4)
          have a5 := (y4.setCell (p := ⟨v3.heap.size, 0, none⟩) (by show w.heap.size ≤ v3.heap.size; omega) (.int .i64 t)).setCell (p := ⟨v3.heap.size, 1, none⟩) (by show w.heap.size ≤ v3.heap.size; omega) (.slice A1 k k)
          refine hK.out _ _ a3 (fun hR12 => ?_)
          clear hK K c0 c1 f0 f1
          obtain ⟨vs, hvs⟩ : ∃ v, (v4.setCell ⟨v3.heap.size, 0, none⟩ (.int .i64 t)).setCell ⟨v3.heap.size, 1, none⟩ (.slice A1 k k) = v := ⟨_, rfl⟩
          have hsx : vs.heap.size = v4.heap.size := by rw [← hvs]; simp
          rw [hvs] at a1 a2 a3 a4 a5 hR12 ⊢
          have hlt : w.heap.size + 1 < vs.heap.size := by omega
          clear hvs hsx
          have c0 := cell_of a2 0
          have c1 := cell_of a2 1
          have f0 := frozen_of a2 0
          have f1 := frozen_of a2 1
          simp only [List.getElem?_toArray, List.getElem?_cons_zero, List.getElem?_cons_succ] at c0 c1
          refine wpAnyH_ready (rs := [13]) (by kernel_rfl) (by simp) ?_
          refine AllReadyH.cons (ops_at rfl) (fun K hK => ?_) AllReadyH.nil
          go_simp
          have b2 := set_self (set_self a2 0 (.int .i64 t)) 1 (.slice A2 (n - (k + 1)) (n - (k + 1)))
          have hnf : v3.heap.size ≠ v0.heap.size := by omega
          have hnf1 : w.heap.size ≠ v0.heap.size := by omega
          have hnf2 : w.heap.size + 1 ≠ v0.heap.size := by omega
          have b1 := (set_far (vs.setCell ⟨v0.heap.size, 0, none⟩ (.int .i64 t)) (p := ⟨v0.heap.size, 1, none⟩) hnf (.slice A2 (n - (k + 1)) (n - (k + 1)))).trans ((set_far vs (p := ⟨v0.heap.size, 0, none⟩) hnf (.int .i64 t)).trans a1)
          have b3 := (set_far (vs.setCell ⟨v0.heap.size, 0, none⟩ (.int .i64 t)) (p := ⟨v0.heap.size, 1, none⟩) hnf1 (.slice A2 (n - (k + 1)) (n - (k + 1)))).trans ((set_far vs (p := ⟨v0.heap.size, 0, none⟩) hnf1 (.int .i64 t)).trans a3)
          have b4 := (set_far (vs.setCell ⟨v0.heap.size, 0, none⟩ (.int .i64 t)) (p := ⟨v0.heap.size, 1, none⟩) hnf2 (.slice A2 (n - (k + 1)) (n - (k + 1)))).trans ((set_far vs (p := ⟨v0.heap.size, 0, none⟩) hnf2 (.int .i64 t)).trans a4)
          have b5 := (a5.setCell (p := ⟨v0.heap.size, 0, none⟩) (by show w.heap.size ≤ v0.heap.size; omega) (.int .i64 t)).setCell (p := ⟨v0.heap.size, 1, none⟩) (by show w.heap.size ≤ v0.heap.size; omega) (.slice A2 (n - (k + 1)) (n - (k + 1)))
          refine hK.out _ _ b3 (fun hR13 => ?_)
          clear hK K
          refine wpAnyH_done (by kernel_rfl) ?_ _
          go_wp2_with fail
          go_meet
          exact ⟨_, _, rfl, rfl, by simpa using b1, by simpa using b2, b5, b3, b4, by omega, by omega⟩
        · go_simp
          obtain ⟨v3, hv3⟩ : ∃ v, v2.alloc (.cells #[.int .i64 0, .slice none 0 0] 35) = v := ⟨_, rfl⟩
          have hb3 : Below v2.heap.size v2 v3 := by rw [← hv3]; exact (Below.refl _ _).alloc (Nat.le_refl _) _
          have m10_3 : v3.heap[v2.heap.size]? = some (.cells #[.int .i64 0, .slice none 0 0] 35 (0, 0)) := by rw [← hv3]; exact new_at _ _ rfl
          have hlt3 := heap_lt m10_3
          have hz3 := hb3.size
          have y3 := y2.trans (hb3.mono (by omega))
          have x3 : w.heap.size + 1 < v3.heap.size := by omega
          have p_3 := (hb3.block _ (by omega)).trans p_2
          have r_3 := (hb3.block _ (by omega)).trans r_2
          have m11_3 := (hb3.block _ (by omega)).trans m11_2
          rw [hv3]
          refine hK.out _ _ p_3 (fun hRz1123 => ?_)
          clear hK K
          clear hv3
          refine wpAnyH_ready (rs := [9]) (by kernel_rfl) (by simp) ?_
          refine AllReadyH.cons (ops_at rfl) (fun K hK => ?_) AllReadyH.nil
          go_simp
          refine (cut_any t A n c (k + 1) n _ (by omega) hnc (by omega) (by omega)).mono ?_
          rintro e v4 ⟨rfl, hb4⟩
          rw [HA2.out]
          have hz4 := hb4.size
          have y4 := y3.trans (hb4.mono (by omega))
          have x4 : w.heap.size + 1 < v4.heap.size := by omega
          have p_4 := (hb4.block _ (by omega)).trans p_3
          have r_4 := (hb4.block _ (by omega)).trans r_3
          have m11_4 := (hb4.block _ (by omega)).trans m11_3
          have m10_4 := (hb4.block _ (by omega)).trans m10_3
          refine hK.out _ _ p_4 (fun hRz112104 => ?_)
          clear hK K
          have c0 := cell_of m10_4 0
          have c1 := cell_of m10_4 1
          have f0 := frozen_of m10_4 0
          have f1 := frozen_of m10_4 1
          simp only [List.getElem?_toArray, List.getElem?_cons_zero, List.getElem?_cons_succ] at c0 c1
          refine wpAnyH_ready (rs := [12]) (by kernel_rfl) (by simp) ?_
          refine AllReadyH.cons (ops_at rfl) (fun K hK => ?_) AllReadyH.nil
          go_simp
          have a1 := set_self (set_self m10_4 0 (.int .i64 t)) 1 (.slice A1 k k)
          have hne : v0.heap.size ≠ v2.heap.size := by omega
          have hne1 : w.heap.size ≠ v2.heap.size := by omega
          have hne2 : w.heap.size + 1 ≠ v2.heap.size := by omega
          have a2 := (set_far ((v4).setCell ⟨v2.heap.size, 0, none⟩ (.int .i64 t)) (p := ⟨v2.heap.size, 1, none⟩) hne (.slice A1 k k)).trans ((set_far v4 (p := ⟨v2.heap.size, 0, none⟩) hne (.int .i64 t)).trans m11_4)
          have a3 := (set_far ((v4).setCell ⟨v2.heap.size, 0, none⟩ (.int .i64 t)) (p := ⟨v2.heap.size, 1, none⟩) hne1 (.slice A1 k k)).trans ((set_far v4 (p := ⟨v2.heap.size, 0, none⟩) hne1 (.int .i64 t)).trans p_4)
          have a4 := (set_far ((v4).setCell ⟨v2.heap.size, 0, none⟩ (.int .i64 t)) (p := ⟨v2.heap.size, 1, none⟩) hne2 (.slice A1 k k)).trans ((set_far v4 (p := ⟨v2.heap.size, 0, none⟩) hne2 (.int .i64 t)).trans r_4)
          have a5 := (y4.setCell (p := ⟨v2.heap.size, 0, none⟩) (by show w.heap.size ≤ v2.heap.size; omega) (.int .i64 t)).setCell (p := ⟨v2.heap.size, 1, none⟩) (by show w.heap.size ≤ v2.heap.size; omega) (.slice A1 k k)
          refine hK.out _ _ a3 (fun hR12 => ?_)
          clear hK K c0 c1 f0 f1
          obtain ⟨vs, hvs⟩ : ∃ v, (v4.setCell ⟨v2.heap.size, 0, none⟩ (.int .i64 t)).setCell ⟨v2.heap.size, 1, none⟩ (.slice A1 k k) = v := ⟨_, rfl⟩
          have hsx : vs.heap.size = v4.heap.size := by rw [← hvs]; simp
          rw [hvs] at a1 a2 a3 a4 a5 hR12 ⊢
          have hlt : w.heap.size + 1 < vs.heap.size := by omega
          clear hvs hsx
          have c0 := cell_of a2 0
          have c1 := cell_of a2 1
          have f0 := frozen_of a2 0
          have f1 := frozen_of a2 1
          simp only [List.getElem?_toArray, List.getElem?_cons_zero, List.getElem?_cons_succ] at c0 c1
          refine wpAnyH_ready (rs := [13]) (by kernel_rfl) (by simp) ?_
          refine AllReadyH.cons (ops_at rfl) (fun K hK => ?_) AllReadyH.nil
          go_simp
          have b2 := set_self (set_self a2 0 (.int .i64 t)) 1 (.slice A2 (n - (k + 1)) (n - (k + 1)))
          have hnf : v2.heap.size ≠ v0.heap.size := by omega
          have hnf1 : w.heap.size ≠ v0.heap.size := by omega
          have hnf2 : w.heap.size + 1 ≠ v0.heap.size := by omega
          have b1 := (set_far (vs.setCell ⟨v0.heap.size, 0, none⟩ (.int .i64 t)) (p := ⟨v0.heap.size, 1, none⟩) hnf (.slice A2 (n - (k + 1)) (n - (k + 1)))).trans ((set_far vs (p := ⟨v0.heap.size, 0, none⟩) hnf (.int .i64 t)).trans a1)
          have b3 := (set_far (vs.setCell ⟨v0.heap.size, 0, none⟩ (.int .i64 t)) (p := ⟨v0.heap.size, 1, none⟩) hnf1 (.slice A2 (n - (k + 1)) (n - (k + 1)))).trans ((set_far vs (p := ⟨v0.heap.size, 0, none⟩) hnf1 (.int .i64 t)).trans a3)
          have b4 := (set_far (vs.setCell ⟨v0.heap.size, 0, none⟩ (.int .i64 t)) (p := ⟨v0.heap.size, 1, none⟩) hnf2 (.slice A2 (n - (k + 1)) (n - (k + 1)))).trans ((set_far vs (p := ⟨v0.heap.size, 0, none⟩) hnf2 (.int .i64 t)).trans a4)
          have b5 := (a5.setCell (p := ⟨v0.heap.size, 0, none⟩) (by show w.heap.size ≤ v0.heap.size; omega) (.int .i64 t)).setCell (p := ⟨v0.heap.size, 1, none⟩) (by show w.heap.size ≤ v0.heap.size; omega) (.slice A2 (n - (k + 1)) (n - (k + 1)))
          refine hK.out _ _ b3 (fun hR13 => ?_)
          clear hK K
          refine wpAnyH_done (by kernel_rfl) ?_ _
          go_wp2_with fail
          go_meet
          exact ⟨_, _, rfl, rfl, by simpa using b1, by simpa using b2, b5, b3, b4, by omega, by omega⟩
      · go_simp
        obtain ⟨v2, hv2⟩ : ∃ v, v1.alloc (.cells #[.int .i64 0, .slice none 0 0] 35) = v := ⟨_, rfl⟩
        have hb2 : Below v1.heap.size v1 v2 := by rw [← hv2]; exact (Below.refl _ _).alloc (Nat.le_refl _) _
        have m10_2 : v2.heap[v1.heap.size]? = some (.cells #[.int .i64 0, .slice none 0 0] 35 (0, 0)) := by rw [← hv2]; exact new_at _ _ rfl
        have hlt2 := heap_lt m10_2
        have hz2 := hb2.size
        have y2 := y1.trans (hb2.mono (by omega))
        have x2 : w.heap.size + 1 < v2.heap.size := by omega
        have p_2 := (hb2.block _ (by omega)).trans p_1
        have r_2 := (hb2.block _ (by omega)).trans r_1
        have m11_2 := (hb2.block _ (by omega)).trans m11_1
        rw [hv2]
        refine hK.out _ _ p_2 (fun hRz112 => ?_)
        clear hK K
        clear hv2
        refine wpAnyH_ready (rs := [2]) (by kernel_rfl) (by simp) ?_
        refine AllReadyH.cons (ops_at rfl) (fun K hK => ?_) AllReadyH.nil
        go_simp
        refine (cut_any t A n c 0 k _ (by omega) hnc (by omega) (by omega)).mono ?_
        rintro e v3 ⟨rfl, hb3⟩
        rw [HA1.out]
        rw [Nat.sub_zero]
        have hz3 := hb3.size
        have y3 := y2.trans (hb3.mono (by omega))
        have x3 : w.heap.size + 1 < v3.heap.size := by omega
        have p_3 := (hb3.block _ (by omega)).trans p_2
        have r_3 := (hb3.block _ (by omega)).trans r_2
        have m11_3 := (hb3.block _ (by omega)).trans m11_2
        have m10_3 := (hb3.block _ (by omega)).trans m10_2
        refine hK.out _ _ p_3 (fun hRz11103 => ?_)
        clear hK K
        refine wpAnyH_ready (rs := [9]) (by kernel_rfl) (by simp) ?_
        refine AllReadyH.cons (ops_at rfl) (fun K hK => ?_) AllReadyH.nil
        go_simp
        refine (cut_any t A n c (k + 1) n _ (by omega) hnc (by omega) (by omega)).mono ?_
        rintro e v4 ⟨rfl, hb4⟩
        rw [HA2.out]
        have hz4 := hb4.size
        have y4 := y3.trans (hb4.mono (by omega))
        have x4 : w.heap.size + 1 < v4.heap.size := by omega
        have p_4 := (hb4.block _ (by omega)).trans p_3
        have r_4 := (hb4.block _ (by omega)).trans r_3
        have m11_4 := (hb4.block _ (by omega)).trans m11_3
        have m10_4 := (hb4.block _ (by omega)).trans m10_3
        refine hK.out _ _ p_4 (fun hRz111024 => ?_)
        clear hK K
        have c0 := cell_of m10_4 0
        have c1 := cell_of m10_4 1
        have f0 := frozen_of m10_4 0
        have f1 := frozen_of m10_4 1
        simp only [List.getElem?_toArray, List.getElem?_cons_zero, List.getElem?_cons_succ] at c0 c1
        refine wpAnyH_ready (rs := [12]) (by kernel_rfl) (by simp) ?_
        refine AllReadyH.cons (ops_at rfl) (fun K hK => ?_) AllReadyH.nil
        go_simp
        have a1 := set_self (set_self m10_4 0 (.int .i64 t)) 1 (.slice A1 k k)
        have hne : v0.heap.size ≠ v1.heap.size := by omega
        have hne1 : w.heap.size ≠ v1.heap.size := by omega
        have hne2 : w.heap.size + 1 ≠ v1.heap.size := by omega
        have a2 := (set_far ((v4).setCell ⟨v1.heap.size, 0, none⟩ (.int .i64 t)) (p := ⟨v1.heap.size, 1, none⟩) hne (.slice A1 k k)).trans ((set_far v4 (p := ⟨v1.heap.size, 0, none⟩) hne (.int .i64 t)).trans m11_4)
        have a3 := (set_far ((v4).setCell ⟨v1.heap.size, 0, none⟩ (.int .i64 t)) (p := ⟨v1.heap.size, 1, none⟩) hne1 (.slice A1 k k)).trans ((set_far v4 (p := ⟨v1.heap.size, 0, none⟩) hne1 (.int .i64 t)).trans p_4)
        have a4 := (set_far ((v4).setCell ⟨v1.heap.size, 0, none⟩ (.int .i64 t)) (p := ⟨v1.heap.size, 1, none⟩) hne2 (.slice A1 k k)).trans ((set_far v4 (p := ⟨v1.heap.size, 0, none⟩) hne2 (.int .i64 t)).trans r_4)
        have a5 := (y4.setCell (p := ⟨v1.heap.size, 0, none⟩) (by show w.heap.size ≤ v1.heap.size; omega) (.int .i64 t)).setCell (p := ⟨v1.heap.size, 1, none⟩) (by show w.heap.size ≤ v1.heap.size; omega) (.slice A1 k k)
        refine hK.out _ _ a3 (fun hR12 => ?_)
        clear hK K c0 c1 f0 f1
        obtain ⟨vs, hvs⟩ : ∃ v, (v4.setCell ⟨v1.heap.size, 0, none⟩ (.int .i64 t)).setCell ⟨v1.heap.size, 1, none⟩ (.slice A1 k k) = v := ⟨_, rfl⟩
        have hsx : vs.heap.size = v4.heap.size := by rw [← hvs]; simp
        rw [hvs] at a1 a2 a3 a4 a5 hR12 ⊢
        have hlt : w.heap.size + 1 < vs.heap.size := by omega
        clear hvs hsx
        have c0 := cell_of a2 0
        have c1 := cell_of a2 1
        have f0 := frozen_of a2 0
        have f1 := frozen_of a2 1
        simp only [List.getElem?_toArray, List.getElem?_cons_zero, List.getElem?_cons_succ] at c0 c1
        refine wpAnyH_ready (rs := [13]) (by kernel_rfl) (by simp) ?_
        refine AllReadyH.cons (ops_at rfl) (fun K hK => ?_) AllReadyH.nil
        go_simp
        have b2 := set_self (set_self a2 0 (.int .i64 t)) 1 (.slice A2 (n - (k + 1)) (n - (k + 1)))
        have hnf : v1.heap.size ≠ v0.heap.size := by omega
        have hnf1 : w.heap.size ≠ v0.heap.size := by omega
        have hnf2 : w.heap.size + 1 ≠ v0.heap.size := by omega
        have b1 := (set_far (vs.setCell ⟨v0.heap.size, 0, none⟩ (.int .i64 t)) (p := ⟨v0.heap.size, 1, none⟩) hnf (.slice A2 (n - (k + 1)) (n - (k + 1)))).trans ((set_far vs (p := ⟨v0.heap.size, 0, none⟩) hnf (.int .i64 t)).trans a1)
        have b3 := (set_far (vs.setCell ⟨v0.heap.size, 0, none⟩ (.int .i64 t)) (p := ⟨v0.heap.size, 1, none⟩) hnf1 (.slice A2 (n - (k + 1)) (n - (k + 1)))).trans ((set_far vs (p := ⟨v0.heap.size, 0, none⟩) hnf1 (.int .i64 t)).trans a3)
        have b4 := (set_far (vs.setCell ⟨v0.heap.size, 0, none⟩ (.int .i64 t)) (p := ⟨v0.heap.size, 1, none⟩) hnf2 (.slice A2 (n - (k + 1)) (n - (k + 1)))).trans ((set_far vs (p := ⟨v0.heap.size, 0, none⟩) hnf2 (.int .i64 t)).trans a4)
        have b5 := (a5.setCell (p := ⟨v0.heap.size, 0, none⟩) (by show w.heap.size ≤ v0.heap.size; omega) (.int .i64 t)).setCell (p := ⟨v0.heap.size, 1, none⟩) (by show w.heap.size ≤ v0.heap.size; omega) (.slice A2 (n - (k + 1)) (n - (k + 1)))
        refine hK.out _ _ b3 (fun hR13 => ?_)
        clear hK K
        refine wpAnyH_done (by kernel_rfl) ?_ _
        go_wp2_with fail
        go_meet
        exact ⟨_, _, rfl, rfl, by simpa using b1, by simpa using b2, b5, b3, b4, by omega, by omega⟩
  case rest =>
    clear z0 p0 r0 hsz
    obtain ⟨g5, g6, rfl, rfl, m5, m6, zx, p0, r0, hn5, hn6⟩ := hcut
    go_wp2_with fail
    refine wp_region_held_drew (S := fun wq => wq.heap[w.heap.size]? = some (.cells #[.int .i64 t, .slice A n c] 35 (0, 0)) ∧ wq.heap[g5]? = some (.cells #[.int .i64 t, .slice A1 k k] 35 (0, 0)) ∧ wq.heap[g6]? = some (.cells #[.int .i64 t, .slice A2 (n - (k + 1)) (n - (k + 1))] 35 (0, 0))) (by kernel_rfl) ⟨p0, m5, m6⟩ (fun hH0 => ?_)
    refine wpAnyH_take (i := 0) (v := ?_) (ops_at rfl) (by kernel_rfl) (by kernel_rfl) (by kernel_rfl) (fun _ _ _ h => h) (Or.inl ⟨by rfl, ?yr0⟩) (by assumption) ?nr0
    case yr0 => (intro wS hSw; obtain ⟨s0, s1, s2⟩ := hSw; have q0 := cell_of s0 0; have q1 := cell_of s0 1; have q2 := cell_of s1 0; have q3 := cell_of s1 1; have q4 := cell_of s2 0; have q5 := cell_of s2 1; go_simp; try rfl)
    try simp only [Act.put, List.setIfInBounds_toArray, List.set_cons_zero, List.set_cons_succ]
    refine wpAnyH_take (i := 1) (v := ?_) (ops_at rfl) (by kernel_rfl) (by kernel_rfl) (by kernel_rfl) (fun _ _ _ h => h) (Or.inl ⟨by rfl, ?yr1⟩) (by assumption) ?nr1
    case yr1 => (intro wS hSw; obtain ⟨s0, s1, s2⟩ := hSw; have q0 := cell_of s0 0; have q1 := cell_of s0 1; have q2 := cell_of s1 0; have q3 := cell_of s1 1; have q4 := cell_of s2 0; have q5 := cell_of s2 1; go_simp; try rfl)
    try simp only [Act.put, List.setIfInBounds_toArray, List.set_cons_zero, List.set_cons_succ]
    refine wpAnyH_take (i := 2) (v := ?_) (ops_at rfl) (by kernel_rfl) (by kernel_rfl) (by kernel_rfl) (fun _ _ _ h => h) (Or.inl ⟨by rfl, ?yr2⟩) (by assumption) ?nr2
    case yr2 => (intro wS hSw; obtain ⟨s0, s1, s2⟩ := hSw; have q0 := cell_of s0 0; have q1 := cell_of s0 1; have q2 := cell_of s1 0; have q3 := cell_of s1 1; have q4 := cell_of s2 0; have q5 := cell_of s2 1; go_simp; try rfl)
    try simp only [Act.put, List.setIfInBounds_toArray, List.set_cons_zero, List.set_cons_succ]
    refine wpAnyH_take (i := 3) (v := ?_) (ops_at rfl) (by kernel_rfl) (by kernel_rfl) (by kernel_rfl) (fun _ _ _ h => h) (Or.inl ⟨by rfl, ?yr3⟩) (by assumption) ?nr3
    case yr3 => (intro wS hSw; obtain ⟨s0, s1, s2⟩ := hSw; have q0 := cell_of s0 0; have q1 := cell_of s0 1; have q2 := cell_of s1 0; have q3 := cell_of s1 1; have q4 := cell_of s2 0; have q5 := cell_of s2 1; go_simp; try rfl)
    try simp only [Act.put, List.setIfInBounds_toArray, List.set_cons_zero, List.set_cons_succ]
    refine wpAnyH_take (i := 4) (v := ?_) (ops_at rfl) (by kernel_rfl) (by kernel_rfl) (by kernel_rfl) (fun _ _ _ h => h) (Or.inl ⟨by rfl, ?yr4⟩) (by assumption) ?nr4
    case yr4 => (intro wS hSw; obtain ⟨s0, s1, s2⟩ := hSw; have q0 := cell_of s0 0; have q1 := cell_of s0 1; have q2 := cell_of s1 0; have q3 := cell_of s1 1; have q4 := cell_of s2 0; have q5 := cell_of s2 1; go_simp; try rfl)
    try simp only [Act.put, List.setIfInBounds_toArray, List.set_cons_zero, List.set_cons_succ]
    refine wpAnyH_take (i := 5) (v := ?_) (ops_at rfl) (by kernel_rfl) (by kernel_rfl) (by kernel_rfl) (fun _ _ _ h => h) (Or.inl ⟨by rfl, ?yr5⟩) (by assumption) ?nr5
    case yr5 => (intro wS hSw; obtain ⟨s0, s1, s2⟩ := hSw; have q0 := cell_of s0 0; have q1 := cell_of s0 1; have q2 := cell_of s1 0; have q3 := cell_of s1 1; have q4 := cell_of s2 0; have q5 := cell_of s2 1; go_simp; try rfl)
    try simp only [Act.put, List.setIfInBounds_toArray, List.set_cons_zero, List.set_cons_succ]
    obtain ⟨v0, hv0⟩ : ∃ v, wc.drew = v := ⟨_, rfl⟩
    have y0 : Below w.heap.size w v0 := by rw [← hv0]; exact zx.drew
    rw [hv0] at hH0 ⊢
    obtain ⟨p_0, m5_0, m6_0⟩ := hH0
    have r_0 : v0.heap[w.heap.size + 1]? = some (.cells #[.int .i64 0, .slice none 0 0] 35 (0, 0)) := by rw [← hv0]; exact r0
    clear hv0 p0 m5 m6 r0 zx
    have x0 := heap_lt r_0
    have x5 := heap_lt m5_0
    have x6 := heap_lt m6_0
    refine wpAnyH_ready (rs := [6]) (by kernel_rfl) (by simp) ?_
    refine AllReadyH.cons (ops_at rfl) (fun K hK => ?_) AllReadyH.nil
    go_simp
    obtain ⟨v1, hv1⟩ : ∃ v, v0.alloc (.cells #[.slice A1 k k, .slice A2 (n - (k + 1)) (n - (k + 1))] 33) = v := ⟨_, rfl⟩
    have hb1 : Below v0.heap.size v0 v1 := by rw [← hv1]; exact (Below.refl _ _).alloc (Nat.le_refl _) _
    have n1 : v1.heap[v0.heap.size]? = some (.cells #[.slice A1 k k, .slice A2 (n - (k + 1)) (n - (k + 1))] 33 (0, 0)) := by rw [← hv1]; exact new_at _ _ rfl
    have hz1 := hb1.size
    have y1 := y0.trans (hb1.mono (by omega))
    have p_1 := (hb1.block _ (by omega)).trans p_0
    have r_1 := (hb1.block _ (by omega)).trans r_0
    have m5_1 := (hb1.block _ (by omega)).trans m5_0
    have m6_1 := (hb1.block _ (by omega)).trans m6_0
    rw [hv1]
    refine hK.out _ _ ⟨p_1, m5_1, m6_1⟩ (fun hR1 => ?_)
    clear hK K hv1
    refine wpAnyH_ready (rs := [7]) (by kernel_rfl) (by simp) ?_
    refine AllReadyH.cons (ops_at rfl) (fun K hK => ?_) AllReadyH.nil
    go_simp
    refine (concat_any _ k k (n - (k + 1)) (n - (k + 1)) A1 A2 ((cs.take k).drop 0) (cs.drop (k + 1)) lo hi _ (by simp; have := HN.out; omega) (by simp; have := HN.out; omega) (by omega) n1 (G1.below y1 hB) (G2.below y1 hB) (by have := y1.size; omega)).mono ?_
    rintro e v2 ⟨A3, n3, c3, rfl, hl3, hc3, ho3, hb2⟩
    have hz2 := hb2.size
    have y2 := y1.trans (hb2.mono (by omega))
    have p_2 := (hb2.block _ (by omega)).trans p_1
    have r_2 := (hb2.block _ (by omega)).trans r_1
    have m5_2 := (hb2.block _ (by omega)).trans m5_1
    have m6_2 := (hb2.block _ (by omega)).trans m6_1
    refine hK.out _ _ ⟨p_2, m5_2, m6_2⟩ (fun hR2 => ?_)
    clear hK K
    refine wpAnyH_take (i := 8) (v := ?_) (ops_at rfl) (by kernel_rfl) (by kernel_rfl) (by kernel_rfl) (fun _ _ _ h => h) (Or.inl ⟨by rfl, ?ys8⟩) (by assumption) ?ns8
    case ys8 => (intro wS hSw; obtain ⟨s0, s1, s2⟩ := hSw; have q0 := cell_of s0 0; have q1 := cell_of s0 1; have q2 := cell_of s1 0; have q3 := cell_of s1 1; have q4 := cell_of s2 0; have q5 := cell_of s2 1; go_simp; try rfl)
    try simp only [Act.put, List.setIfInBounds_toArray, List.set_cons_zero, List.set_cons_succ]
    have c0 := cell_of r_2 0
    have c1 := cell_of r_2 1
    have f0 := frozen_of r_2 0
    have f1 := frozen_of r_2 1
    simp only [List.getElem?_toArray, List.getElem?_cons_zero, List.getElem?_cons_succ] at c0 c1
    have far : ∀ (x : Nat) (o : Obj), x ≠ w.heap.size + 1 → v2.heap[x]? = some o → ((v2.setCell ⟨w.heap.size + 1, 0, none⟩ (.int .i64 t)).setCell ⟨w.heap.size + 1, 1, none⟩ (.slice A3 n3 c3)).heap[x]? = some o := fun x o hx ho => (set_far _ hx _).trans ((set_far _ hx _).trans ho)
    have FAR := Lib.hid far
    clear far
    refine wpAnyH_ready (rs := [9]) (by kernel_rfl) (by simp) ?_
    refine AllReadyH.cons (ops_at rfl) (fun K hK => ?_) AllReadyH.nil
    go_simp
    refine hK.out _ _ ⟨FAR.out _ _ (by omega) p_2, FAR.out _ _ (by omega) m5_2, FAR.out _ _ (by omega) m6_2⟩ (fun hR3 => ?_)
    clear hK K
    refine wpAnyH_done (by kernel_rfl) ?_ _
    go_wp2
    refine bodyPost_ret (v := pzV t A3 n3 c3) (by simp [results, Try.results82, go_sem, c0, c1]) rfl ⟨A3, n3, c3, rfl, by rw [← hl3]; simp [dropC], hc3, ?_, (y2.setCell (by simp) _).setCell (by simp) _⟩
    simp only [World.size_setCell]
    have ho4 := ho3.keep (w' := (v2.setCell ⟨w.heap.size + 1, 0, none⟩ (.int .i64 t)).setCell ⟨w.heap.size + 1, 1, none⟩ (.slice A3 n3 c3)) (fun b hb1 hb2 => (set_far _ (by simp; omega) _).trans (set_far _ (by simp; omega) _))
    have ho5 := ho4.more (show w.heap.size ≤ v1.heap.size by have := y1.size; omega) (Nat.le_refl _)
    simpa [dropC] using ho5
end Go.Proofs.Ytoheoojpmndhoaa
