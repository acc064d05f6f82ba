/-
  The written program's test for a nesting.
  Conditions: the lists have at most 1048576 elements.
-/
import Derived.Test.YtbaofgbkcolmmabNeIs
namespace Go.Proofs.Ytbaofgbkcolmmab
set_option linter.unusedVariables false
open Go.RowKit

/-- A nesting in the making: its boxes and its plan. -/
def NestAt (w : World) (g T : Nat) (sA sP : Value) : Prop := w.heap[g]? = some (.cells #[sA, sP] T (0, 0))

set_option maxRecDepth 100000 in
set_option maxHeartbeats 2000000 in
theorem canGoOn_any (gb T : Nat) (A P : Option Addr) (n c k c2 : Nat) (bs : List (Int × Int × Int)) (plan : List Int) (into : Int) (lo hi lo' hi' : Nat) (w : World) (hn : bs.length = n) (hlen : n ≤ 1048576) (hs : Seg w lo hi A (flat3 bs))
    (hk : plan.length = k) (hkn : k < n) (hp : Seg w lo' hi' P plan) (hg : NestAt w gb T (.slice A n c) (.slice P k c2)) (q : Bool) (hq : freeB bs plan k into = q) :
    Calls Try.prog 120 #[.pointer (some ⟨gb, 0, none⟩), .int .i64 into] w fun e w' => e = .returned (.bool q) ∧ Below w.heap.size w w' := by
  have g0 : w.cell? ⟨gb, 0, none⟩ = some (.slice A n c) := cell_of hg 0
  have g1 : w.cell? ⟨gb, 1, none⟩ = some (.slice P k c2) := cell_of hg 1
  have HK := Lib.hid hk
  have HP := Lib.hid hp
  by_cases hneg : into = -1
  · subst hneg
    obtain rfl : q = true := by rw [← hq, freeB_none]
    clear hs hp hq hn hk hg
    go_enter Try.func120, Try.ntmps120
    go_wp2
    go_ret
    exact ⟨rfl, Below.refl _ _⟩
  by_cases hlow : into < 0
  · obtain rfl : q = false := by rw [← hq, freeB_out (by omega)]
    clear hs hp hq hn hk hg
    go_enter Try.func120, Try.ntmps120
    go_wp2
    go_ret
    exact ⟨rfl, Below.refl _ _⟩
  by_cases hhigh : (n : Int) ≤ into
  · obtain rfl : q = false := by rw [← hq, freeB_out (by omega)]
    clear hs hp hq hn hk hg
    go_enter Try.func120, Try.ntmps120
    go_wp2
    go_ret
    exact ⟨rfl, Below.refl _ _⟩
  obtain ⟨j, rfl⟩ : ∃ j : Nat, into = (j : Int) := ⟨into.toNat, by omega⟩
  have hj : j < n := by omega
  have hjn : (j : Int) < (n : Int) := by omega
  have hjd : decide ((j : Int) < 0) = false := by rw [decide_eq_false_iff_not]; omega
  have hje : ((j : Int) == -1) = false := by rw [beq_eq_false_iff_ne]; omega
  have hjl : ¬ (n : Int) ≤ (j : Int) := by omega
  rw [freeB_some (by rw [hn]; exact hj)] at hq
  obtain ⟨b1, o1, x, y, z, rfl, _, _, hx, c0, c1, c2'⟩ := hs.tri (k := k) (by rw [hn]; exact hkn)
  obtain ⟨b2, o2, x', y', z', hA, _, _, hx', d0, d1, d2⟩ := hs.tri (k := j) (by rw [hn]; exact hj)
  obtain ⟨rfl, rfl⟩ : b1 = b2 ∧ o1 = o2 := by injection hA with hA; injection hA with h1 h2; exact ⟨h1, h2⟩
  rw [fitL_at hx hx'] at hq
  obtain ⟨f, hf⟩ : ∃ f, fitT (x, y, z) (x', y', z') = f := ⟨_, rfl⟩
  obtain ⟨g, hgd⟩ : ∃ g, decide ((j : Int) ∈ plan) = g := ⟨_, rfl⟩
  rw [hf, hgd] at hq
  have HF := Lib.hid hf
  have HG := Lib.hid hgd
  clear hA hx hx' hf hgd hk hp hs hn hneg hlow hhigh hg
  cases g
  · have hq' : f = q := by rw [← hq]; rfl
    subst hq'
    clear hq
    go_enter Try.func120, Try.ntmps120
    go_wp2_with fail
    refine (slicesContains_any P k c2 plan _ _ _ _ HK.out (by omega) HP.out).mono ?_
    rw [HG.out]
    rintro e w' ⟨rfl, rfl⟩
    go_wp2_with fail
    refine wp_region_held_drew (S := (fun wq => Below w.heap.size w wq ∧ wq.cell? ⟨gb, 0, none⟩ = some (.slice (some ⟨b1, o1, none⟩) n c) ∧ wq.cell? ⟨gb, 1, none⟩ = some (.slice P k c2) ∧ wq.cell? ⟨b1, o1 + k * 3, none⟩ = some (.int .i64 x) ∧ wq.cell? ⟨b1, o1 + k * 3 + 1, none⟩ = some (.int .i64 y) ∧ wq.cell? ⟨b1, o1 + k * 3 + 2, none⟩ = some (.int .i64 z) ∧ wq.cell? ⟨b1, o1 + j * 3, none⟩ = some (.int .i64 x') ∧ wq.cell? ⟨b1, o1 + j * 3 + 1, none⟩ = some (.int .i64 y') ∧ wq.cell? ⟨b1, o1 + j * 3 + 2, none⟩ = some (.int .i64 z'))) (by kernel_rfl) ⟨below_drewN (Below.refl _ _) 1, g0, g1, c0, c1, c2', d0, d1, d2⟩ (fun hH0 => ?_)
    refine wpAnyH_take (i := 0) (v := ?_) (ops_at rfl) (by kernel_rfl) (by kernel_rfl) (by kernel_rfl) (fun _ _ _ h => h) (Or.inl ⟨by rfl, ?ya0⟩) (by assumption) ?na0
    case ya0 => (intro wS hSw; (try dsimp only at hSw); go_simp; try rfl)
    try simp only [Act.put, List.setIfInBounds_toArray, List.set_cons_zero, List.set_cons_succ]
    refine wpAnyH_take (i := 1) (v := ?_) (ops_at rfl) (by kernel_rfl) (by kernel_rfl) (by kernel_rfl) (fun _ _ _ h => h) (Or.inl ⟨by rfl, ?ya1⟩) (by assumption) ?na1
    case ya1 => (intro wS hSw; (try dsimp only at hSw); go_simp; try rfl)
    try simp only [Act.put, List.setIfInBounds_toArray, List.set_cons_zero, List.set_cons_succ]
    refine wpAnyH_take (i := 2) (v := ?_) (ops_at rfl) (by kernel_rfl) (by kernel_rfl) (by kernel_rfl) (fun _ _ _ h => h) (Or.inl ⟨by rfl, ?ya2⟩) (by assumption) ?na2
    case ya2 => (intro wS hSw; (try dsimp only at hSw); go_simp; try rfl)
    try simp only [Act.put, List.setIfInBounds_toArray, List.set_cons_zero, List.set_cons_succ]
    refine wpAnyH_take (i := 3) (v := ?_) (ops_at rfl) (by kernel_rfl) (by kernel_rfl) (by kernel_rfl) (fun _ _ _ h => h) (Or.inl ⟨by rfl, ?ya3⟩) (by assumption) ?na3
    case ya3 => (intro wS hSw; (try dsimp only at hSw); go_simp; try rfl)
    try simp only [Act.put, List.setIfInBounds_toArray, List.set_cons_zero, List.set_cons_succ]
    refine wpAnyH_take (i := 4) (v := ?_) (ops_at rfl) (by kernel_rfl) (by kernel_rfl) (by kernel_rfl) (fun _ _ _ h => h) (Or.inl ⟨by rfl, ?ya4⟩) (by assumption) ?na4
    case ya4 => (intro wS hSw; (try dsimp only at hSw); go_simp; try rfl)
    try simp only [Act.put, List.setIfInBounds_toArray, List.set_cons_zero, List.set_cons_succ]
    refine wpAnyH_take (i := 5) (v := ?_) (ops_at rfl) (by kernel_rfl) (by kernel_rfl) (by kernel_rfl) (fun _ _ _ h => h) (Or.inl ⟨by rfl, ?ya5⟩) (by assumption) ?na5
    case ya5 => (intro wS hSw; (try dsimp only at hSw); go_simp; try rfl)
    try simp only [Act.put, List.setIfInBounds_toArray, List.set_cons_zero, List.set_cons_succ]
    refine wpAnyH_take (i := 6) (v := ?_) (ops_at rfl) (by kernel_rfl) (by kernel_rfl) (by kernel_rfl) (fun _ _ _ h => h) (Or.inl ⟨by rfl, ?ya6⟩) (by assumption) ?na6
    case ya6 => (intro wS hSw; (try dsimp only at hSw); go_simp; try rfl)
    try simp only [Act.put, List.setIfInBounds_toArray, List.set_cons_zero, List.set_cons_succ]
    refine wpAnyH_take (i := 7) (v := ?_) (ops_at rfl) (by kernel_rfl) (by kernel_rfl) (by kernel_rfl) (fun _ _ _ h => h) (Or.inl ⟨by rfl, ?ya7⟩) (by assumption) ?na7
    case ya7 => (intro wS hSw; (try dsimp only at hSw); go_simp; try rfl)
    try simp only [Act.put, List.setIfInBounds_toArray, List.set_cons_zero, List.set_cons_succ]
    refine wpAnyH_take (i := 8) (v := ?_) (ops_at rfl) (by kernel_rfl) (by kernel_rfl) (by kernel_rfl) (fun _ _ _ h => h) (Or.inl ⟨by rfl, ?ya8⟩) (by assumption) ?na8
    case ya8 => (intro wS hSw; (try dsimp only at hSw); go_simp; try rfl)
    try simp only [Act.put, List.setIfInBounds_toArray, List.set_cons_zero, List.set_cons_succ]
    refine wpAnyH_take (i := 9) (v := ?_) (ops_at rfl) (by kernel_rfl) (by kernel_rfl) (by kernel_rfl) (fun _ _ _ h => h) (Or.inl ⟨by rfl, ?ya9⟩) (by assumption) ?na9
    case ya9 => (intro wS hSw; (try dsimp only at hSw); go_simp; try rfl)
    try simp only [Act.put, List.setIfInBounds_toArray, List.set_cons_zero, List.set_cons_succ]
    refine wpAnyH_take (i := 10) (v := ?_) (ops_at rfl) (by kernel_rfl) (by kernel_rfl) (by kernel_rfl) (fun _ _ _ h => h) (Or.inl ⟨by rfl, ?ya10⟩) (by assumption) ?na10
    case ya10 => (intro wS hSw; (try dsimp only at hSw); go_simp; try rfl)
    try simp only [Act.put, List.setIfInBounds_toArray, List.set_cons_zero, List.set_cons_succ]
    refine wpAnyH_take (i := 11) (v := ?_) (ops_at rfl) (by kernel_rfl) (by kernel_rfl) (by kernel_rfl) (fun _ _ _ h => h) (Or.inl ⟨by rfl, ?ya11⟩) (by assumption) ?na11
    case ya11 => (intro wS hSw; (try dsimp only at hSw); go_simp; try rfl)
    try simp only [Act.put, List.setIfInBounds_toArray, List.set_cons_zero, List.set_cons_succ]
    refine wpAnyH_take (i := 12) (v := ?_) (ops_at rfl) (by kernel_rfl) (by kernel_rfl) (by kernel_rfl) (fun _ _ _ h => h) (Or.inl ⟨by rfl, ?ya12⟩) (by assumption) ?na12
    case ya12 => (intro wS hSw; (try dsimp only at hSw); go_simp; try rfl)
    try simp only [Act.put, List.setIfInBounds_toArray, List.set_cons_zero, List.set_cons_succ]
    refine wpAnyH_take (i := 13) (v := ?_) (ops_at rfl) (by kernel_rfl) (by kernel_rfl) (by kernel_rfl) (fun _ _ _ h => h) (Or.inl ⟨by rfl, ?ya13⟩) (by assumption) ?na13
    case ya13 => (intro wS hSw; (try dsimp only at hSw); go_simp; try rfl)
    try simp only [Act.put, List.setIfInBounds_toArray, List.set_cons_zero, List.set_cons_succ]
    refine wpAnyH_take (i := 14) (v := ?_) (ops_at rfl) (by kernel_rfl) (by kernel_rfl) (by kernel_rfl) (fun _ _ _ h => h) (Or.inl ⟨by rfl, ?ya14⟩) (by assumption) ?na14
    case ya14 => (intro wS hSw; (try dsimp only at hSw); go_simp; try rfl)
    try simp only [Act.put, List.setIfInBounds_toArray, List.set_cons_zero, List.set_cons_succ]
    refine wpAnyH_take (i := 15) (v := ?_) (ops_at rfl) (by kernel_rfl) (by kernel_rfl) (by kernel_rfl) (fun _ _ _ h => h) (Or.inl ⟨by rfl, ?ya15⟩) (by assumption) ?na15
    case ya15 => (intro wS hSw; (try dsimp only at hSw); go_simp; try rfl)
    try simp only [Act.put, List.setIfInBounds_toArray, List.set_cons_zero, List.set_cons_succ]
    refine wpAnyH_take (i := 16) (v := ?_) (ops_at rfl) (by kernel_rfl) (by kernel_rfl) (by kernel_rfl) (fun _ _ _ h => h) (Or.inl ⟨by rfl, ?ya16⟩) (by assumption) ?na16
    case ya16 => (intro wS hSw; (try dsimp only at hSw); go_simp; try rfl)
    try simp only [Act.put, List.setIfInBounds_toArray, List.set_cons_zero, List.set_cons_succ]
    refine wpAnyH_take (i := 17) (v := ?_) (ops_at rfl) (by kernel_rfl) (by kernel_rfl) (by kernel_rfl) (fun _ _ _ h => h) (Or.inl ⟨by rfl, ?ya17⟩) (by assumption) ?na17
    case ya17 => (intro wS hSw; (try dsimp only at hSw); go_simp; try rfl)
    try simp only [Act.put, List.setIfInBounds_toArray, List.set_cons_zero, List.set_cons_succ]
    refine wpAnyH_ready (rs := [18]) (by kernel_rfl) (by simp) ?_
    refine AllReadyH.cons (ops_at rfl) (fun K hK => ?_) AllReadyH.nil
    go_simp
    refine (fits_any _ _ _ _ _ _ _ _ HF.out).mono ?_
    rintro e w1 ⟨rfl, hb1⟩
    refine hK.out _ _ ⟨(hH0.1).trans (hb1.mono (hH0.1).size), (hb1.cell (by have := cell_lt hH0.2.1; exact this)).trans hH0.2.1, (hb1.cell (by have := cell_lt hH0.2.2.1; exact this)).trans hH0.2.2.1, (hb1.cell (by have := cell_lt hH0.2.2.2.1; exact this)).trans hH0.2.2.2.1, (hb1.cell (by have := cell_lt hH0.2.2.2.2.1; exact this)).trans hH0.2.2.2.2.1, (hb1.cell (by have := cell_lt hH0.2.2.2.2.2.1; exact this)).trans hH0.2.2.2.2.2.1, (hb1.cell (by have := cell_lt hH0.2.2.2.2.2.2.1; exact this)).trans hH0.2.2.2.2.2.2.1, (hb1.cell (by have := cell_lt hH0.2.2.2.2.2.2.2.1; exact this)).trans hH0.2.2.2.2.2.2.2.1, (hb1.cell (by have := cell_lt hH0.2.2.2.2.2.2.2.2; exact this)).trans hH0.2.2.2.2.2.2.2.2⟩ (fun hHa18 => ?_)
    clear hK K
    refine wpAnyH_take (i := 19) (v := ?_) (ops_at rfl) (by kernel_rfl) (by kernel_rfl) (by kernel_rfl) (fun _ _ _ h => h) (Or.inl ⟨by rfl, ?ya19⟩) (by assumption) ?na19
    case ya19 => (intro wS hSw; (try dsimp only at hSw); go_simp; try rfl)
    try simp only [Act.put, List.setIfInBounds_toArray, List.set_cons_zero, List.set_cons_succ]
    refine wpAnyH_done (by kernel_rfl) ?_ _
    go_wp2
    go_ret
    exact ⟨rfl, hHa18.1⟩
  · obtain rfl : q = false := by rw [← hq]; rfl
    clear hq
    go_enter Try.func120, Try.ntmps120
    go_wp2_with fail
    refine (slicesContains_any P k c2 plan _ _ _ _ HK.out (by omega) HP.out).mono ?_
    rw [HG.out]
    rintro e w' ⟨rfl, rfl⟩
    go_wp2
    go_ret
    exact ⟨rfl, Below.refl _ _⟩

set_option maxRecDepth 100000 in
set_option maxHeartbeats 2000000 in
theorem goOn_any (gb T : Nat) (sA : Value) (P : Option Addr) (k c2 : Nat) (plan : List Int) (u : Int) (w : World) (hk7 : k ≤ 1048576) (hgw : gb < w.heap.size)
    (hp : w.ownsRow (gb + 1) 3 1 (.slice P k c2) k (plan.map (Value.int .i64))) (hg : NestAt w gb T sA (.slice P k c2)) :
    Calls Try.prog 121 #[.pointer (some ⟨gb, 0, none⟩), .int .i64 u] w fun e w' => e = .returned (.tuple #[]) ∧ (∃ P' c3, NestAt w' gb T sA (.slice P' (k + 1) c3) ∧
      w'.ownsRow (gb + 1) 3 1 (.slice P' (k + 1) c3) (k + 1) ((plan ++ [u]).map (Value.int .i64))) ∧ Below gb w w' ∧ gb < w'.heap.size := by
  obtain ⟨i0, hi0, hz0, hz1, hz2⟩ := info_parts int_info
  have g1 : w.cell? ⟨gb, 1, none⟩ = some (.slice P k c2) := cell_of hg 1
  have HP := Lib.hid (hp.alloc (.cells #[.int .i64 u] 3))
  have HS := Lib.hid (seg_one w u 3)
  have HLT := Lib.hid hp.lt
  have HG := Lib.hid hg
  clear hp hg
  go_enter Try.func121, Try.ntmps121
  go_wp2_with (at_builtin; refine wpList_append_seg _ rfl _ _ 30 rfl (gb + 1) 3 i0 Try.underlying30 hi0 hz0 hz1 hz2 _ k _ rfl HP.out _ 1 1 [u] _ _ rfl rfl HS.out (by omega) (by simp; omega) ?_; intro v3 w3 hown3 hgr3; have hown4 : w3.ownsRow (gb + 1) 3 1 v3 (k + 1) ((plan ++ [u]).map (Value.int .i64)) := (by simpa using hown3); have hG3 : w3.heap[gb]? = some (.cells #[sA, .slice P k c2] T (0, 0)) := ((hgr3.block gb (by simp; omega) (fun e => by have := (HLT.out _ e.symm).1; omega)).trans (alloc_old w hgw _)).trans HG.out; have hB3 : Below gb w w3 := ((Below.refl gb w).alloc (by omega) _).grown hgr3 (by simp; omega) (fun g' hg' => by have := (HLT.out _ hg').1; omega); have q1 : w3.cell? ⟨gb, 1, none⟩ = some (.slice P k c2) := cell_of hG3 1; have f1 := frozen_of hG3 1; have HG3 := Lib.hid hG3; have HO4 := Lib.hid hown4; have HB3 := Lib.hid hB3; clear hown3 hgr3 hown4 hG3 hB3; obtain ⟨P3, c3, rfl⟩ := ownsRow_form HO4.out)
  go_end0
  refine ⟨rfl, ⟨P3, c3, set_self HG3.out 1 _, ?_⟩, HB3.out.setCell (Nat.le_refl _) _, by have := HB3.out.size; simp [World.setCell]; omega⟩
  refine HO4.out.kept (row := some gb) ⟨rfl, rfl, rfl, by simp [World.setCell], fun i hi hne => set_far w3 (by intro e; exact hne (by rw [e])) _⟩ ?_
  refine .inr fun e => ?_
  have := (HO4.out.lt _ e).1
  omega

theorem take_last {xs : List Int} {k : Nat} {u : Int} (h : xs[k]? = some u) : xs.take k ++ [u] = xs.take (k + 1) := (take_snoc h).symm

end Go.Proofs.Ytbaofgbkcolmmab
