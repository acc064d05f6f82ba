/-
  The written program follows a plan: it fills the boxes that the plan tells, or finds that it is none.
  Conditions: lists of at most 1048576 numbers.
-/
import Derived.Test.YtplohhmggfifkabNew
import Derived.Test.YtplohhmggfifkabFollM
import Derived.Deep.RegionHeld3
namespace Go.Proofs.Ytplohhmggfifkab
set_option linter.unusedVariables false
open Go.RowKit

set_option maxHeartbeats 400000 in
theorem cartonAt_any (P T Bo Bp cap : Nat) (room : Int) (ls pl : List Int) (rest : List Value) (b : Nat) (w : World) (h : Pk w P T Bo Bp cap room ls pl rest) (hb : b ≤ ls.length) :
    Calls Try.prog 99 #[.pointer (some ⟨P, 0, none⟩), .int .i64 (b : Int)] w (Named ls b w) := by
  obtain ⟨f0, f1, f2, f3, f4⟩ := h.facts
  obtain ⟨hP, hBo, hBp⟩ := h.lt
  have h1 := h.len1
  have h9 := h.cap9
  by_cases e : b = ls.length
  · subst e
    have HC := Lib.hid (cart_new ls)
    clear h
    go_enter Try.func99, Try.ntmps99
    go_wp2
    exact bodyPost_ret (v := .agg #[.int .i64 (ls.length : Int), .int .i64 0]) (by simp [results, Try.results99, go_sem]) rfl ⟨by rw [HC.out], (Below.refl _ _).alloc (Nat.le_refl _) _⟩
  · have hbl : b < ls.length := by omega
    obtain ⟨l, hle⟩ : ∃ l, l = ls[b] := ⟨_, rfl⟩
    have hl : ls[b]? = some l := by rw [hle]; exact List.getElem?_eq_getElem hbl
    clear hle
    obtain ⟨g1, g2⟩ := h.box hl
    have HC := Lib.hid (cart_at hl)
    clear h hl
    go_enter Try.func99, Try.ntmps99
    go_wp2
    exact bodyPost_ret (v := .agg #[.int .i64 (b : Int), .int .i64 l]) (by simp [results, Try.results99, go_sem]) rfl ⟨by rw [HC.out], (Below.refl _ _).alloc (Nat.le_refl _) _⟩

/-- A packing of a plan, and that it is one; or that it is none. -/
def PlanRet (n : Nat) (room : Int) (plan : List Int) (r : Option (List Int)) (w : World) (e : Ending) (w' : World) : Prop :=
  (r = none ∧ e = .returned (.tuple #[.agg #[.int .i64 0, .int .i64 0, .int .i64 0, .slice none 0 0, .slice none 0 0], .bool false]) ∧ Below w.heap.size w w') ∨
  ∃ ls Bo Bp, r = some ls ∧ e = .returned (.tuple #[.agg #[.int .i64 (ls.length : Int), .int .i64 0, .int .i64 room, .slice (some ⟨Bo, 0, none⟩) ls.length n, .slice (some ⟨Bp, 0, none⟩) n n], .bool true]) ∧
    Boxes w' Bo n ls ∧ Plan w' Bp n plan ∧ Bo ≠ Bp ∧ w.heap.size ≤ Bo ∧ w.heap.size ≤ Bp ∧ Below w.heap.size w w'

/-- The loads that the written program finds for a plan. -/
def packM (room : Int) (xs plan : List Int) : Option (List Int) := if askedB xs room then loadsM room xs plan else none
theorem packM_no {room : Int} {xs plan : List Int} (h : askedB xs room = false) : packM room xs plan = none := by unfold packM; rw [if_neg (by rw [h]; decide)]
theorem packM_len {room : Int} {xs plan ls : List Int} (h : packM room xs plan = some ls) : ls.length ≤ 9 := by
  unfold packM at h
  split at h
  · next ha =>
    obtain ⟨h1, h9, hx, _⟩ := askedB_at ha
    unfold loadsM at h
    split at h
    · exact Nat.le_trans (foll_loads hx (Nat.le_refl _) h).2 h9
    · cases h
  · cases h
theorem packM_yes {room : Int} {xs plan : List Int} (h : askedB xs room = true) : packM room xs plan = loadsM room xs plan := by unfold packM; rw [if_pos h]

set_option maxHeartbeats 4000000 in
set_option maxRecDepth 100000 in
theorem packByPlan_any (A D : Option Addr) (n c m d : Nat) (room : Int) (xs plan : List Int) (lo hi lo' hi' : Nat) (w : World) (hn : xs.length = n) (hm : plan.length = m) (hn2 : n ≤ 1048576) (hm2 : m ≤ 1048576)
    (hs : Seg w lo hi A xs) (ho : Seg w lo' hi' D plan) (hB : hi ≤ w.heap.size) (hB' : hi' ≤ w.heap.size) :
    Calls Try.prog 60 #[.slice A n c, .int .i64 room, .slice D m d] w (PlanRet n room plan (packM room xs plan) w) := by
  have HN := Lib.hid hn
  have HM := Lib.hid hm
  have hs0 := hs.below ((Below.refl _ w).alloc (Nat.le_refl _) (.cells #[.int .i64 0, .int .i64 0, .int .i64 0, .slice none 0 0, .slice none 0 0] 54)) hB
  obtain ⟨q, hq⟩ : ∃ q, askedB xs room = q := ⟨_, rfl⟩
  cases q
  · have HA := Lib.hid hq
    clear hn hm hq
    go_enter Try.func60, Try.ntmps60
    go_wp2_with (go_at_call 54; refine (canBePacked_any _ _ _ xs room lo hi _ HN.out hn2 hs0 _ HA.out).mono ?_; rintro e w' ⟨rfl, rfl⟩)
    exact bodyPost_ret (v := .tuple #[.agg #[.int .i64 0, .int .i64 0, .int .i64 0, .slice none 0 0, .slice none 0 0], .bool false]) (by simp [results, Try.results60, go_sem]) rfl (Or.inl ⟨packM_no HA.out, rfl, (Below.refl _ _).alloc (Nat.le_refl _) _⟩)
  obtain ⟨h1, h9, hx, hr1, hr2⟩ := askedB_at hq
  rw [hn] at h1 h9
  have HA := Lib.hid hq
  have HX := Lib.hid hx
  clear hn hm hx hq
  by_cases hmn : m = n
  · subst hmn
    go_enter Try.func60, Try.ntmps60
    go_wp2_with (first
      | (go_at_call 54; refine (canBePacked_any _ _ _ xs room lo hi _ HN.out hn2 hs0 _ HA.out).mono ?_; rintro e w' ⟨rfl, rfl⟩)
      | (go_at_call 93; refine (newPacking_any _ _ _ _ _ h9).mono ?_; rintro e w1 ⟨Bo, Bp, rfl, hbo, hbp, hne, hl1, hl2, hb1⟩; have hres := new_cells hb1; simp at hl1 hl2; have hsz1 := hb1.size; simp at hsz1; have hbel1 : Below w.heap.size w w1 := ((Below.refl _ _).alloc (Nat.le_refl _) _).trans (hb1.mono (by simp)); have hlo := hbo.lt; have hlp := hbp.lt))
    go_loopw [9, 10, 28] (fun _ _ i wr => ∃ k : Nat, k ≤ m ∧ i = .int .i64 k ∧ Below w.heap.size w wr ∧ ∃ ls, foll room xs plan k = some ls ∧
        Pk wr w1.heap.size 54 Bo Bp m room ls (plan.take k) [] ∧ wr.heap[w.heap.size]? = w1.heap[w.heap.size]?) (fun _ _ i _ => m - (intOf i).toNat)
    case atStart =>
      exact ⟨0, Nat.zero_le _, rfl, hbel1.alloc (by omega) _, [], rfl, ⟨heap_alloc_new w1 _, hbo.keep (alloc_old _ hlo _), hbp.keep (alloc_old _ hlp _), by omega, by omega, hne, Nat.zero_le _, Nat.zero_le _, h9⟩, alloc_old _ (by omega) _⟩
    case round =>
      obtain ⟨k, hk, rfl, hb, ls, hf, hpk, hrb⟩ := hrel
      have hsz := hb.size
      obtain ⟨hld, hll⟩ := foll_loads HX.out (by rw [HN.out]; exact hk) hf
      have HF := Lib.hid hf
      have hpl := Lib.hid (show (plan.take k).length = k by rw [List.length_take, HM.out]; omega)
      have HRES := hrb.trans hres
      have hwl : w.heap.size < wr.heap.size := heap_lt HRES
      have r0 := cell_of HRES 0
      have r1 := cell_of HRES 1
      have r2 := cell_of HRES 2
      have r3 := cell_of HRES 3
      have r4 := cell_of HRES 4
      have q0 := frozen_of HRES 0
      have q1 := frozen_of HRES 1
      have q2 := frozen_of HRES 2
      have q3 := frozen_of HRES 3
      have q4 := frozen_of HRES 4
      simp at r0 r1 r2 r3 r4
      have HRB := Lib.hid HRES
      clear hf hrb HRES
      by_cases hlt : k < m
      · obtain ⟨bo, oo, b, rfl, _, hboh, hbv, hco⟩ := ho.at_ (k := k) (by rw [HM.out]; exact hlt)
        obtain ⟨bt, ot, size, rfl, _, hbt, hszv, hct⟩ := hs.at_ (k := k) (by rw [HN.out]; exact hlt)
        have hsb := HX.out size (List.mem_of_getElem? hszv)
        have hbtw : bt < w.heap.size := Nat.lt_of_lt_of_le hbt hB
        have hcow : wr.cell? ⟨bo, oo + k, none⟩ = some (.int .i64 b) := (hb.cell (by exact Nat.lt_of_lt_of_le hboh hB')).trans hco
        have hctw : wr.cell? ⟨bt, ot + k, none⟩ = some (.int .i64 size) := (hb.cell (by exact hbtw)).trans hct
        have HBV := Lib.hid hbv
        have HSZ := Lib.hid hszv
        clear hbv hszv hco hct
        obtain ⟨f0, f1, f2, f3, f4⟩ := hpk.facts
        obtain ⟨hwP, hwBo, hwBp⟩ := hpk.lt
        by_cases hlow : b < 0
        · have HST := Lib.hid (foll_fail HF.out HBV.out HSZ.out (stepL_low hlow) hlt)
          go_upto_region 7 with (fail)
          refine wp_region_held_drew (S := (fun w' => w'.cell? ⟨w1.heap.size, 3, none⟩ = some (.slice (some ⟨Bo, 0, none⟩) ls.length m) ∧ w'.cell? ⟨bt, ot + k, none⟩ = some (.int .i64 size))) (by kernel_rfl) ⟨f3, hctw⟩ (fun hH0 => ?_)
          refine wpAnyH_take (i := 0) (v := ?_) (ops_at rfl) (by kernel_rfl) (by kernel_rfl) (by kernel_rfl) (fun _ _ _ h => h) (Or.inl ⟨by rfl, ?ya0⟩) (by assumption) ?na0
          case ya0 => (intro wS hSw; (try dsimp only at hSw); go_simp; try rfl)
          try simp only [Act.put, List.setIfInBounds_toArray, List.set_cons_zero, List.set_cons_succ]
          refine wpAnyH_take (i := 1) (v := ?_) (ops_at rfl) (by kernel_rfl) (by kernel_rfl) (by kernel_rfl) (fun _ _ _ h => h) (Or.inl ⟨by rfl, ?ya1⟩) (by assumption) ?na1
          case ya1 => (intro wS hSw; (try dsimp only at hSw); go_simp; try rfl)
          try simp only [Act.put, List.setIfInBounds_toArray, List.set_cons_zero, List.set_cons_succ]
          refine wpAnyH_take (i := 2) (v := ?_) (ops_at rfl) (by kernel_rfl) (by kernel_rfl) (by kernel_rfl) (fun _ _ _ h => h) (Or.inl ⟨by rfl, ?ya2⟩) (by assumption) ?na2
          case ya2 => (intro wS hSw; (try dsimp only at hSw); go_simp; try rfl)
          try simp only [Act.put, List.setIfInBounds_toArray, List.set_cons_zero, List.set_cons_succ]
          refine wpAnyH_take (i := 3) (v := undef) (ops_at rfl) (by kernel_rfl) (by kernel_rfl) (by kernel_rfl) (fun _ _ _ h => h) (Or.inr ⟨by rfl, rfl⟩) (by assumption) ?_
          try simp only [Act.put, List.setIfInBounds_toArray, List.set_cons_zero, List.set_cons_succ]
          refine wpAnyH_take (i := 4) (v := undef) (ops_at rfl) (by kernel_rfl) (by kernel_rfl) (by kernel_rfl) (fun _ _ _ h => h) (Or.inr ⟨by rfl, rfl⟩) (by assumption) ?_
          try simp only [Act.put, List.setIfInBounds_toArray, List.set_cons_zero, List.set_cons_succ]
          refine wpAnyH_take (i := 5) (v := undef) (ops_at rfl) (by kernel_rfl) (by kernel_rfl) (by kernel_rfl) (fun _ _ _ h => h) (Or.inr ⟨by rfl, rfl⟩) (by assumption) ?_
          try simp only [Act.put, List.setIfInBounds_toArray, List.set_cons_zero, List.set_cons_succ]
          refine wpAnyH_take (i := 6) (v := undef) (ops_at rfl) (by kernel_rfl) (by kernel_rfl) (by kernel_rfl) (fun _ _ _ h => h) (Or.inr ⟨by rfl, rfl⟩) (by assumption) ?_
          try simp only [Act.put, List.setIfInBounds_toArray, List.set_cons_zero, List.set_cons_succ]
          refine wpAnyH_take (i := 7) (v := undef) (ops_at rfl) (by kernel_rfl) (by kernel_rfl) (by kernel_rfl) (fun _ _ _ h => h) (Or.inr ⟨by rfl, rfl⟩) (by assumption) ?_
          try simp only [Act.put, List.setIfInBounds_toArray, List.set_cons_zero, List.set_cons_succ]
          refine wpAnyH_take (i := 8) (v := ?_) (ops_at rfl) (by kernel_rfl) (by kernel_rfl) (by kernel_rfl) (fun _ _ _ h => h) (Or.inl ⟨by rfl, ?ya8⟩) (by assumption) ?na8
          case ya8 => (intro wS hSw; (try dsimp only at hSw); go_simp; try rfl)
          try simp only [Act.put, List.setIfInBounds_toArray, List.set_cons_zero, List.set_cons_succ]
          refine wpAnyH_take (i := 9) (v := ?_) (ops_at rfl) (by kernel_rfl) (by kernel_rfl) (by kernel_rfl) (fun _ _ _ h => h) (Or.inl ⟨by rfl, ?ya9⟩) (by assumption) ?na9
          case ya9 => (intro wS hSw; (try dsimp only at hSw); go_simp; try rfl)
          try simp only [Act.put, List.setIfInBounds_toArray, List.set_cons_zero, List.set_cons_succ]
          refine wpAnyH_take (i := 10) (v := undef) (ops_at rfl) (by kernel_rfl) (by kernel_rfl) (by kernel_rfl) (fun _ _ _ h => h) (Or.inr ⟨by rfl, rfl⟩) (by assumption) ?_
          try simp only [Act.put, List.setIfInBounds_toArray, List.set_cons_zero, List.set_cons_succ]
          refine wpAnyH_take (i := 12) (v := undef) (ops_at rfl) (by kernel_rfl) (by kernel_rfl) (by kernel_rfl) (fun _ _ _ h => h) (Or.inr ⟨by rfl, rfl⟩) (by assumption) ?_
          try simp only [Act.put, List.setIfInBounds_toArray, List.set_cons_zero, List.set_cons_succ]
          refine wpAnyH_take (i := 13) (v := undef) (ops_at rfl) (by kernel_rfl) (by kernel_rfl) (by kernel_rfl) (fun _ _ _ h => h) (Or.inr ⟨by rfl, rfl⟩) (by assumption) ?_
          try simp only [Act.put, List.setIfInBounds_toArray, List.set_cons_zero, List.set_cons_succ]
          refine wpAnyH_take (i := 14) (v := undef) (ops_at rfl) (by kernel_rfl) (by kernel_rfl) (by kernel_rfl) (fun _ _ _ h => h) (Or.inr ⟨by rfl, rfl⟩) (by assumption) ?_
          try simp only [Act.put, List.setIfInBounds_toArray, List.set_cons_zero, List.set_cons_succ]
          refine wpAnyH_take (i := 15) (v := undef) (ops_at rfl) (by kernel_rfl) (by kernel_rfl) (by kernel_rfl) (fun _ _ _ h => h) (Or.inr ⟨by rfl, rfl⟩) (by assumption) ?_
          try simp only [Act.put, List.setIfInBounds_toArray, List.set_cons_zero, List.set_cons_succ]
          refine wpAnyH_take (i := 11) (v := undef) (ops_at rfl) (by kernel_rfl) (by kernel_rfl) (by kernel_rfl) (fun _ _ _ h => h) (Or.inr ⟨by rfl, rfl⟩) (by assumption) ?_
          try simp only [Act.put, List.setIfInBounds_toArray, List.set_cons_zero, List.set_cons_succ]
          refine wpAnyH_take (i := 16) (v := undef) (ops_at rfl) (by kernel_rfl) (by kernel_rfl) (by kernel_rfl) (fun _ _ _ h => h) (Or.inr ⟨by rfl, rfl⟩) (by assumption) ?_
          try simp only [Act.put, List.setIfInBounds_toArray, List.set_cons_zero, List.set_cons_succ]
          refine wpAnyH_take (i := 17) (v := undef) (ops_at rfl) (by kernel_rfl) (by kernel_rfl) (by kernel_rfl) (fun _ _ _ h => h) (Or.inr ⟨by rfl, rfl⟩) (by assumption) ?_
          try simp only [Act.put, List.setIfInBounds_toArray, List.set_cons_zero, List.set_cons_succ]
          refine wpAnyH_take (i := 18) (v := ?_) (ops_at rfl) (by kernel_rfl) (by kernel_rfl) (by kernel_rfl) (fun _ _ _ h => h) (Or.inl ⟨by rfl, ?ya18⟩) (by assumption) ?na18
          case ya18 => (intro wS hSw; (try dsimp only at hSw); go_simp; try rfl)
          try simp only [Act.put, List.setIfInBounds_toArray, List.set_cons_zero, List.set_cons_succ]
          refine wpAnyH_done (by kernel_rfl) ?_ _
          go_wp2
          refine bodyPost_ret (v := .tuple #[.agg #[.int .i64 0, .int .i64 0, .int .i64 0, .slice none 0 0, .slice none 0 0], .bool false]) (by simp [results, Try.results60, go_sem, r0, r1, r2, r3, r4]) rfl (Or.inl ⟨?_, rfl, ?_⟩)
          · rw [packM_yes HA.out, loadsM_eq (by rw [HN.out, HM.out]), HN.out]; exact HST.out
          · exact (((((hb.drew.setCell (p := ⟨w.heap.size, 0, none⟩) (Nat.le_refl _) _).setCell (p := ⟨w.heap.size, 1, none⟩) (Nat.le_refl _) _).setCell (p := ⟨w.heap.size, 2, none⟩) (Nat.le_refl _) _).setCell (p := ⟨w.heap.size, 3, none⟩) (Nat.le_refl _) _).setCell (p := ⟨w.heap.size, 4, none⟩) (Nat.le_refl _) _)
        by_cases hhigh : (ls.length : Int) < b
        · have HST := Lib.hid (foll_fail HF.out HBV.out HSZ.out (stepL_high hhigh) hlt)
          have hlow' : decide (b < 0) = false := decide_eq_false hlow
          go_upto_region 7 with (fail)
          refine wp_region_held_drew (S := (fun w' => w'.cell? ⟨w1.heap.size, 3, none⟩ = some (.slice (some ⟨Bo, 0, none⟩) ls.length m) ∧ w'.cell? ⟨bt, ot + k, none⟩ = some (.int .i64 size))) (by kernel_rfl) ⟨f3, hctw⟩ (fun hH0 => ?_)
          refine wpAnyH_take (i := 0) (v := ?_) (ops_at rfl) (by kernel_rfl) (by kernel_rfl) (by kernel_rfl) (fun _ _ _ h => h) (Or.inl ⟨by rfl, ?yb0⟩) (by assumption) ?nb0
          case yb0 => (intro wS hSw; (try dsimp only at hSw); go_simp; try rfl)
          try simp only [Act.put, List.setIfInBounds_toArray, List.set_cons_zero, List.set_cons_succ]
          refine wpAnyH_take (i := 1) (v := ?_) (ops_at rfl) (by kernel_rfl) (by kernel_rfl) (by kernel_rfl) (fun _ _ _ h => h) (Or.inl ⟨by rfl, ?yb1⟩) (by assumption) ?nb1
          case yb1 => (intro wS hSw; (try dsimp only at hSw); go_simp; try rfl)
          try simp only [Act.put, List.setIfInBounds_toArray, List.set_cons_zero, List.set_cons_succ]
          refine wpAnyH_take (i := 2) (v := ?_) (ops_at rfl) (by kernel_rfl) (by kernel_rfl) (by kernel_rfl) (fun _ _ _ h => h) (Or.inl ⟨by rfl, ?yb2⟩) (by assumption) ?nb2
          case yb2 => (intro wS hSw; (try dsimp only at hSw); go_simp; try rfl)
          try simp only [Act.put, List.setIfInBounds_toArray, List.set_cons_zero, List.set_cons_succ]
          refine wpAnyH_take (i := 3) (v := ?_) (ops_at rfl) (by kernel_rfl) (by kernel_rfl) (by kernel_rfl) (fun _ _ _ h => h) (Or.inl ⟨by rfl, ?yb3⟩) (by assumption) ?nb3
          case yb3 => (intro wS hSw; (try dsimp only at hSw); go_simp; try rfl)
          try simp only [Act.put, List.setIfInBounds_toArray, List.set_cons_zero, List.set_cons_succ]
          refine wpAnyH_take (i := 4) (v := ?_) (ops_at rfl) (by kernel_rfl) (by kernel_rfl) (by kernel_rfl) (fun _ _ _ h => h) (Or.inl ⟨by rfl, ?yb4⟩) (by assumption) ?nb4
          case yb4 => (intro wS hSw; (try dsimp only at hSw); go_simp; try rfl)
          try simp only [Act.put, List.setIfInBounds_toArray, List.set_cons_zero, List.set_cons_succ]
          refine wpAnyH_take (i := 5) (v := ?_) (ops_at rfl) (by kernel_rfl) (by kernel_rfl) (by kernel_rfl) (fun _ _ _ h => h) (Or.inl ⟨by rfl, ?yb5⟩) (by assumption) ?nb5
          case yb5 => (intro wS hSw; (try dsimp only at hSw); go_simp; try rfl)
          try simp only [Act.put, List.setIfInBounds_toArray, List.set_cons_zero, List.set_cons_succ]
          refine wpAnyH_take (i := 6) (v := ?_) (ops_at rfl) (by kernel_rfl) (by kernel_rfl) (by kernel_rfl) (fun _ _ _ h => h) (Or.inl ⟨by rfl, ?yb6⟩) (by assumption) ?nb6
          case yb6 => (intro wS hSw; (try dsimp only at hSw); go_simp; try rfl)
          try simp only [Act.put, List.setIfInBounds_toArray, List.set_cons_zero, List.set_cons_succ]
          refine wpAnyH_take (i := 7) (v := ?_) (ops_at rfl) (by kernel_rfl) (by kernel_rfl) (by kernel_rfl) (fun _ _ _ h => h) (Or.inl ⟨by rfl, ?yb7⟩) (by assumption) ?nb7
          case yb7 => (intro wS hSw; (try dsimp only at hSw); go_simp; try rfl)
          try simp only [Act.put, List.setIfInBounds_toArray, List.set_cons_zero, List.set_cons_succ]
          refine wpAnyH_take (i := 8) (v := ?_) (ops_at rfl) (by kernel_rfl) (by kernel_rfl) (by kernel_rfl) (fun _ _ _ h => h) (Or.inl ⟨by rfl, ?yb8⟩) (by assumption) ?nb8
          case yb8 => (intro wS hSw; (try dsimp only at hSw); go_simp; try rfl)
          try simp only [Act.put, List.setIfInBounds_toArray, List.set_cons_zero, List.set_cons_succ]
          refine wpAnyH_take (i := 9) (v := ?_) (ops_at rfl) (by kernel_rfl) (by kernel_rfl) (by kernel_rfl) (fun _ _ _ h => h) (Or.inl ⟨by rfl, ?yb9⟩) (by assumption) ?nb9
          case yb9 => (intro wS hSw; (try dsimp only at hSw); go_simp; try rfl)
          try simp only [Act.put, List.setIfInBounds_toArray, List.set_cons_zero, List.set_cons_succ]
          refine wpAnyH_take (i := 10) (v := undef) (ops_at rfl) (by kernel_rfl) (by kernel_rfl) (by kernel_rfl) (fun _ _ _ h => h) (Or.inr ⟨by rfl, rfl⟩) (by assumption) ?_
          try simp only [Act.put, List.setIfInBounds_toArray, List.set_cons_zero, List.set_cons_succ]
          refine wpAnyH_take (i := 12) (v := undef) (ops_at rfl) (by kernel_rfl) (by kernel_rfl) (by kernel_rfl) (fun _ _ _ h => h) (Or.inr ⟨by rfl, rfl⟩) (by assumption) ?_
          try simp only [Act.put, List.setIfInBounds_toArray, List.set_cons_zero, List.set_cons_succ]
          refine wpAnyH_take (i := 13) (v := undef) (ops_at rfl) (by kernel_rfl) (by kernel_rfl) (by kernel_rfl) (fun _ _ _ h => h) (Or.inr ⟨by rfl, rfl⟩) (by assumption) ?_
          try simp only [Act.put, List.setIfInBounds_toArray, List.set_cons_zero, List.set_cons_succ]
          refine wpAnyH_take (i := 14) (v := undef) (ops_at rfl) (by kernel_rfl) (by kernel_rfl) (by kernel_rfl) (fun _ _ _ h => h) (Or.inr ⟨by rfl, rfl⟩) (by assumption) ?_
          try simp only [Act.put, List.setIfInBounds_toArray, List.set_cons_zero, List.set_cons_succ]
          refine wpAnyH_take (i := 15) (v := undef) (ops_at rfl) (by kernel_rfl) (by kernel_rfl) (by kernel_rfl) (fun _ _ _ h => h) (Or.inr ⟨by rfl, rfl⟩) (by assumption) ?_
          try simp only [Act.put, List.setIfInBounds_toArray, List.set_cons_zero, List.set_cons_succ]
          refine wpAnyH_take (i := 11) (v := undef) (ops_at rfl) (by kernel_rfl) (by kernel_rfl) (by kernel_rfl) (fun _ _ _ h => h) (Or.inr ⟨by rfl, rfl⟩) (by assumption) ?_
          try simp only [Act.put, List.setIfInBounds_toArray, List.set_cons_zero, List.set_cons_succ]
          refine wpAnyH_take (i := 16) (v := undef) (ops_at rfl) (by kernel_rfl) (by kernel_rfl) (by kernel_rfl) (fun _ _ _ h => h) (Or.inr ⟨by rfl, rfl⟩) (by assumption) ?_
          try simp only [Act.put, List.setIfInBounds_toArray, List.set_cons_zero, List.set_cons_succ]
          refine wpAnyH_take (i := 17) (v := undef) (ops_at rfl) (by kernel_rfl) (by kernel_rfl) (by kernel_rfl) (fun _ _ _ h => h) (Or.inr ⟨by rfl, rfl⟩) (by assumption) ?_
          try simp only [Act.put, List.setIfInBounds_toArray, List.set_cons_zero, List.set_cons_succ]
          refine wpAnyH_take (i := 18) (v := ?_) (ops_at rfl) (by kernel_rfl) (by kernel_rfl) (by kernel_rfl) (fun _ _ _ h => h) (Or.inl ⟨by rfl, ?yb18⟩) (by assumption) ?nb18
          case yb18 => (intro wS hSw; (try dsimp only at hSw); go_simp; try rfl)
          try simp only [Act.put, List.setIfInBounds_toArray, List.set_cons_zero, List.set_cons_succ]
          refine wpAnyH_done (by kernel_rfl) ?_ _
          go_wp2
          refine bodyPost_ret (v := .tuple #[.agg #[.int .i64 0, .int .i64 0, .int .i64 0, .slice none 0 0, .slice none 0 0], .bool false]) (by simp [results, Try.results60, go_sem, r0, r1, r2, r3, r4]) rfl (Or.inl ⟨?_, rfl, ?_⟩)
          · rw [packM_yes HA.out, loadsM_eq (by rw [HN.out, HM.out]), HN.out]; exact HST.out
          · exact (((((hb.drew.setCell (p := ⟨w.heap.size, 0, none⟩) (Nat.le_refl _) _).setCell (p := ⟨w.heap.size, 1, none⟩) (Nat.le_refl _) _).setCell (p := ⟨w.heap.size, 2, none⟩) (Nat.le_refl _) _).setCell (p := ⟨w.heap.size, 3, none⟩) (Nat.le_refl _) _).setCell (p := ⟨w.heap.size, 4, none⟩) (Nat.le_refl _) _)
        obtain ⟨bn, rfl⟩ : ∃ bn : Nat, b = (bn : Int) := ⟨b.toNat, by omega⟩
        have hlow' : decide ((bn : Int) < 0) = false := decide_eq_false hlow
        have hhigh' : decide ((ls.length : Int) < (bn : Int)) = false := decide_eq_false hhigh
        have hbn : bn ≤ ls.length := by omega
        obtain ⟨l0, hl0⟩ : ∃ l0, l0 = ls.getD bn 0 := ⟨_, rfl⟩
        have hl0b : 0 ≤ l0 ∧ l0 ≤ 1000 := by
          by_cases e : bn = ls.length
          · subst e; simp [List.getD] at hl0; omega
          · have := hld.at_ (List.getElem?_eq_getElem (show bn < ls.length by omega))
            have e2 : ls.getD bn 0 = ls[bn] := by simp [List.getD, show bn < ls.length by omega]
            omega
        have hca := fun (W : World) (hW : Pk W w1.heap.size 54 Bo Bp m room ls (plan.take k) []) => (show Calls Try.prog 99 #[.pointer (some ⟨w1.heap.size, 0, none⟩), .int .i64 (bn : Int)] W fun e w' => e = .returned (.agg #[.int .i64 (bn : Int), .int .i64 l0]) ∧ Below W.heap.size W w' by rw [hl0]; exact cartonAt_any w1.heap.size 54 Bo Bp m room ls (plan.take k) [] bn W hW hbn)
        have hpu := fun (W : World) (hW : Pk W w1.heap.size 54 Bo Bp m room ls (plan.take k) []) (h1 : ls.length < m) (h2 : (plan.take k).length < m) => (show Calls Try.prog 94 #[.pointer (some ⟨w1.heap.size, 0, none⟩), .agg #[.int .i64 (bn : Int), .int .i64 l0], .int .i64 size] W (Put_ w1.heap.size 54 Bo Bp m room (addTo ls bn size) (plan.take k ++ [(bn : Int)]) [] W) by rw [hl0]; exact put_any w1.heap.size 54 Bo Bp m room ls (plan.take k) [] bn size W hW ⟨hsb.1, hsb.2.1⟩ hr2 hld hbn h1 h2)
        have HPU := Lib.hid hpu
        clear hpu
        have HCA := Lib.hid hca
        have HL0 := Lib.hid hl0
        clear hca hl0
        by_cases hfit : l0 + size ≤ room
        · have hd : decide (l0 + size ≤ room) = true := decide_eq_true hfit
          have hpk1 := hpk.keep (w' := wr.drew) fun _ _ => rfl
          have HST := Lib.hid (foll_step HF.out HBV.out HSZ.out (stepL_ok hbn (by rw [← HL0.out]; exact hfit)))
          go_upto_region 7 with (fail)
          refine wp_region_held_drew (S := (fun w' => w'.cell? ⟨w1.heap.size, 3, none⟩ = some (.slice (some ⟨Bo, 0, none⟩) ls.length m) ∧ w'.cell? ⟨bt, ot + k, none⟩ = some (.int .i64 size))) (by kernel_rfl) ⟨f3, hctw⟩ (fun hH0 => ?_)
          refine wpAnyH_take (i := 0) (v := ?_) (ops_at rfl) (by kernel_rfl) (by kernel_rfl) (by kernel_rfl) (fun _ _ _ h => h) (Or.inl ⟨by rfl, ?yc0⟩) (by assumption) ?nc0
          case yc0 => (intro wS hSw; (try dsimp only at hSw); go_simp; try rfl)
          try simp only [Act.put, List.setIfInBounds_toArray, List.set_cons_zero, List.set_cons_succ]
          refine wpAnyH_take (i := 1) (v := ?_) (ops_at rfl) (by kernel_rfl) (by kernel_rfl) (by kernel_rfl) (fun _ _ _ h => h) (Or.inl ⟨by rfl, ?yc1⟩) (by assumption) ?nc1
          case yc1 => (intro wS hSw; (try dsimp only at hSw); go_simp; try rfl)
          try simp only [Act.put, List.setIfInBounds_toArray, List.set_cons_zero, List.set_cons_succ]
          refine wpAnyH_take (i := 2) (v := ?_) (ops_at rfl) (by kernel_rfl) (by kernel_rfl) (by kernel_rfl) (fun _ _ _ h => h) (Or.inl ⟨by rfl, ?yc2⟩) (by assumption) ?nc2
          case yc2 => (intro wS hSw; (try dsimp only at hSw); go_simp; try rfl)
          try simp only [Act.put, List.setIfInBounds_toArray, List.set_cons_zero, List.set_cons_succ]
          refine wpAnyH_take (i := 3) (v := ?_) (ops_at rfl) (by kernel_rfl) (by kernel_rfl) (by kernel_rfl) (fun _ _ _ h => h) (Or.inl ⟨by rfl, ?yc3⟩) (by assumption) ?nc3
          case yc3 => (intro wS hSw; (try dsimp only at hSw); go_simp; try rfl)
          try simp only [Act.put, List.setIfInBounds_toArray, List.set_cons_zero, List.set_cons_succ]
          refine wpAnyH_take (i := 4) (v := ?_) (ops_at rfl) (by kernel_rfl) (by kernel_rfl) (by kernel_rfl) (fun _ _ _ h => h) (Or.inl ⟨by rfl, ?yc4⟩) (by assumption) ?nc4
          case yc4 => (intro wS hSw; (try dsimp only at hSw); go_simp; try rfl)
          try simp only [Act.put, List.setIfInBounds_toArray, List.set_cons_zero, List.set_cons_succ]
          refine wpAnyH_take (i := 5) (v := ?_) (ops_at rfl) (by kernel_rfl) (by kernel_rfl) (by kernel_rfl) (fun _ _ _ h => h) (Or.inl ⟨by rfl, ?yc5⟩) (by assumption) ?nc5
          case yc5 => (intro wS hSw; (try dsimp only at hSw); go_simp; try rfl)
          try simp only [Act.put, List.setIfInBounds_toArray, List.set_cons_zero, List.set_cons_succ]
          refine wpAnyH_take (i := 6) (v := ?_) (ops_at rfl) (by kernel_rfl) (by kernel_rfl) (by kernel_rfl) (fun _ _ _ h => h) (Or.inl ⟨by rfl, ?yc6⟩) (by assumption) ?nc6
          case yc6 => (intro wS hSw; (try dsimp only at hSw); go_simp; try rfl)
          try simp only [Act.put, List.setIfInBounds_toArray, List.set_cons_zero, List.set_cons_succ]
          refine wpAnyH_take (i := 7) (v := ?_) (ops_at rfl) (by kernel_rfl) (by kernel_rfl) (by kernel_rfl) (fun _ _ _ h => h) (Or.inl ⟨by rfl, ?yc7⟩) (by assumption) ?nc7
          case yc7 => (intro wS hSw; (try dsimp only at hSw); go_simp; try rfl)
          try simp only [Act.put, List.setIfInBounds_toArray, List.set_cons_zero, List.set_cons_succ]
          refine wpAnyH_take (i := 8) (v := ?_) (ops_at rfl) (by kernel_rfl) (by kernel_rfl) (by kernel_rfl) (fun _ _ _ h => h) (Or.inl ⟨by rfl, ?yc8⟩) (by assumption) ?nc8
          case yc8 => (intro wS hSw; (try dsimp only at hSw); go_simp; try rfl)
          try simp only [Act.put, List.setIfInBounds_toArray, List.set_cons_zero, List.set_cons_succ]
          refine wpAnyH_take (i := 9) (v := ?_) (ops_at rfl) (by kernel_rfl) (by kernel_rfl) (by kernel_rfl) (fun _ _ _ h => h) (Or.inl ⟨by rfl, ?yc9⟩) (by assumption) ?nc9
          case yc9 => (intro wS hSw; (try dsimp only at hSw); go_simp; try rfl)
          try simp only [Act.put, List.setIfInBounds_toArray, List.set_cons_zero, List.set_cons_succ]
          refine wpAnyH_take (i := 10) (v := ?_) (ops_at rfl) (by kernel_rfl) (by kernel_rfl) (by kernel_rfl) (fun _ _ _ h => h) (Or.inl ⟨by rfl, ?yc10⟩) (by assumption) ?nc10
          case yc10 => (intro wS hSw; (try dsimp only at hSw); go_simp; try rfl)
          try simp only [Act.put, List.setIfInBounds_toArray, List.set_cons_zero, List.set_cons_succ]
          refine wpAnyH_take (i := 12) (v := ?_) (ops_at rfl) (by kernel_rfl) (by kernel_rfl) (by kernel_rfl) (fun _ _ _ h => h) (Or.inl ⟨by rfl, ?yc12⟩) (by assumption) ?nc12
          case yc12 => (intro wS hSw; (try dsimp only at hSw); go_simp; try rfl)
          try simp only [Act.put, List.setIfInBounds_toArray, List.set_cons_zero, List.set_cons_succ]
          refine wpAnyH_take (i := 13) (v := ?_) (ops_at rfl) (by kernel_rfl) (by kernel_rfl) (by kernel_rfl) (fun _ _ _ h => h) (Or.inl ⟨by rfl, ?yc13⟩) (by assumption) ?nc13
          case yc13 => (intro wS hSw; (try dsimp only at hSw); go_simp; try rfl)
          try simp only [Act.put, List.setIfInBounds_toArray, List.set_cons_zero, List.set_cons_succ]
          refine wpAnyH_take (i := 14) (v := ?_) (ops_at rfl) (by kernel_rfl) (by kernel_rfl) (by kernel_rfl) (fun _ _ _ h => h) (Or.inl ⟨by rfl, ?yc14⟩) (by assumption) ?nc14
          case yc14 => (intro wS hSw; (try dsimp only at hSw); go_simp; try rfl)
          try simp only [Act.put, List.setIfInBounds_toArray, List.set_cons_zero, List.set_cons_succ]
          refine wpAnyH_take (i := 15) (v := ?_) (ops_at rfl) (by kernel_rfl) (by kernel_rfl) (by kernel_rfl) (fun _ _ _ h => h) (Or.inl ⟨by rfl, ?yc15⟩) (by assumption) ?nc15
          case yc15 => (intro wS hSw; (try dsimp only at hSw); go_simp; try rfl)
          try simp only [Act.put, List.setIfInBounds_toArray, List.set_cons_zero, List.set_cons_succ]
          refine wpAnyH_ready (rs := [11]) (by kernel_rfl) (by simp) ?_
          refine AllReadyH.cons (ops_at rfl) (fun K hK => ?_) AllReadyH.nil
          go_simp
          go_wp2_with (go_at_call 99; refine (HCA.out _ hpk1).mono ?_; rintro e w2 ⟨rfl, hb2⟩)
          have hpk2 := hpk1.belowAll hb2
          have hct2 := (hb2.cell (p := ⟨bt, ot + k, none⟩) (by show bt < wr.heap.size; omega)).trans hctw
          refine hK.out _ _ ⟨hpk2.facts.2.2.2.1, hct2⟩ (fun hHc11 => ?_)
          clear hK K
          refine wpAnyH_ready (rs := [16]) (by kernel_rfl) (by simp) ?_
          refine AllReadyH.cons (ops_at rfl) (fun K hK => ?_) AllReadyH.nil
          go_simp
          go_wp2_with (go_at_call 95; refine (fits_any w1.heap.size 54 Bo Bp m room ls (plan.take k) [] _ _ _ _ hpk2 (by omega) (by omega) true hd).mono ?_; rintro e w3 ⟨rfl, hb3⟩)
          have hpk3 := hpk2.belowAll hb3
          have hz2 := hb2.size
          have hz2' : wr.heap.size ≤ w2.heap.size := hz2
          have hct3 := (hb3.cell (p := ⟨bt, ot + k, none⟩) (by show bt < w2.heap.size; omega)).trans hct2
          refine hK.out _ _ ⟨hpk3.facts.2.2.2.1, hct3⟩ (fun hHc16 => ?_)
          clear hK K
          refine wpAnyH_take (i := 17) (v := ?_) (ops_at rfl) (by kernel_rfl) (by kernel_rfl) (by kernel_rfl) (fun _ _ _ h => h) (Or.inl ⟨by rfl, ?yc17⟩) (by assumption) ?nc17
          case yc17 => (intro wS hSw; (try dsimp only at hSw); go_simp; try rfl)
          try simp only [Act.put, List.setIfInBounds_toArray, List.set_cons_zero, List.set_cons_succ]
          refine wpAnyH_take (i := 18) (v := ?_) (ops_at rfl) (by kernel_rfl) (by kernel_rfl) (by kernel_rfl) (fun _ _ _ h => h) (Or.inl ⟨by rfl, ?yc18⟩) (by assumption) ?nc18
          case yc18 => (intro wS hSw; (try dsimp only at hSw); go_simp; try rfl)
          try simp only [Act.put, List.setIfInBounds_toArray, List.set_cons_zero, List.set_cons_succ]
          refine wpAnyH_done (by kernel_rfl) ?_ _
          have hz3 : w2.heap.size ≤ w3.heap.size := hb3.size
          have hbw3 : Below w.heap.size w w3 := (hb.trans ((undrew hb2).mono hsz)).trans (hb3.mono (by omega))
          have HR3 : w3.heap[w.heap.size]? = some (.cells #[.int .i64 0, .int .i64 0, .int .i64 0, .slice none 0 0, .slice none 0 0] 54 (0, 0)) := (hb3.block _ (by omega)).trans ((hb2.block _ (by show w.heap.size < wr.heap.size; omega)).trans HRB.out)
          clear f0 f1 f2 f3 f4 r0 r1 r2 r3 r4 q0 q1 q2 q3 q4
          have HRW := Lib.hid HR3
          clear HR3
          have hpk4 := hpk3.keep (w' := w3.drew) fun _ _ => rfl
          go_upto_region 9 with (fail)
          refine wp_region_held_drew (S := (fun w' => w'.cell? ⟨bt, ot + k, none⟩ = some (.int .i64 size) ∧ True)) (by kernel_rfl) ⟨hct3, trivial⟩ (fun hH0 => ?_)
          refine wpAnyH_take (i := 0) (v := ?_) (ops_at rfl) (by kernel_rfl) (by kernel_rfl) (by kernel_rfl) (fun _ _ _ h => h) (Or.inl ⟨by rfl, ?yd0⟩) (by assumption) ?nd0
          case yd0 => (intro wS hSw; (try dsimp only at hSw); go_simp; try rfl)
          try simp only [Act.put, List.setIfInBounds_toArray, List.set_cons_zero, List.set_cons_succ]
          refine wpAnyH_take (i := 2) (v := ?_) (ops_at rfl) (by kernel_rfl) (by kernel_rfl) (by kernel_rfl) (fun _ _ _ h => h) (Or.inl ⟨by rfl, ?yd2⟩) (by assumption) ?nd2
          case yd2 => (intro wS hSw; (try dsimp only at hSw); go_simp; try rfl)
          try simp only [Act.put, List.setIfInBounds_toArray, List.set_cons_zero, List.set_cons_succ]
          refine wpAnyH_take (i := 3) (v := ?_) (ops_at rfl) (by kernel_rfl) (by kernel_rfl) (by kernel_rfl) (fun _ _ _ h => h) (Or.inl ⟨by rfl, ?yd3⟩) (by assumption) ?nd3
          case yd3 => (intro wS hSw; (try dsimp only at hSw); go_simp; try rfl)
          try simp only [Act.put, List.setIfInBounds_toArray, List.set_cons_zero, List.set_cons_succ]
          refine wpAnyH_take (i := 4) (v := ?_) (ops_at rfl) (by kernel_rfl) (by kernel_rfl) (by kernel_rfl) (fun _ _ _ h => h) (Or.inl ⟨by rfl, ?yd4⟩) (by assumption) ?nd4
          case yd4 => (intro wS hSw; (try dsimp only at hSw); go_simp; try rfl)
          try simp only [Act.put, List.setIfInBounds_toArray, List.set_cons_zero, List.set_cons_succ]
          refine wpAnyH_take (i := 5) (v := ?_) (ops_at rfl) (by kernel_rfl) (by kernel_rfl) (by kernel_rfl) (fun _ _ _ h => h) (Or.inl ⟨by rfl, ?yd5⟩) (by assumption) ?nd5
          case yd5 => (intro wS hSw; (try dsimp only at hSw); go_simp; try rfl)
          try simp only [Act.put, List.setIfInBounds_toArray, List.set_cons_zero, List.set_cons_succ]
          refine wpAnyH_ready (rs := [1]) (by kernel_rfl) (by simp) ?_
          refine AllReadyH.cons (ops_at rfl) (fun K hK => ?_) AllReadyH.nil
          go_simp
          go_wp2_with (go_at_call 99; refine (HCA.out _ hpk4).mono ?_; rintro e w5 ⟨rfl, hb5⟩)
          have hpk5 := hpk4.belowAll hb5
          have hct5 := (hb5.cell (p := ⟨bt, ot + k, none⟩) (by show bt < w3.heap.size; omega)).trans hct3
          refine hK.out _ _ ⟨hct5, trivial⟩ (fun hHd1 => ?_)
          clear hK K
          refine wpAnyH_ready (rs := [6]) (by kernel_rfl) (by simp) ?_
          refine AllReadyH.cons (ops_at rfl) (fun K hK => ?_) AllReadyH.nil
          go_simp
          go_wp2_with (go_at_call 94; refine (HPU.out _ hpk5 (by omega) (by rw [hpl.out]; exact hlt)).mono ?_; rintro e w6 ⟨rfl, hpk6, honly⟩)
          have hz5 : w3.heap.size ≤ w5.heap.size := hb5.size
          have hct6 := (World.cell?_of_block (a := ⟨bt, ot + k, none⟩) (honly.block bt (by omega) (by rintro (h | h | h) <;> omega))).trans hct5
          refine hK.out _ _ ⟨hct6, trivial⟩ (fun hHd6 => ?_)
          clear hK K
          refine wpAnyH_done (by kernel_rfl) ?_ _
          have hbw5 : Below w.heap.size w w5 := hbw3.trans ((undrew hb5).mono (by show w.heap.size ≤ w3.heap.size; omega))
          have hz5w := hbw5.size
          have hbw6 : Below w.heap.size w w6 := hbw5.trans (honly.below (by omega) (fun g hg => by rcases hg with rfl | rfl | rfl <;> omega))
          have hres6 := (honly.block w.heap.size (by omega) (by rintro (h | h | h) <;> omega)).trans ((hb5.block w.heap.size (by show w.heap.size < w3.heap.size; omega)).trans HRW.out)
          have htk : plan.take k ++ [(bn : Int)] = plan.take (k + 1) := (take_snoc HBV.out).symm
          rw [htk] at hpk6
          go_wp2
          go_roundw
          case rel => exact ⟨k + 1, by omega, by go_num, hbw6, _, HST.out, hpk6, hres6.trans hres.symm⟩
          case measure => simp [intOf]; omega
        · have hd : decide (l0 + size ≤ room) = false := decide_eq_false hfit
          have hpk1 := hpk.keep (w' := wr.drew) fun _ _ => rfl
          have HST := Lib.hid (foll_fail HF.out HBV.out HSZ.out (stepL_full (by rw [← HL0.out]; exact hfit)) hlt)
          go_upto_region 7 with (fail)
          refine wp_region_held_drew (S := (fun w' => w'.cell? ⟨w1.heap.size, 3, none⟩ = some (.slice (some ⟨Bo, 0, none⟩) ls.length m) ∧ w'.cell? ⟨bt, ot + k, none⟩ = some (.int .i64 size))) (by kernel_rfl) ⟨f3, hctw⟩ (fun hH0 => ?_)
          refine wpAnyH_take (i := 0) (v := ?_) (ops_at rfl) (by kernel_rfl) (by kernel_rfl) (by kernel_rfl) (fun _ _ _ h => h) (Or.inl ⟨by rfl, ?ye0⟩) (by assumption) ?ne0
          case ye0 => (intro wS hSw; (try dsimp only at hSw); go_simp; try rfl)
          try simp only [Act.put, List.setIfInBounds_toArray, List.set_cons_zero, List.set_cons_succ]
          refine wpAnyH_take (i := 1) (v := ?_) (ops_at rfl) (by kernel_rfl) (by kernel_rfl) (by kernel_rfl) (fun _ _ _ h => h) (Or.inl ⟨by rfl, ?ye1⟩) (by assumption) ?ne1
          case ye1 => (intro wS hSw; (try dsimp only at hSw); go_simp; try rfl)
          try simp only [Act.put, List.setIfInBounds_toArray, List.set_cons_zero, List.set_cons_succ]
          refine wpAnyH_take (i := 2) (v := ?_) (ops_at rfl) (by kernel_rfl) (by kernel_rfl) (by kernel_rfl) (fun _ _ _ h => h) (Or.inl ⟨by rfl, ?ye2⟩) (by assumption) ?ne2
          case ye2 => (intro wS hSw; (try dsimp only at hSw); go_simp; try rfl)
          try simp only [Act.put, List.setIfInBounds_toArray, List.set_cons_zero, List.set_cons_succ]
          refine wpAnyH_take (i := 3) (v := ?_) (ops_at rfl) (by kernel_rfl) (by kernel_rfl) (by kernel_rfl) (fun _ _ _ h => h) (Or.inl ⟨by rfl, ?ye3⟩) (by assumption) ?ne3
          case ye3 => (intro wS hSw; (try dsimp only at hSw); go_simp; try rfl)
          try simp only [Act.put, List.setIfInBounds_toArray, List.set_cons_zero, List.set_cons_succ]
          refine wpAnyH_take (i := 4) (v := ?_) (ops_at rfl) (by kernel_rfl) (by kernel_rfl) (by kernel_rfl) (fun _ _ _ h => h) (Or.inl ⟨by rfl, ?ye4⟩) (by assumption) ?ne4
          case ye4 => (intro wS hSw; (try dsimp only at hSw); go_simp; try rfl)
          try simp only [Act.put, List.setIfInBounds_toArray, List.set_cons_zero, List.set_cons_succ]
          refine wpAnyH_take (i := 5) (v := ?_) (ops_at rfl) (by kernel_rfl) (by kernel_rfl) (by kernel_rfl) (fun _ _ _ h => h) (Or.inl ⟨by rfl, ?ye5⟩) (by assumption) ?ne5
          case ye5 => (intro wS hSw; (try dsimp only at hSw); go_simp; try rfl)
          try simp only [Act.put, List.setIfInBounds_toArray, List.set_cons_zero, List.set_cons_succ]
          refine wpAnyH_take (i := 6) (v := ?_) (ops_at rfl) (by kernel_rfl) (by kernel_rfl) (by kernel_rfl) (fun _ _ _ h => h) (Or.inl ⟨by rfl, ?ye6⟩) (by assumption) ?ne6
          case ye6 => (intro wS hSw; (try dsimp only at hSw); go_simp; try rfl)
          try simp only [Act.put, List.setIfInBounds_toArray, List.set_cons_zero, List.set_cons_succ]
          refine wpAnyH_take (i := 7) (v := ?_) (ops_at rfl) (by kernel_rfl) (by kernel_rfl) (by kernel_rfl) (fun _ _ _ h => h) (Or.inl ⟨by rfl, ?ye7⟩) (by assumption) ?ne7
          case ye7 => (intro wS hSw; (try dsimp only at hSw); go_simp; try rfl)
          try simp only [Act.put, List.setIfInBounds_toArray, List.set_cons_zero, List.set_cons_succ]
          refine wpAnyH_take (i := 8) (v := ?_) (ops_at rfl) (by kernel_rfl) (by kernel_rfl) (by kernel_rfl) (fun _ _ _ h => h) (Or.inl ⟨by rfl, ?ye8⟩) (by assumption) ?ne8
          case ye8 => (intro wS hSw; (try dsimp only at hSw); go_simp; try rfl)
          try simp only [Act.put, List.setIfInBounds_toArray, List.set_cons_zero, List.set_cons_succ]
          refine wpAnyH_take (i := 9) (v := ?_) (ops_at rfl) (by kernel_rfl) (by kernel_rfl) (by kernel_rfl) (fun _ _ _ h => h) (Or.inl ⟨by rfl, ?ye9⟩) (by assumption) ?ne9
          case ye9 => (intro wS hSw; (try dsimp only at hSw); go_simp; try rfl)
          try simp only [Act.put, List.setIfInBounds_toArray, List.set_cons_zero, List.set_cons_succ]
          refine wpAnyH_take (i := 10) (v := ?_) (ops_at rfl) (by kernel_rfl) (by kernel_rfl) (by kernel_rfl) (fun _ _ _ h => h) (Or.inl ⟨by rfl, ?ye10⟩) (by assumption) ?ne10
          case ye10 => (intro wS hSw; (try dsimp only at hSw); go_simp; try rfl)
          try simp only [Act.put, List.setIfInBounds_toArray, List.set_cons_zero, List.set_cons_succ]
          refine wpAnyH_take (i := 12) (v := ?_) (ops_at rfl) (by kernel_rfl) (by kernel_rfl) (by kernel_rfl) (fun _ _ _ h => h) (Or.inl ⟨by rfl, ?ye12⟩) (by assumption) ?ne12
          case ye12 => (intro wS hSw; (try dsimp only at hSw); go_simp; try rfl)
          try simp only [Act.put, List.setIfInBounds_toArray, List.set_cons_zero, List.set_cons_succ]
          refine wpAnyH_take (i := 13) (v := ?_) (ops_at rfl) (by kernel_rfl) (by kernel_rfl) (by kernel_rfl) (fun _ _ _ h => h) (Or.inl ⟨by rfl, ?ye13⟩) (by assumption) ?ne13
          case ye13 => (intro wS hSw; (try dsimp only at hSw); go_simp; try rfl)
          try simp only [Act.put, List.setIfInBounds_toArray, List.set_cons_zero, List.set_cons_succ]
          refine wpAnyH_take (i := 14) (v := ?_) (ops_at rfl) (by kernel_rfl) (by kernel_rfl) (by kernel_rfl) (fun _ _ _ h => h) (Or.inl ⟨by rfl, ?ye14⟩) (by assumption) ?ne14
          case ye14 => (intro wS hSw; (try dsimp only at hSw); go_simp; try rfl)
          try simp only [Act.put, List.setIfInBounds_toArray, List.set_cons_zero, List.set_cons_succ]
          refine wpAnyH_take (i := 15) (v := ?_) (ops_at rfl) (by kernel_rfl) (by kernel_rfl) (by kernel_rfl) (fun _ _ _ h => h) (Or.inl ⟨by rfl, ?ye15⟩) (by assumption) ?ne15
          case ye15 => (intro wS hSw; (try dsimp only at hSw); go_simp; try rfl)
          try simp only [Act.put, List.setIfInBounds_toArray, List.set_cons_zero, List.set_cons_succ]
          refine wpAnyH_ready (rs := [11]) (by kernel_rfl) (by simp) ?_
          refine AllReadyH.cons (ops_at rfl) (fun K hK => ?_) AllReadyH.nil
          go_simp
          go_wp2_with (go_at_call 99; refine (HCA.out _ hpk1).mono ?_; rintro e w2 ⟨rfl, hb2⟩)
          have hpk2 := hpk1.belowAll hb2
          have hct2 := (hb2.cell (p := ⟨bt, ot + k, none⟩) (by show bt < wr.heap.size; omega)).trans hctw
          refine hK.out _ _ ⟨hpk2.facts.2.2.2.1, hct2⟩ (fun hHe11 => ?_)
          clear hK K
          refine wpAnyH_ready (rs := [16]) (by kernel_rfl) (by simp) ?_
          refine AllReadyH.cons (ops_at rfl) (fun K hK => ?_) AllReadyH.nil
          go_simp
          go_wp2_with (go_at_call 95; refine (fits_any w1.heap.size 54 Bo Bp m room ls (plan.take k) [] _ _ _ _ hpk2 (by omega) (by omega) false hd).mono ?_; rintro e w3 ⟨rfl, hb3⟩)
          have hpk3 := hpk2.belowAll hb3
          have hz2 := hb2.size
          have hz2' : wr.heap.size ≤ w2.heap.size := hz2
          have hct3 := (hb3.cell (p := ⟨bt, ot + k, none⟩) (by show bt < w2.heap.size; omega)).trans hct2
          refine hK.out _ _ ⟨hpk3.facts.2.2.2.1, hct3⟩ (fun hHe16 => ?_)
          clear hK K
          refine wpAnyH_take (i := 17) (v := ?_) (ops_at rfl) (by kernel_rfl) (by kernel_rfl) (by kernel_rfl) (fun _ _ _ h => h) (Or.inl ⟨by rfl, ?ye17⟩) (by assumption) ?ne17
          case ye17 => (intro wS hSw; (try dsimp only at hSw); go_simp; try rfl)
          try simp only [Act.put, List.setIfInBounds_toArray, List.set_cons_zero, List.set_cons_succ]
          refine wpAnyH_take (i := 18) (v := ?_) (ops_at rfl) (by kernel_rfl) (by kernel_rfl) (by kernel_rfl) (fun _ _ _ h => h) (Or.inl ⟨by rfl, ?ye18⟩) (by assumption) ?ne18
          case ye18 => (intro wS hSw; (try dsimp only at hSw); go_simp; try rfl)
          try simp only [Act.put, List.setIfInBounds_toArray, List.set_cons_zero, List.set_cons_succ]
          refine wpAnyH_done (by kernel_rfl) ?_ _
          have hz3 : w2.heap.size ≤ w3.heap.size := hb3.size
          have hbw3 : Below w.heap.size w w3 := (hb.trans ((undrew hb2).mono hsz)).trans (hb3.mono (by omega))
          have HR3 : w3.heap[w.heap.size]? = some (.cells #[.int .i64 0, .int .i64 0, .int .i64 0, .slice none 0 0, .slice none 0 0] 54 (0, 0)) := (hb3.block _ (by omega)).trans ((hb2.block _ (by show w.heap.size < wr.heap.size; omega)).trans HRB.out)
          clear r0 r1 r2 r3 r4 q0 q1 q2 q3 q4
          have r0 := cell_of (HR3) 0
          have r1 := cell_of (HR3) 1
          have r2 := cell_of (HR3) 2
          have r3 := cell_of (HR3) 3
          have r4 := cell_of (HR3) 4
          have q0 := frozen_of (HR3) 0
          have q1 := frozen_of (HR3) 1
          have q2 := frozen_of (HR3) 2
          have q3 := frozen_of (HR3) 3
          have q4 := frozen_of (HR3) 4
          simp at r0 r1 r2 r3 r4
          have HRX := Lib.hid HR3
          clear HR3
          go_wp2
          refine bodyPost_ret (v := .tuple #[.agg #[.int .i64 0, .int .i64 0, .int .i64 0, .slice none 0 0, .slice none 0 0], .bool false]) (by simp [results, Try.results60, go_sem, r0, r1, r2, r3, r4]) rfl (Or.inl ⟨?_, rfl, ?_⟩)
          · rw [packM_yes HA.out, loadsM_eq (by rw [HN.out, HM.out]), HN.out]; exact HST.out
          · exact (((((hbw3.setCell (p := ⟨w.heap.size, 0, none⟩) (Nat.le_refl _) _).setCell (p := ⟨w.heap.size, 1, none⟩) (Nat.le_refl _) _).setCell (p := ⟨w.heap.size, 2, none⟩) (Nat.le_refl _) _).setCell (p := ⟨w.heap.size, 3, none⟩) (Nat.le_refl _) _).setCell (p := ⟨w.heap.size, 4, none⟩) (Nat.le_refl _) _)
      · obtain rfl : k = m := by omega
        obtain ⟨f0, f1, f2, f3, f4⟩ := hpk.facts
        have hBoW : ¬ w.heap.size = Bo := by omega
        have hBpW : ¬ w.heap.size = Bp := by omega
        have htk : plan.take k = plan := by rw [← HM.out, List.take_length]
        rw [htk] at hpk f4
        have hpm : plan.length = k := HM.out
        rw [hpm] at f4
        have HPM := Lib.hid hpm
        clear hpm htk
        go_wp2
        refine bodyPost_ret (v := .tuple #[.agg #[.int .i64 (ls.length : Int), .int .i64 0, .int .i64 room, .slice (some ⟨Bo, 0, none⟩) ls.length k, .slice (some ⟨Bp, 0, none⟩) k k], .bool true]) (by simp [results, Try.results60, go_sem, r0, r1, r2, r3, r4]) rfl (Or.inr ⟨ls, Bo, Bp, ?_, rfl, hpk.boxes.keep ?_, hpk.plan.keep ?_, hne, by omega, by omega, ?_⟩)
        · rw [packM_yes HA.out, loadsM_eq (by rw [HN.out, HM.out]), HN.out]; exact HF.out
        · iterate 5 rw [set_far _ (by exact Ne.symm hBoW)]
        · iterate 5 rw [set_far _ (by exact Ne.symm hBpW)]
        · exact ((((hb.setCell (p := ⟨w.heap.size, 0, none⟩) (Nat.le_refl _) _).setCell (p := ⟨w.heap.size, 1, none⟩) (Nat.le_refl _) _).setCell (p := ⟨w.heap.size, 2, none⟩) (Nat.le_refl _) _).setCell (p := ⟨w.heap.size, 3, none⟩) (Nat.le_refl _) _).setCell (p := ⟨w.heap.size, 4, none⟩) (Nat.le_refl _) _
  · have hne2 : ((m : Int) != (n : Int)) = true := by rw [bne_iff_ne]; omega
    go_enter Try.func60, Try.ntmps60
    go_wp2_with (go_at_call 54; refine (canBePacked_any _ _ _ xs room lo hi _ HN.out hn2 hs0 _ HA.out).mono ?_; rintro e w' ⟨rfl, rfl⟩)
    exact bodyPost_ret (v := .tuple #[.agg #[.int .i64 0, .int .i64 0, .int .i64 0, .slice none 0 0, .slice none 0 0], .bool false]) (by simp [results, Try.results60, go_sem]) rfl (Or.inl ⟨by rw [packM_yes HA.out]; exact loadsM_ne (by rw [HN.out, HM.out]; exact hmn), rfl, (Below.refl _ _).alloc (Nat.le_refl _) _⟩)
end Go.Proofs.Ytplohhmggfifkab
