/-
  Whether there is an item that is no worse than another one, in the written program.
  Conditions: lists of at most 1048576 items.
-/
import Derived.Test.YtmgloknghoeheabSuNa
namespace Go.Proofs.Ytmgloknghoeheab
set_option linter.unusedVariables false
open Go.RowKit

set_option maxRecDepth 100000 in
set_option maxHeartbeats 4000000 in
theorem isNeedless_any (A : Option Addr) (n c : Nat) (W B : Int) (ts : List (Int × Int × Int)) (k : Nat) (a : Int × Int × Int) (lo hi : Nat) (w : World) (hn : ts.length = n) (hlen : n ≤ 1048576) (hk : k < n) (ha : ts[k]? = some a) (hs : Seg w lo hi A (flat3 ts)) (hB : hi ≤ w.heap.size) (q : Bool) (hq : hitK ts a k n = q) :
    Calls Try.prog 45 #[.agg #[.slice A n c, .int .i64 W, .int .i64 B], .int .i64 (k : Int)] w fun e w' => e = .returned (.bool q) ∧ Below w.heap.size w w' := by
  have HN := Lib.hid hn
  have HQ := Lib.hid hq
  obtain ⟨b2, off2, x2, y2, z2, rfl, _, hbhi, hx2, hd0, hd1, hd2⟩ := hs.tri (k := k) (by rw [hn]; exact hk)
  obtain rfl : a = (x2, y2, z2) := by rw [ha] at hx2; injection hx2
  have hb1 := (Below.refl w.heap.size w).alloc (Nat.le_refl _) (.cells #[.slice (some ⟨b2, off2, none⟩) n c, .int .i64 W, .int .i64 B] 62)
  obtain ⟨w1, hw1⟩ : ∃ w1, w.alloc (.cells #[.slice (some ⟨b2, off2, none⟩) n c, .int .i64 W, .int .i64 B] 62) = w1 := ⟨_, rfl⟩
  have HL1 := Lib.hid (show w1.heap[w.heap.size]? = some (.cells #[.slice (some ⟨b2, off2, none⟩) n c, .int .i64 W, .int .i64 B] 62 (0, 0)) by rw [← hw1]; exact new_at w _ rfl)
  have hz1 : w1.heap.size = w.heap.size + 1 := by rw [← hw1]; simp
  have hbs : b2 < w.heap.size := by omega
  rw [hw1] at hb1
  have HB1 := Lib.hid hb1
  have HW1 := Lib.hid hw1
  have HS1 := Lib.hid (hs.below hb1 hB)
  have HD1 := Lib.hid (show w1.cell? ⟨b2, off2 + k * 3, none⟩ = some (.int .i64 x2) ∧ w1.cell? ⟨b2, off2 + k * 3 + 1, none⟩ = some (.int .i64 y2) ∧ w1.cell? ⟨b2, off2 + k * 3 + 2, none⟩ = some (.int .i64 z2) from ⟨(hb1.cell hbs).trans hd0, (hb1.cell hbs).trans hd1, (hb1.cell hbs).trans hd2⟩)
  have l0 := cell_of (new_at w (.cells #[.slice (some ⟨b2, off2, none⟩) n c, .int .i64 W, .int .i64 B] 62) rfl) 0
  clear hn hq ha hs hx2 hd0 hd1 hd2 hb1 hw1
  go_enter Try.func45, Try.ntmps45
  go_wp2
  try rw [HW1.out]
  clear l0
  go_loopw [5, 6, 10] (fun _ _ i wr => ∃ j : Nat, j ≤ n ∧ i = .int .i64 j ∧ Below w1.heap.size w1 wr ∧ hitK ts (x2, y2, z2) k j = false) (fun _ _ i _ => n - (intOf i).toNat)
  case atStart => exact ⟨0, Nat.zero_le _, rfl, Below.refl _ _, rfl⟩
  case round =>
    rename World => wr
    obtain ⟨j, hj, rfl, hb, hh⟩ := hrel
    have hsz := hb.size
    have HH := Lib.hid hh
    by_cases hlt : j < n
    · obtain ⟨b, off, x, y, z, e1, _, _, hx, hc0, hc1, hc2⟩ := (HS1.out.below hb (by omega)).tri (k := j) (by rw [HN.out]; exact hlt)
      injection e1 with e1
      injection e1 with e11 e12 _
      subst e11 e12
      obtain ⟨wi, hwi⟩ : ∃ wi, wr.alloc (.cells #[.int .i64 x, .int .i64 y, .int .i64 z] 57) = wi := ⟨_, rfl⟩
      have hbi : Below wr.heap.size wr wi := by rw [← hwi]; exact (Below.refl _ _).alloc (Nat.le_refl _) _
      have HZ2 := Lib.hid (show wi.heap.size = wr.heap.size + 1 by rw [← hwi]; simp)
      have hit : wi.heap[wr.heap.size]? = some (.cells #[.int .i64 x, .int .i64 y, .int .i64 z] 57 (0, 0)) := by rw [← hwi]; exact new_at wr _ rfl
      have HBI := Lib.hid (hb.trans (hbi.mono hsz))
      have hlu := (HBI.out.block w.heap.size (by omega)).trans HL1.out
      have HSI := Lib.hid (show wi.cell? ⟨wr.heap.size, 0, none⟩ = some (.int .i64 x) ∧ wi.cell? ⟨wr.heap.size, 1, none⟩ = some (.int .i64 y) ∧ wi.cell? ⟨wr.heap.size, 2, none⟩ = some (.int .i64 z) ∧ wi.cell? ⟨w.heap.size, 0, none⟩ = some (.slice (some ⟨b2, off2, none⟩) n c) ∧ wi.cell? ⟨b2, off2 + k * 3, none⟩ = some (.int .i64 x2) ∧ wi.cell? ⟨b2, off2 + k * 3 + 1, none⟩ = some (.int .i64 y2) ∧ wi.cell? ⟨b2, off2 + k * 3 + 2, none⟩ = some (.int .i64 z2) from ⟨cell_of hit 0, cell_of hit 1, cell_of hit 2, cell_of hlu 0, (HBI.out.cell (by show b2 < w1.heap.size; omega)).trans HD1.out.1, (HBI.out.cell (by show b2 < w1.heap.size; omega)).trans HD1.out.2.1, (HBI.out.cell (by show b2 < w1.heap.size; omega)).trans HD1.out.2.2⟩)
      have HLT1 := Lib.hid (show wr.heap.size < wi.heap.size by have := HZ2.out; omega)
      have HLT2 := Lib.hid (show w.heap.size < wi.heap.size by have := HZ2.out; omega)
      have HLT3 := Lib.hid (show b2 < wi.heap.size by have := HZ2.out; omega)
      have HZI := Lib.hid (show w1.heap.size ≤ wi.heap.size by have := HZ2.out; omega)
      have HWI := Lib.hid hwi
      have HX := Lib.hid hx
      have hki : (k : Int) < (n : Int) := by omega
      clear hx hbi hit hlu hb hh hwi
      cases hwb : worseB (x, y, z) (x2, y2, z2)
      · have HWB := Lib.hid hwb
        have HNX := Lib.hid (show hitK ts (x2, y2, z2) k (j + 1) = false by rw [hitK_next HX.out, HH.out, hitB, hwb]; rfl)
        clear hwb
        go_wp2_with fail
        try rw [HWI.out]
        refine wp_region_held_drew (S := (fun wq => wq.cell? ⟨wr.heap.size, 0, none⟩ = some (.int .i64 x) ∧ wq.cell? ⟨wr.heap.size, 1, none⟩ = some (.int .i64 y) ∧ wq.cell? ⟨wr.heap.size, 2, none⟩ = some (.int .i64 z) ∧ wq.cell? ⟨w.heap.size, 0, none⟩ = some (.slice (some ⟨b2, off2, none⟩) n c) ∧ wq.cell? ⟨b2, off2 + k * 3, none⟩ = some (.int .i64 x2) ∧ wq.cell? ⟨b2, off2 + k * 3 + 1, none⟩ = some (.int .i64 y2) ∧ wq.cell? ⟨b2, off2 + k * 3 + 2, none⟩ = some (.int .i64 z2))) (by kernel_rfl) HSI.out (fun hH0 => ?_)
        refine wpAnyH_take (i := 0) (v := ?_) (ops_at rfl) (by kernel_rfl) (by kernel_rfl) (by kernel_rfl) (fun _ _ _ h => h) (Or.inl ⟨by rfl, ?yga0⟩) (by assumption) ?nga0
        case yga0 => (intro wS hSw; (try dsimp only at hSw); go_simp; try rfl)
        try simp only [Act.put, List.setIfInBounds_toArray, List.set_cons_zero, List.set_cons_succ]
        refine wpAnyH_take (i := 1) (v := ?_) (ops_at rfl) (by kernel_rfl) (by kernel_rfl) (by kernel_rfl) (fun _ _ _ h => h) (Or.inl ⟨by rfl, ?yga1⟩) (by assumption) ?nga1
        case yga1 => (intro wS hSw; (try dsimp only at hSw); go_simp; try rfl)
        try simp only [Act.put, List.setIfInBounds_toArray, List.set_cons_zero, List.set_cons_succ]
        refine wpAnyH_take (i := 2) (v := ?_) (ops_at rfl) (by kernel_rfl) (by kernel_rfl) (by kernel_rfl) (fun _ _ _ h => h) (Or.inl ⟨by rfl, ?yga2⟩) (by assumption) ?nga2
        case yga2 => (intro wS hSw; (try dsimp only at hSw); go_simp; try rfl)
        try simp only [Act.put, List.setIfInBounds_toArray, List.set_cons_zero, List.set_cons_succ]
        refine wpAnyH_take (i := 3) (v := ?_) (ops_at rfl) (by kernel_rfl) (by kernel_rfl) (by kernel_rfl) (fun _ _ _ h => h) (Or.inl ⟨by rfl, ?yga3⟩) (by assumption) ?nga3
        case yga3 => (intro wS hSw; (try dsimp only at hSw); go_simp; try rfl)
        try simp only [Act.put, List.setIfInBounds_toArray, List.set_cons_zero, List.set_cons_succ]
        refine wpAnyH_take (i := 4) (v := ?_) (ops_at rfl) (by kernel_rfl) (by kernel_rfl) (by kernel_rfl) (fun _ _ _ h => h) (Or.inl ⟨by rfl, ?yga4⟩) (by assumption) ?nga4
        case yga4 => (intro wS hSw; (try dsimp only at hSw); go_simp; try rfl)
        try simp only [Act.put, List.setIfInBounds_toArray, List.set_cons_zero, List.set_cons_succ]
        refine wpAnyH_take (i := 5) (v := ?_) (ops_at rfl) (by kernel_rfl) (by kernel_rfl) (by kernel_rfl) (fun _ _ _ h => h) (Or.inl ⟨by rfl, ?yga5⟩) (by assumption) ?nga5
        case yga5 => (intro wS hSw; (try dsimp only at hSw); go_simp; try rfl)
        try simp only [Act.put, List.setIfInBounds_toArray, List.set_cons_zero, List.set_cons_succ]
        refine wpAnyH_ready (rs := [6]) (by kernel_rfl) (by simp) ?_
        refine AllReadyH.cons (ops_at rfl) (fun K hK => ?_) AllReadyH.nil
        go_simp
        refine (noWorse_any x y z x2 y2 z2 _ false HWB.out).mono ?_
        rintro e w6 ⟨rfl, hb6'⟩
        have hb6 : Below wi.heap.size wi w6 := ⟨hb6'.os, hb6'.tape, hb6'.output, hb6'.size, hb6'.block⟩
        clear hb6'
        have HS6 := Lib.hid (show w6.cell? ⟨wr.heap.size, 0, none⟩ = some (.int .i64 x) ∧ w6.cell? ⟨wr.heap.size, 1, none⟩ = some (.int .i64 y) ∧ w6.cell? ⟨wr.heap.size, 2, none⟩ = some (.int .i64 z) ∧ w6.cell? ⟨w.heap.size, 0, none⟩ = some (.slice (some ⟨b2, off2, none⟩) n c) ∧ w6.cell? ⟨b2, off2 + k * 3, none⟩ = some (.int .i64 x2) ∧ w6.cell? ⟨b2, off2 + k * 3 + 1, none⟩ = some (.int .i64 y2) ∧ w6.cell? ⟨b2, off2 + k * 3 + 2, none⟩ = some (.int .i64 z2) from ⟨(hb6.cell HLT1.out).trans HSI.out.1, (hb6.cell HLT1.out).trans HSI.out.2.1, (hb6.cell HLT1.out).trans HSI.out.2.2.1, (hb6.cell HLT2.out).trans HSI.out.2.2.2.1, (hb6.cell HLT3.out).trans HSI.out.2.2.2.2.1, (hb6.cell HLT3.out).trans HSI.out.2.2.2.2.2.1, (hb6.cell HLT3.out).trans HSI.out.2.2.2.2.2.2⟩)
        have HB6 := Lib.hid (HBI.out.trans (hb6.mono HZI.out))
        clear hb6
        refine hK.out _ _ HS6.out (fun hHga6 => ?_)
        clear hK K
        refine wpAnyH_take (i := 7) (v := ?_) (ops_at rfl) (by kernel_rfl) (by kernel_rfl) (by kernel_rfl) (fun _ _ _ h => h) (Or.inl ⟨by rfl, ?yga7⟩) (by assumption) ?nga7
        case yga7 => (intro wS hSw; (try dsimp only at hSw); go_simp; try rfl)
        try simp only [Act.put, List.setIfInBounds_toArray, List.set_cons_zero, List.set_cons_succ]
        refine wpAnyH_take (i := 8) (v := undef) (ops_at rfl) (by kernel_rfl) (by kernel_rfl) (by kernel_rfl) (fun _ _ _ h => h) (Or.inr ⟨by rfl, rfl⟩) (by assumption) ?_
        try simp only [Act.put, List.setIfInBounds_toArray, List.set_cons_zero, List.set_cons_succ]
        refine wpAnyH_take (i := 9) (v := undef) (ops_at rfl) (by kernel_rfl) (by kernel_rfl) (by kernel_rfl) (fun _ _ _ h => h) (Or.inr ⟨by rfl, rfl⟩) (by assumption) ?_
        try simp only [Act.put, List.setIfInBounds_toArray, List.set_cons_zero, List.set_cons_succ]
        refine wpAnyH_take (i := 10) (v := undef) (ops_at rfl) (by kernel_rfl) (by kernel_rfl) (by kernel_rfl) (fun _ _ _ h => h) (Or.inr ⟨by rfl, rfl⟩) (by assumption) ?_
        try simp only [Act.put, List.setIfInBounds_toArray, List.set_cons_zero, List.set_cons_succ]
        refine wpAnyH_take (i := 11) (v := undef) (ops_at rfl) (by kernel_rfl) (by kernel_rfl) (by kernel_rfl) (fun _ _ _ h => h) (Or.inr ⟨by rfl, rfl⟩) (by assumption) ?_
        try simp only [Act.put, List.setIfInBounds_toArray, List.set_cons_zero, List.set_cons_succ]
        refine wpAnyH_take (i := 12) (v := undef) (ops_at rfl) (by kernel_rfl) (by kernel_rfl) (by kernel_rfl) (fun _ _ _ h => h) (Or.inr ⟨by rfl, rfl⟩) (by assumption) ?_
        try simp only [Act.put, List.setIfInBounds_toArray, List.set_cons_zero, List.set_cons_succ]
        refine wpAnyH_take (i := 13) (v := undef) (ops_at rfl) (by kernel_rfl) (by kernel_rfl) (by kernel_rfl) (fun _ _ _ h => h) (Or.inr ⟨by rfl, rfl⟩) (by assumption) ?_
        try simp only [Act.put, List.setIfInBounds_toArray, List.set_cons_zero, List.set_cons_succ]
        refine wpAnyH_take (i := 14) (v := undef) (ops_at rfl) (by kernel_rfl) (by kernel_rfl) (by kernel_rfl) (fun _ _ _ h => h) (Or.inr ⟨by rfl, rfl⟩) (by assumption) ?_
        try simp only [Act.put, List.setIfInBounds_toArray, List.set_cons_zero, List.set_cons_succ]
        refine wpAnyH_take (i := 15) (v := undef) (ops_at rfl) (by kernel_rfl) (by kernel_rfl) (by kernel_rfl) (fun _ _ _ h => h) (Or.inr ⟨by rfl, rfl⟩) (by assumption) ?_
        try simp only [Act.put, List.setIfInBounds_toArray, List.set_cons_zero, List.set_cons_succ]
        refine wpAnyH_take (i := 16) (v := undef) (ops_at rfl) (by kernel_rfl) (by kernel_rfl) (by kernel_rfl) (fun _ _ _ h => h) (Or.inr ⟨by rfl, rfl⟩) (by assumption) ?_
        try simp only [Act.put, List.setIfInBounds_toArray, List.set_cons_zero, List.set_cons_succ]
        refine wpAnyH_take (i := 17) (v := undef) (ops_at rfl) (by kernel_rfl) (by kernel_rfl) (by kernel_rfl) (fun _ _ _ h => h) (Or.inr ⟨by rfl, rfl⟩) (by assumption) ?_
        try simp only [Act.put, List.setIfInBounds_toArray, List.set_cons_zero, List.set_cons_succ]
        refine wpAnyH_take (i := 18) (v := undef) (ops_at rfl) (by kernel_rfl) (by kernel_rfl) (by kernel_rfl) (fun _ _ _ h => h) (Or.inr ⟨by rfl, rfl⟩) (by assumption) ?_
        try simp only [Act.put, List.setIfInBounds_toArray, List.set_cons_zero, List.set_cons_succ]
        refine wpAnyH_take (i := 19) (v := undef) (ops_at rfl) (by kernel_rfl) (by kernel_rfl) (by kernel_rfl) (fun _ _ _ h => h) (Or.inr ⟨by rfl, rfl⟩) (by assumption) ?_
        try simp only [Act.put, List.setIfInBounds_toArray, List.set_cons_zero, List.set_cons_succ]
        refine wpAnyH_take (i := 20) (v := ?_) (ops_at rfl) (by kernel_rfl) (by kernel_rfl) (by kernel_rfl) (fun _ _ _ h => h) (Or.inl ⟨by rfl, ?yga20⟩) (by assumption) ?nga20
        case yga20 => (intro wS hSw; (try dsimp only at hSw); go_simp; try rfl)
        try simp only [Act.put, List.setIfInBounds_toArray, List.set_cons_zero, List.set_cons_succ]
        refine wpAnyH_done (by kernel_rfl) ?_ _
        go_wp2
        go_roundw
        case rel => exact ⟨j + 1, by omega, by go_num, HB6.out, HNX.out⟩
        case measure => simp [intOf]; omega
      · have HWB := Lib.hid hwb
        cases hdc : decide ((x, y, z) = (x2, y2, z2))
        · have HHIT := Lib.hid (show hitK ts (x2, y2, z2) k n = true from hitK_up (j := j + 1) (by omega) (by rw [hitK_next HX.out, HH.out, hitB, hwb, hdc]; rfl))
          obtain rfl : q = true := by rw [← HQ.out]; exact HHIT.out
          have hneq : ∀ W', (binOp .neq 57 (.agg #[.int .i64 x, .int .i64 y, .int .i64 z]) (.agg #[.int .i64 x2, .int .i64 y2, .int .i64 z2])).run Try.prog W' = .ok (.bool true) W' := fun W' => by rw [item_neq, hdc]; rfl
          clear hwb hdc
          go_wp2_with fail
          try rw [HWI.out]
          refine wp_region_held_drew (S := (fun wq => wq.cell? ⟨wr.heap.size, 0, none⟩ = some (.int .i64 x) ∧ wq.cell? ⟨wr.heap.size, 1, none⟩ = some (.int .i64 y) ∧ wq.cell? ⟨wr.heap.size, 2, none⟩ = some (.int .i64 z) ∧ wq.cell? ⟨w.heap.size, 0, none⟩ = some (.slice (some ⟨b2, off2, none⟩) n c) ∧ wq.cell? ⟨b2, off2 + k * 3, none⟩ = some (.int .i64 x2) ∧ wq.cell? ⟨b2, off2 + k * 3 + 1, none⟩ = some (.int .i64 y2) ∧ wq.cell? ⟨b2, off2 + k * 3 + 2, none⟩ = some (.int .i64 z2))) (by kernel_rfl) HSI.out (fun hH0 => ?_)
          refine wpAnyH_take (i := 0) (v := ?_) (ops_at rfl) (by kernel_rfl) (by kernel_rfl) (by kernel_rfl) (fun _ _ _ h => h) (Or.inl ⟨by rfl, ?ygb0⟩) (by assumption) ?ngb0
          case ygb0 => (intro wS hSw; (try dsimp only at hSw); go_simp; try rfl)
          try simp only [Act.put, List.setIfInBounds_toArray, List.set_cons_zero, List.set_cons_succ]
          refine wpAnyH_take (i := 1) (v := ?_) (ops_at rfl) (by kernel_rfl) (by kernel_rfl) (by kernel_rfl) (fun _ _ _ h => h) (Or.inl ⟨by rfl, ?ygb1⟩) (by assumption) ?ngb1
          case ygb1 => (intro wS hSw; (try dsimp only at hSw); go_simp; try rfl)
          try simp only [Act.put, List.setIfInBounds_toArray, List.set_cons_zero, List.set_cons_succ]
          refine wpAnyH_take (i := 2) (v := ?_) (ops_at rfl) (by kernel_rfl) (by kernel_rfl) (by kernel_rfl) (fun _ _ _ h => h) (Or.inl ⟨by rfl, ?ygb2⟩) (by assumption) ?ngb2
          case ygb2 => (intro wS hSw; (try dsimp only at hSw); go_simp; try rfl)
          try simp only [Act.put, List.setIfInBounds_toArray, List.set_cons_zero, List.set_cons_succ]
          refine wpAnyH_take (i := 3) (v := ?_) (ops_at rfl) (by kernel_rfl) (by kernel_rfl) (by kernel_rfl) (fun _ _ _ h => h) (Or.inl ⟨by rfl, ?ygb3⟩) (by assumption) ?ngb3
          case ygb3 => (intro wS hSw; (try dsimp only at hSw); go_simp; try rfl)
          try simp only [Act.put, List.setIfInBounds_toArray, List.set_cons_zero, List.set_cons_succ]
          refine wpAnyH_take (i := 4) (v := ?_) (ops_at rfl) (by kernel_rfl) (by kernel_rfl) (by kernel_rfl) (fun _ _ _ h => h) (Or.inl ⟨by rfl, ?ygb4⟩) (by assumption) ?ngb4
          case ygb4 => (intro wS hSw; (try dsimp only at hSw); go_simp; try rfl)
          try simp only [Act.put, List.setIfInBounds_toArray, List.set_cons_zero, List.set_cons_succ]
          refine wpAnyH_take (i := 5) (v := ?_) (ops_at rfl) (by kernel_rfl) (by kernel_rfl) (by kernel_rfl) (fun _ _ _ h => h) (Or.inl ⟨by rfl, ?ygb5⟩) (by assumption) ?ngb5
          case ygb5 => (intro wS hSw; (try dsimp only at hSw); go_simp; try rfl)
          try simp only [Act.put, List.setIfInBounds_toArray, List.set_cons_zero, List.set_cons_succ]
          refine wpAnyH_ready (rs := [6]) (by kernel_rfl) (by simp) ?_
          refine AllReadyH.cons (ops_at rfl) (fun K hK => ?_) AllReadyH.nil
          go_simp
          refine (noWorse_any x y z x2 y2 z2 _ true HWB.out).mono ?_
          rintro e w6 ⟨rfl, hb6'⟩
          have hb6 : Below wi.heap.size wi w6 := ⟨hb6'.os, hb6'.tape, hb6'.output, hb6'.size, hb6'.block⟩
          clear hb6'
          have HS6 := Lib.hid (show w6.cell? ⟨wr.heap.size, 0, none⟩ = some (.int .i64 x) ∧ w6.cell? ⟨wr.heap.size, 1, none⟩ = some (.int .i64 y) ∧ w6.cell? ⟨wr.heap.size, 2, none⟩ = some (.int .i64 z) ∧ w6.cell? ⟨w.heap.size, 0, none⟩ = some (.slice (some ⟨b2, off2, none⟩) n c) ∧ w6.cell? ⟨b2, off2 + k * 3, none⟩ = some (.int .i64 x2) ∧ w6.cell? ⟨b2, off2 + k * 3 + 1, none⟩ = some (.int .i64 y2) ∧ w6.cell? ⟨b2, off2 + k * 3 + 2, none⟩ = some (.int .i64 z2) from ⟨(hb6.cell HLT1.out).trans HSI.out.1, (hb6.cell HLT1.out).trans HSI.out.2.1, (hb6.cell HLT1.out).trans HSI.out.2.2.1, (hb6.cell HLT2.out).trans HSI.out.2.2.2.1, (hb6.cell HLT3.out).trans HSI.out.2.2.2.2.1, (hb6.cell HLT3.out).trans HSI.out.2.2.2.2.2.1, (hb6.cell HLT3.out).trans HSI.out.2.2.2.2.2.2⟩)
          have HB6 := Lib.hid (HBI.out.trans (hb6.mono HZI.out))
          clear hb6
          refine hK.out _ _ HS6.out (fun hHgb6 => ?_)
          clear hK K
          refine wpAnyH_take (i := 7) (v := ?_) (ops_at rfl) (by kernel_rfl) (by kernel_rfl) (by kernel_rfl) (fun _ _ _ h => h) (Or.inl ⟨by rfl, ?ygb7⟩) (by assumption) ?ngb7
          case ygb7 => (intro wS hSw; (try dsimp only at hSw); go_simp; try rfl)
          try simp only [Act.put, List.setIfInBounds_toArray, List.set_cons_zero, List.set_cons_succ]
          refine wpAnyH_take (i := 8) (v := ?_) (ops_at rfl) (by kernel_rfl) (by kernel_rfl) (by kernel_rfl) (fun _ _ _ h => h) (Or.inl ⟨by rfl, ?ygb8⟩) (by assumption) ?ngb8
          case ygb8 => (intro wS hSw; (try dsimp only at hSw); go_simp; try rfl)
          try simp only [Act.put, List.setIfInBounds_toArray, List.set_cons_zero, List.set_cons_succ]
          refine wpAnyH_take (i := 9) (v := ?_) (ops_at rfl) (by kernel_rfl) (by kernel_rfl) (by kernel_rfl) (fun _ _ _ h => h) (Or.inl ⟨by rfl, ?ygb9⟩) (by assumption) ?ngb9
          case ygb9 => (intro wS hSw; (try dsimp only at hSw); go_simp; try rfl)
          try simp only [Act.put, List.setIfInBounds_toArray, List.set_cons_zero, List.set_cons_succ]
          refine wpAnyH_take (i := 10) (v := ?_) (ops_at rfl) (by kernel_rfl) (by kernel_rfl) (by kernel_rfl) (fun _ _ _ h => h) (Or.inl ⟨by rfl, ?ygb10⟩) (by assumption) ?ngb10
          case ygb10 => (intro wS hSw; (try dsimp only at hSw); go_simp; try rfl)
          try simp only [Act.put, List.setIfInBounds_toArray, List.set_cons_zero, List.set_cons_succ]
          refine wpAnyH_take (i := 11) (v := ?_) (ops_at rfl) (by kernel_rfl) (by kernel_rfl) (by kernel_rfl) (fun _ _ _ h => h) (Or.inl ⟨by rfl, ?ygb11⟩) (by assumption) ?ngb11
          case ygb11 => (intro wS hSw; (try dsimp only at hSw); go_simp; try rfl)
          try simp only [Act.put, List.setIfInBounds_toArray, List.set_cons_zero, List.set_cons_succ]
          refine wpAnyH_take (i := 12) (v := ?_) (ops_at rfl) (by kernel_rfl) (by kernel_rfl) (by kernel_rfl) (fun _ _ _ h => h) (Or.inl ⟨by rfl, ?ygb12⟩) (by assumption) ?ngb12
          case ygb12 => (intro wS hSw; (try dsimp only at hSw); go_simp; try rfl)
          try simp only [Act.put, List.setIfInBounds_toArray, List.set_cons_zero, List.set_cons_succ]
          refine wpAnyH_take (i := 13) (v := ?_) (ops_at rfl) (by kernel_rfl) (by kernel_rfl) (by kernel_rfl) (fun _ _ _ h => h) (Or.inl ⟨by rfl, ?ygb13⟩) (by assumption) ?ngb13
          case ygb13 => (intro wS hSw; (try dsimp only at hSw); go_simp; try rfl)
          try simp only [Act.put, List.setIfInBounds_toArray, List.set_cons_zero, List.set_cons_succ]
          refine wpAnyH_take (i := 14) (v := ?_) (ops_at rfl) (by kernel_rfl) (by kernel_rfl) (by kernel_rfl) (fun _ _ _ h => h) (Or.inl ⟨by rfl, ?ygb14⟩) (by assumption) ?ngb14
          case ygb14 => (intro wS hSw; (try dsimp only at hSw); go_simp; try rfl)
          try simp only [Act.put, List.setIfInBounds_toArray, List.set_cons_zero, List.set_cons_succ]
          refine wpAnyH_take (i := 15) (v := ?_) (ops_at rfl) (by kernel_rfl) (by kernel_rfl) (by kernel_rfl) (fun _ _ _ h => h) (Or.inl ⟨by rfl, ?ygb15⟩) (by assumption) ?ngb15
          case ygb15 => (intro wS hSw; (try dsimp only at hSw); go_simp; try rfl)
          try simp only [Act.put, List.setIfInBounds_toArray, List.set_cons_zero, List.set_cons_succ]
          refine wpAnyH_take (i := 16) (v := undef) (ops_at rfl) (by kernel_rfl) (by kernel_rfl) (by kernel_rfl) (fun _ _ _ h => h) (Or.inr ⟨by rfl, rfl⟩) (by assumption) ?_
          try simp only [Act.put, List.setIfInBounds_toArray, List.set_cons_zero, List.set_cons_succ]
          refine wpAnyH_take (i := 17) (v := undef) (ops_at rfl) (by kernel_rfl) (by kernel_rfl) (by kernel_rfl) (fun _ _ _ h => h) (Or.inr ⟨by rfl, rfl⟩) (by assumption) ?_
          try simp only [Act.put, List.setIfInBounds_toArray, List.set_cons_zero, List.set_cons_succ]
          refine wpAnyH_take (i := 18) (v := undef) (ops_at rfl) (by kernel_rfl) (by kernel_rfl) (by kernel_rfl) (fun _ _ _ h => h) (Or.inr ⟨by rfl, rfl⟩) (by assumption) ?_
          try simp only [Act.put, List.setIfInBounds_toArray, List.set_cons_zero, List.set_cons_succ]
          refine wpAnyH_take (i := 19) (v := ?_) (ops_at rfl) (by kernel_rfl) (by kernel_rfl) (by kernel_rfl) (fun _ _ _ h => h) (Or.inl ⟨by rfl, ?ygb19⟩) (by assumption) ?ngb19
          case ygb19 => (intro wS hSw; (try dsimp only at hSw); go_simp; try rfl)
          try simp only [Act.put, List.setIfInBounds_toArray, List.set_cons_zero, List.set_cons_succ]
          refine wpAnyH_take (i := 20) (v := ?_) (ops_at rfl) (by kernel_rfl) (by kernel_rfl) (by kernel_rfl) (fun _ _ _ h => h) (Or.inl ⟨by rfl, ?ygb20⟩) (by assumption) ?ngb20
          case ygb20 => (intro wS hSw; (try dsimp only at hSw); go_simp; try rfl)
          try simp only [Act.put, List.setIfInBounds_toArray, List.set_cons_zero, List.set_cons_succ]
          refine wpAnyH_done (by kernel_rfl) ?_ _
          go_wp2
          go_ret
          exact ⟨rfl, HB1.out.trans (HB6.out.mono (by omega))⟩
        · have hneq : ∀ W', (binOp .neq 57 (.agg #[.int .i64 x, .int .i64 y, .int .i64 z]) (.agg #[.int .i64 x2, .int .i64 y2, .int .i64 z2])).run Try.prog W' = .ok (.bool false) W' := fun W' => by rw [item_neq, hdc]; rfl
          by_cases hjk : j < k
          · have HHIT := Lib.hid (show hitK ts (x2, y2, z2) k n = true from hitK_up (j := j + 1) (by omega) (by rw [hitK_next HX.out, HH.out, hitB, hwb, hdc, decide_eq_true hjk]; rfl))
            obtain rfl : q = true := by rw [← HQ.out]; exact HHIT.out
            have hjk' : decide ((j : Int) < (k : Int)) = true := decide_eq_true (by omega)
            clear hwb hdc
            go_wp2_with fail
            try rw [HWI.out]
            refine wp_region_held_drew (S := (fun wq => wq.cell? ⟨wr.heap.size, 0, none⟩ = some (.int .i64 x) ∧ wq.cell? ⟨wr.heap.size, 1, none⟩ = some (.int .i64 y) ∧ wq.cell? ⟨wr.heap.size, 2, none⟩ = some (.int .i64 z) ∧ wq.cell? ⟨w.heap.size, 0, none⟩ = some (.slice (some ⟨b2, off2, none⟩) n c) ∧ wq.cell? ⟨b2, off2 + k * 3, none⟩ = some (.int .i64 x2) ∧ wq.cell? ⟨b2, off2 + k * 3 + 1, none⟩ = some (.int .i64 y2) ∧ wq.cell? ⟨b2, off2 + k * 3 + 2, none⟩ = some (.int .i64 z2))) (by kernel_rfl) HSI.out (fun hH0 => ?_)
            refine wpAnyH_take (i := 0) (v := ?_) (ops_at rfl) (by kernel_rfl) (by kernel_rfl) (by kernel_rfl) (fun _ _ _ h => h) (Or.inl ⟨by rfl, ?ygc0⟩) (by assumption) ?ngc0
            case ygc0 => (intro wS hSw; (try dsimp only at hSw); go_simp; try rfl)
            try simp only [Act.put, List.setIfInBounds_toArray, List.set_cons_zero, List.set_cons_succ]
            refine wpAnyH_take (i := 1) (v := ?_) (ops_at rfl) (by kernel_rfl) (by kernel_rfl) (by kernel_rfl) (fun _ _ _ h => h) (Or.inl ⟨by rfl, ?ygc1⟩) (by assumption) ?ngc1
            case ygc1 => (intro wS hSw; (try dsimp only at hSw); go_simp; try rfl)
            try simp only [Act.put, List.setIfInBounds_toArray, List.set_cons_zero, List.set_cons_succ]
            refine wpAnyH_take (i := 2) (v := ?_) (ops_at rfl) (by kernel_rfl) (by kernel_rfl) (by kernel_rfl) (fun _ _ _ h => h) (Or.inl ⟨by rfl, ?ygc2⟩) (by assumption) ?ngc2
            case ygc2 => (intro wS hSw; (try dsimp only at hSw); go_simp; try rfl)
            try simp only [Act.put, List.setIfInBounds_toArray, List.set_cons_zero, List.set_cons_succ]
            refine wpAnyH_take (i := 3) (v := ?_) (ops_at rfl) (by kernel_rfl) (by kernel_rfl) (by kernel_rfl) (fun _ _ _ h => h) (Or.inl ⟨by rfl, ?ygc3⟩) (by assumption) ?ngc3
            case ygc3 => (intro wS hSw; (try dsimp only at hSw); go_simp; try rfl)
            try simp only [Act.put, List.setIfInBounds_toArray, List.set_cons_zero, List.set_cons_succ]
            refine wpAnyH_take (i := 4) (v := ?_) (ops_at rfl) (by kernel_rfl) (by kernel_rfl) (by kernel_rfl) (fun _ _ _ h => h) (Or.inl ⟨by rfl, ?ygc4⟩) (by assumption) ?ngc4
            case ygc4 => (intro wS hSw; (try dsimp only at hSw); go_simp; try rfl)
            try simp only [Act.put, List.setIfInBounds_toArray, List.set_cons_zero, List.set_cons_succ]
            refine wpAnyH_take (i := 5) (v := ?_) (ops_at rfl) (by kernel_rfl) (by kernel_rfl) (by kernel_rfl) (fun _ _ _ h => h) (Or.inl ⟨by rfl, ?ygc5⟩) (by assumption) ?ngc5
            case ygc5 => (intro wS hSw; (try dsimp only at hSw); go_simp; try rfl)
            try simp only [Act.put, List.setIfInBounds_toArray, List.set_cons_zero, List.set_cons_succ]
            refine wpAnyH_ready (rs := [6]) (by kernel_rfl) (by simp) ?_
            refine AllReadyH.cons (ops_at rfl) (fun K hK => ?_) AllReadyH.nil
            go_simp
            refine (noWorse_any x y z x2 y2 z2 _ true HWB.out).mono ?_
            rintro e w6 ⟨rfl, hb6'⟩
            have hb6 : Below wi.heap.size wi w6 := ⟨hb6'.os, hb6'.tape, hb6'.output, hb6'.size, hb6'.block⟩
            clear hb6'
            have HS6 := Lib.hid (show w6.cell? ⟨wr.heap.size, 0, none⟩ = some (.int .i64 x) ∧ w6.cell? ⟨wr.heap.size, 1, none⟩ = some (.int .i64 y) ∧ w6.cell? ⟨wr.heap.size, 2, none⟩ = some (.int .i64 z) ∧ w6.cell? ⟨w.heap.size, 0, none⟩ = some (.slice (some ⟨b2, off2, none⟩) n c) ∧ w6.cell? ⟨b2, off2 + k * 3, none⟩ = some (.int .i64 x2) ∧ w6.cell? ⟨b2, off2 + k * 3 + 1, none⟩ = some (.int .i64 y2) ∧ w6.cell? ⟨b2, off2 + k * 3 + 2, none⟩ = some (.int .i64 z2) from ⟨(hb6.cell HLT1.out).trans HSI.out.1, (hb6.cell HLT1.out).trans HSI.out.2.1, (hb6.cell HLT1.out).trans HSI.out.2.2.1, (hb6.cell HLT2.out).trans HSI.out.2.2.2.1, (hb6.cell HLT3.out).trans HSI.out.2.2.2.2.1, (hb6.cell HLT3.out).trans HSI.out.2.2.2.2.2.1, (hb6.cell HLT3.out).trans HSI.out.2.2.2.2.2.2⟩)
            have HB6 := Lib.hid (HBI.out.trans (hb6.mono HZI.out))
            clear hb6
            refine hK.out _ _ HS6.out (fun hHgc6 => ?_)
            clear hK K
            refine wpAnyH_take (i := 7) (v := ?_) (ops_at rfl) (by kernel_rfl) (by kernel_rfl) (by kernel_rfl) (fun _ _ _ h => h) (Or.inl ⟨by rfl, ?ygc7⟩) (by assumption) ?ngc7
            case ygc7 => (intro wS hSw; (try dsimp only at hSw); go_simp; try rfl)
            try simp only [Act.put, List.setIfInBounds_toArray, List.set_cons_zero, List.set_cons_succ]
            refine wpAnyH_take (i := 8) (v := ?_) (ops_at rfl) (by kernel_rfl) (by kernel_rfl) (by kernel_rfl) (fun _ _ _ h => h) (Or.inl ⟨by rfl, ?ygc8⟩) (by assumption) ?ngc8
            case ygc8 => (intro wS hSw; (try dsimp only at hSw); go_simp; try rfl)
            try simp only [Act.put, List.setIfInBounds_toArray, List.set_cons_zero, List.set_cons_succ]
            refine wpAnyH_take (i := 9) (v := ?_) (ops_at rfl) (by kernel_rfl) (by kernel_rfl) (by kernel_rfl) (fun _ _ _ h => h) (Or.inl ⟨by rfl, ?ygc9⟩) (by assumption) ?ngc9
            case ygc9 => (intro wS hSw; (try dsimp only at hSw); go_simp; try rfl)
            try simp only [Act.put, List.setIfInBounds_toArray, List.set_cons_zero, List.set_cons_succ]
            refine wpAnyH_take (i := 10) (v := ?_) (ops_at rfl) (by kernel_rfl) (by kernel_rfl) (by kernel_rfl) (fun _ _ _ h => h) (Or.inl ⟨by rfl, ?ygc10⟩) (by assumption) ?ngc10
            case ygc10 => (intro wS hSw; (try dsimp only at hSw); go_simp; try rfl)
            try simp only [Act.put, List.setIfInBounds_toArray, List.set_cons_zero, List.set_cons_succ]
            refine wpAnyH_take (i := 11) (v := ?_) (ops_at rfl) (by kernel_rfl) (by kernel_rfl) (by kernel_rfl) (fun _ _ _ h => h) (Or.inl ⟨by rfl, ?ygc11⟩) (by assumption) ?ngc11
            case ygc11 => (intro wS hSw; (try dsimp only at hSw); go_simp; try rfl)
            try simp only [Act.put, List.setIfInBounds_toArray, List.set_cons_zero, List.set_cons_succ]
            refine wpAnyH_take (i := 12) (v := ?_) (ops_at rfl) (by kernel_rfl) (by kernel_rfl) (by kernel_rfl) (fun _ _ _ h => h) (Or.inl ⟨by rfl, ?ygc12⟩) (by assumption) ?ngc12
            case ygc12 => (intro wS hSw; (try dsimp only at hSw); go_simp; try rfl)
            try simp only [Act.put, List.setIfInBounds_toArray, List.set_cons_zero, List.set_cons_succ]
            refine wpAnyH_take (i := 13) (v := ?_) (ops_at rfl) (by kernel_rfl) (by kernel_rfl) (by kernel_rfl) (fun _ _ _ h => h) (Or.inl ⟨by rfl, ?ygc13⟩) (by assumption) ?ngc13
            case ygc13 => (intro wS hSw; (try dsimp only at hSw); go_simp; try rfl)
            try simp only [Act.put, List.setIfInBounds_toArray, List.set_cons_zero, List.set_cons_succ]
            refine wpAnyH_take (i := 14) (v := ?_) (ops_at rfl) (by kernel_rfl) (by kernel_rfl) (by kernel_rfl) (fun _ _ _ h => h) (Or.inl ⟨by rfl, ?ygc14⟩) (by assumption) ?ngc14
            case ygc14 => (intro wS hSw; (try dsimp only at hSw); go_simp; try rfl)
            try simp only [Act.put, List.setIfInBounds_toArray, List.set_cons_zero, List.set_cons_succ]
            refine wpAnyH_take (i := 15) (v := ?_) (ops_at rfl) (by kernel_rfl) (by kernel_rfl) (by kernel_rfl) (fun _ _ _ h => h) (Or.inl ⟨by rfl, ?ygc15⟩) (by assumption) ?ngc15
            case ygc15 => (intro wS hSw; (try dsimp only at hSw); go_simp; try rfl)
            try simp only [Act.put, List.setIfInBounds_toArray, List.set_cons_zero, List.set_cons_succ]
            refine wpAnyH_take (i := 16) (v := ?_) (ops_at rfl) (by kernel_rfl) (by kernel_rfl) (by kernel_rfl) (fun _ _ _ h => h) (Or.inl ⟨by rfl, ?ygc16⟩) (by assumption) ?ngc16
            case ygc16 => (intro wS hSw; (try dsimp only at hSw); go_simp; try rfl)
            try simp only [Act.put, List.setIfInBounds_toArray, List.set_cons_zero, List.set_cons_succ]
            refine wpAnyH_take (i := 17) (v := ?_) (ops_at rfl) (by kernel_rfl) (by kernel_rfl) (by kernel_rfl) (fun _ _ _ h => h) (Or.inl ⟨by rfl, ?ygc17⟩) (by assumption) ?ngc17
            case ygc17 => (intro wS hSw; (try dsimp only at hSw); go_simp; try rfl)
            try simp only [Act.put, List.setIfInBounds_toArray, List.set_cons_zero, List.set_cons_succ]
            refine wpAnyH_take (i := 18) (v := ?_) (ops_at rfl) (by kernel_rfl) (by kernel_rfl) (by kernel_rfl) (fun _ _ _ h => h) (Or.inl ⟨by rfl, ?ygc18⟩) (by assumption) ?ngc18
            case ygc18 => (intro wS hSw; (try dsimp only at hSw); go_simp; try rfl)
            try simp only [Act.put, List.setIfInBounds_toArray, List.set_cons_zero, List.set_cons_succ]
            refine wpAnyH_take (i := 19) (v := ?_) (ops_at rfl) (by kernel_rfl) (by kernel_rfl) (by kernel_rfl) (fun _ _ _ h => h) (Or.inl ⟨by rfl, ?ygc19⟩) (by assumption) ?ngc19
            case ygc19 => (intro wS hSw; (try dsimp only at hSw); go_simp; try rfl)
            try simp only [Act.put, List.setIfInBounds_toArray, List.set_cons_zero, List.set_cons_succ]
            refine wpAnyH_take (i := 20) (v := ?_) (ops_at rfl) (by kernel_rfl) (by kernel_rfl) (by kernel_rfl) (fun _ _ _ h => h) (Or.inl ⟨by rfl, ?ygc20⟩) (by assumption) ?ngc20
            case ygc20 => (intro wS hSw; (try dsimp only at hSw); go_simp; try rfl)
            try simp only [Act.put, List.setIfInBounds_toArray, List.set_cons_zero, List.set_cons_succ]
            refine wpAnyH_done (by kernel_rfl) ?_ _
            go_wp2
            go_ret
            exact ⟨rfl, HB1.out.trans (HB6.out.mono (by omega))⟩
          · have HNX := Lib.hid (show hitK ts (x2, y2, z2) k (j + 1) = false by rw [hitK_next HX.out, HH.out, hitB, hwb, hdc, decide_eq_false hjk]; rfl)
            have hjk' : decide ((j : Int) < (k : Int)) = false := decide_eq_false (by omega)
            clear hwb hdc
            go_wp2_with fail
            try rw [HWI.out]
            refine wp_region_held_drew (S := (fun wq => wq.cell? ⟨wr.heap.size, 0, none⟩ = some (.int .i64 x) ∧ wq.cell? ⟨wr.heap.size, 1, none⟩ = some (.int .i64 y) ∧ wq.cell? ⟨wr.heap.size, 2, none⟩ = some (.int .i64 z) ∧ wq.cell? ⟨w.heap.size, 0, none⟩ = some (.slice (some ⟨b2, off2, none⟩) n c) ∧ wq.cell? ⟨b2, off2 + k * 3, none⟩ = some (.int .i64 x2) ∧ wq.cell? ⟨b2, off2 + k * 3 + 1, none⟩ = some (.int .i64 y2) ∧ wq.cell? ⟨b2, off2 + k * 3 + 2, none⟩ = some (.int .i64 z2))) (by kernel_rfl) HSI.out (fun hH0 => ?_)
            refine wpAnyH_take (i := 0) (v := ?_) (ops_at rfl) (by kernel_rfl) (by kernel_rfl) (by kernel_rfl) (fun _ _ _ h => h) (Or.inl ⟨by rfl, ?ygd0⟩) (by assumption) ?ngd0
            case ygd0 => (intro wS hSw; (try dsimp only at hSw); go_simp; try rfl)
            try simp only [Act.put, List.setIfInBounds_toArray, List.set_cons_zero, List.set_cons_succ]
            refine wpAnyH_take (i := 1) (v := ?_) (ops_at rfl) (by kernel_rfl) (by kernel_rfl) (by kernel_rfl) (fun _ _ _ h => h) (Or.inl ⟨by rfl, ?ygd1⟩) (by assumption) ?ngd1
            case ygd1 => (intro wS hSw; (try dsimp only at hSw); go_simp; try rfl)
            try simp only [Act.put, List.setIfInBounds_toArray, List.set_cons_zero, List.set_cons_succ]
            refine wpAnyH_take (i := 2) (v := ?_) (ops_at rfl) (by kernel_rfl) (by kernel_rfl) (by kernel_rfl) (fun _ _ _ h => h) (Or.inl ⟨by rfl, ?ygd2⟩) (by assumption) ?ngd2
            case ygd2 => (intro wS hSw; (try dsimp only at hSw); go_simp; try rfl)
            try simp only [Act.put, List.setIfInBounds_toArray, List.set_cons_zero, List.set_cons_succ]
            refine wpAnyH_take (i := 3) (v := ?_) (ops_at rfl) (by kernel_rfl) (by kernel_rfl) (by kernel_rfl) (fun _ _ _ h => h) (Or.inl ⟨by rfl, ?ygd3⟩) (by assumption) ?ngd3
            case ygd3 => (intro wS hSw; (try dsimp only at hSw); go_simp; try rfl)
            try simp only [Act.put, List.setIfInBounds_toArray, List.set_cons_zero, List.set_cons_succ]
            refine wpAnyH_take (i := 4) (v := ?_) (ops_at rfl) (by kernel_rfl) (by kernel_rfl) (by kernel_rfl) (fun _ _ _ h => h) (Or.inl ⟨by rfl, ?ygd4⟩) (by assumption) ?ngd4
            case ygd4 => (intro wS hSw; (try dsimp only at hSw); go_simp; try rfl)
            try simp only [Act.put, List.setIfInBounds_toArray, List.set_cons_zero, List.set_cons_succ]
            refine wpAnyH_take (i := 5) (v := ?_) (ops_at rfl) (by kernel_rfl) (by kernel_rfl) (by kernel_rfl) (fun _ _ _ h => h) (Or.inl ⟨by rfl, ?ygd5⟩) (by assumption) ?ngd5
            case ygd5 => (intro wS hSw; (try dsimp only at hSw); go_simp; try rfl)
            try simp only [Act.put, List.setIfInBounds_toArray, List.set_cons_zero, List.set_cons_succ]
            refine wpAnyH_ready (rs := [6]) (by kernel_rfl) (by simp) ?_
            refine AllReadyH.cons (ops_at rfl) (fun K hK => ?_) AllReadyH.nil
            go_simp
            refine (noWorse_any x y z x2 y2 z2 _ true HWB.out).mono ?_
            rintro e w6 ⟨rfl, hb6'⟩
            have hb6 : Below wi.heap.size wi w6 := ⟨hb6'.os, hb6'.tape, hb6'.output, hb6'.size, hb6'.block⟩
            clear hb6'
            have HS6 := Lib.hid (show w6.cell? ⟨wr.heap.size, 0, none⟩ = some (.int .i64 x) ∧ w6.cell? ⟨wr.heap.size, 1, none⟩ = some (.int .i64 y) ∧ w6.cell? ⟨wr.heap.size, 2, none⟩ = some (.int .i64 z) ∧ w6.cell? ⟨w.heap.size, 0, none⟩ = some (.slice (some ⟨b2, off2, none⟩) n c) ∧ w6.cell? ⟨b2, off2 + k * 3, none⟩ = some (.int .i64 x2) ∧ w6.cell? ⟨b2, off2 + k * 3 + 1, none⟩ = some (.int .i64 y2) ∧ w6.cell? ⟨b2, off2 + k * 3 + 2, none⟩ = some (.int .i64 z2) from ⟨(hb6.cell HLT1.out).trans HSI.out.1, (hb6.cell HLT1.out).trans HSI.out.2.1, (hb6.cell HLT1.out).trans HSI.out.2.2.1, (hb6.cell HLT2.out).trans HSI.out.2.2.2.1, (hb6.cell HLT3.out).trans HSI.out.2.2.2.2.1, (hb6.cell HLT3.out).trans HSI.out.2.2.2.2.2.1, (hb6.cell HLT3.out).trans HSI.out.2.2.2.2.2.2⟩)
            have HB6 := Lib.hid (HBI.out.trans (hb6.mono HZI.out))
            clear hb6
            refine hK.out _ _ HS6.out (fun hHgd6 => ?_)
            clear hK K
            refine wpAnyH_take (i := 7) (v := ?_) (ops_at rfl) (by kernel_rfl) (by kernel_rfl) (by kernel_rfl) (fun _ _ _ h => h) (Or.inl ⟨by rfl, ?ygd7⟩) (by assumption) ?ngd7
            case ygd7 => (intro wS hSw; (try dsimp only at hSw); go_simp; try rfl)
            try simp only [Act.put, List.setIfInBounds_toArray, List.set_cons_zero, List.set_cons_succ]
            refine wpAnyH_take (i := 8) (v := ?_) (ops_at rfl) (by kernel_rfl) (by kernel_rfl) (by kernel_rfl) (fun _ _ _ h => h) (Or.inl ⟨by rfl, ?ygd8⟩) (by assumption) ?ngd8
            case ygd8 => (intro wS hSw; (try dsimp only at hSw); go_simp; try rfl)
            try simp only [Act.put, List.setIfInBounds_toArray, List.set_cons_zero, List.set_cons_succ]
            refine wpAnyH_take (i := 9) (v := ?_) (ops_at rfl) (by kernel_rfl) (by kernel_rfl) (by kernel_rfl) (fun _ _ _ h => h) (Or.inl ⟨by rfl, ?ygd9⟩) (by assumption) ?ngd9
            case ygd9 => (intro wS hSw; (try dsimp only at hSw); go_simp; try rfl)
            try simp only [Act.put, List.setIfInBounds_toArray, List.set_cons_zero, List.set_cons_succ]
            refine wpAnyH_take (i := 10) (v := ?_) (ops_at rfl) (by kernel_rfl) (by kernel_rfl) (by kernel_rfl) (fun _ _ _ h => h) (Or.inl ⟨by rfl, ?ygd10⟩) (by assumption) ?ngd10
            case ygd10 => (intro wS hSw; (try dsimp only at hSw); go_simp; try rfl)
            try simp only [Act.put, List.setIfInBounds_toArray, List.set_cons_zero, List.set_cons_succ]
            refine wpAnyH_take (i := 11) (v := ?_) (ops_at rfl) (by kernel_rfl) (by kernel_rfl) (by kernel_rfl) (fun _ _ _ h => h) (Or.inl ⟨by rfl, ?ygd11⟩) (by assumption) ?ngd11
            case ygd11 => (intro wS hSw; (try dsimp only at hSw); go_simp; try rfl)
            try simp only [Act.put, List.setIfInBounds_toArray, List.set_cons_zero, List.set_cons_succ]
            refine wpAnyH_take (i := 12) (v := ?_) (ops_at rfl) (by kernel_rfl) (by kernel_rfl) (by kernel_rfl) (fun _ _ _ h => h) (Or.inl ⟨by rfl, ?ygd12⟩) (by assumption) ?ngd12
            case ygd12 => (intro wS hSw; (try dsimp only at hSw); go_simp; try rfl)
            try simp only [Act.put, List.setIfInBounds_toArray, List.set_cons_zero, List.set_cons_succ]
            refine wpAnyH_take (i := 13) (v := ?_) (ops_at rfl) (by kernel_rfl) (by kernel_rfl) (by kernel_rfl) (fun _ _ _ h => h) (Or.inl ⟨by rfl, ?ygd13⟩) (by assumption) ?ngd13
            case ygd13 => (intro wS hSw; (try dsimp only at hSw); go_simp; try rfl)
            try simp only [Act.put, List.setIfInBounds_toArray, List.set_cons_zero, List.set_cons_succ]
            refine wpAnyH_take (i := 14) (v := ?_) (ops_at rfl) (by kernel_rfl) (by kernel_rfl) (by kernel_rfl) (fun _ _ _ h => h) (Or.inl ⟨by rfl, ?ygd14⟩) (by assumption) ?ngd14
            case ygd14 => (intro wS hSw; (try dsimp only at hSw); go_simp; try rfl)
            try simp only [Act.put, List.setIfInBounds_toArray, List.set_cons_zero, List.set_cons_succ]
            refine wpAnyH_take (i := 15) (v := ?_) (ops_at rfl) (by kernel_rfl) (by kernel_rfl) (by kernel_rfl) (fun _ _ _ h => h) (Or.inl ⟨by rfl, ?ygd15⟩) (by assumption) ?ngd15
            case ygd15 => (intro wS hSw; (try dsimp only at hSw); go_simp; try rfl)
            try simp only [Act.put, List.setIfInBounds_toArray, List.set_cons_zero, List.set_cons_succ]
            refine wpAnyH_take (i := 16) (v := ?_) (ops_at rfl) (by kernel_rfl) (by kernel_rfl) (by kernel_rfl) (fun _ _ _ h => h) (Or.inl ⟨by rfl, ?ygd16⟩) (by assumption) ?ngd16
            case ygd16 => (intro wS hSw; (try dsimp only at hSw); go_simp; try rfl)
            try simp only [Act.put, List.setIfInBounds_toArray, List.set_cons_zero, List.set_cons_succ]
            refine wpAnyH_take (i := 17) (v := ?_) (ops_at rfl) (by kernel_rfl) (by kernel_rfl) (by kernel_rfl) (fun _ _ _ h => h) (Or.inl ⟨by rfl, ?ygd17⟩) (by assumption) ?ngd17
            case ygd17 => (intro wS hSw; (try dsimp only at hSw); go_simp; try rfl)
            try simp only [Act.put, List.setIfInBounds_toArray, List.set_cons_zero, List.set_cons_succ]
            refine wpAnyH_take (i := 18) (v := ?_) (ops_at rfl) (by kernel_rfl) (by kernel_rfl) (by kernel_rfl) (fun _ _ _ h => h) (Or.inl ⟨by rfl, ?ygd18⟩) (by assumption) ?ngd18
            case ygd18 => (intro wS hSw; (try dsimp only at hSw); go_simp; try rfl)
            try simp only [Act.put, List.setIfInBounds_toArray, List.set_cons_zero, List.set_cons_succ]
            refine wpAnyH_take (i := 19) (v := ?_) (ops_at rfl) (by kernel_rfl) (by kernel_rfl) (by kernel_rfl) (fun _ _ _ h => h) (Or.inl ⟨by rfl, ?ygd19⟩) (by assumption) ?ngd19
            case ygd19 => (intro wS hSw; (try dsimp only at hSw); go_simp; try rfl)
            try simp only [Act.put, List.setIfInBounds_toArray, List.set_cons_zero, List.set_cons_succ]
            refine wpAnyH_take (i := 20) (v := ?_) (ops_at rfl) (by kernel_rfl) (by kernel_rfl) (by kernel_rfl) (fun _ _ _ h => h) (Or.inl ⟨by rfl, ?ygd20⟩) (by assumption) ?ngd20
            case ygd20 => (intro wS hSw; (try dsimp only at hSw); go_simp; try rfl)
            try simp only [Act.put, List.setIfInBounds_toArray, List.set_cons_zero, List.set_cons_succ]
            refine wpAnyH_done (by kernel_rfl) ?_ _
            go_wp2
            go_roundw
            case rel => exact ⟨j + 1, by omega, by go_num, HB6.out, HNX.out⟩
            case measure => simp [intOf]; omega
    · obtain rfl : j = n := by omega
      obtain rfl : q = false := by rw [← HQ.out]; exact HH.out
      have HBF := Lib.hid (HB1.out.trans (hb.mono (by omega)))
      clear hb hh
      go_wp2
      go_ret
      exact ⟨rfl, HBF.out⟩
end Go.Proofs.Ytmgloknghoeheab
