/-
  What both programs answer of more room, and of the lightest choices.
  Conditions: lists of at most 1048576 items.
-/
import Derived.Test.YtmgloknghoeheaaSuE
import Derived.Deep.RegionHeld3
import Derived.BigQuiet
namespace Go.Proofs.Ytmgloknghoeheaa
set_option linter.unusedVariables false
open Go.RowKit

/-- More room is told. -/
def gainB (ts : List (Int × Int × Int)) (W B more : Int) : Bool := askI ts W B && inB more 0 200

set_option maxRecDepth 100000 in
set_option maxHeartbeats 1000000 in
theorem suGain_any (A : Option Addr) (n c : Nat) (W B W2 B2 : Int) (ts : List (Int × Int × Int)) (lo hi : Nat) (w : World) (hn : ts.length = n) (hg : OkI ts) (hW : 0 ≤ W) (hBB : 0 ≤ B) (hW2 : 0 ≤ W2) (hB2 : 0 ≤ B2) (hs : Seg w lo hi A (flat3 ts)) (hB : hi ≤ w.heap.size) :
    Calls Try.prog 71 #[.slice A n c, .agg #[.int .i64 W, .int .i64 B], .agg #[.int .i64 W2, .int .i64 B2]] w fun e w' => e = .returned (.int .i64 ((topI ts W2 B2).1 - (topI ts W B).1)) ∧ Below w.heap.size w w' := by
  have HN := Lib.hid hn
  have HG := Lib.hid hg
  have HT1 := Lib.hid (topI_same ts W B).2.1
  have HT2 := Lib.hid (topI_same ts W2 B2).2.1
  have hb1 := topI_bd hg hW hBB
  have hb2 := topI_bd hg hW2 hB2
  have HB0 := Lib.hid (((Below.refl w.heap.size w).alloc (Nat.le_refl _) (.cells #[.int .i64 W, .int .i64 B] 34)).alloc (by simp) (.cells #[.int .i64 W2, .int .i64 B2] 34))
  have HC0 := Lib.hid (new_at (w.alloc (.cells #[.int .i64 W, .int .i64 B] 34)) (.cells #[.int .i64 W2, .int .i64 B2] 34) (g := w.heap.size + 1) (by simp))
  have HS0 := Lib.hid (hs.below HB0.out hB)
  obtain ⟨t1, ht1⟩ : ∃ t1, (topI ts W B).1 = t1 := ⟨_, rfl⟩
  obtain ⟨t2, ht2⟩ : ∃ t2, (topI ts W2 B2).1 = t2 := ⟨_, rfl⟩
  rw [ht1] at hb1 HT1
  rw [ht2] at hb2 HT2
  have hw : IntKind.i64.wrap (t2 - t1) = t2 - t1 := by rw [IntKind.wrap_i64]; omega
  rw [ht1, ht2]
  clear hn hg hs ht1 ht2 hb1 hb2
  go_enter Try.func71, Try.ntmps71
  go_wp2_with fail
  refine (suBest_any A n c W B ts lo hi _ HN.out HG.out hW hBB HS0.out (by simp; omega)).mono ?_
  rw [← HT1.out]
  rintro e w1 ⟨A2, n2, c2, vs, rfl, _, _, hb1⟩
  have hcc := (hb1.block (w.heap.size + 1) (by simp)).trans HC0.out
  have k0 := cell_of hcc 0
  have k1 := cell_of hcc 1
  have HS1 := Lib.hid (HS0.out.below hb1 (by simp; omega))
  have hz1 : w.heap.size < w1.heap.size := by have := hb1.size; simp at this; omega
  have HB1 := Lib.hid (HB0.out.trans (hb1.mono (by simp; omega)))
  clear hb1 hcc
  go_wp2_with fail
  refine (suBest_any A n c W2 B2 ts lo hi _ HN.out HG.out hW2 hB2 HS1.out (by omega)).mono ?_
  rw [← HT2.out]
  rintro e w2 ⟨A3, n3, c3, vs3, rfl, _, _, hb2⟩
  have HB2 := Lib.hid (HB1.out.trans (hb2.mono (by omega)))
  clear hb2 k0 k1
  go_wp2
  go_ret
  exact ⟨rfl, HB2.out⟩

set_option maxRecDepth 100000 in
set_option maxHeartbeats 2000000 in
theorem gainOf_any (A : Option Addr) (n c : Nat) (W B W2 B2 : Int) (ts : List (Int × Int × Int)) (lo hi : Nat) (w : World) (hn : ts.length = n) (hg : OkI ts) (hW : 0 ≤ W ∧ W ≤ 4000) (hB1 : 0 ≤ B ∧ B ≤ 4000) (hW2 : 0 ≤ W2 ∧ W2 ≤ 4000) (hB2 : 0 ≤ B2 ∧ B2 ≤ 4000) (hs : Seg w lo hi A (flat3 ts)) (hB : hi ≤ w.heap.size) :
    Calls Try.prog 72 #[.agg #[.slice A n c, .int .i64 W, .int .i64 B], .agg #[.int .i64 W2, .int .i64 B2]] w fun e w' => e = .returned (.int .i64 ((topI ts W2 B2).1 - (topI ts W B).1)) ∧ Below w.heap.size w w' := by
  have HN := Lib.hid hn
  have HG := Lib.hid hg
  have hb1 := topI_bd hg hW.1 hB1.1
  have hb2 := topI_bd hg hW2.1 hB2.1
  obtain ⟨w3, hw3⟩ : ∃ w3, ((w.alloc (.cells #[.slice A n c, .int .i64 W, .int .i64 B] 62)).alloc (.cells #[.int .i64 W2, .int .i64 B2] 34)).alloc (.cells #[.slice A n c, .int .i64 W2, .int .i64 B2] 62) = w3 := ⟨_, rfl⟩
  have hb3 : Below w.heap.size w w3 := by rw [← hw3]; exact (((Below.refl w.heap.size w).alloc (Nat.le_refl _) _).alloc (by simp) _).alloc (by simp; omega) _
  have hz3 : w3.heap.size = w.heap.size + 3 := by rw [← hw3]; simp
  have hl1 : w3.heap[w.heap.size]? = some (.cells #[.slice A n c, .int .i64 W, .int .i64 B] 62 (0, 0)) := by rw [← hw3, alloc_old _ (by simp; omega), alloc_old _ (by simp)]; exact new_at w _ rfl
  have hl2 : w3.heap[w.heap.size + 1 + 1]? = some (.cells #[.slice A n c, .int .i64 W2, .int .i64 B2] 62 (0, 0)) := by rw [← hw3]; exact new_at _ _ (by simp)
  have HL3 := Lib.hid (show w3.cell? ⟨w.heap.size, 0, none⟩ = some (.slice A n c) ∧ w3.cell? ⟨w.heap.size, 1, none⟩ = some (.int .i64 W) ∧ w3.cell? ⟨w.heap.size, 2, none⟩ = some (.int .i64 B) ∧ w3.cell? ⟨w.heap.size + 1 + 1, 0, none⟩ = some (.slice A n c) ∧ w3.cell? ⟨w.heap.size + 1 + 1, 1, none⟩ = some (.int .i64 W2) ∧ w3.cell? ⟨w.heap.size + 1 + 1, 2, none⟩ = some (.int .i64 B2) from ⟨cell_of hl1 0, cell_of hl1 1, cell_of hl1 2, cell_of hl2 0, cell_of hl2 1, cell_of hl2 2⟩)
  have HW3 := Lib.hid hw3
  obtain ⟨wd, hwd⟩ : ∃ wd, w3.drew = wd := ⟨_, rfl⟩
  have hbd : Below w3.heap.size w3 wd := by rw [← hwd]; exact below_drewN (Below.refl _ _) 1
  have hzd : wd.heap.size = w3.heap.size := by rw [← hwd]; rfl
  have HLD := Lib.hid (show wd.cell? ⟨w.heap.size, 0, none⟩ = some (.slice A n c) ∧ wd.cell? ⟨w.heap.size, 1, none⟩ = some (.int .i64 W) ∧ wd.cell? ⟨w.heap.size, 2, none⟩ = some (.int .i64 B) ∧ wd.cell? ⟨w.heap.size + 1 + 1, 0, none⟩ = some (.slice A n c) ∧ wd.cell? ⟨w.heap.size + 1 + 1, 1, none⟩ = some (.int .i64 W2) ∧ wd.cell? ⟨w.heap.size + 1 + 1, 2, none⟩ = some (.int .i64 B2) by rw [← hwd]; exact HL3.out)
  have HSD := Lib.hid ((hs.below hb3 hB).below hbd (by omega))
  have HBD := Lib.hid (hb3.trans (hbd.mono (by omega)))
  have HWD := Lib.hid hwd
  obtain ⟨t1, ht1⟩ : ∃ t1, (topI ts W B).1 = t1 := ⟨_, rfl⟩
  obtain ⟨t2, ht2⟩ : ∃ t2, (topI ts W2 B2).1 = t2 := ⟨_, rfl⟩
  have HT1 := Lib.hid ht1
  have HT2 := Lib.hid ht2
  rw [ht1] at hb1
  rw [ht2] at hb2
  have hw : IntKind.i64.wrap (t2 - t1) = t2 - t1 := by rw [IntKind.wrap_i64]; omega
  rw [ht1, ht2]
  clear hn hg hs ht1 ht2 hb1 hb2 hb3 hw3 hl1 hl2 hwd hbd
  go_enter Try.func72, Try.ntmps72
  go_wp2_with fail
  rw [HW3.out]
  refine wp_region_held_drew (S := (fun wq => wq.cell? ⟨w.heap.size, 0, none⟩ = some (.slice A n c) ∧ wq.cell? ⟨w.heap.size, 1, none⟩ = some (.int .i64 W) ∧ wq.cell? ⟨w.heap.size, 2, none⟩ = some (.int .i64 B) ∧ wq.cell? ⟨w.heap.size + 1 + 1, 0, none⟩ = some (.slice A n c) ∧ wq.cell? ⟨w.heap.size + 1 + 1, 1, none⟩ = some (.int .i64 W2) ∧ wq.cell? ⟨w.heap.size + 1 + 1, 2, none⟩ = some (.int .i64 B2))) (by kernel_rfl) HL3.out (fun hH0 => ?_)
  refine wpAnyH_take (i := 0) (v := ?_) (ops_at rfl) (by kernel_rfl) (by kernel_rfl) (by kernel_rfl) (fun _ _ _ h => h) (Or.inl ⟨by rfl, ?ya0⟩) (by assumption) ?na0
  case ya0 => (intro wS hSw; (try dsimp only at hSw); go_simp; try rfl)
  try simp only [Act.put, List.setIfInBounds_toArray, List.set_cons_zero, List.set_cons_succ]
  refine wpAnyH_take (i := 3) (v := ?_) (ops_at rfl) (by kernel_rfl) (by kernel_rfl) (by kernel_rfl) (fun _ _ _ h => h) (Or.inl ⟨by rfl, ?ya3⟩) (by assumption) ?na3
  case ya3 => (intro wS hSw; (try dsimp only at hSw); go_simp; try rfl)
  try simp only [Act.put, List.setIfInBounds_toArray, List.set_cons_zero, List.set_cons_succ]
  refine wpAnyH_ready (rs := [1]) (by kernel_rfl) (by simp) ?_
  refine AllReadyH.cons (ops_at rfl) (fun K hK => ?_) AllReadyH.nil
  go_simp
  rw [HWD.out]
  refine (best_any A n c W2 B2 ts lo hi wd HN.out HG.out hW2 hB2 HSD.out (by omega)).mono ?_
  rintro e w4 ⟨A4, n4, c4, rfl, _, _, hb4⟩
  rw [HT2.out]
  have hfw4 := field_worth t2 A4 n4 c4 ((topI ts W2 B2).2.2 : Nat)
  have hz4 := hb4.size
  have HL4 := Lib.hid (show w4.cell? ⟨w.heap.size, 0, none⟩ = some (.slice A n c) ∧ w4.cell? ⟨w.heap.size, 1, none⟩ = some (.int .i64 W) ∧ w4.cell? ⟨w.heap.size, 2, none⟩ = some (.int .i64 B) ∧ w4.cell? ⟨w.heap.size + 1 + 1, 0, none⟩ = some (.slice A n c) ∧ w4.cell? ⟨w.heap.size + 1 + 1, 1, none⟩ = some (.int .i64 W2) ∧ w4.cell? ⟨w.heap.size + 1 + 1, 2, none⟩ = some (.int .i64 B2) from ⟨(hb4.cell (by show w.heap.size < wd.heap.size; omega)).trans HLD.out.1, (hb4.cell (by show w.heap.size < wd.heap.size; omega)).trans HLD.out.2.1, (hb4.cell (by show w.heap.size < wd.heap.size; omega)).trans HLD.out.2.2.1, (hb4.cell (by show w.heap.size + 1 + 1 < wd.heap.size; omega)).trans HLD.out.2.2.2.1, (hb4.cell (by show w.heap.size + 1 + 1 < wd.heap.size; omega)).trans HLD.out.2.2.2.2.1, (hb4.cell (by show w.heap.size + 1 + 1 < wd.heap.size; omega)).trans HLD.out.2.2.2.2.2⟩)
  have HS4 := Lib.hid (HSD.out.below hb4 (by omega))
  have HB4 := Lib.hid (HBD.out.trans (hb4.mono (by omega)))
  clear hb4
  refine hK.out _ _ HL4.out (fun hH1 => ?_)
  clear hK K
  refine wpAnyH_take (i := 2) (v := ?_) (ops_at rfl) (by kernel_rfl) (by kernel_rfl) (by kernel_rfl) (fun _ _ _ h => h) (Or.inl ⟨by rfl, ?yb2⟩) (by assumption) ?nb2
  case yb2 => (intro wS hSw; (try dsimp only at hSw); go_simp; try rfl)
  try simp only [Act.put, List.setIfInBounds_toArray, List.set_cons_zero, List.set_cons_succ]
  refine wpAnyH_ready (rs := [4]) (by kernel_rfl) (by simp) ?_
  refine AllReadyH.cons (ops_at rfl) (fun K hK => ?_) AllReadyH.nil
  go_simp
  refine (best_any A n c W B ts lo hi w4 HN.out HG.out hW hB1 HS4.out (by omega)).mono ?_
  rintro e w5 ⟨A5, n5, c5, rfl, _, _, hb5⟩
  rw [HT1.out]
  have hfw5 := field_worth t1 A5 n5 c5 ((topI ts W B).2.2 : Nat)
  have HL5 := Lib.hid (show w5.cell? ⟨w.heap.size, 0, none⟩ = some (.slice A n c) ∧ w5.cell? ⟨w.heap.size, 1, none⟩ = some (.int .i64 W) ∧ w5.cell? ⟨w.heap.size, 2, none⟩ = some (.int .i64 B) ∧ w5.cell? ⟨w.heap.size + 1 + 1, 0, none⟩ = some (.slice A n c) ∧ w5.cell? ⟨w.heap.size + 1 + 1, 1, none⟩ = some (.int .i64 W2) ∧ w5.cell? ⟨w.heap.size + 1 + 1, 2, none⟩ = some (.int .i64 B2) from ⟨(hb5.cell (by show w.heap.size < w4.heap.size; omega)).trans HL4.out.1, (hb5.cell (by show w.heap.size < w4.heap.size; omega)).trans HL4.out.2.1, (hb5.cell (by show w.heap.size < w4.heap.size; omega)).trans HL4.out.2.2.1, (hb5.cell (by show w.heap.size + 1 + 1 < w4.heap.size; omega)).trans HL4.out.2.2.2.1, (hb5.cell (by show w.heap.size + 1 + 1 < w4.heap.size; omega)).trans HL4.out.2.2.2.2.1, (hb5.cell (by show w.heap.size + 1 + 1 < w4.heap.size; omega)).trans HL4.out.2.2.2.2.2⟩)
  have HB5 := Lib.hid (HB4.out.trans (hb5.mono HB4.out.size))
  clear hb5
  refine hK.out _ _ HL5.out (fun hH2 => ?_)
  clear hK K
  refine wpAnyH_take (i := 5) (v := ?_) (ops_at rfl) (by kernel_rfl) (by kernel_rfl) (by kernel_rfl) (fun _ _ _ h => h) (Or.inl ⟨by rfl, ?yc5⟩) (by assumption) ?nc5
  case yc5 => (intro wS hSw; (try dsimp only at hSw); go_simp; try rfl)
  try simp only [Act.put, List.setIfInBounds_toArray, List.set_cons_zero, List.set_cons_succ]
  refine wpAnyH_take (i := 6) (v := ?_) (ops_at rfl) (by kernel_rfl) (by kernel_rfl) (by kernel_rfl) (fun _ _ _ h => h) (Or.inl ⟨by rfl, ?yc6⟩) (by assumption) ?nc6
  case yc6 => (intro wS hSw; (try dsimp only at hSw); go_simp; try rfl)
  try simp only [Act.put, List.setIfInBounds_toArray, List.set_cons_zero, List.set_cons_succ]
  refine wpAnyH_take (i := 7) (v := ?_) (ops_at rfl) (by kernel_rfl) (by kernel_rfl) (by kernel_rfl) (fun _ _ _ h => h) (Or.inl ⟨by rfl, ?yc7⟩) (by assumption) ?nc7
  case yc7 => (intro wS hSw; (try dsimp only at hSw); go_simp; try rfl)
  try simp only [Act.put, List.setIfInBounds_toArray, List.set_cons_zero, List.set_cons_succ]
  refine wpAnyH_done (by kernel_rfl) ?_ _
  go_wp2
  go_ret
  exact ⟨rfl, HB5.out⟩
set_option maxRecDepth 100000 in
set_option maxHeartbeats 2000000 in
theorem spec_GainOfWeight (A : Option Addr) (n c : Nat) (W B more : Int) (ts : List (Int × Int × Int)) (lo hi : Nat) (w : World) (hn : ts.length = n) (hlen : n ≤ 1048576) (hs : Seg w lo hi A (flat3 ts)) (hB : hi ≤ w.heap.size) (q : Bool) (hq : gainB ts W B more = q) :
    Calls Try.prog 40 #[.slice A n c, .agg #[.int .i64 W, .int .i64 B], .int .i64 more] w (RetI (if q = true then (topI ts (W + more) B).1 - (topI ts W B).1 else 0) q w) := by
  have HN := Lib.hid hn
  have HB0 := Lib.hid ((Below.refl w.heap.size w).alloc (Nat.le_refl _) (.cells #[.int .i64 W, .int .i64 B] 34))
  have HC0 := Lib.hid (new_at w (.cells #[.int .i64 W, .int .i64 B] 34) rfl)
  have HS0 := Lib.hid (hs.below HB0.out hB)
  cases ha : askI ts W B
  · obtain rfl : q = false := by rw [← hq, gainB, ha, Bool.false_and]
    have HQ := Lib.hid ha
    clear hn hq hs ha
    go_enter Try.func40, Try.ntmps40
    go_wp2_with fail
    refine (suAsked_any A n c W B ts lo hi _ HN.out hlen HS0.out (by simp; omega) _ HQ.out).mono ?_
    rintro e w1 ⟨rfl, hb1⟩
    have HB1 := Lib.hid (HB0.out.trans (hb1.mono (by simp)))
    go_wp2
    go_ret2
    exact ⟨rfl, HB1.out⟩
  · have HQ := Lib.hid ha
    obtain ⟨hg, hW, hBB⟩ := askI_true.1 ha
    have HG := Lib.hid (goodI_ok hg)
    cases hm : inB more 0 200
    · obtain rfl : q = false := by rw [← hq, gainB, hm, Bool.and_false]
      clear hn hq hs hg ha
      go_enter Try.func40, Try.ntmps40
      go_wp2_with fail
      refine (suAsked_any A n c W B ts lo hi _ HN.out hlen HS0.out (by simp; omega) _ HQ.out).mono ?_
      rintro e w1 ⟨rfl, hb1⟩
      have HB1 := Lib.hid (HB0.out.trans (hb1.mono (by simp)))
      clear hb1
      go_wp2_with fail
      refine (l1In_any more 0 200 false hm _).mono ?_
      rintro e w' ⟨rfl, rfl⟩
      go_wp2
      go_ret2
      exact ⟨rfl, HB1.out⟩
    · obtain rfl : q = true := by rw [← hq, gainB, ha, hm]; rfl
      have hmm := inB_true.1 hm
      have hwr : IntKind.i64.wrap (W + more) = W + more := by rw [IntKind.wrap_i64]; omega
      have hW2 : 0 ≤ (W + more) ∧ (W + more) ≤ 4000 := by omega
      have hB2 : 0 ≤ B ∧ B ≤ 4000 := by omega
      have hW4 : 0 ≤ W ∧ W ≤ 4000 := by omega
      have hB4 : 0 ≤ B ∧ B ≤ 4000 := by omega
      clear hn hq hs hg ha hmm
      go_enter Try.func40, Try.ntmps40
      go_wp2_with fail
      refine (suAsked_any A n c W B ts lo hi _ HN.out hlen HS0.out (by simp; omega) _ HQ.out).mono ?_
      rintro e w1 ⟨rfl, hb1⟩
      have HB1 := Lib.hid (HB0.out.trans (hb1.mono (by simp)))
      have hcc := (hb1.block w.heap.size (by simp)).trans HC0.out
      have HC1 := Lib.hid hcc
      have k0 := cell_of hcc 0
      have k1 := cell_of hcc 1
      have HS1 := Lib.hid (HS0.out.below hb1 (by simp; omega))
      have hz1' : w.heap.size < w1.heap.size := by have := hb1.size; simp at this; omega
      clear hb1 hcc
      go_wp2_with fail
      refine (l1In_any more 0 200 true hm _).mono ?_
      rintro e w' ⟨rfl, rfl⟩
      go_wp2_with fail
      refine (suGain_any A n c W B (W + more) B ts lo hi _ HN.out HG.out hW.1 hBB.1 hW2.1 hB2.1 HS1.out (by omega)).mono ?_
      rintro e w2 ⟨rfl, hb2⟩
      have HB2 := Lib.hid (HB1.out.trans (hb2.mono (by omega)))
      clear hb2 k0 k1
      go_wp2
      go_ret2
      exact ⟨rfl, HB2.out⟩

set_option maxRecDepth 100000 in
set_option maxHeartbeats 2000000 in
theorem impl_GainOfWeight (A : Option Addr) (n c : Nat) (W B more : Int) (ts : List (Int × Int × Int)) (lo hi : Nat) (w : World) (hn : ts.length = n) (hlen : n ≤ 1048576) (hs : Seg w lo hi A (flat3 ts)) (hB : hi ≤ w.heap.size) (q : Bool) (hq : gainB ts W B more = q) :
    Calls Try.prog 41 #[.slice A n c, .agg #[.int .i64 W, .int .i64 B], .int .i64 more] w (RetI (if q = true then (topI ts (W + more) B).1 - (topI ts W B).1 else 0) q w) := by
  have HN := Lib.hid hn
  have HB0 := Lib.hid ((Below.refl w.heap.size w).alloc (Nat.le_refl _) (.cells #[.int .i64 W, .int .i64 B] 34))
  have HC0 := Lib.hid (new_at w (.cells #[.int .i64 W, .int .i64 B] 34) rfl)
  have HS0 := Lib.hid (hs.below HB0.out hB)
  cases ha : askI ts W B
  · obtain rfl : q = false := by rw [← hq, gainB, ha, Bool.false_and]
    have HQ := Lib.hid ha
    clear hn hq hs ha
    go_enter Try.func41, Try.ntmps41
    go_wp2_with fail
    refine (luggage_no A n c W B ts lo hi _ HN.out hlen HS0.out (by simp; omega) HQ.out).mono ?_
    rintro e w1 ⟨rfl, hb1⟩
    have HB1 := Lib.hid (HB0.out.trans (hb1.mono (by simp)))
    go_wp2
    go_ret2
    exact ⟨rfl, HB1.out.alloc HB1.out.size _⟩
  · have HQ := Lib.hid ha
    obtain ⟨hg, hW, hBB⟩ := askI_true.1 ha
    have HG := Lib.hid (goodI_ok hg)
    cases hm : inB more 0 200
    · obtain rfl : q = false := by rw [← hq, gainB, hm, Bool.and_false]
      clear hn hq hs hg ha
      go_enter Try.func41, Try.ntmps41
      go_wp2_with fail
      refine (luggage_yes A n c W B ts lo hi _ HN.out hlen HS0.out (by simp; omega) HQ.out).mono ?_
      rintro e w1 ⟨rfl, hb1⟩
      have HB1 := Lib.hid (HB0.out.trans (hb1.mono (by simp)))
      go_wp2_with fail
      refine (isLimit_any more _ false hm).mono ?_
      rintro e w' ⟨rfl, rfl⟩
      go_wp2
      go_ret2
      exact ⟨rfl, HB1.out.alloc HB1.out.size _⟩
    · obtain rfl : q = true := by rw [← hq, gainB, ha, hm]; rfl
      have hmm := inB_true.1 hm
      have hwr : IntKind.i64.wrap (W + more) = W + more := by rw [IntKind.wrap_i64]; omega
      have hW2 : 0 ≤ (W + more) ∧ (W + more) ≤ 4000 := by omega
      have hB2 : 0 ≤ B ∧ B ≤ 4000 := by omega
      have hW4 : 0 ≤ W ∧ W ≤ 4000 := by omega
      have hB4 : 0 ≤ B ∧ B ≤ 4000 := by omega
      clear hn hq hs hg ha hmm
      go_enter Try.func41, Try.ntmps41
      go_wp2_with fail
      refine (luggage_yes A n c W B ts lo hi _ HN.out hlen HS0.out (by simp; omega) HQ.out).mono ?_
      rintro e w1 ⟨rfl, hb1⟩
      have HB1 := Lib.hid (HB0.out.trans (hb1.mono (by simp)))
      have hcc := (hb1.block w.heap.size (by simp)).trans HC0.out
      have HC1 := Lib.hid hcc
      have k0 := cell_of hcc 0
      have k1 := cell_of hcc 1
      have HS1 := Lib.hid (HS0.out.below hb1 (by simp; omega))
      have hz1' : w.heap.size < w1.heap.size := by have := hb1.size; simp at this; omega
      have hb1b := (Below.refl w1.heap.size w1).alloc (Nat.le_refl _) (.cells #[.slice A n c, .int .i64 W, .int .i64 B] 62)
      have HB2 := Lib.hid (HB1.out.trans (hb1b.mono HB1.out.size))
      have HS2 := Lib.hid (HS1.out.below hb1b (by omega))
      clear hb1 hb1b hcc
      go_wp2_with fail
      refine (isLimit_any more _ true hm).mono ?_
      rintro e w' ⟨rfl, rfl⟩
      go_wp2_with fail
      refine (gainOf_any A n c W B (W + more) B ts lo hi _ HN.out HG.out hW4 hB4 hW2 hB2 HS2.out (by simp; omega)).mono ?_
      rintro e w2 ⟨rfl, hb2⟩
      have HB3 := Lib.hid (HB2.out.trans (hb2.mono HB2.out.size))
      clear hb2 k0 k1
      go_wp2
      go_ret2
      exact ⟨rfl, HB3.out⟩

set_option maxRecDepth 100000 in
set_option maxHeartbeats 2000000 in
theorem spec_GainOfBulk (A : Option Addr) (n c : Nat) (W B more : Int) (ts : List (Int × Int × Int)) (lo hi : Nat) (w : World) (hn : ts.length = n) (hlen : n ≤ 1048576) (hs : Seg w lo hi A (flat3 ts)) (hB : hi ≤ w.heap.size) (q : Bool) (hq : gainB ts W B more = q) :
    Calls Try.prog 42 #[.slice A n c, .agg #[.int .i64 W, .int .i64 B], .int .i64 more] w (RetI (if q = true then (topI ts W (B + more)).1 - (topI ts W B).1 else 0) q w) := by
  have HN := Lib.hid hn
  have HB0 := Lib.hid ((Below.refl w.heap.size w).alloc (Nat.le_refl _) (.cells #[.int .i64 W, .int .i64 B] 34))
  have HC0 := Lib.hid (new_at w (.cells #[.int .i64 W, .int .i64 B] 34) rfl)
  have HS0 := Lib.hid (hs.below HB0.out hB)
  cases ha : askI ts W B
  · obtain rfl : q = false := by rw [← hq, gainB, ha, Bool.false_and]
    have HQ := Lib.hid ha
    clear hn hq hs ha
    go_enter Try.func42, Try.ntmps42
    go_wp2_with fail
    refine (suAsked_any A n c W B ts lo hi _ HN.out hlen HS0.out (by simp; omega) _ HQ.out).mono ?_
    rintro e w1 ⟨rfl, hb1⟩
    have HB1 := Lib.hid (HB0.out.trans (hb1.mono (by simp)))
    go_wp2
    go_ret2
    exact ⟨rfl, HB1.out⟩
  · have HQ := Lib.hid ha
    obtain ⟨hg, hW, hBB⟩ := askI_true.1 ha
    have HG := Lib.hid (goodI_ok hg)
    cases hm : inB more 0 200
    · obtain rfl : q = false := by rw [← hq, gainB, hm, Bool.and_false]
      clear hn hq hs hg ha
      go_enter Try.func42, Try.ntmps42
      go_wp2_with fail
      refine (suAsked_any A n c W B ts lo hi _ HN.out hlen HS0.out (by simp; omega) _ HQ.out).mono ?_
      rintro e w1 ⟨rfl, hb1⟩
      have HB1 := Lib.hid (HB0.out.trans (hb1.mono (by simp)))
      clear hb1
      go_wp2_with fail
      refine (l1In_any more 0 200 false hm _).mono ?_
      rintro e w' ⟨rfl, rfl⟩
      go_wp2
      go_ret2
      exact ⟨rfl, HB1.out⟩
    · obtain rfl : q = true := by rw [← hq, gainB, ha, hm]; rfl
      have hmm := inB_true.1 hm
      have hwr : IntKind.i64.wrap (B + more) = B + more := by rw [IntKind.wrap_i64]; omega
      have hW2 : 0 ≤ W ∧ W ≤ 4000 := by omega
      have hB2 : 0 ≤ (B + more) ∧ (B + more) ≤ 4000 := by omega
      have hW4 : 0 ≤ W ∧ W ≤ 4000 := by omega
      have hB4 : 0 ≤ B ∧ B ≤ 4000 := by omega
      clear hn hq hs hg ha hmm
      go_enter Try.func42, Try.ntmps42
      go_wp2_with fail
      refine (suAsked_any A n c W B ts lo hi _ HN.out hlen HS0.out (by simp; omega) _ HQ.out).mono ?_
      rintro e w1 ⟨rfl, hb1⟩
      have HB1 := Lib.hid (HB0.out.trans (hb1.mono (by simp)))
      have hcc := (hb1.block w.heap.size (by simp)).trans HC0.out
      have HC1 := Lib.hid hcc
      have k0 := cell_of hcc 0
      have k1 := cell_of hcc 1
      have HS1 := Lib.hid (HS0.out.below hb1 (by simp; omega))
      have hz1' : w.heap.size < w1.heap.size := by have := hb1.size; simp at this; omega
      clear hb1 hcc
      go_wp2_with fail
      refine (l1In_any more 0 200 true hm _).mono ?_
      rintro e w' ⟨rfl, rfl⟩
      go_wp2_with fail
      refine (suGain_any A n c W B W (B + more) ts lo hi _ HN.out HG.out hW.1 hBB.1 hW2.1 hB2.1 HS1.out (by omega)).mono ?_
      rintro e w2 ⟨rfl, hb2⟩
      have HB2 := Lib.hid (HB1.out.trans (hb2.mono (by omega)))
      clear hb2 k0 k1
      go_wp2
      go_ret2
      exact ⟨rfl, HB2.out⟩

set_option maxRecDepth 100000 in
set_option maxHeartbeats 2000000 in
theorem impl_GainOfBulk (A : Option Addr) (n c : Nat) (W B more : Int) (ts : List (Int × Int × Int)) (lo hi : Nat) (w : World) (hn : ts.length = n) (hlen : n ≤ 1048576) (hs : Seg w lo hi A (flat3 ts)) (hB : hi ≤ w.heap.size) (q : Bool) (hq : gainB ts W B more = q) :
    Calls Try.prog 43 #[.slice A n c, .agg #[.int .i64 W, .int .i64 B], .int .i64 more] w (RetI (if q = true then (topI ts W (B + more)).1 - (topI ts W B).1 else 0) q w) := by
  have HN := Lib.hid hn
  have HB0 := Lib.hid ((Below.refl w.heap.size w).alloc (Nat.le_refl _) (.cells #[.int .i64 W, .int .i64 B] 34))
  have HC0 := Lib.hid (new_at w (.cells #[.int .i64 W, .int .i64 B] 34) rfl)
  have HS0 := Lib.hid (hs.below HB0.out hB)
  cases ha : askI ts W B
  · obtain rfl : q = false := by rw [← hq, gainB, ha, Bool.false_and]
    have HQ := Lib.hid ha
    clear hn hq hs ha
    go_enter Try.func43, Try.ntmps43
    go_wp2_with fail
    refine (luggage_no A n c W B ts lo hi _ HN.out hlen HS0.out (by simp; omega) HQ.out).mono ?_
    rintro e w1 ⟨rfl, hb1⟩
    have HB1 := Lib.hid (HB0.out.trans (hb1.mono (by simp)))
    go_wp2
    go_ret2
    exact ⟨rfl, HB1.out.alloc HB1.out.size _⟩
  · have HQ := Lib.hid ha
    obtain ⟨hg, hW, hBB⟩ := askI_true.1 ha
    have HG := Lib.hid (goodI_ok hg)
    cases hm : inB more 0 200
    · obtain rfl : q = false := by rw [← hq, gainB, hm, Bool.and_false]
      clear hn hq hs hg ha
      go_enter Try.func43, Try.ntmps43
      go_wp2_with fail
      refine (luggage_yes A n c W B ts lo hi _ HN.out hlen HS0.out (by simp; omega) HQ.out).mono ?_
      rintro e w1 ⟨rfl, hb1⟩
      have HB1 := Lib.hid (HB0.out.trans (hb1.mono (by simp)))
      go_wp2_with fail
      refine (isLimit_any more _ false hm).mono ?_
      rintro e w' ⟨rfl, rfl⟩
      go_wp2
      go_ret2
      exact ⟨rfl, HB1.out.alloc HB1.out.size _⟩
    · obtain rfl : q = true := by rw [← hq, gainB, ha, hm]; rfl
      have hmm := inB_true.1 hm
      have hwr : IntKind.i64.wrap (B + more) = B + more := by rw [IntKind.wrap_i64]; omega
      have hW2 : 0 ≤ W ∧ W ≤ 4000 := by omega
      have hB2 : 0 ≤ (B + more) ∧ (B + more) ≤ 4000 := by omega
      have hW4 : 0 ≤ W ∧ W ≤ 4000 := by omega
      have hB4 : 0 ≤ B ∧ B ≤ 4000 := by omega
      clear hn hq hs hg ha hmm
      go_enter Try.func43, Try.ntmps43
      go_wp2_with fail
      refine (luggage_yes A n c W B ts lo hi _ HN.out hlen HS0.out (by simp; omega) HQ.out).mono ?_
      rintro e w1 ⟨rfl, hb1⟩
      have HB1 := Lib.hid (HB0.out.trans (hb1.mono (by simp)))
      have hcc := (hb1.block w.heap.size (by simp)).trans HC0.out
      have HC1 := Lib.hid hcc
      have k0 := cell_of hcc 0
      have k1 := cell_of hcc 1
      have HS1 := Lib.hid (HS0.out.below hb1 (by simp; omega))
      have hz1' : w.heap.size < w1.heap.size := by have := hb1.size; simp at this; omega
      have hb1b := (Below.refl w1.heap.size w1).alloc (Nat.le_refl _) (.cells #[.slice A n c, .int .i64 W, .int .i64 B] 62)
      have HB2 := Lib.hid (HB1.out.trans (hb1b.mono HB1.out.size))
      have HS2 := Lib.hid (HS1.out.below hb1b (by omega))
      clear hb1 hb1b hcc
      go_wp2_with fail
      refine (isLimit_any more _ true hm).mono ?_
      rintro e w' ⟨rfl, rfl⟩
      go_wp2_with fail
      refine (gainOf_any A n c W B W (B + more) ts lo hi _ HN.out HG.out hW4 hB4 hW2 hB2 HS2.out (by simp; omega)).mono ?_
      rintro e w2 ⟨rfl, hb2⟩
      have HB3 := Lib.hid (HB2.out.trans (hb2.mono HB2.out.size))
      clear hb2 k0 k1
      go_wp2
      go_ret2
      exact ⟨rfl, HB3.out⟩

end Go.Proofs.Ytmgloknghoeheaa
