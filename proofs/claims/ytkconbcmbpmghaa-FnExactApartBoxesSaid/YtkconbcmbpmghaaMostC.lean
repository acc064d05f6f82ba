/-
  The written program's longest lists of boxes that go together: longest nests, boxes apart.
  Conditions: the list has at most 1048576 boxes.
-/
import Derived.Test.YtkconbcmbpmghaaIsNest
import Derived.Test.YtkconbcmbpmghaaMostM
namespace Go.Proofs.Ytkconbcmbpmghaa
set_option linter.unusedVariables false
open Go.RowKit

set_option maxRecDepth 100000 in
set_option maxHeartbeats 2000000 in
theorem togL_any (gb : Nat) (A : Option Addr) (n c : Nat) (bs : List (Int × Int × Int)) (i j : Nat) (lo hi : Nat) (w : World) (hn : bs.length = n) (hs : Seg w lo hi A (flat3 bs)) (hgc : w.cell? ⟨gb, 0, none⟩ = some (.slice A n c)) (hi1 : i < n) (hj1 : j < n) (q : Bool) (hq : togL bs i j = q) :
    Calls Try.prog 76 #[.int .i64 (i : Int), .int .i64 (j : Int), .pointer (some ⟨gb, 0, none⟩)] w fun e w' => e = .returned (.bool q) ∧ Below w.heap.size w w' := by
  obtain ⟨b1, o1, x, y, z, rfl, _, _, hx, c0, c1, c2⟩ := hs.tri (k := i) (by rw [hn]; exact hi1)
  obtain ⟨b2, o2, x', y', z', hA, _, _, hx', d0, d1, d2⟩ := hs.tri (k := j) (by rw [hn]; exact hj1)
  obtain ⟨rfl, rfl⟩ : b1 = b2 ∧ o1 = o2 := by injection hA with hA; injection hA with h1 h2; exact ⟨h1, h2⟩
  have hq' : fitT (x, y, z) (x', y', z') = q := by rw [← hq, togL]; exact (fitL_at hx hx').symm
  have HF := Lib.hid hq'
  clear hA hx hx' hq hq'
  go_enter Try.func76, Try.ntmps76
  go_wp2_with fail
  refine wp_region_held_drew (S := (fun wq => Below w.heap.size w wq ∧ wq.cell? ⟨gb, 0, none⟩ = some (.slice (some ⟨b1, o1, none⟩) n c) ∧ wq.cell? ⟨b1, o1 + i * 3, none⟩ = some (.int .i64 x) ∧ wq.cell? ⟨b1, o1 + i * 3 + 1, none⟩ = some (.int .i64 y) ∧ wq.cell? ⟨b1, o1 + i * 3 + 2, none⟩ = some (.int .i64 z) ∧ wq.cell? ⟨b1, o1 + j * 3, none⟩ = some (.int .i64 x') ∧ wq.cell? ⟨b1, o1 + j * 3 + 1, none⟩ = some (.int .i64 y') ∧ wq.cell? ⟨b1, o1 + j * 3 + 2, none⟩ = some (.int .i64 z'))) (by kernel_rfl) ⟨below_drewN (Below.refl _ _) 1, hgc, c0, c1, c2, d0, d1, d2⟩ (fun hH0 => ?_)
  refine wpAnyH_take (i := 0) (v := ?_) (ops_at rfl) (by kernel_rfl) (by kernel_rfl) (by kernel_rfl) (fun _ _ _ h => h) (Or.inl ⟨by rfl, ?ya0⟩) (by assumption) ?na0
  case ya0 => (intro wS hSw; (try dsimp only at hSw); go_simp; try rfl)
  try simp only [Act.put, List.setIfInBounds_toArray, List.set_cons_zero, List.set_cons_succ]
  refine wpAnyH_take (i := 1) (v := ?_) (ops_at rfl) (by kernel_rfl) (by kernel_rfl) (by kernel_rfl) (fun _ _ _ h => h) (Or.inl ⟨by rfl, ?ya1⟩) (by assumption) ?na1
  case ya1 => (intro wS hSw; (try dsimp only at hSw); go_simp; try rfl)
  try simp only [Act.put, List.setIfInBounds_toArray, List.set_cons_zero, List.set_cons_succ]
  refine wpAnyH_take (i := 2) (v := ?_) (ops_at rfl) (by kernel_rfl) (by kernel_rfl) (by kernel_rfl) (fun _ _ _ h => h) (Or.inl ⟨by rfl, ?ya2⟩) (by assumption) ?na2
  case ya2 => (intro wS hSw; (try dsimp only at hSw); go_simp; try rfl)
  try simp only [Act.put, List.setIfInBounds_toArray, List.set_cons_zero, List.set_cons_succ]
  refine wpAnyH_take (i := 3) (v := ?_) (ops_at rfl) (by kernel_rfl) (by kernel_rfl) (by kernel_rfl) (fun _ _ _ h => h) (Or.inl ⟨by rfl, ?ya3⟩) (by assumption) ?na3
  case ya3 => (intro wS hSw; (try dsimp only at hSw); go_simp; try rfl)
  try simp only [Act.put, List.setIfInBounds_toArray, List.set_cons_zero, List.set_cons_succ]
  refine wpAnyH_take (i := 4) (v := ?_) (ops_at rfl) (by kernel_rfl) (by kernel_rfl) (by kernel_rfl) (fun _ _ _ h => h) (Or.inl ⟨by rfl, ?ya4⟩) (by assumption) ?na4
  case ya4 => (intro wS hSw; (try dsimp only at hSw); go_simp; try rfl)
  try simp only [Act.put, List.setIfInBounds_toArray, List.set_cons_zero, List.set_cons_succ]
  refine wpAnyH_take (i := 5) (v := ?_) (ops_at rfl) (by kernel_rfl) (by kernel_rfl) (by kernel_rfl) (fun _ _ _ h => h) (Or.inl ⟨by rfl, ?ya5⟩) (by assumption) ?na5
  case ya5 => (intro wS hSw; (try dsimp only at hSw); go_simp; try rfl)
  try simp only [Act.put, List.setIfInBounds_toArray, List.set_cons_zero, List.set_cons_succ]
  refine wpAnyH_take (i := 6) (v := ?_) (ops_at rfl) (by kernel_rfl) (by kernel_rfl) (by kernel_rfl) (fun _ _ _ h => h) (Or.inl ⟨by rfl, ?ya6⟩) (by assumption) ?na6
  case ya6 => (intro wS hSw; (try dsimp only at hSw); go_simp; try rfl)
  try simp only [Act.put, List.setIfInBounds_toArray, List.set_cons_zero, List.set_cons_succ]
  refine wpAnyH_take (i := 7) (v := ?_) (ops_at rfl) (by kernel_rfl) (by kernel_rfl) (by kernel_rfl) (fun _ _ _ h => h) (Or.inl ⟨by rfl, ?ya7⟩) (by assumption) ?na7
  case ya7 => (intro wS hSw; (try dsimp only at hSw); go_simp; try rfl)
  try simp only [Act.put, List.setIfInBounds_toArray, List.set_cons_zero, List.set_cons_succ]
  refine wpAnyH_ready (rs := [8]) (by kernel_rfl) (by simp) ?_
  refine AllReadyH.cons (ops_at rfl) (fun K hK => ?_) AllReadyH.nil
  go_simp
  refine (fits_any _ _ _ _ _ _ _ _ HF.out).mono ?_
  rintro e w1 ⟨rfl, hb1⟩
  refine hK.out _ _ ⟨(hH0.1).trans (hb1.mono (hH0.1).size), (hb1.cell (by have := cell_lt hH0.2.1; exact this)).trans hH0.2.1, (hb1.cell (by have := cell_lt hH0.2.2.1; exact this)).trans hH0.2.2.1, (hb1.cell (by have := cell_lt hH0.2.2.2.1; exact this)).trans hH0.2.2.2.1, (hb1.cell (by have := cell_lt hH0.2.2.2.2.1; exact this)).trans hH0.2.2.2.2.1, (hb1.cell (by have := cell_lt hH0.2.2.2.2.2.1; exact this)).trans hH0.2.2.2.2.2.1, (hb1.cell (by have := cell_lt hH0.2.2.2.2.2.2.1; exact this)).trans hH0.2.2.2.2.2.2.1, (hb1.cell (by have := cell_lt hH0.2.2.2.2.2.2.2; exact this)).trans hH0.2.2.2.2.2.2.2⟩ (fun hHa8 => ?_)
  clear hK K
  refine wpAnyH_take (i := 9) (v := ?_) (ops_at rfl) (by kernel_rfl) (by kernel_rfl) (by kernel_rfl) (fun _ _ _ h => h) (Or.inl ⟨by rfl, ?ya9⟩) (by assumption) ?na9
  case ya9 => (intro wS hSw; (try dsimp only at hSw); go_simp; try rfl)
  try simp only [Act.put, List.setIfInBounds_toArray, List.set_cons_zero, List.set_cons_succ]
  refine wpAnyH_done (by kernel_rfl) ?_ _
  go_wp2
  go_ret
  exact ⟨rfl, hHa8.1⟩

set_option maxRecDepth 100000 in
set_option maxHeartbeats 2000000 in
theorem togA_any (gb : Nat) (A : Option Addr) (n c : Nat) (bs : List (Int × Int × Int)) (i j : Nat) (lo hi : Nat) (w : World) (hn : bs.length = n) (hs : Seg w lo hi A (flat3 bs)) (hgc : w.cell? ⟨gb, 0, none⟩ = some (.slice A n c)) (hi1 : i < n) (hj1 : j < n) (q : Bool) (hq : togA bs i j = q) :
    Calls Try.prog 78 #[.int .i64 (i : Int), .int .i64 (j : Int), .pointer (some ⟨gb, 0, none⟩)] w fun e w' => e = .returned (.bool q) ∧ Below w.heap.size w w' := by
  obtain ⟨b1, o1, x, y, z, rfl, _, _, hx, c0, c1, c2⟩ := hs.tri (k := i) (by rw [hn]; exact hi1)
  obtain ⟨b2, o2, x', y', z', hA, _, _, hx', d0, d1, d2⟩ := hs.tri (k := j) (by rw [hn]; exact hj1)
  obtain ⟨rfl, rfl⟩ : b1 = b2 ∧ o1 = o2 := by injection hA with hA; injection hA with h1 h2; exact ⟨h1, h2⟩
  obtain ⟨f, hf⟩ : ∃ f, fitT (x, y, z) (x', y', z') = f := ⟨_, rfl⟩
  obtain ⟨g, hg⟩ : ∃ g, fitT (x', y', z') (x, y, z) = g := ⟨_, rfl⟩
  have hq' : (decide ((i : Int) < (j : Int)) && ((!f) && !g)) = q := by rw [← hq, togA, ← hf, ← hg]; rw [show (i : Int).toNat = i from rfl, show (j : Int).toNat = j from rfl, fitL_at hx hx', fitL_at hx' hx]
  have HF := Lib.hid hf
  have HG := Lib.hid hg
  have hP := par2 w (.cells #[.int .i64 x, .int .i64 y, .int .i64 z] 33) (.cells #[.int .i64 x', .int .i64 y', .int .i64 z'] 33)
  have hR := par2 w (.cells #[.int .i64 x', .int .i64 y', .int .i64 z'] 33) (.cells #[.int .i64 x, .int .i64 y, .int .i64 z] 33)
  have HR1 := Lib.hid (BoxAt.of hR.2)
  have HR2 := Lib.hid (BoxAt.of hR.1)
  have HB1 := Lib.hid (((Below.refl w.heap.size w).alloc (Nat.le_refl _) (.cells #[.int .i64 x', .int .i64 y', .int .i64 z'] 33)).alloc (by simp) (.cells #[.int .i64 x, .int .i64 y, .int .i64 z] 33))
  have HP1 := Lib.hid (BoxAt.of hP.1)
  have HP2 := Lib.hid (BoxAt.of hP.2)
  have HB0 := Lib.hid (((Below.refl w.heap.size w).alloc (Nat.le_refl _) (.cells #[.int .i64 x, .int .i64 y, .int .i64 z] 33)).alloc (by simp) (.cells #[.int .i64 x', .int .i64 y', .int .i64 z'] 33))
  clear hA hx hx' hq hf hg hP hR
  have hz1 := fun p : Obj => (Below.refl w.heap.size w).alloc (Nat.le_refl _) p
  have hz2 := fun p r : Obj => (hz1 p).alloc (by simp) r
  have y0a := fun p : Obj => ((hz1 p).cell (by have := cell_lt hgc; exact this)).trans hgc
  have y0b := fun p r : Obj => ((hz2 p r).cell (by have := cell_lt hgc; exact this)).trans hgc
  have y1a := fun p : Obj => ((hz1 p).cell (by have := cell_lt c0; exact this)).trans c0
  have y1b := fun p r : Obj => ((hz2 p r).cell (by have := cell_lt c0; exact this)).trans c0
  have y2a := fun p : Obj => ((hz1 p).cell (by have := cell_lt c1; exact this)).trans c1
  have y2b := fun p r : Obj => ((hz2 p r).cell (by have := cell_lt c1; exact this)).trans c1
  have y3a := fun p : Obj => ((hz1 p).cell (by have := cell_lt c2; exact this)).trans c2
  have y3b := fun p r : Obj => ((hz2 p r).cell (by have := cell_lt c2; exact this)).trans c2
  have y4a := fun p : Obj => ((hz1 p).cell (by have := cell_lt d0; exact this)).trans d0
  have y4b := fun p r : Obj => ((hz2 p r).cell (by have := cell_lt d0; exact this)).trans d0
  have y5a := fun p : Obj => ((hz1 p).cell (by have := cell_lt d1; exact this)).trans d1
  have y5b := fun p r : Obj => ((hz2 p r).cell (by have := cell_lt d1; exact this)).trans d1
  have y6a := fun p : Obj => ((hz1 p).cell (by have := cell_lt d2; exact this)).trans d2
  have y6b := fun p r : Obj => ((hz2 p r).cell (by have := cell_lt d2; exact this)).trans d2
  clear hz1 hz2
  by_cases hij : (i : Int) < (j : Int)
  · cases f
    · cases g
      all_goals
        have hq2 := hq'
        simp [hij] at hq2
        subst hq2
        clear hq'
        go_enter Try.func78, Try.ntmps78
        go_wp2_with fail
        go_region
        all_goals go_wp2_with fail
        all_goals
          first
            | (refine (fits_any x y z x' y' z' _ _ HF.out).mono ?_
               rintro e w1 ⟨rfl, hb1'⟩
               have hb1 := undrew hb1'
               have hp1 := HP1.out.below hb1
               have hp2 := HP2.out.below hb1
               have hB1 := HB0.out.trans (hb1.mono (by simp; omega))
               obtain ⟨e0, e1, e2⟩ := id hp1
               obtain ⟨f0, f1, f2⟩ := id hp2
               clear hb1 hb1' hp1 hp2
               go_wp2_with fail
               refine (fits_any x' y' z' x y z _ _ HG.out).mono ?_
               rintro e w2 ⟨rfl, hb2⟩
               go_wp2
               go_ret
               exact ⟨rfl, hB1.trans (hb2.mono hB1.size)⟩)
            | (refine (fits_any x y z x' y' z' _ _ HF.out).mono ?_
               rintro e w1 ⟨rfl, hb1'⟩
               have hb1 := undrew hb1'
               have hp1 := HR1.out.below hb1
               have hp2 := HR2.out.below hb1
               have hB1 := HB1.out.trans (hb1.mono (by simp; omega))
               obtain ⟨e0, e1, e2⟩ := id hp1
               obtain ⟨f0, f1, f2⟩ := id hp2
               clear hb1 hb1' hp1 hp2
               go_wp2_with fail
               refine (fits_any x' y' z' x y z _ _ HG.out).mono ?_
               rintro e w2 ⟨rfl, hb2⟩
               go_wp2
               go_ret
               exact ⟨rfl, hB1.trans (hb2.mono hB1.size)⟩)
    · have hq2 := hq'
      simp [hij] at hq2
      subst hq2
      clear hq'
      go_enter Try.func78, Try.ntmps78
      go_wp2_with fail
      go_region
      all_goals go_wp2_with fail
      all_goals
        first
          | (refine (fits_any x y z x' y' z' _ _ HF.out).mono ?_
             rintro e w1 ⟨rfl, hb1'⟩
             have hb1 := undrew hb1'
             have hp1 := HP1.out.below hb1
             have hp2 := HP2.out.below hb1
             have hB1 := HB0.out.trans (hb1.mono (by simp; omega))
             obtain ⟨e0, e1, e2⟩ := id hp1
             obtain ⟨f0, f1, f2⟩ := id hp2
             clear hb1 hb1' hp1 hp2
             go_wp2
             go_ret
             exact ⟨rfl, hB1⟩)
          | (refine (fits_any x y z x' y' z' _ _ HF.out).mono ?_
             rintro e w1 ⟨rfl, hb1'⟩
             have hb1 := undrew hb1'
             have hp1 := HR1.out.below hb1
             have hp2 := HR2.out.below hb1
             have hB1 := HB1.out.trans (hb1.mono (by simp; omega))
             obtain ⟨e0, e1, e2⟩ := id hp1
             obtain ⟨f0, f1, f2⟩ := id hp2
             clear hb1 hb1' hp1 hp2
             go_wp2
             go_ret
             exact ⟨rfl, hB1⟩)
  · have hij' : decide ((i : Int) < (j : Int)) = false := by simpa using hij
    obtain rfl : q = false := by rw [← hq', hij', Bool.false_and]
    have hij2 : ¬ i < j := by omega
    have hij3 : decide (i < j) = false := by simpa using hij2
    clear hq' hij
    go_enter Try.func78, Try.ntmps78
    go_wp2_with fail
    go_region
    all_goals go_wp2
    all_goals go_ret
    all_goals first | exact ⟨rfl, HB0.out.drew⟩ | exact ⟨rfl, HB1.out.drew⟩
end Go.Proofs.Ytkconbcmbpmghaa
