/-
  The written program's fewest boxes, the first plan with them, and how many there are.
  Conditions: lists of at most 1048576 numbers.
-/
import Derived.Test.YtoheoojpmndhoaaFewWalk
import Derived.Test.YtoheoojpmndhoaaFewFew
import Derived.Test.YtoheoojpmndhoaaByRuleF
namespace Go.Proofs.Ytoheoojpmndhoaa
set_option linter.unusedVariables false
open Go.RowKit

theorem pk_made {w : World} {P T Bo Bp n : Nat} {room : Int} {TH : Value} {few : Nat} {z0 z1 z2 z3 z4 z5 z6 z7 z8 : Value} (hb : w.heap[P]? = some (.cells #[z0, z1, z2, z3, z4, z5, z6, z7, z8] T (0, 0))) (hbo : Boxes w Bo n []) (hbp : Plan w Bp n []) (n1 : P ≠ Bo) (n2 : P ≠ Bp) (n3 : Bo ≠ Bp) (h9 : n ≤ 9) :
    Pk (((((((((w.setCell ⟨P, 0, none⟩ (.int .i64 0)).setCell ⟨P, 1, none⟩ (.int .i64 0)).setCell ⟨P, 2, none⟩ (.int .i64 room)).setCell ⟨P, 3, none⟩ (.slice (some ⟨Bo, 0, none⟩) 0 n)).setCell ⟨P, 4, none⟩ (.slice (some ⟨Bp, 0, none⟩) 0 n)).setCell ⟨P, 5, none⟩ TH).setCell ⟨P, 6, none⟩ (.int .i64 (few : Int))).setCell ⟨P, 7, none⟩ (.slice none 0 0)).setCell ⟨P, 8, none⟩ (.int .i64 0)) P T Bo Bp n room [] [] (restV TH few (.slice none 0 0) 0) := by
  refine ⟨?_, ?_, ?_, n1, n2, n3, Nat.zero_le _, Nat.zero_le _, h9⟩
  · rw [set_self (set_self (set_self (set_self (set_self (set_self (set_self (set_self (set_self hb _ _) _ _) _ _) _ _) _ _) _ _) _ _) _ _) _ _]
    simp [five, restV]
  · refine hbo.keep ?_
    iterate 9 rw [set_far _ (by exact Ne.symm n1)]
  · refine hbp.keep ?_
    iterate 9 rw [set_far _ (by exact Ne.symm n2)]

theorem only_made (w : World) (P : Nat) (v0 v1 v2 v3 v4 v5 v6 v7 v8 : Value) :
    Only (fun b => b = P) w (((((((((w.setCell ⟨P, 0, none⟩ v0).setCell ⟨P, 1, none⟩ v1).setCell ⟨P, 2, none⟩ v2).setCell ⟨P, 3, none⟩ v3).setCell ⟨P, 4, none⟩ v4).setCell ⟨P, 5, none⟩ v5).setCell ⟨P, 6, none⟩ v6).setCell ⟨P, 7, none⟩ v7).setCell ⟨P, 8, none⟩ v8) := by
  have h0 : Only (fun b => b = P) w w := Only.refl _ _
  have h1 := h0.setCell (p := ⟨P, 0, none⟩) (by rfl) v0
  have h2 := h1.setCell (p := ⟨P, 1, none⟩) (by rfl) v1
  have h3 := h2.setCell (p := ⟨P, 2, none⟩) (by rfl) v2
  have h4 := h3.setCell (p := ⟨P, 3, none⟩) (by rfl) v3
  have h5 := h4.setCell (p := ⟨P, 4, none⟩) (by rfl) v4
  have h6 := h5.setCell (p := ⟨P, 5, none⟩) (by rfl) v5
  have h7 := h6.setCell (p := ⟨P, 6, none⟩) (by rfl) v6
  have h8 := h7.setCell (p := ⟨P, 7, none⟩) (by rfl) v7
  exact h8.setCell (p := ⟨P, 8, none⟩) (by rfl) v8

theorem fold_search {room : Int} {xs : List Int} {m kf : Nat} {p : List Int × List Int} (hm : Least (allP room xs) m) (hp : (bestP room xs m).head? = some p) (hkf : (run 102 room xs ([], [])).1.length = kf) (hx : ∀ x ∈ xs, x ≤ room) :
    (plansL room (xs.drop 0) [] []).foldl visit (kf, none, 0) = (m, some p.1, (bestP room xs m).length) := by
  have hk : m ≤ kf := by
    rw [← hkf]
    exact hm.2 _ (run_leaf hx)
  rw [List.drop_zero]
  have := visit_least (L := allP room xs) hm hk
  rw [show plansL room xs [] [] = allP room xs from rfl, this]
  rw [show (allP room xs).filter (fun p => decide (p.2.length ≤ m)) = bestP room xs m from rfl, hp]
  rfl

/-- What the search hands over. -/
def SearchRet (n c m cnt : Nat) (A : Option Addr) (room : Int) (p : List Int) (w : World) (e : Ending) (w' : World) : Prop :=
  ∃ Bo Bp FV, e = .returned (.agg #[.int .i64 0, .int .i64 0, .int .i64 room, .slice (some ⟨Bo, 0, none⟩) 0 n, .slice (some ⟨Bp, 0, none⟩) 0 n, .slice A n c, .int .i64 (m : Int), FV, .int .i64 (cnt : Int)]) ∧
    (∃ g cc, FV = .slice (some ⟨g, 0, none⟩) p.length cc ∧ Own w' g (g + 1) (some ⟨g, 0, none⟩) p ∧ g < w'.heap.size ∧ w.heap.size ≤ g) ∧ Below w.heap.size w w'

set_option maxHeartbeats 4000000 in
set_option maxRecDepth 100000 in
theorem searchFewest_any (A : Option Addr) (n c : Nat) (xs : List Int) (room : Int) (lo hi : Nat) (w : World) (hn : xs.length = n) (hs : Seg w lo hi A xs) (hB : hi ≤ w.heap.size) (ha : askedB xs room = true) (m : Nat) (hm : Least (allP room xs) m) (p : List Int × List Int) (hp : (bestP room xs m).head? = some p) :
    Calls Try.prog 110 #[.slice A n c, .int .i64 room] w (SearchRet n c m (bestP room xs m).length A room p.1 w) := by
  obtain ⟨h1, h9, hx, hr⟩ := askedB_at ha
  rw [hn] at h1 h9
  have HN := Lib.hid hn
  have HX := Lib.hid hx
  have HA := Lib.hid ha
  have HM := Lib.hid hm
  have HP := Lib.hid hp
  clear hn hx ha hm hp
  go_enter Try.func110, Try.ntmps110
  go_wp2_with fail
  have hb0 : Below w.heap.size w (w.alloc (.cells #[.int .i64 0, .int .i64 0, .int .i64 0, .slice none 0 0, .slice none 0 0, .slice none 0 0, .int .i64 0, .slice none 0 0, .int .i64 0] 110)) := (Below.refl _ _).alloc (Nat.le_refl _) _
  obtain ⟨kf, hkf⟩ : ∃ kf, (run 102 room xs ([], [])).1.length = kf := ⟨_, rfl⟩
  have HKF := Lib.hid hkf
  refine (packByRule_first A n c xs room lo hi _ HN.out (hs.below hb0 hB) (Nat.le_trans hB hb0.size) HA.out).mono ?_
  unfold PkVal
  rw [hkf]
  rintro e w1 ⟨Bo0, Bp0, rfl, _, _, _, _, _, hb1⟩
  have hres := new_cells hb1
  have hsz1 := hb1.size
  simp at hsz1
  have hbel1 : Below w.heap.size w w1 := hb0.trans (hb1.mono (by simp))
  obtain ⟨cb, hcb⟩ : ∃ cb, w1.heap.size = cb := ⟨_, rfl⟩
  have HCB := Lib.hid hcb
  obtain ⟨wA, hwA⟩ : ∃ wA, w1.alloc (.cells #[.int .i64 (kf : Int), .int .i64 0, .int .i64 room, .slice (some ⟨Bo0, 0, none⟩) kf n, .slice (some ⟨Bp0, 0, none⟩) (run 102 room xs ([], [])).2.length n] 108) = wA := ⟨_, rfl⟩
  have HWA := Lib.hid hwA
  have hbA : Below w.heap.size w wA := by rw [← hwA]; exact hbel1.alloc hbel1.size _
  have hcbA : wA.heap[cb]? = some (.cells #[.int .i64 (kf : Int), .int .i64 0, .int .i64 room, .slice (some ⟨Bo0, 0, none⟩) kf n, .slice (some ⟨Bp0, 0, none⟩) (run 102 room xs ([], [])).2.length n] 108 (0, 0)) := by rw [← hwA]; exact new_at w1 _ hcb.symm
  have hresA : wA.heap[w.heap.size]? = some (.cells #[.int .i64 0, .int .i64 0, .int .i64 0, .slice none 0 0, .slice none 0 0, .slice none 0 0, .int .i64 0, .slice none 0 0, .int .i64 0] 110 (0, 0)) := by rw [← hwA]; exact (alloc_old w1 (by omega) _).trans hres
  have hcb3 := cell_of hcbA 3
  simp at hcb3
  have HRESA := Lib.hid hresA
  have HBA := Lib.hid hbA
  have hsA : w.heap.size < wA.heap.size := heap_lt hresA
  have hcA : cb < wA.heap.size := heap_lt hcbA
  clear hkf hcb hwA hres hcbA hresA hbel1 hb1 hbA hb0
  go_wp2_with fail
  rw [HWA.out, HCB.out]
  refine wp_region_held_drew (S := (fun wq => wq.cell? ⟨cb, 3, none⟩ = some (.slice (some ⟨Bo0, 0, none⟩) kf n))) (by kernel_rfl) hcb3 (fun hH0 => ?_)
  refine wpAnyH_take (i := 0) (v := ?_) (ops_at rfl) (by kernel_rfl) (by kernel_rfl) (by kernel_rfl) (fun _ _ _ h => h) (Or.inl ⟨by rfl, ?ys0⟩) (by assumption) ?ns0
  case ys0 => (intro wS hSw; (try dsimp only at hSw); go_simp; try rfl)
  try simp only [Act.put, List.setIfInBounds_toArray, List.set_cons_zero, List.set_cons_succ]
  refine wpAnyH_take (i := 1) (v := ?_) (ops_at rfl) (by kernel_rfl) (by kernel_rfl) (by kernel_rfl) (fun _ _ _ h => h) (Or.inl ⟨by rfl, ?ys1⟩) (by assumption) ?ns1
  case ys1 => (intro wS hSw; (try dsimp only at hSw); go_simp; try rfl)
  try simp only [Act.put, List.setIfInBounds_toArray, List.set_cons_zero, List.set_cons_succ]
  refine wpAnyH_take (i := 3) (v := ?_) (ops_at rfl) (by kernel_rfl) (by kernel_rfl) (by kernel_rfl) (fun _ _ _ h => h) (Or.inl ⟨by rfl, ?ys3⟩) (by assumption) ?ns3
  case ys3 => (intro wS hSw; (try dsimp only at hSw); go_simp; try rfl)
  try simp only [Act.put, List.setIfInBounds_toArray, List.set_cons_zero, List.set_cons_succ]
  refine wpAnyH_take (i := 4) (v := ?_) (ops_at rfl) (by kernel_rfl) (by kernel_rfl) (by kernel_rfl) (fun _ _ _ h => h) (Or.inl ⟨by rfl, ?ys4⟩) (by assumption) ?ns4
  case ys4 => (intro wS hSw; (try dsimp only at hSw); go_simp; try rfl)
  try simp only [Act.put, List.setIfInBounds_toArray, List.set_cons_zero, List.set_cons_succ]
  refine wpAnyH_take (i := 5) (v := ?_) (ops_at rfl) (by kernel_rfl) (by kernel_rfl) (by kernel_rfl) (fun _ _ _ h => h) (Or.inl ⟨by rfl, ?ys5⟩) (by assumption) ?ns5
  case ys5 => (intro wS hSw; (try dsimp only at hSw); go_simp; try rfl)
  try simp only [Act.put, List.setIfInBounds_toArray, List.set_cons_zero, List.set_cons_succ]
  refine wpAnyH_take (i := 6) (v := ?_) (ops_at rfl) (by kernel_rfl) (by kernel_rfl) (by kernel_rfl) (fun _ _ _ h => h) (Or.inl ⟨by rfl, ?ys6⟩) (by assumption) ?ns6
  case ys6 => (intro wS hSw; (try dsimp only at hSw); go_simp; try rfl)
  try simp only [Act.put, List.setIfInBounds_toArray, List.set_cons_zero, List.set_cons_succ]
  refine wpAnyH_ready (rs := [2, 8]) (by kernel_rfl) (by simp) ?_
  refine AllReadyH.cons (ops_at rfl) (fun K hK => ?_) (AllReadyH.cons (ops_at rfl) (fun K hK => ?_) AllReadyH.nil)
  · go_simp
    refine (newPacking_any A n c room _ h9).mono ?_
    rintro e w2 ⟨Bo, Bp, rfl, hbo0, hbp0, hne, hl1', hl2', hb2'⟩
    dsimp only
    have hb2 : Below wA.heap.size wA w2 := ⟨hb2'.os, hb2'.tape, hb2'.output, hb2'.size, hb2'.block⟩
    have hl1 : wA.heap.size ≤ Bo := hl1'
    have hl2 : wA.heap.size ≤ Bp := hl2'
    have hcb3b := (hb2.cell (cell_lt hcb3)).trans hcb3
    refine hK.out _ _ hcb3b (fun hH2 => ?_)
    clear hK K
    refine wpAnyH_take (i := 7) (v := ?_) (ops_at rfl) (by kernel_rfl) (by kernel_rfl) (by kernel_rfl) (fun _ _ _ h => h) (Or.inl ⟨by rfl, ?ya7⟩) (by assumption) ?na7
    case ya7 => (intro wS hSw; (try dsimp only at hSw); go_simp; try rfl)
    try simp only [Act.put, List.setIfInBounds_toArray, List.set_cons_zero, List.set_cons_succ]
    refine wpAnyH_ready (rs := [8]) (by kernel_rfl) (by simp) ?_
    refine AllReadyH.cons (ops_at rfl) (fun K hK => ?_) AllReadyH.nil
    go_simp
    have hblk := new_at w2 (.cells #[.int .i64 0, .int .i64 0, .int .i64 0, .slice none 0 0, .slice none 0 0, .slice none 0 0, .int .i64 0, .slice none 0 0, .int .i64 0] 110) rfl
    have hbo := hbo0.keep (w' := w2.alloc (.cells #[.int .i64 0, .int .i64 0, .int .i64 0, .slice none 0 0, .slice none 0 0, .slice none 0 0, .int .i64 0, .slice none 0 0, .int .i64 0] 110)) (alloc_old _ hbo0.lt _)
    have hbp := hbp0.keep (w' := w2.alloc (.cells #[.int .i64 0, .int .i64 0, .int .i64 0, .slice none 0 0, .slice none 0 0, .slice none 0 0, .int .i64 0, .slice none 0 0, .int .i64 0] 110)) (alloc_old _ hbp0.lt _)
    have hbW := hb2.alloc hb2.size (.cells #[.int .i64 0, .int .i64 0, .int .i64 0, .slice none 0 0, .slice none 0 0, .slice none 0 0, .int .i64 0, .slice none 0 0, .int .i64 0] 110)
    have hcb3c := (hbW.cell (cell_lt hcb3)).trans hcb3
    have hbol := hbo0.lt
    have hbpl := hbp0.lt
    refine hK.out _ _ hcb3c (fun hH8 => ?_)
    clear hK K
    have r0 := cell_of hblk 0
    have r1 := cell_of hblk 1
    have r2 := cell_of hblk 2
    have r3 := cell_of hblk 3
    have r4 := cell_of hblk 4
    have r5 := cell_of hblk 5
    have r6 := cell_of hblk 6
    have r7 := cell_of hblk 7
    have r8 := cell_of hblk 8
    simp at r0 r1 r2 r3 r4 r5 r6 r7 r8
    have q0 := frozen_of hblk 0
    have q1 := frozen_of hblk 1
    have q2 := frozen_of hblk 2
    have q3 := frozen_of hblk 3
    have q4 := frozen_of hblk 4
    have q5 := frozen_of hblk 5
    have q6 := frozen_of hblk 6
    have q7 := frozen_of hblk 7
    have q8 := frozen_of hblk 8
    refine wpAnyH_ready (rs := [9]) (by kernel_rfl) (by simp) ?_
    refine AllReadyH.cons (ops_at rfl) (fun K hK => ?_) AllReadyH.nil
    go_simp
    have hblkF := new_at w2 (.cells #[.int .i64 0, .int .i64 0, .int .i64 room, .slice (some ⟨Bo, 0, none⟩) 0 n, .slice (some ⟨Bp, 0, none⟩) 0 n, .slice A n c, .int .i64 (kf : Int), .slice none 0 0, .int .i64 0] 110) rfl
    have hboF := hbo0.keep (w' := w2.alloc (.cells #[.int .i64 0, .int .i64 0, .int .i64 room, .slice (some ⟨Bo, 0, none⟩) 0 n, .slice (some ⟨Bp, 0, none⟩) 0 n, .slice A n c, .int .i64 (kf : Int), .slice none 0 0, .int .i64 0] 110)) (alloc_old _ hbo0.lt _)
    have hbpF := hbp0.keep (w' := w2.alloc (.cells #[.int .i64 0, .int .i64 0, .int .i64 room, .slice (some ⟨Bo, 0, none⟩) 0 n, .slice (some ⟨Bp, 0, none⟩) 0 n, .slice A n c, .int .i64 (kf : Int), .slice none 0 0, .int .i64 0] 110)) (alloc_old _ hbp0.lt _)
    have hbF := hb2.alloc hb2.size (.cells #[.int .i64 0, .int .i64 0, .int .i64 room, .slice (some ⟨Bo, 0, none⟩) 0 n, .slice (some ⟨Bp, 0, none⟩) 0 n, .slice A n c, .int .i64 (kf : Int), .slice none 0 0, .int .i64 0] 110)
    have hcb3d := (hbF.cell (cell_lt hcb3)).trans hcb3
    refine hK.out _ _ hcb3d (fun hH9 => ?_)
    clear hK K r0 r1 r2 r3 r4 r5 r6 r7 r8 q0 q1 q2 q3 q4 q5 q6 q7 q8 hblk hbo hbp hbW hcb3b hcb3c hcb3d hH2 hH8 hH9
    obtain ⟨PP, hPP⟩ : ∃ PP, w2.heap.size = PP := ⟨_, rfl⟩
    obtain ⟨WX, hWX⟩ : ∃ WX, w2.alloc (.cells #[.int .i64 0, .int .i64 0, .int .i64 room, .slice (some ⟨Bo, 0, none⟩) 0 n, .slice (some ⟨Bp, 0, none⟩) 0 n, .slice A n c, .int .i64 (kf : Int), .slice none 0 0, .int .i64 0] 110) = WX := ⟨_, rfl⟩
    rw [hWX] at hblkF hboF hbpF hbF ⊢
    rw [hPP] at hblkF ⊢
    have hzz : WX.heap.size = PP + 1 := by rw [← hWX, ← hPP]; simp
    have hzb := hb2.size
    have HPKX := Lib.hid (show Pk WX PP 110 Bo Bp n room [] [] (restV (.slice A n c) kf (.slice none 0 0) 0) from ⟨hblkF.trans (by simp [five, restV]), hboF, hbpF, by omega, by omega, hne, Nat.zero_le _, Nat.zero_le _, h9⟩)
    have hbX := HBA.out.trans (hbF.mono (by omega))
    have HRX := Lib.hid ((hbF.block w.heap.size (by omega)).trans HRESA.out)
    clear hblkF hboF hbpF
    refine wpAnyH_done (by kernel_rfl) ?_ _
    have hPge : w.heap.size + 1 ≤ PP := by omega
    have hcount : 0 + (plansL room (xs.drop ([] : List Int).length) [] []).length ≤ 1000000000 := by
      have h1 := plansL_count (room := room) (r := xs.drop ([] : List Int).length) (pl := []) (ls := []) (by simp [HN.out]; omega)
      have h2 : 10 ^ (xs.drop ([] : List Int).length).length ≤ 10 ^ 9 := Nat.pow_le_pow_right (by omega) (by simp [HN.out]; omega)
      omega
    have hfold := fold_search HM.out HP.out HKF.out (fun x hx => (HX.out x hx).2.2)
    have HFO := Lib.hid hfold
    have hsX := hs.below hbX hB
    have hzX := hbX.size
    go_wp2_with fail
    refine (walk_any A n c xs room lo hi PP 110 Bo Bp (w.heap.size + 1) HN.out h1 h9 HX.out hr (by omega) n [] [] kf 0 none (.slice none 0 0) _ (by simp) (Nat.le_refl _) (fun y hy => by cases hy) (HPKX.out.keep (fun _ _ => rfl)) (.inl ⟨rfl, rfl⟩) (show w.heap.size + 1 ≤ WX.heap.size by omega) (hsX.keep (fun _ _ _ => rfl)) (show hi ≤ WX.heap.size by omega) hcount).mono ?_
    rw [show ([] : List Int).length = 0 from rfl, HFO.out]
    rintro e w4 ⟨rfl, FV, hpk4, hka4, ho4'⟩
    have ho4 : Only (Three PP Bo Bp) WX w4 := ⟨ho4'.os, ho4'.tape, ho4'.output, ho4'.size, ho4'.block⟩
    obtain ⟨g, cc, rfl, hg1, hg2, hg3⟩ : ∃ g cc, FV = .slice (some ⟨g, 0, none⟩) p.1.length cc ∧ Own w4 g (g + 1) (some ⟨g, 0, none⟩) p.1 ∧ g < w4.heap.size ∧ w.heap.size + 1 ≤ g := by
      rcases hka4 with ⟨h, _⟩ | ⟨q, g, cc, h1, h2, h3, h4, h5, _⟩
      · cases h
      · injection h1 with h1
        subst h1
        exact ⟨g, cc, h2, h3, h4, h5⟩
    have hres4 := (ho4.block w.heap.size (by omega) (by rintro (h | h | h) <;> omega)).trans HRX.out
    have c0 := hpk4.cell 0
    have c1 := hpk4.cell 1
    have c2 := hpk4.cell 2
    have c3 := hpk4.cell 3
    have c4 := hpk4.cell 4
    have c5 := hpk4.cell 5
    have c6 := hpk4.cell 6
    have c7 := hpk4.cell 7
    have c8 := hpk4.cell 8
    simp [five, restV] at c0 c1 c2 c3 c4 c5 c6 c7 c8
    have r0 := cell_of hres4 0
    have r1 := cell_of hres4 1
    have r2 := cell_of hres4 2
    have r3 := cell_of hres4 3
    have r4 := cell_of hres4 4
    have r5 := cell_of hres4 5
    have r6 := cell_of hres4 6
    have r7 := cell_of hres4 7
    have r8 := cell_of hres4 8
    simp at r0 r1 r2 r3 r4 r5 r6 r7 r8
    have q0 := frozen_of hres4 0
    have q1 := frozen_of hres4 1
    have q2 := frozen_of hres4 2
    have q3 := frozen_of hres4 3
    have q4 := frozen_of hres4 4
    have q5 := frozen_of hres4 5
    have q6 := frozen_of hres4 6
    have q7 := frozen_of hres4 7
    have q8 := frozen_of hres4 8
    have HG1 := Lib.hid hg1
    have hbF := Lib.hid (hbX.trans (ho4.below (by omega) (fun b hb => by rcases hb with rfl | rfl | rfl <;> omega)))
    have hw4 := ho4.size
    clear hpk4 hka4 ho4 ho4' hg1 hcount hfold
    have hgne : g ≠ w.heap.size := by omega
    go_wp2_with fail
    refine bodyPost_ret (v := .agg #[.int .i64 0, .int .i64 0, .int .i64 room, .slice (some ⟨Bo, 0, none⟩) 0 n, .slice (some ⟨Bp, 0, none⟩) 0 n, .slice A n c, .int .i64 (m : Int), .slice (some ⟨g, 0, none⟩) p.1.length cc, .int .i64 ((bestP room xs m).length : Int)]) (by simp [results, Try.results110, go_sem, r0, r1, r2, r3, r4, r5, r6, r7, r8]) rfl ?_
    refine ⟨Bo, Bp, _, rfl, ⟨g, cc, rfl, HG1.out.keep (fun b hb1 hb2 => ?_), ?_, by omega⟩, ?_⟩
    · obtain rfl : b = g := by omega
      iterate 9 rw [set_far _ (by exact hgne)]
    · simp only [World.size_setCell]
      exact hg2
    · exact ((((((((hbF.out.setCell (p := ⟨w.heap.size, 0, none⟩) (Nat.le_refl _) _).setCell (p := ⟨w.heap.size, 1, none⟩) (Nat.le_refl _) _).setCell (p := ⟨w.heap.size, 2, none⟩) (Nat.le_refl _) _).setCell (p := ⟨w.heap.size, 3, none⟩) (Nat.le_refl _) _).setCell (p := ⟨w.heap.size, 4, none⟩) (Nat.le_refl _) _).setCell (p := ⟨w.heap.size, 5, none⟩) (Nat.le_refl _) _).setCell (p := ⟨w.heap.size, 6, none⟩) (Nat.le_refl _) _).setCell (p := ⟨w.heap.size, 7, none⟩) (Nat.le_refl _) _).setCell (p := ⟨w.heap.size, 8, none⟩) (Nat.le_refl _) _
  · go_simp
    have hblk0 := new_at wA (.cells #[.int .i64 0, .int .i64 0, .int .i64 0, .slice none 0 0, .slice none 0 0, .slice none 0 0, .int .i64 0, .slice none 0 0, .int .i64 0] 110) rfl
    obtain ⟨wB, hwB⟩ : ∃ wB, wA.alloc (.cells #[.int .i64 0, .int .i64 0, .int .i64 0, .slice none 0 0, .slice none 0 0, .slice none 0 0, .int .i64 0, .slice none 0 0, .int .i64 0] 110) = wB := ⟨_, rfl⟩
    obtain ⟨PP, hPP⟩ : ∃ PP, wA.heap.size = PP := ⟨_, rfl⟩
    have hbB : Below wA.heap.size wA wB := by rw [← hwB]; exact (Below.refl _ _).alloc (Nat.le_refl _) _
    have hzB : wB.heap.size = PP + 1 := by rw [← hwB, ← hPP]; simp
    have hcb3b := (hbB.cell (cell_lt hcb3)).trans hcb3
    rw [hwB] at hblk0 ⊢
    rw [hPP] at hblk0 ⊢
    refine hK.out _ _ hcb3b (fun hH8 => ?_)
    clear hK K
    refine wpAnyH_ready (rs := [2]) (by kernel_rfl) (by simp) ?_
    refine AllReadyH.cons (ops_at rfl) (fun K hK => ?_) AllReadyH.nil
    go_simp
    refine (newPacking_any A n c room _ h9).mono ?_
    rintro e w2 ⟨Bo, Bp, rfl, hbo0, hbp0, hne, hl1', hl2', hb2'⟩
    dsimp only
    have hb2 : Below wB.heap.size wB w2 := ⟨hb2'.os, hb2'.tape, hb2'.output, hb2'.size, hb2'.block⟩
    have hl1 : wB.heap.size ≤ Bo := hl1'
    have hl2 : wB.heap.size ≤ Bp := hl2'
    have hcb3c := (hb2.cell (cell_lt hcb3b)).trans hcb3b
    have hblk := (hb2.block PP (by omega)).trans hblk0
    refine hK.out _ _ hcb3c (fun hH2 => ?_)
    clear hK K
    refine wpAnyH_take (i := 7) (v := ?_) (ops_at rfl) (by kernel_rfl) (by kernel_rfl) (by kernel_rfl) (fun _ _ _ h => h) (Or.inl ⟨by rfl, ?yb7⟩) (by assumption) ?nb7
    case yb7 => (intro wS hSw; (try dsimp only at hSw); go_simp; try rfl)
    try simp only [Act.put, List.setIfInBounds_toArray, List.set_cons_zero, List.set_cons_succ]
    have r0 := cell_of hblk 0
    have r1 := cell_of hblk 1
    have r2 := cell_of hblk 2
    have r3 := cell_of hblk 3
    have r4 := cell_of hblk 4
    have r5 := cell_of hblk 5
    have r6 := cell_of hblk 6
    have r7 := cell_of hblk 7
    have r8 := cell_of hblk 8
    simp at r0 r1 r2 r3 r4 r5 r6 r7 r8
    have q0 := frozen_of hblk 0
    have q1 := frozen_of hblk 1
    have q2 := frozen_of hblk 2
    have q3 := frozen_of hblk 3
    have q4 := frozen_of hblk 4
    have q5 := frozen_of hblk 5
    have q6 := frozen_of hblk 6
    have q7 := frozen_of hblk 7
    have q8 := frozen_of hblk 8
    have n1 : PP ≠ Bo := by omega
    have n2 : PP ≠ Bp := by omega
    have hpk := pk_made (TH := .slice A n c) (few := kf) (room := room) (n := n) hblk hbo0 hbp0 n1 n2 hne h9
    have hcbne : ¬ cb = PP := by omega
    refine wpAnyH_ready (rs := [9]) (by kernel_rfl) (by simp) ?_
    refine AllReadyH.cons (ops_at rfl) (fun K hK => ?_) AllReadyH.nil
    go_simp
    have hoF : Only (fun b => b = PP) w2 (((((((((w2.setCell ⟨PP, 0, none⟩ (.int .i64 0)).setCell ⟨PP, 1, none⟩ (.int .i64 0)).setCell ⟨PP, 2, none⟩ (.int .i64 room)).setCell ⟨PP, 3, none⟩ (.slice (some ⟨Bo, 0, none⟩) 0 n)).setCell ⟨PP, 4, none⟩ (.slice (some ⟨Bp, 0, none⟩) 0 n)).setCell ⟨PP, 5, none⟩ (.slice A n c)).setCell ⟨PP, 6, none⟩ (.int .i64 (kf : Int))).setCell ⟨PP, 7, none⟩ (.slice none 0 0)).setCell ⟨PP, 8, none⟩ (.int .i64 0)) := only_made w2 PP _ _ _ _ _ _ _ _ _
    obtain ⟨WX, hWX⟩ : ∃ WX, (((((((((w2.setCell ⟨PP, 0, none⟩ (.int .i64 0)).setCell ⟨PP, 1, none⟩ (.int .i64 0)).setCell ⟨PP, 2, none⟩ (.int .i64 room)).setCell ⟨PP, 3, none⟩ (.slice (some ⟨Bo, 0, none⟩) 0 n)).setCell ⟨PP, 4, none⟩ (.slice (some ⟨Bp, 0, none⟩) 0 n)).setCell ⟨PP, 5, none⟩ (.slice A n c)).setCell ⟨PP, 6, none⟩ (.int .i64 (kf : Int))).setCell ⟨PP, 7, none⟩ (.slice none 0 0)).setCell ⟨PP, 8, none⟩ (.int .i64 0)) = WX := ⟨_, rfl⟩
    rw [hWX] at hpk hoF ⊢
    have hcb3d : WX.cell? ⟨cb, 3, none⟩ = some (.slice (some ⟨Bo0, 0, none⟩) kf n) := (World.cell?_of_block (w := w2) (w' := WX) (a := ⟨cb, 3, none⟩) (hoF.block cb (cell_lt hcb3c) hcbne)).trans hcb3c
    refine hK.out _ _ hcb3d (fun hH9 => ?_)
    clear hK K r0 r1 r2 r3 r4 r5 r6 r7 r8 q0 q1 q2 q3 q4 q5 q6 q7 q8
    have HPKX := Lib.hid hpk
    have hzX2 := hoF.size
    have hzb := hb2.size
    have hbX := (HBA.out.trans ((hbB.trans (hb2.mono (by omega))).mono (by omega))).trans (hoF.below (B := w.heap.size) (by omega) (fun b hb => by subst hb; omega))
    have HRX := Lib.hid ((hoF.block w.heap.size (by omega) (by omega)).trans ((hb2.block w.heap.size (by omega)).trans ((hbB.block w.heap.size (by omega)).trans HRESA.out)))
    clear hpk hoF hblk hblk0 hcb3b hcb3c hcb3d hH2 hH8 hH9
    refine wpAnyH_done (by kernel_rfl) ?_ _
    have hPge : w.heap.size + 1 ≤ PP := by omega
    have hcount : 0 + (plansL room (xs.drop ([] : List Int).length) [] []).length ≤ 1000000000 := by
      have h1 := plansL_count (room := room) (r := xs.drop ([] : List Int).length) (pl := []) (ls := []) (by simp [HN.out]; omega)
      have h2 : 10 ^ (xs.drop ([] : List Int).length).length ≤ 10 ^ 9 := Nat.pow_le_pow_right (by omega) (by simp [HN.out]; omega)
      omega
    have hfold := fold_search HM.out HP.out HKF.out (fun x hx => (HX.out x hx).2.2)
    have HFO := Lib.hid hfold
    have hsX := hs.below hbX hB
    have hzX := hbX.size
    go_wp2_with fail
    refine (walk_any A n c xs room lo hi PP 110 Bo Bp (w.heap.size + 1) HN.out h1 h9 HX.out hr (by omega) n [] [] kf 0 none (.slice none 0 0) _ (by simp) (Nat.le_refl _) (fun y hy => by cases hy) (HPKX.out.keep (fun _ _ => rfl)) (.inl ⟨rfl, rfl⟩) (show w.heap.size + 1 ≤ WX.heap.size by omega) (hsX.keep (fun _ _ _ => rfl)) (show hi ≤ WX.heap.size by omega) hcount).mono ?_
    rw [show ([] : List Int).length = 0 from rfl, HFO.out]
    rintro e w4 ⟨rfl, FV, hpk4, hka4, ho4'⟩
    have ho4 : Only (Three PP Bo Bp) WX w4 := ⟨ho4'.os, ho4'.tape, ho4'.output, ho4'.size, ho4'.block⟩
    obtain ⟨g, cc, rfl, hg1, hg2, hg3⟩ : ∃ g cc, FV = .slice (some ⟨g, 0, none⟩) p.1.length cc ∧ Own w4 g (g + 1) (some ⟨g, 0, none⟩) p.1 ∧ g < w4.heap.size ∧ w.heap.size + 1 ≤ g := by
      rcases hka4 with ⟨h, _⟩ | ⟨q, g, cc, h1, h2, h3, h4, h5, _⟩
      · cases h
      · injection h1 with h1
        subst h1
        exact ⟨g, cc, h2, h3, h4, h5⟩
    have hres4 := (ho4.block w.heap.size (by omega) (by rintro (h | h | h) <;> omega)).trans HRX.out
    have c0 := hpk4.cell 0
    have c1 := hpk4.cell 1
    have c2 := hpk4.cell 2
    have c3 := hpk4.cell 3
    have c4 := hpk4.cell 4
    have c5 := hpk4.cell 5
    have c6 := hpk4.cell 6
    have c7 := hpk4.cell 7
    have c8 := hpk4.cell 8
    simp [five, restV] at c0 c1 c2 c3 c4 c5 c6 c7 c8
    have r0 := cell_of hres4 0
    have r1 := cell_of hres4 1
    have r2 := cell_of hres4 2
    have r3 := cell_of hres4 3
    have r4 := cell_of hres4 4
    have r5 := cell_of hres4 5
    have r6 := cell_of hres4 6
    have r7 := cell_of hres4 7
    have r8 := cell_of hres4 8
    simp at r0 r1 r2 r3 r4 r5 r6 r7 r8
    have q0 := frozen_of hres4 0
    have q1 := frozen_of hres4 1
    have q2 := frozen_of hres4 2
    have q3 := frozen_of hres4 3
    have q4 := frozen_of hres4 4
    have q5 := frozen_of hres4 5
    have q6 := frozen_of hres4 6
    have q7 := frozen_of hres4 7
    have q8 := frozen_of hres4 8
    have HG1 := Lib.hid hg1
    have hbF := Lib.hid (hbX.trans (ho4.below (by omega) (fun b hb => by rcases hb with rfl | rfl | rfl <;> omega)))
    have hw4 := ho4.size
    clear hpk4 hka4 ho4 ho4' hg1 hcount hfold
    have hgne : g ≠ w.heap.size := by omega
    go_wp2_with fail
    refine bodyPost_ret (v := .agg #[.int .i64 0, .int .i64 0, .int .i64 room, .slice (some ⟨Bo, 0, none⟩) 0 n, .slice (some ⟨Bp, 0, none⟩) 0 n, .slice A n c, .int .i64 (m : Int), .slice (some ⟨g, 0, none⟩) p.1.length cc, .int .i64 ((bestP room xs m).length : Int)]) (by simp [results, Try.results110, go_sem, r0, r1, r2, r3, r4, r5, r6, r7, r8]) rfl ?_
    refine ⟨Bo, Bp, _, rfl, ⟨g, cc, rfl, HG1.out.keep (fun b hb1 hb2 => ?_), ?_, by omega⟩, ?_⟩
    · obtain rfl : b = g := by omega
      iterate 9 rw [set_far _ (by exact hgne)]
    · simp only [World.size_setCell]
      exact hg2
    · exact ((((((((hbF.out.setCell (p := ⟨w.heap.size, 0, none⟩) (Nat.le_refl _) _).setCell (p := ⟨w.heap.size, 1, none⟩) (Nat.le_refl _) _).setCell (p := ⟨w.heap.size, 2, none⟩) (Nat.le_refl _) _).setCell (p := ⟨w.heap.size, 3, none⟩) (Nat.le_refl _) _).setCell (p := ⟨w.heap.size, 4, none⟩) (Nat.le_refl _) _).setCell (p := ⟨w.heap.size, 5, none⟩) (Nat.le_refl _) _).setCell (p := ⟨w.heap.size, 6, none⟩) (Nat.le_refl _) _).setCell (p := ⟨w.heap.size, 7, none⟩) (Nat.le_refl _) _).setCell (p := ⟨w.heap.size, 8, none⟩) (Nat.le_refl _) _
end Go.Proofs.Ytoheoojpmndhoaa
