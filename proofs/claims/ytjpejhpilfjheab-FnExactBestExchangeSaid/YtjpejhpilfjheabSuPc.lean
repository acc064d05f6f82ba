/-
  The written program's comparisons of two items, and of two indices.
  Conditions: items.
-/
import Derived.Test.YtjpejhpilfjheabSuPk
import Derived.Test.YtjpejhpilfjheabSuI
import Derived.Test.YtjpejhpilfjheabSortOrd
namespace Go.Proofs.Ytjpejhpilfjheab
set_option linter.unusedVariables false
set_option linter.unusedSimpArgs false
open Go.RowKit

theorem compare_any (a b : Int) (w : World) : Calls Try.prog 59 #[.int .i64 a, .int .i64 b] w fun e w' => (∃ r, e = .returned (.int .i64 r) ∧ decide (r < 0) = decide (a < b)) ∧ w = w' := by
  by_cases h1 : a < b
  · have hd : decide (a < b) = true := decide_eq_true h1
    go_enter Try.func59, Try.ntmps59
    go_wp2_with fail
    refine (isNaN_any a w).mono ?_
    rintro e w1 ⟨rfl, rfl⟩
    go_wp2_with fail
    refine (isNaN_any b _).mono ?_
    rintro e w1 ⟨rfl, rfl⟩
    go_wp2
    go_ret
    exact ⟨⟨-1, rfl, by rw [hd]; rfl⟩, rfl⟩
  · have hd : decide (a < b) = false := decide_eq_false h1
    by_cases h2 : b < a
    · have hd2 : decide (b < a) = true := decide_eq_true h2
      go_enter Try.func59, Try.ntmps59
      go_wp2_with fail
      refine (isNaN_any a w).mono ?_
      rintro e w1 ⟨rfl, rfl⟩
      go_wp2_with fail
      refine (isNaN_any b _).mono ?_
      rintro e w1 ⟨rfl, rfl⟩
      go_wp2
      go_ret
      exact ⟨⟨1, rfl, by rw [hd]; rfl⟩, rfl⟩
    · have hd2 : decide (b < a) = false := decide_eq_false h2
      go_enter Try.func59, Try.ntmps59
      go_wp2_with fail
      refine (isNaN_any a w).mono ?_
      rintro e w1 ⟨rfl, rfl⟩
      go_wp2_with fail
      refine (isNaN_any b _).mono ?_
      rintro e w1 ⟨rfl, rfl⟩
      go_wp2
      go_ret
      exact ⟨⟨0, rfl, by rw [hd]; rfl⟩, rfl⟩

theorem cmpV_any (x y z x2 y2 z2 : Int) (w : World) :
    Calls Try.prog 58 #[.agg #[.int .i64 x, .int .i64 y, .int .i64 z], .agg #[.int .i64 x2, .int .i64 y2, .int .i64 z2]] w fun e w' => ∃ r, e = .returned (.int .i64 r) ∧ decide (r < 0) = bef2 false x y z x2 y2 z2 ∧ Below w.heap.size w w' := by
  have HB := Lib.hid (((Below.refl w.heap.size w).alloc (Nat.le_refl _) (.cells #[.int .i64 x, .int .i64 y, .int .i64 z] 63)).alloc (by simp) (.cells #[.int .i64 x2, .int .i64 y2, .int .i64 z2] 63))
  go_enter Try.func58, Try.ntmps58
  go_wp2_with fail
  refine (compare_any z2 z _).mono ?_
  rintro e w1 ⟨⟨r, rfl, hr⟩, rfl⟩
  go_wp2
  go_ret
  exact ⟨r, rfl, hr, HB.out⟩

theorem size_anyP (x y z : Int) (w : World) (hx : 0 ≤ x ∧ x ≤ 200) (hy : 0 ≤ y ∧ y ≤ 200) (a : Int) (ha : x + y = a) :
    Calls Try.prog 93 #[.agg #[.int .i64 x, .int .i64 y, .int .i64 z]] w fun e w' => e = .returned (.int .i64 a) ∧ Below w.heap.size w w' := by
  have hw : IntKind.i64.wrap a = a := by rw [IntKind.wrap_i64]; omega
  have HB := Lib.hid ((Below.refl w.heap.size w).alloc (Nat.le_refl _) (.cells #[.int .i64 x, .int .i64 y, .int .i64 z] 63))
  go_enter Try.func93, Try.ntmps93
  go_wp2
  go_ret
  exact ⟨rfl, HB.out⟩

/-- Two items in memory. -/
def TwoI (b0 : Nat) (u : World) (P : Nat) (x y z x2 y2 z2 : Int) (W : World) : Prop := Below b0 u W ∧ P + 2 ≤ W.heap.size ∧ (W.cell? ⟨P, 0, none⟩ = some (.int .i64 x) ∧ W.cell? ⟨P, 1, none⟩ = some (.int .i64 y) ∧ W.cell? ⟨P, 2, none⟩ = some (.int .i64 z)) ∧ W.cell? ⟨P + 1, 0, none⟩ = some (.int .i64 x2) ∧ W.cell? ⟨P + 1, 1, none⟩ = some (.int .i64 y2) ∧ W.cell? ⟨P + 1, 2, none⟩ = some (.int .i64 z2)
theorem keepTwo {b0 P : Nat} {u W0 W1 : World} {x y z x2 y2 z2 : Int} (h : Below b0 u W0 ∧ P + 2 ≤ W0.heap.size ∧ (W0.cell? ⟨P, 0, none⟩ = some (.int .i64 x) ∧ W0.cell? ⟨P, 1, none⟩ = some (.int .i64 y) ∧ W0.cell? ⟨P, 2, none⟩ = some (.int .i64 z)) ∧ W0.cell? ⟨P + 1, 0, none⟩ = some (.int .i64 x2) ∧ W0.cell? ⟨P + 1, 1, none⟩ = some (.int .i64 y2) ∧ W0.cell? ⟨P + 1, 2, none⟩ = some (.int .i64 z2)) (hP : b0 ≤ P) (hb : Below W0.heap.size W0 W1) :
    Below b0 u W1 ∧ P + 2 ≤ W1.heap.size ∧ (W1.cell? ⟨P, 0, none⟩ = some (.int .i64 x) ∧ W1.cell? ⟨P, 1, none⟩ = some (.int .i64 y) ∧ W1.cell? ⟨P, 2, none⟩ = some (.int .i64 z)) ∧ W1.cell? ⟨P + 1, 0, none⟩ = some (.int .i64 x2) ∧ W1.cell? ⟨P + 1, 1, none⟩ = some (.int .i64 y2) ∧ W1.cell? ⟨P + 1, 2, none⟩ = some (.int .i64 z2) :=
  ⟨h.1.trans (hb.mono (by omega)), by have := hb.size; omega, ⟨(hb.cell (cell_lt h.2.2.1.1)).trans h.2.2.1.1, (hb.cell (cell_lt h.2.2.1.2.1)).trans h.2.2.1.2.1, (hb.cell (cell_lt h.2.2.1.2.2)).trans h.2.2.1.2.2⟩, (hb.cell (cell_lt h.2.2.2.1)).trans h.2.2.2.1, (hb.cell (cell_lt h.2.2.2.2.1)).trans h.2.2.2.2.1, (hb.cell (cell_lt h.2.2.2.2.2)).trans h.2.2.2.2.2⟩

set_option maxRecDepth 100000 in
set_option maxHeartbeats 4000000 in
theorem cmpR_any (x y z x2 y2 z2 : Int) (w : World) (h1 : itB (x, y, z) = true) (h2 : itB (x2, y2, z2) = true) :
    Calls Try.prog 60 #[.agg #[.int .i64 x, .int .i64 y, .int .i64 z], .agg #[.int .i64 x2, .int .i64 y2, .int .i64 z2]] w fun e w' => ∃ r, e = .returned (.int .i64 r) ∧ decide (r < 0) = bef2 true x y z x2 y2 z2 ∧ Below w.heap.size w w' := by
  obtain ⟨hx, hy, hz⟩ := itB_true.1 h1
  obtain ⟨hx2, hy2, hz2⟩ := itB_true.1 h2
  simp only [] at hx hy hz hx2 hy2 hz2
  obtain ⟨a, ha⟩ : ∃ a, x + y = a := ⟨_, rfl⟩
  obtain ⟨b, hb⟩ : ∃ b, x2 + y2 = b := ⟨_, rfl⟩
  have ha1 : 0 ≤ a ∧ a ≤ 400 := by omega
  have hb1 : 0 ≤ b ∧ b ≤ 400 := by omega
  have HS1 := Lib.hid (fun W => size_anyP x y z W hx hy a ha)
  have HS2 := Lib.hid (fun W => size_anyP x2 y2 z2 W hx2 hy2 b hb)
  have HQ := Lib.hid (show bef2 true x y z x2 y2 z2 = befR a z b z2 by rw [bef2, if_pos rfl, ha, hb])
  have hB0 := ((Below.refl w.heap.size w).alloc (Nat.le_refl _) (.cells #[.int .i64 x, .int .i64 y, .int .i64 z] 63)).alloc (by simp) (.cells #[.int .i64 x2, .int .i64 y2, .int .i64 z2] 63)
  obtain ⟨W0, hW0⟩ : ∃ W0, (w.alloc (.cells #[.int .i64 x, .int .i64 y, .int .i64 z] 63)).alloc (.cells #[.int .i64 x2, .int .i64 y2, .int .i64 z2] 63) = W0 := ⟨_, rfl⟩
  have p0 : W0.heap[w.heap.size]? = some (.cells #[.int .i64 x, .int .i64 y, .int .i64 z] 63 (0, 0)) := by rw [← hW0]; exact (alloc_old _ (by simp) _).trans (new_at _ _ rfl)
  have p1 : W0.heap[w.heap.size + 1]? = some (.cells #[.int .i64 x2, .int .i64 y2, .int .i64 z2] 63 (0, 0)) := by rw [← hW0]; exact new_at _ _ (by simp)
  have hzW : w.heap.size + 2 ≤ W0.heap.size := by rw [← hW0]; simp
  rw [hW0] at hB0
  have HT := Lib.hid (show TwoI w.heap.size w w.heap.size x y z x2 y2 z2 W0 from ⟨hB0, hzW, ⟨cell_of p0 0, cell_of p0 1, cell_of p0 2⟩, cell_of p1 0, cell_of p1 1, cell_of p1 2⟩)
  obtain ⟨c0, c1, c2⟩ := HT.out.2.2.1
  have HW0 := Lib.hid hW0
  rw [← hW0] at c0 c1 c2
  clear h1 h2 hB0 hW0 p0 p1 hzW
  by_cases ha0 : a = 0
  · have haq : (a == 0) = true := by rw [beq_iff_eq]; exact ha0
    have hwr : IntKind.i64.wrap (a - b) = a - b := by rw [IntKind.wrap_i64]; omega
    have HFIN := Lib.hid (show decide (a - b < 0) = bef2 true x y z x2 y2 z2 by
      rw [HQ.out, befR, if_pos (.inl ha0), decide_eq_true ha0, Bool.true_and]
      by_cases h : 0 < b
      · rw [decide_eq_true h, decide_eq_true (by omega)]
      · rw [decide_eq_false h, decide_eq_false (by omega)])
    clear ha0 hb
    go_enter Try.func60, Try.ntmps60
    go_wp2_with fail
    rw [HW0.out]
    refine (HS1.out W0).mono ?_
    rintro e w1 ⟨rfl, hb1'⟩
    have HT1 := Lib.hid (keepTwo HT.out (Nat.le_refl _) hb1')
    clear hb1' c0 c1 c2
    go_wp2_with fail
    refine wp_region_held_drew (S := (fun wq => Below w.heap.size w wq ∧ w.heap.size + 2 ≤ wq.heap.size ∧ (wq.cell? ⟨w.heap.size, 0, none⟩ = some (.int .i64 x) ∧ wq.cell? ⟨w.heap.size, 1, none⟩ = some (.int .i64 y) ∧ wq.cell? ⟨w.heap.size, 2, none⟩ = some (.int .i64 z)) ∧ wq.cell? ⟨w.heap.size + 1, 0, none⟩ = some (.int .i64 x2) ∧ wq.cell? ⟨w.heap.size + 1, 1, none⟩ = some (.int .i64 y2) ∧ wq.cell? ⟨w.heap.size + 1, 2, none⟩ = some (.int .i64 z2))) (by kernel_rfl) ⟨HT1.out.1.drew, HT1.out.2⟩ (fun hH0 => ?_)
    refine wpAnyH_take (i := 0) (v := ?_) (ops_at rfl) (by kernel_rfl) (by kernel_rfl) (by kernel_rfl) (fun _ _ _ h => h) (Or.inl ⟨by rfl, ?ya0⟩) (by assumption) ?na0
    case ya0 => (intro wS hSw; (try dsimp only at hSw); go_simp; try rfl)
    try simp only [Act.put, List.setIfInBounds_toArray, List.set_cons_zero, List.set_cons_succ]
    refine wpAnyH_take (i := 2) (v := ?_) (ops_at rfl) (by kernel_rfl) (by kernel_rfl) (by kernel_rfl) (fun _ _ _ h => h) (Or.inl ⟨by rfl, ?ya2⟩) (by assumption) ?na2
    case ya2 => (intro wS hSw; (try dsimp only at hSw); go_simp; try rfl)
    try simp only [Act.put, List.setIfInBounds_toArray, List.set_cons_zero, List.set_cons_succ]
    refine wpAnyH_ready (rs := [1]) (by kernel_rfl) (by simp) ?_
    refine AllReadyH.cons (ops_at rfl) (fun K hK => ?_) AllReadyH.nil
    go_simp
    refine (HS1.out _).mono ?_
    rintro e wb1 ⟨rfl, hbb1⟩
    dsimp only
    refine hK.out _ _ (keepTwo hH0 (Nat.le_refl _) hbb1) (fun hHy => ?_)
    clear hK K
    refine wpAnyH_ready (rs := [3]) (by kernel_rfl) (by simp) ?_
    refine AllReadyH.cons (ops_at rfl) (fun K hK => ?_) AllReadyH.nil
    go_simp
    refine (HS2.out _).mono ?_
    rintro e wb3 ⟨rfl, hbb3⟩
    dsimp only
    refine hK.out _ _ (keepTwo hHy (Nat.le_refl _) hbb3) (fun hHz => ?_)
    clear hK K
    refine wpAnyH_take (i := 4) (v := ?_) (ops_at rfl) (by kernel_rfl) (by kernel_rfl) (by kernel_rfl) (fun _ _ _ h => h) (Or.inl ⟨by rfl, ?yaz4⟩) (by assumption) ?naz4
    case yaz4 => (intro wS hSw; (try dsimp only at hSw); go_simp; try rfl)
    try simp only [Act.put, List.setIfInBounds_toArray, List.set_cons_zero, List.set_cons_succ]
    refine wpAnyH_take (i := 5) (v := ?_) (ops_at rfl) (by kernel_rfl) (by kernel_rfl) (by kernel_rfl) (fun _ _ _ h => h) (Or.inl ⟨by rfl, ?yaz5⟩) (by assumption) ?naz5
    case yaz5 => (intro wS hSw; (try dsimp only at hSw); go_simp; try rfl)
    try simp only [Act.put, List.setIfInBounds_toArray, List.set_cons_zero, List.set_cons_succ]
    refine wpAnyH_done (by kernel_rfl) ?_ _
    go_wp2
    go_ret
    exact ⟨_, rfl, HFIN.out, hHz.1⟩
  · have haq : (a == 0) = false := by rw [beq_eq_false_iff_ne]; exact ha0
    by_cases hb0 : b = 0
    · have hbq : (b == 0) = true := by rw [beq_iff_eq]; exact hb0
      have hwr : IntKind.i64.wrap (a - b) = a - b := by rw [IntKind.wrap_i64]; omega
      have HFIN := Lib.hid (show decide (a - b < 0) = bef2 true x y z x2 y2 z2 by
        rw [HQ.out, befR, if_pos (.inr hb0), decide_eq_false ha0, Bool.false_and, decide_eq_false (by omega)])
      clear ha0 hb0
      go_enter Try.func60, Try.ntmps60
      go_wp2_with fail
      rw [HW0.out]
      refine (HS1.out W0).mono ?_
      rintro e w1 ⟨rfl, hb1'⟩
      have HT1 := Lib.hid (keepTwo HT.out (Nat.le_refl _) hb1')
      clear hb1' c0 c1 c2
      obtain ⟨c0, c1, c2⟩ := HT1.out.2.2.2
      go_wp2_with fail
      refine (HS2.out w1).mono ?_
      rintro e w2 ⟨rfl, hb2'⟩
      have HT2 := Lib.hid (keepTwo HT1.out (Nat.le_refl _) hb2')
      clear hb2' c0 c1 c2
      go_wp2_with fail
      refine wp_region_held_drew (S := (fun wq => Below w.heap.size w wq ∧ w.heap.size + 2 ≤ wq.heap.size ∧ (wq.cell? ⟨w.heap.size, 0, none⟩ = some (.int .i64 x) ∧ wq.cell? ⟨w.heap.size, 1, none⟩ = some (.int .i64 y) ∧ wq.cell? ⟨w.heap.size, 2, none⟩ = some (.int .i64 z)) ∧ wq.cell? ⟨w.heap.size + 1, 0, none⟩ = some (.int .i64 x2) ∧ wq.cell? ⟨w.heap.size + 1, 1, none⟩ = some (.int .i64 y2) ∧ wq.cell? ⟨w.heap.size + 1, 2, none⟩ = some (.int .i64 z2))) (by kernel_rfl) ⟨HT2.out.1.drew, HT2.out.2⟩ (fun hH0 => ?_)
      refine wpAnyH_take (i := 0) (v := ?_) (ops_at rfl) (by kernel_rfl) (by kernel_rfl) (by kernel_rfl) (fun _ _ _ h => h) (Or.inl ⟨by rfl, ?yb0⟩) (by assumption) ?nb0
      case yb0 => (intro wS hSw; (try dsimp only at hSw); go_simp; try rfl)
      try simp only [Act.put, List.setIfInBounds_toArray, List.set_cons_zero, List.set_cons_succ]
      refine wpAnyH_take (i := 2) (v := ?_) (ops_at rfl) (by kernel_rfl) (by kernel_rfl) (by kernel_rfl) (fun _ _ _ h => h) (Or.inl ⟨by rfl, ?yb2⟩) (by assumption) ?nb2
      case yb2 => (intro wS hSw; (try dsimp only at hSw); go_simp; try rfl)
      try simp only [Act.put, List.setIfInBounds_toArray, List.set_cons_zero, List.set_cons_succ]
      refine wpAnyH_ready (rs := [1]) (by kernel_rfl) (by simp) ?_
      refine AllReadyH.cons (ops_at rfl) (fun K hK => ?_) AllReadyH.nil
      go_simp
      refine (HS1.out _).mono ?_
      rintro e wb1 ⟨rfl, hbb1⟩
      dsimp only
      refine hK.out _ _ (keepTwo hH0 (Nat.le_refl _) hbb1) (fun hHy => ?_)
      clear hK K
      refine wpAnyH_ready (rs := [3]) (by kernel_rfl) (by simp) ?_
      refine AllReadyH.cons (ops_at rfl) (fun K hK => ?_) AllReadyH.nil
      go_simp
      refine (HS2.out _).mono ?_
      rintro e wb3 ⟨rfl, hbb3⟩
      dsimp only
      refine hK.out _ _ (keepTwo hHy (Nat.le_refl _) hbb3) (fun hHz => ?_)
      clear hK K
      refine wpAnyH_take (i := 4) (v := ?_) (ops_at rfl) (by kernel_rfl) (by kernel_rfl) (by kernel_rfl) (fun _ _ _ h => h) (Or.inl ⟨by rfl, ?ybz4⟩) (by assumption) ?nbz4
      case ybz4 => (intro wS hSw; (try dsimp only at hSw); go_simp; try rfl)
      try simp only [Act.put, List.setIfInBounds_toArray, List.set_cons_zero, List.set_cons_succ]
      refine wpAnyH_take (i := 5) (v := ?_) (ops_at rfl) (by kernel_rfl) (by kernel_rfl) (by kernel_rfl) (fun _ _ _ h => h) (Or.inl ⟨by rfl, ?ybz5⟩) (by assumption) ?nbz5
      case ybz5 => (intro wS hSw; (try dsimp only at hSw); go_simp; try rfl)
      try simp only [Act.put, List.setIfInBounds_toArray, List.set_cons_zero, List.set_cons_succ]
      refine wpAnyH_done (by kernel_rfl) ?_ _
      go_wp2
      go_ret
      exact ⟨_, rfl, HFIN.out, hHz.1⟩
    · have hbq : (b == 0) = false := by rw [beq_eq_false_iff_ne]; exact hb0
      have m1 : 0 ≤ z * b ∧ z * b ≤ 200 * 400 := ⟨Int.mul_nonneg hz.1 hb1.1, Int.mul_le_mul hz.2 hb1.2 hb1.1 (by omega)⟩
      have m2 : 0 ≤ z2 * a ∧ z2 * a ≤ 200 * 400 := ⟨Int.mul_nonneg hz2.1 ha1.1, Int.mul_le_mul hz2.2 ha1.2 ha1.1 (by omega)⟩
      obtain ⟨p1, hp1⟩ : ∃ p1, z * b = p1 := ⟨_, rfl⟩
      obtain ⟨p2, hp2⟩ : ∃ p2, z2 * a = p2 := ⟨_, rfl⟩
      rw [hp1] at m1
      rw [hp2] at m2
      have hw1 : IntKind.i64.wrap p1 = p1 := by rw [IntKind.wrap_i64]; omega
      have hw2 : IntKind.i64.wrap p2 = p2 := by rw [IntKind.wrap_i64]; omega
      have hw3 : IntKind.i64.wrap (p2 - p1) = p2 - p1 := by rw [IntKind.wrap_i64]; omega
      have HFIN := Lib.hid (show decide (p2 - p1 < 0) = bef2 true x y z x2 y2 z2 by
        rw [HQ.out, befR, if_neg (by omega), hp1, hp2]
        by_cases h : p2 < p1
        · rw [decide_eq_true h, decide_eq_true (by omega)]
        · rw [decide_eq_false h, decide_eq_false (by omega)])
      clear ha0 hb0
      go_enter Try.func60, Try.ntmps60
      go_wp2_with fail
      rw [HW0.out]
      refine (HS1.out W0).mono ?_
      rintro e w1 ⟨rfl, hb1'⟩
      have HT1 := Lib.hid (keepTwo HT.out (Nat.le_refl _) hb1')
      clear hb1' c0 c1 c2
      obtain ⟨c0, c1, c2⟩ := HT1.out.2.2.2
      go_wp2_with fail
      refine (HS2.out w1).mono ?_
      rintro e w2 ⟨rfl, hb2'⟩
      have HT2 := Lib.hid (keepTwo HT1.out (Nat.le_refl _) hb2')
      clear hb2' c0 c1 c2
      go_wp2_with fail
      refine wp_region_held_drew (S := (fun wq => Below w.heap.size w wq ∧ w.heap.size + 2 ≤ wq.heap.size ∧ (wq.cell? ⟨w.heap.size, 0, none⟩ = some (.int .i64 x) ∧ wq.cell? ⟨w.heap.size, 1, none⟩ = some (.int .i64 y) ∧ wq.cell? ⟨w.heap.size, 2, none⟩ = some (.int .i64 z)) ∧ wq.cell? ⟨w.heap.size + 1, 0, none⟩ = some (.int .i64 x2) ∧ wq.cell? ⟨w.heap.size + 1, 1, none⟩ = some (.int .i64 y2) ∧ wq.cell? ⟨w.heap.size + 1, 2, none⟩ = some (.int .i64 z2))) (by kernel_rfl) ⟨HT2.out.1.drew, HT2.out.2⟩ (fun hH0 => ?_)
      refine wpAnyH_take (i := 0) (v := ?_) (ops_at rfl) (by kernel_rfl) (by kernel_rfl) (by kernel_rfl) (fun _ _ _ h => h) (Or.inl ⟨by rfl, ?yc0⟩) (by assumption) ?nc0
      case yc0 => (intro wS hSw; (try dsimp only at hSw); go_simp; try rfl)
      try simp only [Act.put, List.setIfInBounds_toArray, List.set_cons_zero, List.set_cons_succ]
      refine wpAnyH_take (i := 1) (v := ?_) (ops_at rfl) (by kernel_rfl) (by kernel_rfl) (by kernel_rfl) (fun _ _ _ h => h) (Or.inl ⟨by rfl, ?yc1⟩) (by assumption) ?nc1
      case yc1 => (intro wS hSw; (try dsimp only at hSw); go_simp; try rfl)
      try simp only [Act.put, List.setIfInBounds_toArray, List.set_cons_zero, List.set_cons_succ]
      refine wpAnyH_take (i := 2) (v := ?_) (ops_at rfl) (by kernel_rfl) (by kernel_rfl) (by kernel_rfl) (fun _ _ _ h => h) (Or.inl ⟨by rfl, ?yc2⟩) (by assumption) ?nc2
      case yc2 => (intro wS hSw; (try dsimp only at hSw); go_simp; try rfl)
      try simp only [Act.put, List.setIfInBounds_toArray, List.set_cons_zero, List.set_cons_succ]
      refine wpAnyH_take (i := 5) (v := ?_) (ops_at rfl) (by kernel_rfl) (by kernel_rfl) (by kernel_rfl) (fun _ _ _ h => h) (Or.inl ⟨by rfl, ?yc5⟩) (by assumption) ?nc5
      case yc5 => (intro wS hSw; (try dsimp only at hSw); go_simp; try rfl)
      try simp only [Act.put, List.setIfInBounds_toArray, List.set_cons_zero, List.set_cons_succ]
      refine wpAnyH_take (i := 6) (v := ?_) (ops_at rfl) (by kernel_rfl) (by kernel_rfl) (by kernel_rfl) (fun _ _ _ h => h) (Or.inl ⟨by rfl, ?yc6⟩) (by assumption) ?nc6
      case yc6 => (intro wS hSw; (try dsimp only at hSw); go_simp; try rfl)
      try simp only [Act.put, List.setIfInBounds_toArray, List.set_cons_zero, List.set_cons_succ]
      refine wpAnyH_take (i := 7) (v := ?_) (ops_at rfl) (by kernel_rfl) (by kernel_rfl) (by kernel_rfl) (fun _ _ _ h => h) (Or.inl ⟨by rfl, ?yc7⟩) (by assumption) ?nc7
      case yc7 => (intro wS hSw; (try dsimp only at hSw); go_simp; try rfl)
      try simp only [Act.put, List.setIfInBounds_toArray, List.set_cons_zero, List.set_cons_succ]
      refine wpAnyH_ready (rs := [3]) (by kernel_rfl) (by simp) ?_
      refine AllReadyH.cons (ops_at rfl) (fun K hK => ?_) AllReadyH.nil
      go_simp
      refine (HS1.out _).mono ?_
      rintro e wb1 ⟨rfl, hbb1⟩
      dsimp only
      refine hK.out _ _ (keepTwo hH0 (Nat.le_refl _) hbb1) (fun hHy => ?_)
      clear hK K
      refine wpAnyH_take (i := 4) (v := ?_) (ops_at rfl) (by kernel_rfl) (by kernel_rfl) (by kernel_rfl) (fun _ _ _ h => h) (Or.inl ⟨by rfl, ?ycy4⟩) (by assumption) ?ncy4
      case ycy4 => (intro wS hSw; (try dsimp only at hSw); go_simp; try rfl)
      try simp only [Act.put, List.setIfInBounds_toArray, List.set_cons_zero, List.set_cons_succ]
      refine wpAnyH_ready (rs := [8]) (by kernel_rfl) (by simp) ?_
      refine AllReadyH.cons (ops_at rfl) (fun K hK => ?_) AllReadyH.nil
      go_simp
      refine (HS2.out _).mono ?_
      rintro e wb3 ⟨rfl, hbb3⟩
      dsimp only
      refine hK.out _ _ (keepTwo hHy (Nat.le_refl _) hbb3) (fun hHz => ?_)
      clear hK K
      refine wpAnyH_take (i := 9) (v := ?_) (ops_at rfl) (by kernel_rfl) (by kernel_rfl) (by kernel_rfl) (fun _ _ _ h => h) (Or.inl ⟨by rfl, ?ycz9⟩) (by assumption) ?ncz9
      case ycz9 => (intro wS hSw; (try dsimp only at hSw); go_simp; try rfl)
      try simp only [Act.put, List.setIfInBounds_toArray, List.set_cons_zero, List.set_cons_succ]
      refine wpAnyH_take (i := 10) (v := ?_) (ops_at rfl) (by kernel_rfl) (by kernel_rfl) (by kernel_rfl) (fun _ _ _ h => h) (Or.inl ⟨by rfl, ?ycz10⟩) (by assumption) ?ncz10
      case ycz10 => (intro wS hSw; (try dsimp only at hSw); go_simp; try rfl)
      try simp only [Act.put, List.setIfInBounds_toArray, List.set_cons_zero, List.set_cons_succ]
      refine wpAnyH_take (i := 11) (v := ?_) (ops_at rfl) (by kernel_rfl) (by kernel_rfl) (by kernel_rfl) (fun _ _ _ h => h) (Or.inl ⟨by rfl, ?ycz11⟩) (by assumption) ?ncz11
      case ycz11 => (intro wS hSw; (try dsimp only at hSw); go_simp; try rfl)
      try simp only [Act.put, List.setIfInBounds_toArray, List.set_cons_zero, List.set_cons_succ]
      refine wpAnyH_done (by kernel_rfl) ?_ _
      go_wp2
      go_ret
      exact ⟨_, rfl, HFIN.out, hHz.1⟩
end Go.Proofs.Ytjpejhpilfjheab
