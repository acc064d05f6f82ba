/-
  The written program's table filled: the fewest squares.
  Conditions: a board; the function that values a board does so.
-/
import Derived.Test.YtjpejhpilfjheaaBdT
namespace Go.Proofs.Ytjpejhpilfjheaa
set_option linter.unusedVariables false
open Go.RowKit

set_option maxRecDepth 100000 in
set_option maxHeartbeats 4000000 in
theorem valueF (A H : Nat)  (T : Nat → Nat → Int) (w : World) (hA1 : 1 ≤ A) (hA : A ≤ 24) (hH1 : 1 ≤ H) (hH : H ≤ 24)
    (hF : ∀ (w' : World) (B1 X a b : Nat), Below w.heap.size w w' → 1 ≤ a → a ≤ A → 1 ≤ b → b ≤ H → Worth w' B1 X T (fun a' b' => 1 ≤ a' ∧ 1 ≤ b' ∧ a' ≤ a ∧ b' ≤ b ∧ a' + b' < a + b) → B1 ≤ w'.heap.size →
      Calls Try.prog 70 #[.agg #[.int .i64 (a : Int), .int .i64 (b : Int)], .func (.func 75) #[] #[.pointer (some ⟨X, 0, none⟩)]] w' fun e w'' => e = .returned (.int .i64 (T a b)) ∧ Below w'.heap.size w' w'') :
    Calls Try.prog 63 #[.agg #[.int .i64 (A : Int), .int .i64 (H : Int)], .func (.func 70) #[] #[]] w fun e w' => ∃ X, e = .returned (.func (.func 75) #[] #[.pointer (some ⟨X, 0, none⟩)]) ∧
      Worth w' w'.heap.size X T (fun a b => 1 ≤ a ∧ 1 ≤ b ∧ a ≤ A ∧ b ≤ H) ∧ Below w.heap.size w w' := by
  have HF := Lib.hid hF
  clear hF
  have hb0 := (Below.refl w.heap.size w).alloc (Nat.le_refl _) (.cells #[.int .i64 (A : Int), .int .i64 (H : Int)] 55)
  have hbx := new_at w (.cells #[.int .i64 (A : Int), .int .i64 (H : Int)] 55) rfl
  have c0 := cell_of hbx 0
  have c1 := cell_of hbx 1
  have HB0 := Lib.hid hb0
  have HBX := Lib.hid hbx
  have hAH : A * H ≤ 24 * 24 := Nat.mul_le_mul hA hH
  have hAH1 : 1 ≤ A * H := Nat.mul_pos hA1 hH1
  clear hb0 hbx
  go_enter Try.func63, Try.ntmps63
  go_wp2_with fail
  refine (area_any A H hA hH _).mono ?_
  rintro e w1 ⟨rfl, hb1⟩
  have HB1 := Lib.hid (HB0.out.trans (hb1.mono (by simp)))
  have hx1 := (hb1.block w.heap.size (by simp)).trans HBX.out
  have hz1 := hb1.size
  simp at hz1
  obtain ⟨ar, har⟩ : ∃ ar : Nat, A * H = ar := ⟨_, rfl⟩
  rw [har] at hAH hAH1 ⊢
  have HAR := Lib.hid har
  clear hb1 har c0 c1
  have hmk := make_cap ar hAH hAH1 w1
  have c0 : (w1.alloc (.cells (madeCells #[.int .i64 0] ar) 3)).cell? ⟨w.heap.size, 0, none⟩ = some (.int .i64 (A : Int)) := cell_of ((alloc_old _ (by omega) _).trans hx1) 0
  have hmk2 := make_rows A hA (w1.alloc (.cells (madeCells #[.int .i64 0] ar) 3))
  have HX1 := Lib.hid hx1
  clear hx1
  go_wp2
  clear c0 hmk hmk2
  obtain ⟨V, hV⟩ : ∃ V, w1.heap.size = V := ⟨_, rfl⟩
  obtain ⟨W1, hW1⟩ : ∃ W1, ((w1.alloc (.cells (madeCells #[.int .i64 0] ar) 3)).alloc (.cells (madeCells #[.slice none 0 0] A) 31)).alloc (.cells #[.slice (some ⟨V + 1, 0, none⟩) A A] 49) = W1 := ⟨_, rfl⟩
  have g0 : W1.heap[w.heap.size]? = some (.cells #[.int .i64 (A : Int), .int .i64 (H : Int)] 55 (0, 0)) := by rw [← hW1]; exact (alloc_old _ (by simp; omega) _).trans ((alloc_old _ (by simp; omega) _).trans ((alloc_old _ (by omega) _).trans HX1.out))
  have g1 : W1.heap[V]? = some (.cells (madeCells #[.int .i64 0] ar) 3 (0, 0)) := by rw [← hW1, ← hV]; exact (alloc_old _ (by simp; omega) _).trans ((alloc_old _ (by simp) _).trans (new_at _ _ rfl))
  have g2 : W1.heap[V + 1]? = some (.cells (madeCells #[.slice none 0 0] A) 31 (0, 0)) := by rw [← hW1, ← hV]; exact (alloc_old _ (by simp) _).trans (new_at _ _ (by simp))
  have g3 : W1.heap[V + 2]? = some (.cells #[.slice (some ⟨V + 1, 0, none⟩) A A] 49 (0, 0)) := by rw [← hW1, ← hV]; exact new_at _ _ (by simp)
  have g4 : Below w.heap.size w W1 := by rw [← hW1]; exact ((HB1.out.alloc HB1.out.size _).alloc (by simp; omega) _).alloc (by simp; omega) _
  rw [hV] at hz1 ⊢
  try rw [hW1]
  have hvz : w.heap.size + 1 ≤ V := by omega
  have G := Lib.hid (And.intro g0 (And.intro g1 (And.intro g2 (And.intro g3 g4))))
  clear g0 g1 g2 g3 g4 hW1 hV hz1
  go_loopw [21] (fun i wr => ∃ k : Nat, k ≤ A ∧ i = .int .i64 k ∧ Below w.heap.size w wr ∧ wr.heap[w.heap.size]? = some (.cells #[.int .i64 (A : Int), .int .i64 (H : Int)] 55 (0, 0)) ∧ wr.heap[V + 2]? = some (.cells #[.slice (some ⟨V + 1, 0, none⟩) A A] 49 (0, 0)) ∧ wr.heap[V]? = some (.cells (madeCells #[.int .i64 0] ar) 3 (0, 0)) ∧
    ∃ rs : Array Value, wr.heap[V + 1]? = some (.cells rs 31 (0, 0)) ∧ rs.size = A ∧ ∀ i, i < k → rs[i]? = some (.slice (some ⟨V, i * H, none⟩) 0 H)) (fun i _ => A - (intOf i).toNat)
  case atStart => exact ⟨0, Nat.zero_le _, rfl, G.out.2.2.2.2, G.out.1, G.out.2.2.2.1, G.out.2.1, _, G.out.2.2.1, by simp [madeCells], fun i hi => by omega⟩
  case round =>
    obtain ⟨k, hk, rfl, hb, hx, hr, hv, rs, h1, h2, h3⟩ := hrel
    have HB := Lib.hid hb
    have HX := Lib.hid hx
    have HR := Lib.hid hr
    have HV := Lib.hid hv
    have H1 := Lib.hid h1
    have H2 := Lib.hid h2
    have H3 := Lib.hid h3
    clear hb hx hr hv h1 h2 h3
    by_cases hlt : k < A
    · have hkH : k * H ≤ 24 * 24 := Nat.mul_le_mul (by omega) hH
      have hkH2 : (k + 1) * H ≤ A * H := Nat.mul_le_mul_right _ hlt
      have hsum : (k + 1) * H = k * H + H := by rw [Nat.add_mul, Nat.one_mul]
      rw [HAR.out] at hkH2
      obtain ⟨p1, hp1⟩ : ∃ p1, k * H = p1 := ⟨_, rfl⟩
      obtain ⟨p2, hp2⟩ : ∃ p2, (k + 1) * H = p2 := ⟨_, rfl⟩
      have hm1 : (k : Int) * (H : Int) = (p1 : Int) := by rw [← hp1]; push_cast; rfl
      have hm2 : ((k : Int) + 1) * (H : Int) = (p2 : Int) := by rw [← hp2]; push_cast; rfl
      have HP1 := Lib.hid hp1
      rw [hp1, hp2] at hsum
      rw [hp2] at hkH2
      rw [hp1] at hkH
      have hw1 : IntKind.i64.wrap (p1 : Int) = (p1 : Int) := by rw [IntKind.wrap_i64]; omega
      have hw2 : IntKind.i64.wrap (p2 : Int) = (p2 : Int) := by rw [IntKind.wrap_i64]; omega
      have hwk : IntKind.i64.wrap ((k : Int) + 1) = (k : Int) + 1 := by rw [IntKind.wrap_i64]; omega
      have hle12 : p1 ≤ p2 := by omega
      have hne12 : ¬ p2 = p1 := by omega
      have hsub : p2 - p1 = H := by omega
      clear hp1 hp2 hsum
      go_wp2_with fail
      refine wp_region_held_drew (S := (fun wq => wq.heap[w.heap.size]? = some (.cells #[.int .i64 (A : Int), .int .i64 (H : Int)] 55 (0, 0)))) (by kernel_rfl) HX.out (fun hH0 => ?_)
      refine wpAnyH_take (i := 0) (v := ?_) (ops_at rfl) (by kernel_rfl) (by kernel_rfl) (by kernel_rfl) (fun _ _ _ h => h) (Or.inl ⟨by rfl, ?yp0⟩) (by assumption) ?np0
      case yp0 => (intro wS hSw; (try dsimp only at hSw); (have k0 := cell_of hSw 0); (have k1 := cell_of hSw 1); go_simp; try rfl)
      try simp only [Act.put, List.setIfInBounds_toArray, List.set_cons_zero, List.set_cons_succ]
      refine wpAnyH_take (i := 1) (v := ?_) (ops_at rfl) (by kernel_rfl) (by kernel_rfl) (by kernel_rfl) (fun _ _ _ h => h) (Or.inl ⟨by rfl, ?yp1⟩) (by assumption) ?np1
      case yp1 => (intro wS hSw; (try dsimp only at hSw); (have k0 := cell_of hSw 0); (have k1 := cell_of hSw 1); go_simp; try rfl)
      try simp only [Act.put, List.setIfInBounds_toArray, List.set_cons_zero, List.set_cons_succ]
      refine wpAnyH_take (i := 2) (v := ?_) (ops_at rfl) (by kernel_rfl) (by kernel_rfl) (by kernel_rfl) (fun _ _ _ h => h) (Or.inl ⟨by rfl, ?yp2⟩) (by assumption) ?np2
      case yp2 => (intro wS hSw; (try dsimp only at hSw); (have k0 := cell_of hSw 0); (have k1 := cell_of hSw 1); go_simp; try rfl)
      try simp only [Act.put, List.setIfInBounds_toArray, List.set_cons_zero, List.set_cons_succ]
      refine wpAnyH_take (i := 3) (v := ?_) (ops_at rfl) (by kernel_rfl) (by kernel_rfl) (by kernel_rfl) (fun _ _ _ h => h) (Or.inl ⟨by rfl, ?yp3⟩) (by assumption) ?np3
      case yp3 => (intro wS hSw; (try dsimp only at hSw); (have k0 := cell_of hSw 0); (have k1 := cell_of hSw 1); go_simp; try rfl)
      try simp only [Act.put, List.setIfInBounds_toArray, List.set_cons_zero, List.set_cons_succ]
      refine wpAnyH_take (i := 4) (v := ?_) (ops_at rfl) (by kernel_rfl) (by kernel_rfl) (by kernel_rfl) (fun _ _ _ h => h) (Or.inl ⟨by rfl, ?yp4⟩) (by assumption) ?np4
      case yp4 => (intro wS hSw; (try dsimp only at hSw); (have k0 := cell_of hSw 0); (have k1 := cell_of hSw 1); go_simp; try rfl)
      try simp only [Act.put, List.setIfInBounds_toArray, List.set_cons_zero, List.set_cons_succ]
      refine wpAnyH_take (i := 5) (v := ?_) (ops_at rfl) (by kernel_rfl) (by kernel_rfl) (by kernel_rfl) (fun _ _ _ h => h) (Or.inl ⟨by rfl, ?yp5⟩) (by assumption) ?np5
      case yp5 => (intro wS hSw; (try dsimp only at hSw); (have k0 := cell_of hSw 0); (have k1 := cell_of hSw 1); go_simp; try rfl)
      try simp only [Act.put, List.setIfInBounds_toArray, List.set_cons_zero, List.set_cons_succ]
      refine wpAnyH_take (i := 6) (v := ?_) (ops_at rfl) (by kernel_rfl) (by kernel_rfl) (by kernel_rfl) (fun _ _ _ h => h) (Or.inl ⟨by rfl, ?yp6⟩) (by assumption) ?np6
      case yp6 => (intro wS hSw; (try dsimp only at hSw); (have k0 := cell_of hSw 0); (have k1 := cell_of hSw 1); go_simp; try rfl)
      try simp only [Act.put, List.setIfInBounds_toArray, List.set_cons_zero, List.set_cons_succ]
      refine wpAnyH_take (i := 7) (v := ?_) (ops_at rfl) (by kernel_rfl) (by kernel_rfl) (by kernel_rfl) (fun _ _ _ h => h) (Or.inl ⟨by rfl, ?yp7⟩) (by assumption) ?np7
      case yp7 => (intro wS hSw; (try dsimp only at hSw); (have k0 := cell_of hSw 0); (have k1 := cell_of hSw 1); go_simp; try rfl)
      try simp only [Act.put, List.setIfInBounds_toArray, List.set_cons_zero, List.set_cons_succ]
      refine wpAnyH_take (i := 8) (v := ?_) (ops_at rfl) (by kernel_rfl) (by kernel_rfl) (by kernel_rfl) (fun _ _ _ h => h) (Or.inl ⟨by rfl, ?yp8⟩) (by assumption) ?np8
      case yp8 => (intro wS hSw; (try dsimp only at hSw); (have k0 := cell_of hSw 0); (have k1 := cell_of hSw 1); go_simp; try rfl)
      try simp only [Act.put, List.setIfInBounds_toArray, List.set_cons_zero, List.set_cons_succ]
      refine wpAnyH_take (i := 9) (v := ?_) (ops_at rfl) (by kernel_rfl) (by kernel_rfl) (by kernel_rfl) (fun _ _ _ h => h) (Or.inl ⟨by rfl, ?yp9⟩) (by assumption) ?np9
      case yp9 => (intro wS hSw; (try dsimp only at hSw); (have k0 := cell_of hSw 0); (have k1 := cell_of hSw 1); go_simp; try rfl)
      try simp only [Act.put, List.setIfInBounds_toArray, List.set_cons_zero, List.set_cons_succ]
      refine wpAnyH_take (i := 10) (v := ?_) (ops_at rfl) (by kernel_rfl) (by kernel_rfl) (by kernel_rfl) (fun _ _ _ h => h) (Or.inl ⟨by rfl, ?yp10⟩) (by assumption) ?np10
      case yp10 => (intro wS hSw; (try dsimp only at hSw); (have k0 := cell_of hSw 0); (have k1 := cell_of hSw 1); go_simp; try rfl)
      try simp only [Act.put, List.setIfInBounds_toArray, List.set_cons_zero, List.set_cons_succ]
      refine wpAnyH_done (by kernel_rfl) ?_ _
      go_wp2_with fail
      refine region_E (S := fun wq => wq.heap[V + 2]? = some (.cells #[.slice (some ⟨V + 1, 0, none⟩) A A] 49 (0, 0))) 8 (by kernel_rfl) HR.out (fun hH0 => ?_)
      refine AnyE.take (i := 0) (v := ?_) (ops_at rfl) (by kernel_rfl) (by kernel_rfl) (by kernel_rfl) (by kernel_rfl) (fun _ _ _ h => h) (Or.inl ⟨by rfl, ?yq0⟩) (by assumption) ?nq0
      case yq0 => (intro wS hSw; (try dsimp only at hSw); (have k0 := cell_of hSw 0); go_simp; try rfl)
      try simp only [Act.put, List.setIfInBounds_toArray, List.set_cons_zero, List.set_cons_succ]
      refine AnyE.take (i := 1) (v := ?_) (ops_at rfl) (by kernel_rfl) (by kernel_rfl) (by kernel_rfl) (by kernel_rfl) (fun _ _ _ h => h) (Or.inl ⟨by rfl, ?yq1⟩) (by assumption) ?nq1
      case yq1 => (intro wS hSw; (try dsimp only at hSw); (have k0 := cell_of hSw 0); go_simp; try rfl)
      try simp only [Act.put, List.setIfInBounds_toArray, List.set_cons_zero, List.set_cons_succ]
      refine AnyE.take (i := 2) (v := ?_) (ops_at rfl) (by kernel_rfl) (by kernel_rfl) (by kernel_rfl) (by kernel_rfl) (fun _ _ _ h => h) (Or.inl ⟨by rfl, ?yq2⟩) (by assumption) ?nq2
      case yq2 => (intro wS hSw; (try dsimp only at hSw); (have k0 := cell_of hSw 0); go_simp; try rfl)
      try simp only [Act.put, List.setIfInBounds_toArray, List.set_cons_zero, List.set_cons_succ]
      refine AnyE.take (i := 3) (v := ?_) (ops_at rfl) (by kernel_rfl) (by kernel_rfl) (by kernel_rfl) (by kernel_rfl) (fun _ _ _ h => h) (Or.inl ⟨by rfl, ?yq3⟩) (by assumption) ?nq3
      case yq3 => (intro wS hSw; (try dsimp only at hSw); (have k0 := cell_of hSw 0); go_simp; try rfl)
      try simp only [Act.put, List.setIfInBounds_toArray, List.set_cons_zero, List.set_cons_succ]
      refine AnyE.take (i := 4) (v := ?_) (ops_at rfl) (by kernel_rfl) (by kernel_rfl) (by kernel_rfl) (by kernel_rfl) (fun _ _ _ h => h) (Or.inl ⟨by rfl, ?yq4⟩) (by assumption) ?nq4
      case yq4 => (intro wS hSw; (try dsimp only at hSw); (have k0 := cell_of hSw 0); go_simp; try rfl)
      try simp only [Act.put, List.setIfInBounds_toArray, List.set_cons_zero, List.set_cons_succ]
      refine AnyE.take (i := 5) (v := ?_) (ops_at rfl) (by kernel_rfl) (by kernel_rfl) (by kernel_rfl) (by kernel_rfl) (fun _ _ _ h => h) (Or.inl ⟨by rfl, ?yq5⟩) (by assumption) ?nq5
      case yq5 => (intro wS hSw; (try dsimp only at hSw); (have k0 := cell_of hSw 0); go_simp; try rfl)
      try simp only [Act.put, List.setIfInBounds_toArray, List.set_cons_zero, List.set_cons_succ]
      refine AnyE.take (i := 6) (v := ?_) (ops_at rfl) (by kernel_rfl) (by kernel_rfl) (by kernel_rfl) (by kernel_rfl) (fun _ _ _ h => h) (Or.inl ⟨by rfl, ?yq6⟩) (by assumption) ?nq6
      case yq6 => (intro wS hSw; (try dsimp only at hSw); (have k0 := cell_of hSw 0); go_simp; try rfl)
      try simp only [Act.put, List.setIfInBounds_toArray, List.set_cons_zero, List.set_cons_succ]
      refine AnyE.take (i := 7) (v := ?_) (ops_at rfl) (by kernel_rfl) (by kernel_rfl) (by kernel_rfl) (by kernel_rfl) (fun _ _ _ h => h) (Or.inl ⟨by rfl, ?yq7⟩) (by assumption) ?nq7
      case yq7 => (intro wS hSw; (try dsimp only at hSw); (have k0 := cell_of hSw 0); go_simp; try rfl)
      try simp only [Act.put, List.setIfInBounds_toArray, List.set_cons_zero, List.set_cons_succ]
      obtain ⟨u0, hu0⟩ : ∃ u0, rs[k]? = some u0 := ⟨_, Array.getElem?_eq_getElem (by rw [H2.out]; exact hlt)⟩
      have hcr := (cell_of H1.out k).trans hu0
      have hfr := frozen_of H1.out k
      refine AnyE.of_ready (rs := [8]) (by kernel_rfl) (by simp) ?_
      refine ReadyE.cons (ops_at rfl) (fun K hK => ?_) ReadyE.nil
      go_simp
      refine hK.out _ _ (fun h => absurd rfl h) (fun _ => ?_)
      clear hK K
      refine AnyE.end_ (by kernel_rfl) ?_ _
      clear hcr hfr hu0
      go_wp2
      go_roundw
      case rel =>
        refine ⟨k + 1, by omega, by go_num, drewB (drewB (HB.out.setCell (p := ⟨V + 1, k, none⟩) (by show w.heap.size ≤ V + 1; omega) _)), (set_far _ (by show w.heap.size ≠ V + 1; omega) _).trans HX.out, (set_far _ (by show V + 2 ≠ V + 1; omega) _).trans HR.out, (set_far _ (by show V ≠ V + 1; omega) _).trans HV.out, _, set_self H1.out k _, by simpa using H2.out, fun i hi => ?_⟩
        by_cases e : i = k
        · subst e
          rw [Array.getElem?_setIfInBounds_self_of_lt (by rw [H2.out]; exact hlt), HP1.out]
        · rw [Array.getElem?_setIfInBounds_ne (by omega)]
          exact H3.out i (by omega)
      case measure => simp [intOf]; omega
    · obtain rfl : k = A := by omega
      have hT0 : TabI wr (w.heap.size + 1) V (V + 1) (V + 2) k H T 0 0 := ⟨⟨hvz, by omega, by omega⟩, HR.out, ⟨rs, H1.out, H2.out, fun i hi => by rw [H3.out i hi]; simp [lenI]⟩, ⟨_, HV.out, by rw [HAR.out]; simp [madeCells], fun i b hi hb => by simp [lenI] at hb⟩⟩
      have HT0 := Lib.hid hT0
      have hrb := cell_of HR.out 0
      clear hT0
      go_wp2
      clear hrb
      go_loopw [45] (fun i ws => ∃ n : Nat, n ≤ k ∧ i = .int .i64 n ∧ Below w.heap.size w ws ∧ ws.heap[w.heap.size]? = some (.cells #[.int .i64 (k : Int), .int .i64 (H : Int)] 55 (0, 0)) ∧ TabI ws (w.heap.size + 1) V (V + 1) (V + 2) k H T n 0) (fun i _ => k - (intOf i).toNat)
      case atStart => exact ⟨0, Nat.zero_le _, rfl, HB.out, HX.out, HT0.out⟩
      case round =>
        obtain ⟨n, hn, rfl, hb, hx, ht⟩ := hrel
        have HBn := Lib.hid hb
        have HXn := Lib.hid hx
        have HTn := Lib.hid ht
        clear hb hx ht
        by_cases hlt2 : n < k
        · go_wp2
          go_loopw [12] (fun i wi => ∃ m : Nat, m ≤ H ∧ i = .int .i64 ((m : Int) + 1) ∧ Below w.heap.size w wi ∧ wi.heap[w.heap.size]? = some (.cells #[.int .i64 (k : Int), .int .i64 (H : Int)] 55 (0, 0)) ∧ TabI wi (w.heap.size + 1) V (V + 1) (V + 2) k H T n m) (fun i _ => H + 1 - (intOf i).toNat)
          case atStart => exact ⟨0, Nat.zero_le _, rfl, HBn.out, HXn.out, HTn.out⟩
          case round =>
            obtain ⟨m, hm, rfl, hb, hx, ht⟩ := hrel
            have d1 := cell_of hx 1
            have HBm := Lib.hid hb
            have HXm := Lib.hid hx
            have HTm := Lib.hid ht
            clear hb hx ht
            by_cases hlm : m < H
            · have hmH : ((m : Int) + 1) ≤ (H : Int) := by omega
              have hmd : decide (((m : Int) + 1) ≤ (H : Int)) = true := decide_eq_true hmH
              obtain ⟨rs2, r1, r2, r3⟩ := HTm.out.rows
              obtain ⟨vs2, v1, v2, v3⟩ := HTm.out.vals
              have hrow : rs2[n]? = some (.slice (some ⟨V, n * H, none⟩) m H) := by rw [r3 n hlt2]; simp [lenI]
              have hfit : n * H + m < vs2.size := by rw [v2]; exact row_in hlt2 hlm
              have hbd : ∀ (W : World) (x y : Int), (Instr.build 55 #[(0, .int .i64 x), (1, .int .i64 y)]).run Try.prog W = .ok (.agg #[.int .i64 x, .int .i64 y]) W := fun W x y => run_build W 55 _ _ (by kernel_rfl)
              have hwn : IntKind.i64.wrap ((n : Int) + 1) = (n : Int) + 1 := by rw [IntKind.wrap_i64]; omega
              have HR1 := Lib.hid r1
              have HV1 := Lib.hid v1
              have HROW := Lib.hid hrow
              have hc := HF.out wr.drew (V + 3) (V + 2) (n + 1) (m + 1) (drewB HBm.out) (by omega) (by omega) (by omega) (by omega)
                ((HTm.out.worth hA hH (fun a' b' => 1 ≤ a' ∧ 1 ≤ b' ∧ a' ≤ n + 1 ∧ b' ≤ m + 1 ∧ a' + b' < n + 1 + (m + 1)) (fun a' b' h => ⟨h.1, h.2.1, by omega, by omega, by
                  unfold lenI
                  by_cases h1 : a' - 1 < n
                  · rw [if_pos h1]; omega
                  · rw [if_neg h1, if_pos (by omega)]; omega⟩)).below (drewB (Below.refl (V + 3) wr)) (Nat.le_refl _)) (by have := heap_lt HTm.out.box; show V + 3 ≤ wr.heap.size; omega)
              rw [show ((n + 1 : Nat) : Int) = (n : Int) + 1 by omega, show ((m + 1 : Nat) : Int) = (m : Int) + 1 by omega] at hc
              obtain ⟨tv, htv⟩ : ∃ tv, T (n + 1) (m + 1) = tv := ⟨_, rfl⟩
              rw [htv] at hc
              have HC := Lib.hid hc
              have HTV := Lib.hid htv
              obtain ⟨i0, hi0, hz0, hz1, hz2⟩ := info_parts int_info
              have H0 := Lib.hid hi0
              clear r1 r2 r3 v1 v2 v3 hrow hc htv hi0
              go_wp2
              refine region_E (S := fun wq => wq.heap[V + 2]? = some (.cells #[.slice (some ⟨V + 1, 0, none⟩) k k] 49 (0, 0)) ∧ wq.heap[V + 1]? = some (.cells rs2 31 (0, 0))) 16 (by kernel_rfl) ⟨HTm.out.box, HR1.out⟩ (fun hH0 => ?_)
              refine AnyE.take (i := 0) (v := ?_) (ops_at rfl) (by kernel_rfl) (by kernel_rfl) (by kernel_rfl) (by kernel_rfl) (fun _ _ _ h => h) (Or.inl ⟨by rfl, ?yr0⟩) (by assumption) ?nr0
              case yr0 => (intro wS hSw; (try dsimp only at hSw); (have k0 := cell_of hSw.1 0); (have k1 := (cell_of hSw.2 n).trans HROW.out); go_simp; try rfl)
              try simp only [Act.put, List.setIfInBounds_toArray, List.set_cons_zero, List.set_cons_succ]
              refine AnyE.take (i := 1) (v := ?_) (ops_at rfl) (by kernel_rfl) (by kernel_rfl) (by kernel_rfl) (by kernel_rfl) (fun _ _ _ h => h) (Or.inl ⟨by rfl, ?yr1⟩) (by assumption) ?nr1
              case yr1 => (intro wS hSw; (try dsimp only at hSw); (have k0 := cell_of hSw.1 0); (have k1 := (cell_of hSw.2 n).trans HROW.out); go_simp; try rfl)
              try simp only [Act.put, List.setIfInBounds_toArray, List.set_cons_zero, List.set_cons_succ]
              refine AnyE.take (i := 2) (v := ?_) (ops_at rfl) (by kernel_rfl) (by kernel_rfl) (by kernel_rfl) (by kernel_rfl) (fun _ _ _ h => h) (Or.inl ⟨by rfl, ?yr2⟩) (by assumption) ?nr2
              case yr2 => (intro wS hSw; (try dsimp only at hSw); (have k0 := cell_of hSw.1 0); (have k1 := (cell_of hSw.2 n).trans HROW.out); go_simp; try rfl)
              try simp only [Act.put, List.setIfInBounds_toArray, List.set_cons_zero, List.set_cons_succ]
              refine AnyE.take (i := 3) (v := ?_) (ops_at rfl) (by kernel_rfl) (by kernel_rfl) (by kernel_rfl) (by kernel_rfl) (fun _ _ _ h => h) (Or.inl ⟨by rfl, ?yr3⟩) (by assumption) ?nr3
              case yr3 => (intro wS hSw; (try dsimp only at hSw); (have k0 := cell_of hSw.1 0); (have k1 := (cell_of hSw.2 n).trans HROW.out); go_simp; try rfl)
              try simp only [Act.put, List.setIfInBounds_toArray, List.set_cons_zero, List.set_cons_succ]
              refine AnyE.take (i := 4) (v := ?_) (ops_at rfl) (by kernel_rfl) (by kernel_rfl) (by kernel_rfl) (by kernel_rfl) (fun _ _ _ h => h) (Or.inl ⟨by rfl, ?yr4⟩) (by assumption) ?nr4
              case yr4 => (intro wS hSw; (try dsimp only at hSw); (have k0 := cell_of hSw.1 0); (have k1 := (cell_of hSw.2 n).trans HROW.out); go_simp; try rfl)
              try simp only [Act.put, List.setIfInBounds_toArray, List.set_cons_zero, List.set_cons_succ]
              refine AnyE.take (i := 5) (v := ?_) (ops_at rfl) (by kernel_rfl) (by kernel_rfl) (by kernel_rfl) (by kernel_rfl) (fun _ _ _ h => h) (Or.inl ⟨by rfl, ?yr5⟩) (by assumption) ?nr5
              case yr5 => (intro wS hSw; (try dsimp only at hSw); (have k0 := cell_of hSw.1 0); (have k1 := (cell_of hSw.2 n).trans HROW.out); go_simp; try rfl)
              try simp only [Act.put, List.setIfInBounds_toArray, List.set_cons_zero, List.set_cons_succ]
              refine AnyE.take (i := 6) (v := ?_) (ops_at rfl) (by kernel_rfl) (by kernel_rfl) (by kernel_rfl) (by kernel_rfl) (fun _ _ _ h => h) (Or.inl ⟨by rfl, ?yr6⟩) (by assumption) ?nr6
              case yr6 => (intro wS hSw; (try dsimp only at hSw); (have k0 := cell_of hSw.1 0); (have k1 := (cell_of hSw.2 n).trans HROW.out); go_simp; try rfl)
              try simp only [Act.put, List.setIfInBounds_toArray, List.set_cons_zero, List.set_cons_succ]
              refine AnyE.take (i := 7) (v := ?_) (ops_at rfl) (by kernel_rfl) (by kernel_rfl) (by kernel_rfl) (by kernel_rfl) (fun _ _ _ h => h) (Or.inl ⟨by rfl, ?yr7⟩) (by assumption) ?nr7
              case yr7 => (intro wS hSw; (try dsimp only at hSw); (have k0 := cell_of hSw.1 0); (have k1 := (cell_of hSw.2 n).trans HROW.out); go_simp; try rfl)
              try simp only [Act.put, List.setIfInBounds_toArray, List.set_cons_zero, List.set_cons_succ]
              refine AnyE.take (i := 8) (v := ?_) (ops_at rfl) (by kernel_rfl) (by kernel_rfl) (by kernel_rfl) (by kernel_rfl) (fun _ _ _ h => h) (Or.inl ⟨by rfl, ?yr8⟩) (by assumption) ?nr8
              case yr8 => (intro wS hSw; (try dsimp only at hSw); (have k0 := cell_of hSw.1 0); (have k1 := (cell_of hSw.2 n).trans HROW.out); go_simp; try rfl)
              try simp only [Act.put, List.setIfInBounds_toArray, List.set_cons_zero, List.set_cons_succ]
              refine AnyE.take (i := 9) (v := ?_) (ops_at rfl) (by kernel_rfl) (by kernel_rfl) (by kernel_rfl) (by kernel_rfl) (fun _ _ _ h => h) (Or.inl ⟨by rfl, ?yr9⟩) (by assumption) ?nr9
              case yr9 => (intro wS hSw; (try dsimp only at hSw); (have k0 := cell_of hSw.1 0); (have k1 := (cell_of hSw.2 n).trans HROW.out); go_simp; try rfl)
              try simp only [Act.put, List.setIfInBounds_toArray, List.set_cons_zero, List.set_cons_succ]
              refine AnyE.take (i := 10) (v := ?_) (ops_at rfl) (by kernel_rfl) (by kernel_rfl) (by kernel_rfl) (by kernel_rfl) (fun _ _ _ h => h) (Or.inl ⟨by rfl, ?yr10⟩) (by assumption) ?nr10
              case yr10 => (intro wS hSw; (try dsimp only at hSw); (have k0 := cell_of hSw.1 0); (have k1 := (cell_of hSw.2 n).trans HROW.out); go_simp; try rfl)
              try simp only [Act.put, List.setIfInBounds_toArray, List.set_cons_zero, List.set_cons_succ]
              refine AnyE.take (i := 11) (v := ?_) (ops_at rfl) (by kernel_rfl) (by kernel_rfl) (by kernel_rfl) (by kernel_rfl) (fun _ _ _ h => h) (Or.inl ⟨by rfl, ?yr11⟩) (by assumption) ?nr11
              case yr11 => (intro wS hSw; (try dsimp only at hSw); (have k0 := cell_of hSw.1 0); (have k1 := (cell_of hSw.2 n).trans HROW.out); go_simp; try rfl)
              try simp only [Act.put, List.setIfInBounds_toArray, List.set_cons_zero, List.set_cons_succ]
              refine AnyE.of_ready (rs := [12]) (by kernel_rfl) (by simp) ?_
              refine ReadyE.cons (ops_at rfl) (fun K hK => ?_) ReadyE.nil
              go_simp
              refine HC.out.mono ?_
              rintro e w4 ⟨rfl, hb4⟩
              have hb5 : Below wr.heap.size wr w4 := undrew hb4
              refine hK.out _ _ (fun _ => ⟨(hb5.block _ (heap_lt HTm.out.box)).trans HTm.out.box, (hb5.block _ (heap_lt HR1.out)).trans HR1.out⟩) (fun hH1 => ?_)
              clear hK K
              have hS1 := hH1 (by omega)
              refine AnyE.of_ready (rs := [13]) (by kernel_rfl) (by simp) ?_
              refine ReadyE.cons (ops_at rfl) (fun K hK => ?_) ReadyE.nil
              go_simp
              refine hK.out _ _ (fun _ => ⟨(alloc_old _ (heap_lt hS1.1) _).trans hS1.1, (alloc_old _ (heap_lt hS1.2) _).trans hS1.2⟩) (fun hH2 => ?_)
              clear hK K
              have hS2 := hH2 (by omega)
              have hgV := (alloc_old w4 (heap_lt ((hb5.block _ (heap_lt HV1.out)).trans HV1.out)) (.cells #[.int .i64 tv] 3)).trans ((hb5.block _ (heap_lt HV1.out)).trans HV1.out)
              refine AnyE.of_ready (rs := [14]) (by kernel_rfl) (by simp) ?_
              refine ReadyE.cons (ops_at rfl) (fun K hK => ?_) ReadyE.nil
              refine step_append_offs _ rfl (.tmp 59) (.tmp 67) 31 rfl 3 i0 Try.underlying31 H0.out hz1 V (n * H) m H vs2 rfl hgV w4.heap.size 0 1 (.int .i64 tv) rfl (cell_of (new_at w4 (.cells #[.int .i64 tv] 3) rfl) 0) rfl (by omega) hfit ?_
              refine hK.out _ _ (fun _ => ⟨(set_far _ (by show V + 2 ≠ V; omega) _).trans hS2.1, (set_far _ (by show V + 1 ≠ V; omega) _).trans hS2.2⟩) (fun hH3 => ?_)
              clear hK K
              have hS3 := hH3 (by omega)
              have hcr := (cell_of hS3.2 n).trans HROW.out
              have hfr := frozen_of hS3.2 n
              refine AnyE.take (i := 15) (v := ?_) (ops_at rfl) (by kernel_rfl) (by kernel_rfl) (by kernel_rfl) (by kernel_rfl) (fun _ _ _ h => h) (Or.inl ⟨by rfl, ?ys15⟩) (by assumption) ?ns15
              case ys15 => (intro wS hSw; (try dsimp only at hSw); (have k0 := cell_of hSw.1 0); go_simp; try rfl)
              try simp only [Act.put, List.setIfInBounds_toArray, List.set_cons_zero, List.set_cons_succ]
              refine AnyE.of_ready (rs := [16]) (by kernel_rfl) (by simp) ?_
              refine ReadyE.cons (ops_at rfl) (fun K hK => ?_) ReadyE.nil
              go_simp
              refine hK.out _ _ (fun h => absurd rfl h) (fun _ => ?_)
              clear hK K
              refine AnyE.end_ (by kernel_rfl) ?_ _
              clear hcr hfr hgV hS3 hS2 hS1 hH1 hH2 hH3 hH0 hbd
              go_wp2
              go_roundw
              case rel => exact ⟨m + 1, by omega, by go_num, (((HBm.out.trans (hb5.mono HBm.out.size)).alloc (by have := HBm.out.size; have := hb5.size; omega) _).setCell (p := ⟨V, n * H + m, none⟩) (by show w.heap.size ≤ V; omega) _).setCell (p := ⟨V + 1, n, none⟩) (by show w.heap.size ≤ V + 1; omega) _, (set_far _ (by show w.heap.size ≠ V + 1; omega) _).trans ((set_far _ (by show w.heap.size ≠ V; omega) _).trans ((alloc_old _ (by have := heap_lt HXm.out; have := hb5.size; omega) _).trans ((hb5.block _ (heap_lt HXm.out)).trans HXm.out))), TabI.step ((HTm.out.below hb5).below ((Below.refl _ _).alloc (Nat.le_refl _) _)) hlt2 hlm HTV.out⟩
              case measure => simp [intOf]; omega
            · obtain rfl : m = H := by omega
              have hmH : ¬ ((m : Int) + 1) ≤ (m : Int) := by omega
              have hmd : decide (((m : Int) + 1) ≤ (m : Int)) = false := decide_eq_false hmH
              go_wp2
              go_roundw
              case rel => exact ⟨n + 1, by omega, by go_num, HBm.out, HXm.out, HTm.out.next⟩
              case measure => simp [intOf]; omega
        · obtain rfl : n = k := by omega
          go_wp2
          go_ret
          have hl := heap_lt HTn.out.box
          exact ⟨V + 2, rfl, (HTn.out.worth hA hH (fun a b => 1 ≤ a ∧ 1 ≤ b ∧ a ≤ n ∧ b ≤ H) (fun a b h => ⟨h.1, h.2.1, h.2.2.1, h.2.2.2, by rw [lenI, if_pos (by omega)]; exact h.2.2.2⟩)).mono (by omega) (fun a b h => ⟨h, rfl⟩), HBn.out⟩
end Go.Proofs.Ytjpejhpilfjheaa
