/-
  The fewest squares of one board, out of those of lesser ones, as the written program finds them.
  Conditions: a board; the lesser boards' values are in the table.
-/
import Derived.Test.YtjpejhpilfjheaaBdL
namespace Go.Proofs.Ytjpejhpilfjheaa
set_option linter.unusedVariables false
open Go.RowKit Go.Shelf
attribute [local go_sem] Oper.semAt_some

set_option maxRecDepth 100000 in
set_option maxHeartbeats 2000000 in
theorem few1_any (a b B0 X : Nat) (t : Nat → Nat → Int) (w : World) (ha : 1 ≤ a) (ha2 : a ≤ 24) (hb : 1 ≤ b) (hb2 : b ≤ 24) (hT : Worth w B0 X t (fun a' b' => 1 ≤ a' ∧ 1 ≤ b' ∧ a' ≤ a ∧ b' ≤ b ∧ a' + b' < a + b)) (hB : B0 ≤ w.heap.size)
    (hbd : ∀ a' b', 1 ≤ a' → 1 ≤ b' → a' + b' < a + b → 0 ≤ t a' b' ∧ t a' b' ≤ 1000000000000001) (v : Int) (hv : fewI t a b = v) :
    Calls Try.prog 70 #[.agg #[.int .i64 (a : Int), .int .i64 (b : Int)], .func (.func 75) #[] #[.pointer (some ⟨X, 0, none⟩)]] w fun e w' => e = .returned (.int .i64 v) ∧ Below w.heap.size w w' := by
  by_cases hab : a = b
  · obtain rfl : v = 1 := by rw [← hv, fewI, if_pos hab]
    subst hab
    clear hv hT hbd
    go_enter Try.func70, Try.ntmps70
    go_wp2_with fail
    refine (isSquare_any a a _ true (by simp)).mono ?_
    rintro e w1 ⟨rfl, hb1⟩
    go_wp2
    go_ret
    exact ⟨rfl, (((Below.refl _ _).alloc (Nat.le_refl _) _).alloc (by simp) _).trans (hb1.mono (by simp; omega))⟩
  · rw [fewI, if_neg hab] at hv
    have HV := Lib.hid hv
    have HT := Lib.hid hT
    have HBD := Lib.hid hbd
    clear hv hT hbd
    refine (callsIn_wide (n := 7)).1 ?_
    refine callsIn_of_wp_marks Try.func70 rfl trivial ?_ rfl
    simp only [Try.ntmps70, List.size_toArray, List.length_cons, List.length_nil, Nat.reduceAdd, Nat.reduceSub, Array.replicate_succ, Array.replicate_zero, List.push_toArray, List.append_toArray, List.nil_append, List.cons_append]
    have HB0 := Lib.hid (((Below.refl w.heap.size w).alloc (Nat.le_refl _) (.cells #[.int .i64 (a : Int), .int .i64 (b : Int)] 55)).alloc (by simp) (.cells #[.func (.func 75) #[] #[.pointer (some ⟨X, 0, none⟩)]] 57))
    have hk0 : ((w.alloc (.cells #[.int .i64 (a : Int), .int .i64 (b : Int)] 55)).alloc (.cells #[.func (.func 75) #[] #[.pointer (some ⟨X, 0, none⟩)]] 57)).heap[w.heap.size]? = some (.cells #[.int .i64 (a : Int), .int .i64 (b : Int)] 55 (0, 0)) := (alloc_old _ (by simp) _).trans (new_at _ _ rfl)
    have hk1 : ((w.alloc (.cells #[.int .i64 (a : Int), .int .i64 (b : Int)] 55)).alloc (.cells #[.func (.func 75) #[] #[.pointer (some ⟨X, 0, none⟩)]] 57)).heap[w.heap.size + 1]? = some (.cells #[.func (.func 75) #[] #[.pointer (some ⟨X, 0, none⟩)]] 57 (0, 0)) := new_at _ _ (by simp)
    have HK0 := Lib.hid hk0
    have HK1 := Lib.hid hk1
    clear hk0 hk1
    gi_wp2_with fail
    refine ⟨trivial, (callsIn_wide.2 (isSquare_any a b _ false (by simpa using hab))).mono ?_⟩
    rintro e w1 ⟨rfl, hb1⟩
    have HB1 := Lib.hid (HB0.out.trans (hb1.mono (by simp; omega)))
    have hk0 := (hb1.block w.heap.size (by simp; omega)).trans HK0.out
    have HK1' := Lib.hid ((hb1.block (w.heap.size + 1) (by simp)).trans HK1.out)
    have c0 := cell_of hk0 0
    have c1 := cell_of hk0 1
    have HK0' := Lib.hid hk0
    clear hk0 hb1 HK0 HK1
    gi_wp2_with fail
    refine ⟨trivial, (callsIn_wide.2 (area_any a b ha2 hb2 _)).mono ?_⟩
    rintro e w2 ⟨rfl, hb2'⟩
    have HB2 := Lib.hid (HB1.out.trans (hb2'.mono HB1.out.size))
    have hk0 := (hb2'.block w.heap.size (heap_lt HK0'.out)).trans HK0'.out
    have HK1 := Lib.hid ((hb2'.block (w.heap.size + 1) (heap_lt HK1'.out)).trans HK1'.out)
    have HK0 := Lib.hid hk0
    clear c0 c1 hb2' HK0' HK1'
    have hz2 := HB2.out.size
    have hl2 := heap_lt HK1.out
    obtain ⟨ar, har⟩ : ∃ ar : Int, ((a * b : Nat) : Int) = ar := ⟨_, rfl⟩
    have HAR := Lib.hid har
    rw [har]
    have hk3 := (alloc_old w2 (by omega) (.cells #[.int .i64 ar] 3)).trans hk0
    have c0 := cell_of hk3 0
    have c1 := cell_of hk3 1
    have HK3 := Lib.hid hk3
    clear hk0 hk3 har
    gi_wp2_with fail
    refine ⟨trivial, (callsIn_wide.2 (cuts_any (a : Int) (b : Int) _)).mono ?_⟩
    rintro e w3 ⟨rfl, hw3⟩
    gi_wp2
    obtain ⟨W3, hW3⟩ : ∃ W3, (w2.alloc (.cells #[.int .i64 ar] 3)).alloc (.cells #[.int .i64 (a : Int), .int .i64 (b : Int)] 55) = W3 := ⟨_, rfl⟩
    have hf3 : W3.heap[w2.heap.size]? = some (.cells #[.int .i64 ar] 3 (0, 0)) := by rw [← hW3]; exact (alloc_old _ (by simp) _).trans (new_at _ _ rfl)
    have hc3 : W3.heap[w2.heap.size + 1]? = some (.cells #[.int .i64 (a : Int), .int .i64 (b : Int)] 55 (0, 0)) := by rw [← hW3]; exact new_at _ _ (by simp)
    have hk4 : W3.heap[w.heap.size + 1]? = some (.cells #[.func (.func 75) #[] #[.pointer (some ⟨X, 0, none⟩)]] 57 (0, 0)) := by rw [← hW3]; exact (alloc_old _ (by simp; omega) _).trans ((alloc_old _ (by omega) _).trans HK1.out)
    have hB3 : Below w.heap.size w W3 := by rw [← hW3]; exact (HB2.out.alloc (by omega) _).alloc (by simp; omega) _
    have hz3 : W3.heap.size = w2.heap.size + 2 := by rw [← hW3]; simp
    try rw [hW3]
    have HC3 := Lib.hid hc3
    have HK4 := Lib.hid hk4
    have HB3 := Lib.hid hB3
    have HZ3 := Lib.hid hz3
    have HF3 := Lib.hid hf3
    clear hW3 hc3 hk4 hB3 hz3 hf3 c0 c1
    obtain ⟨f, hf⟩ : ∃ f, w2.heap.size = f := ⟨_, rfl⟩
    rw [hf] at HC3 HF3 HZ3 hz2 hl2 ⊢
    clear hf
    refine wpIn_rangeFunc_ownH (α := CutOf a b) rfl (by omega) (gf := 79) (lb := #[.pointer (some ⟨f + 1, 0, none⟩)]) rfl trivial (enters_of Try.func79 (by kernel_rfl) rfl)
      (cuts_stops 6 (f + 1) a b 55 ha ha2 hb hb2 W3 HC3.out) keepsB_t (keepsB_b (by have := HZ3.out; omega)) (Below.refl _ _) (fun _ => rfl)
      (fun pre W => Only (One f) W3 W ∧ W.heap[f]? = some (.cells #[.int .i64 (leastL ar ((vals pre).map (sumT t)))] 3 (0, 0)))
      (fun _ _ _ => False)
      (OwnFrom.both (ownFrom_only (Nat.le_refl _)) ownFrom_heap)
      (fun _ _ _ _ _ hs _ _ => hs)
      ⟨Only.refl _ _, HF3.out⟩
      (fun x a' W => ∃ p6 p7, W3.heap.size ≤ p6 ∧ W3.heap.size ≤ p7 ∧ W.heap[p6]? = some (.cells #[.int .i64 (x.1.1.1 : Int), .int .i64 (x.1.1.2 : Int)] 55 (0, 0)) ∧ W.heap[p7]? = some (.cells #[.int .i64 (x.1.2.1 : Int), .int .i64 (x.1.2.2 : Int)] 55 (0, 0)) ∧ a' = { tmps := #[.agg #[.int .i64 (a : Int), .int .i64 (b : Int)], .func (.func 75) #[] #[.pointer (some ⟨X, 0, none⟩)], .pointer (some ⟨w.heap.size, 0, none⟩), .pointer (some ⟨w.heap.size + 1, 0, none⟩), .int .i64 0, .pointer (some ⟨f, 0, none⟩), .pointer (some ⟨p6, 0, none⟩), .pointer (some ⟨p7, 0, none⟩), .agg #[.int .i64 (a : Int), .int .i64 (b : Int)], .bool false, .agg #[.int .i64 (a : Int), .int .i64 (b : Int)], .int .i64 ar, .agg #[.int .i64 (a : Int), .int .i64 (b : Int)], .func (.func 79) #[] #[.pointer (some ⟨f + 1, 0, none⟩)], .agg #[.int .i64 (x.1.1.1 : Int), .int .i64 (x.1.1.2 : Int)], .agg #[.int .i64 (x.1.2.1 : Int), .int .i64 (x.1.2.2 : Int)], undef, undef, undef, undef, undef, undef, undef, undef], defers := [] })
      ?hAx ?assign ?body ?done ?stop
    case hAx =>
      rintro x a' s A B row ⟨p6, p7, h6, h7, hc6, hc7, rfl⟩ hg hr
      exact ⟨p6, p7, h6, h7, heap_kept hc6 hg hr, heap_kept hc7 hg hr, rfl⟩
    case assign =>
      rintro l pre x W K ⟨ho, hf⟩ hK
      have hzw := ho.size
      have hz3 := HZ3.out
      gi_wp2
      refine hK _ _ (((KeepsOthers.alloc W _).trans (KeepsOthers.alloc _ _)).from _) ((alloc_old _ (by simp; omega) _).trans (alloc_old _ (by omega) _)) ⟨(ho.alloc _).alloc _, (alloc_old _ (by simp; omega) _).trans ((alloc_old _ (by omega) _).trans hf)⟩ ⟨W.heap.size, W.heap.size + 1, hzw, by omega, (alloc_old _ (by simp) _).trans (new_at _ _ rfl), new_at _ _ (by simp), rfl⟩
    case body =>
      rintro l pre x a' W hl hrec ⟨ho, hf⟩ ⟨p6, p7, h6, h7, hc6, hc7, rfl⟩ hlt
      have hzw := ho.size
      have hz3 := HZ3.out
      have hwk := (ho.block (w.heap.size + 1) (heap_lt HK4.out) (fun e => by have : w.heap.size + 1 = f := e; omega)).trans HK4.out
      have hx := cut_less x.2 ha hb
      obtain ⟨⟨⟨x1, y1⟩, ⟨x2, y2⟩⟩, hxm⟩ := x
      simp only [] at hx hc6 hc7 ⊢
      have HX := Lib.hid hx
      have HTW := Lib.hid ((HT.out.below HB3.out hB).below (B := w.heap.size) (w' := W) ⟨ho.os, ho.tape, ho.output, ho.size, fun k hk => ho.block k (by have := HB3.out.size; omega) (fun e => by have : k = f := e; omega)⟩ hB)
      obtain ⟨old, hold⟩ : ∃ old, leastL ar ((vals pre).map (sumT t)) = old := ⟨_, rfl⟩
      rw [hold] at hf
      have HOLD := Lib.hid hold
      have h6f : p6 ≠ f := by omega
      have h7f : p7 ≠ f := by omega
      have hkf : w.heap.size + 1 ≠ f := by omega
      have l6 := heap_lt hc6
      have l7 := heap_lt hc7
      have lf := heap_lt hf
      have lk := heap_lt hwk
      clear hx hold
      have HO := Lib.hid ho
      have HFW := Lib.hid hf
      have HC6 := Lib.hid hc6
      have HC7 := Lib.hid hc7
      have HWK := Lib.hid hwk
      gi_wp2
      refine round_region_E (S := fun wq => wq.heap[f]? = some (.cells #[.int .i64 old] 3 (0, 0)) ∧ wq.heap[w.heap.size + 1]? = some (.cells #[.func (.func 75) #[] #[.pointer (some ⟨X, 0, none⟩)]] 57 (0, 0)) ∧ wq.heap[p6]? = some (.cells #[.int .i64 (x1 : Int), .int .i64 (y1 : Int)] 55 (0, 0)) ∧ wq.heap[p7]? = some (.cells #[.int .i64 (x2 : Int), .int .i64 (y2 : Int)] 55 (0, 0))) 7 (by kernel_rfl) (by kernel_rfl) (by rintro ⟨_, _, h⟩; exact h) ⟨hf, hwk, hc6, hc7⟩ (fun hH0 => ?_)
      refine AnyE.take (i := 0) (v := ?_) (ops_at rfl) (by kernel_rfl) (by kernel_rfl) (by kernel_rfl) (by kernel_rfl) (fun _ _ _ h => h) (Or.inl ⟨by rfl, ?ya0⟩) (by assumption) ?na0
      case ya0 => (intro wS hSw; (try dsimp only at hSw); (have k0 := cell_of hSw.1 0); go_simp; try rfl)
      try simp only [Act.put, List.setIfInBounds_toArray, List.set_cons_zero, List.set_cons_succ]
      refine AnyE.take (i := 1) (v := ?_) (ops_at rfl) (by kernel_rfl) (by kernel_rfl) (by kernel_rfl) (by kernel_rfl) (fun _ _ _ h => h) (Or.inl ⟨by rfl, ?ya1⟩) (by assumption) ?na1
      case ya1 => (intro wS hSw; (try dsimp only at hSw); (have k0 := cell_of hSw.2.1 0); go_simp; try rfl)
      try simp only [Act.put, List.setIfInBounds_toArray, List.set_cons_zero, List.set_cons_succ]
      refine AnyE.take (i := 2) (v := ?_) (ops_at rfl) (by kernel_rfl) (by kernel_rfl) (by kernel_rfl) (by kernel_rfl) (fun _ _ _ h => h) (Or.inl ⟨by rfl, ?ya2⟩) (by assumption) ?na2
      case ya2 => (intro wS hSw; (try dsimp only at hSw); (have k0 := cell_of hSw.2.2.1 0); (have k1 := cell_of hSw.2.2.1 1); go_simp; try rfl)
      try simp only [Act.put, List.setIfInBounds_toArray, List.set_cons_zero, List.set_cons_succ]
      refine AnyE.take (i := 3) (v := ?_) (ops_at rfl) (by kernel_rfl) (by kernel_rfl) (by kernel_rfl) (by kernel_rfl) (fun _ _ _ h => h) (Or.inl ⟨by rfl, ?ya3⟩) (by assumption) ?na3
      case ya3 => (intro wS hSw; (try dsimp only at hSw); (have k0 := cell_of hSw.2.2.2 0); (have k1 := cell_of hSw.2.2.2 1); go_simp; try rfl)
      try simp only [Act.put, List.setIfInBounds_toArray, List.set_cons_zero, List.set_cons_succ]
      refine AnyE.of_ready (rs := [4]) (by kernel_rfl) (by simp) ?_
      refine ReadyE.cons (ops_at rfl) (fun K hK => ?_) ReadyE.nil
      go_simp
      refine hK.out _ _ (fun _ => ⟨(alloc_old _ lf _).trans hf, (alloc_old _ lk _).trans hwk, (alloc_old _ l6 _).trans hc6, (alloc_old _ l7 _).trans hc7⟩) (fun hH1 => ?_)
      clear hK K
      have hS1 := hH1 (by omega)
      obtain ⟨q, hq⟩ : ∃ q, sumB t [(x1, y1), (x2, y2)] = q := ⟨_, rfl⟩
      refine AnyE.of_ready (rs := [5]) (by kernel_rfl) (by simp) ?_
      refine ReadyE.cons (ops_at rfl) (fun K hK => ?_) ReadyE.nil
      go_simp
      refine (worth_any B0 X W.heap.size 2 2 t _ [(x1, y1), (x2, y2)] _ (HTW.out.below (drewB ((Below.refl _ _).alloc (Nat.le_refl _) _)) (Nat.le_trans hB (by have := HB3.out.size; omega))) (by simp; have := HB3.out.size; omega) rfl (by omega) (by simp) (two_cells (show (W.alloc _).heap[W.heap.size]? = _ from new_at W _ rfl)) (fun p hp => ?_) (fun p hp => ?_) q hq).mono ?_
      · have hx := HX.out
        simp at hp
        rcases hp with rfl | rfl
        · exact ⟨hx.1.1, hx.1.2.1, hx.1.2.2.2.1, hx.1.2.2.2.2, hx.1.2.2.1⟩
        · exact ⟨hx.2.1, hx.2.2.1, hx.2.2.2.2.1, hx.2.2.2.2.2, hx.2.2.2.1⟩
      · have hx := HX.out
        simp at hp
        rcases hp with rfl | rfl
        · exact HBD.out _ _ hx.1.1 hx.1.2.1 hx.1.2.2.1
        · exact HBD.out _ _ hx.2.1 hx.2.2.1 hx.2.2.2.1
      rintro e w4 ⟨rfl, hb4⟩
      refine hK.out _ _ (fun _ => ⟨(hb4.block _ (heap_lt hS1.1)).trans hS1.1, (hb4.block _ (heap_lt hS1.2.1)).trans hS1.2.1, (hb4.block _ (heap_lt hS1.2.2.1)).trans hS1.2.2.1, (hb4.block _ (heap_lt hS1.2.2.2)).trans hS1.2.2.2⟩) (fun hH2 => ?_)
      clear hK K
      have hS2 := hH2 (by omega)
      refine AnyE.of_ready (rs := [6]) (by kernel_rfl) (by simp) ?_
      refine ReadyE.cons (ops_at rfl) (fun K hK => ?_) ReadyE.nil
      go_simp
      obtain ⟨nv, hnv⟩ : ∃ nv, (if q < old then q else old) = nv := ⟨_, rfl⟩
      rw [hnv]
      refine hK.out _ _ (fun _ => hS2) (fun _ => ?_)
      clear hK K
      have hcf := cell_of hS2.1 0
      have hff := frozen_of hS2.1 0
      refine AnyE.of_ready (rs := [7]) (by kernel_rfl) (by simp) ?_
      refine ReadyE.cons (ops_at rfl) (fun K hK => ?_) ReadyE.nil
      go_simp
      refine hK.out _ _ (fun h => absurd rfl h) (fun _ => ?_)
      clear hK K
      refine AnyE.end_ (by kernel_rfl) ?_ _
      clear hcf hff
      have hb5 : Below W.heap.size W w4 := (drewB ((Below.refl _ _).alloc (Nat.le_refl _) _)).trans (hb4.mono (by simp))
      have hO5 : Only (One f) W (w4.setCell ⟨f, 0, none⟩ (.int .i64 nv)) := Only.setCell (S := One f) (only_of_below hb5) (p := ⟨f, 0, none⟩) rfl _
      refine ⟨keeps_only hO5 HFW.out, hO5.block (f + 1) (by omega) (fun e => by have : f + 1 = f := e; omega), HO.out.trans hO5, ?_⟩
      rw [set_self hS2.1 0 _]
      have hv : leastL ar ((vals (pre ++ [⟨((x1, y1), (x2, y2)), hxm⟩])).map (sumT t)) = nv := by
        rw [vals_snoc, List.map_append]
        simp only [List.map_cons, List.map_nil]
        rw [leastL_snoc, HOLD.out, show sumT t ((x1, y1), (x2, y2)) = q by rw [← hq, sumB_two]; rfl, ← hnv]
        split <;> omega
      rw [hv]
      rfl
    case done =>
      rintro D xs W hD hxs ⟨ho, hf⟩ hK
      have h0 := cell_of hf 0
      gi_wp2
      refine ⟨by simp, .inl ⟨_, _, rfl, run_takeDeferred hK, ?_⟩⟩
      refine ⟨_, results_tmp rfl _ _ _, ?_, ?_⟩
      · show Ending.returned (Value.int .i64 _) = _
        rw [← HAR.out, HV.out]
      · have hD3 := HB3.out.size
        exact (HB3.out.trans (ho.below (B := w.heap.size) hD3 (fun k hk => by have : k = f := hk; omega))).trans (belowK_b (w := W3) hD3 W D _ _ hD hK rfl rfl)
    case stop =>
      rintro D c pre W _ _ h _
      exact h.elim
end Go.Proofs.Ytjpejhpilfjheaa
