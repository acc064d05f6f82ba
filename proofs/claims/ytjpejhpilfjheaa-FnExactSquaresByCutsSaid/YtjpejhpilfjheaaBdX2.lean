/-
  The value of one board, out of those of lesser ones, as the written program finds it.
  Conditions: a board; the lesser boards' values are in the table.
-/
import Derived.Test.YtjpejhpilfjheaaBdL
import Derived.Test.YtjpejhpilfjheaaBdI
import Derived.Test.YtjpejhpilfjheaaPcs
namespace Go.Proofs.Ytjpejhpilfjheaa
set_option linter.unusedVariables false
open Go.RowKit Go.Shelf
attribute [local go_sem] Oper.semAt_some

theorem pcV_next {ps : List (Int × Int × Int)} {k : Nat} {p : Int × Int × Int} (h : ps[k]? = some p) (tu : Bool) (a b : Nat) : pcV (ps.take (k + 1)) tu a b = if isP a b p tu then max (pcV (ps.take k) tu a b) p.2.2 else pcV (ps.take k) tu a b := by
  unfold pcV
  rw [List.take_add_one, h, Option.toList_some, List.foldl_append]
  rfl

set_option maxRecDepth 100000 in
set_option maxHeartbeats 4000000 in
theorem sheet1_any (a b B0 X Pp Pt : Nat) (A : Option Addr) (n c : Nat) (ps : List (Int × Int × Int)) (lo hi : Nat) (tu : Bool) (t : Nat → Nat → Int) (w : World) (ha : 1 ≤ a) (ha2 : a ≤ 24) (hb : 1 ≤ b) (hb2 : b ≤ 24)
    (hn : ps.length = n) (hg : goodPc ps = true) (hp : w.heap[Pp]? = some (.cells #[.slice A n c] 34 (0, 0))) (ht : w.heap[Pt]? = some (.cells #[.bool tu] 4 (0, 0))) (hs : Seg w lo hi A (flat3 ps)) (hhi : hi ≤ w.heap.size)
    (hT : Worth w B0 X t (fun a' b' => 1 ≤ a' ∧ 1 ≤ b' ∧ a' ≤ a ∧ b' ≤ b ∧ a' + b' < a + b)) (hB : B0 ≤ w.heap.size)
    (hbd : ∀ a' b', 1 ≤ a' → 1 ≤ b' → a' + b' < a + b → 0 ≤ t a' b' ∧ t a' b' ≤ 1000000000000001) (v : Int) (hv : valI ps tu t a b = v) :
    Calls Try.prog 64 #[.agg #[.int .i64 (a : Int), .int .i64 (b : Int)], .func (.func 75) #[] #[.pointer (some ⟨X, 0, none⟩)], .pointer (some ⟨Pp, 0, none⟩), .pointer (some ⟨Pt, 0, none⟩)] w fun e w' => e = .returned (.int .i64 v) ∧ Below w.heap.size w w' := by
  rw [valI] at hv
  have hn4 := goodPc_at hg
  have hn4' : n ≤ 4 := by rw [← hn]; exact hn4.2.1
  have hpc := pcV_bd (goodPc_vals hg) tu a b
  have HV := Lib.hid hv
  have HT := Lib.hid hT
  have HBD := Lib.hid hbd
  have HN := Lib.hid hn
  have HG := Lib.hid hg
  have HS := Lib.hid hs
  have HP := Lib.hid hp
  have HTU := Lib.hid ht
  have lp := heap_lt hp
  have lt := heap_lt ht
  clear hv hT hbd hn hg hs hp ht hn4
  refine (callsIn_wide (n := 7)).1 ?_
  refine callsIn_of_wp_marks Try.func64 rfl trivial ?_ rfl
  simp only [Try.ntmps64, List.size_toArray, List.length_cons, List.length_nil, Nat.reduceAdd, Nat.reduceSub, Array.replicate_succ, Array.replicate_zero, List.push_toArray, List.append_toArray, List.nil_append, List.cons_append]
  obtain ⟨W0, hW0⟩ : ∃ W0, ((w.alloc (.cells #[.int .i64 (a : Int), .int .i64 (b : Int)] 55)).alloc (.cells #[.func (.func 75) #[] #[.pointer (some ⟨X, 0, none⟩)]] 57)).alloc (.cells #[.int .i64 0] 3) = W0 := ⟨_, rfl⟩
  have hb0 : Below w.heap.size w W0 := by rw [← hW0]; exact (((Below.refl w.heap.size w).alloc (Nat.le_refl _) _).alloc (by simp) _).alloc (by simp; omega) _
  have hk0 : W0.heap[w.heap.size]? = some (.cells #[.int .i64 (a : Int), .int .i64 (b : Int)] 55 (0, 0)) := by rw [← hW0]; exact (alloc_old _ (by simp; omega) _).trans ((alloc_old _ (by simp) _).trans (new_at _ _ rfl))
  have hk1 : W0.heap[w.heap.size + 1]? = some (.cells #[.func (.func 75) #[] #[.pointer (some ⟨X, 0, none⟩)]] 57 (0, 0)) := by rw [← hW0]; exact (alloc_old _ (by simp) _).trans (new_at _ _ (by simp))
  have hf0 : W0.heap[w.heap.size + 2]? = some (.cells #[.int .i64 0] 3 (0, 0)) := by rw [← hW0]; exact new_at _ _ (by simp)
  have hz0 : W0.heap.size = w.heap.size + 3 := by rw [← hW0]; simp
  have HB0 := Lib.hid hb0
  have HK0 := Lib.hid hk0
  have HK1 := Lib.hid hk1
  have HF0 := Lib.hid hf0
  have cp := cell_of ((hb0.block Pp lp).trans HP.out) 0
  clear hb0 hk0 hk1 hf0
  rw [← hW0] at cp
  have HW0 := Lib.hid hW0
  clear hW0 hz0
  gi_wp2
  rw [HW0.out]
  have hz0 : W0.heap.size = w.heap.size + 3 := by rw [← HW0.out]; simp
  clear HW0 cp
  obtain ⟨f, hf⟩ : ∃ f, w.heap.size + 2 = f := ⟨_, rfl⟩
  rw [hf] at HF0 ⊢
  have hfw : w.heap.size + 2 ≤ f := by omega
  have hfz : W0.heap.size = f + 1 := by omega
  clear hf hz0
  gi_loopw [9, 14] (fun _ i wr => ∃ k : Nat, k ≤ n ∧ i = .int .i64 k ∧ Only (One f) W0 wr ∧ wr.heap[f]? = some (.cells #[.int .i64 (pcV (ps.take k) tu a b)] 3 (0, 0))) (fun _ i _ => n - (intOf i).toNat)
  case atStart => exact ⟨0, Nat.zero_le _, rfl, Only.refl _ _, HF0.out⟩
  case round =>
    obtain ⟨k, hk, rfl, ho, hfc⟩ := hrel
    have hzr := ho.size
    have hbr : Below w.heap.size w wr := HB0.out.trans (ho.below (B := w.heap.size) (by omega) (fun k hk => by have : k = f := hk; omega))
    have HBR := Lib.hid hbr
    have hk0 := (ho.block w.heap.size (heap_lt HK0.out) (fun e => by have : w.heap.size = f := e; omega)).trans HK0.out
    have HKR := Lib.hid hk0
    have HO := Lib.hid ho
    have lf := heap_lt hfc
    obtain ⟨old, hold⟩ : ∃ old, pcV (ps.take k) tu a b = old := ⟨_, rfl⟩
    rw [hold] at hfc
    have HOLD := Lib.hid hold
    have HFC := Lib.hid hfc
    clear ho hold
    by_cases hlt : k < n
    · obtain ⟨b3, o3, x, y, z, rfl, _, _, hx, p0, p1, p2⟩ := (HS.out.below hbr hhi).tri (k := k) (by rw [HN.out]; exact hlt)
      have ct := cell_of ((alloc_old wr (heap_lt ((hbr.block Pt lt).trans HTU.out)) (.cells #[.int .i64 x, .int .i64 y, .int .i64 z] 26)).trans ((hbr.block Pt lt).trans HTU.out)) 0
      have hk1 := (alloc_old wr (heap_lt hk0) (.cells #[.int .i64 x, .int .i64 y, .int .i64 z] 26)).trans hk0
      have c0 := cell_of hk1 0
      have c1 := cell_of hk1 1
      clear hk1
      have HNX := Lib.hid (pcV_next hx tu a b)
      have HPZ := Lib.hid (show 0 ≤ z ∧ z ≤ 1000 from goodPc_vals HG.out _ (List.mem_of_getElem? hx))
      clear hk0 hbr hx
      cases hit : isP a b (x, y, z) tu
      · rw [hit, HOLD.out] at HNX
        gi_wp2_with fail
        refine ⟨trivial, (callsIn_wide.2 (is_any a b x y z tu _ false hit)).mono ?_⟩
        rintro e w' ⟨rfl, hb3⟩
        have hf3 := (hb3.block f (by simp; omega)).trans ((alloc_old wr lf _).trans hfc)
        have HO3 := Lib.hid (show Only (One f) W0 w' from (HO.out.alloc _).trans (only_of_below hb3))
        clear hb3 hfc
        have HF3 := Lib.hid hf3
        clear hf3
        gi_wp2
        go_roundw
        case rel => exact ⟨k + 1, by omega, by go_num, HO3.out, by rw [HNX.out]; exact HF3.out⟩
        case measure => simp [intOf]; omega
      · rw [hit, HOLD.out] at HNX
        gi_wp2_with fail
        refine ⟨trivial, (callsIn_wide.2 (is_any a b x y z tu _ true hit)).mono ?_⟩
        rintro e w' ⟨rfl, hb3⟩
        have hf3 := (hb3.block f (by simp; omega)).trans ((alloc_old wr lf _).trans hfc)
        have hp3 := (hb3.block wr.heap.size (by simp)).trans (new_at wr (.cells #[.int .i64 x, .int .i64 y, .int .i64 z] 26) rfl)
        have d0 := cell_of hf3 0
        have d1 := frozen_of hf3 0
        have d2 := cell_of hp3 2
        have HO3 := Lib.hid (show Only (One f) W0 w' from (HO.out.alloc _).trans (only_of_below hb3))
        have HF3 := Lib.hid hf3
        obtain ⟨nv, hnv⟩ : ∃ nv, (if old < z then z else old) = nv := ⟨_, rfl⟩
        have HNV := Lib.hid (show (if true = true then max old z else old) = nv by rw [if_pos rfl, ← hnv]; split <;> omega)
        clear hb3 hfc hf3 hp3
        gi_wp2
        go_roundw
        case rel => exact ⟨k + 1, by omega, by go_num, Only.setCell (S := One f) HO3.out (p := ⟨f, 0, none⟩) rfl _, by rw [set_self HF3.out 0 _, HNX.out, HNV.out]; rfl⟩
        case measure => simp [intOf]; omega
    · obtain rfl : k = n := by omega
      have hpv : pcV ps tu a b = old := by rw [← HOLD.out, List.take_of_length_le (by rw [HN.out]; exact Nat.le_refl _)]
      have c0 := cell_of hk0 0
      have c1 := cell_of hk0 1
      have HK4' := Lib.hid ((HO.out.block (w.heap.size + 1) (heap_lt HK1.out) (fun e => by have : w.heap.size + 1 = f := e; omega)).trans HK1.out)
      have HAR := Lib.hid hpv
      clear hpv hk0 hbr HOLD
      gi_wp2_with fail
      refine ⟨trivial, (callsIn_wide.2 (cuts_any (a : Int) (b : Int) _)).mono ?_⟩
      rintro e w3 ⟨rfl, hw3⟩
      gi_wp2
      obtain ⟨W3, hW3⟩ : ∃ W3, wr.alloc (.cells #[.int .i64 (a : Int), .int .i64 (b : Int)] 55) = W3 := ⟨_, rfl⟩
      have hf3 : W3.heap[f]? = some (.cells #[.int .i64 old] 3 (0, 0)) := by rw [← hW3]; exact (alloc_old _ lf _).trans hfc
      have hc3 : W3.heap[wr.heap.size]? = some (.cells #[.int .i64 (a : Int), .int .i64 (b : Int)] 55 (0, 0)) := by rw [← hW3]; exact new_at _ _ rfl
      have hk4 : W3.heap[w.heap.size + 1]? = some (.cells #[.func (.func 75) #[] #[.pointer (some ⟨X, 0, none⟩)]] 57 (0, 0)) := by rw [← hW3]; exact (alloc_old _ (heap_lt HK4'.out) _).trans HK4'.out
      have hB3 : Below w.heap.size w W3 := by rw [← hW3]; exact HBR.out.alloc HBR.out.size _
      have hz3 : W3.heap.size = wr.heap.size + 1 := by rw [← hW3]; simp
      try rw [hW3]
      have HC3 := Lib.hid hc3
      have HK4 := Lib.hid hk4
      have HB3 := Lib.hid hB3
      have HZ3 := Lib.hid hz3
      have HF3 := Lib.hid hf3
      clear hW3 hc3 hk4 hB3 hz3 hf3 c0 c1 hfc
      obtain ⟨C, hC⟩ : ∃ C, wr.heap.size = C := ⟨_, rfl⟩
      rw [hC] at HC3 HZ3 lf hzr ⊢
      clear hC
      refine wpIn_rangeFunc_ownH (α := CutOf a b) rfl (by omega) (gf := 79) (lb := #[.pointer (some ⟨C, 0, none⟩)]) rfl trivial (enters_of Try.func79 (by kernel_rfl) rfl)
        (cuts_stops 6 C a b 55 ha ha2 hb hb2 W3 HC3.out) keepsB_t (keepsB_b (by have := HZ3.out; omega)) (Below.refl _ _) (fun _ => rfl)
        (fun pre W => Only (One f) W3 W ∧ W.heap[f]? = some (.cells #[.int .i64 (mostL old ((vals pre).map (sumT t)))] 3 (0, 0)))
        (fun _ _ _ => False)
        (OwnFrom.both (ownFrom_only (Nat.le_refl _)) ownFrom_heap)
        (fun _ _ _ _ _ hs _ _ => hs)
        ⟨Only.refl _ _, HF3.out⟩
        (fun x a' W => ∃ p6 p7, W3.heap.size ≤ p6 ∧ W3.heap.size ≤ p7 ∧ W.heap[p6]? = some (.cells #[.int .i64 (x.1.1.1 : Int), .int .i64 (x.1.1.2 : Int)] 55 (0, 0)) ∧ W.heap[p7]? = some (.cells #[.int .i64 (x.1.2.1 : Int), .int .i64 (x.1.2.2 : Int)] 55 (0, 0)) ∧ a' = { tmps := #[.agg #[.int .i64 (a : Int), .int .i64 (b : Int)], .func (.func 75) #[] #[.pointer (some ⟨X, 0, none⟩)], .pointer (some ⟨Pp, 0, none⟩), .pointer (some ⟨Pt, 0, none⟩), .pointer (some ⟨w.heap.size, 0, none⟩), .pointer (some ⟨w.heap.size + 1, 0, none⟩), .int .i64 0, .pointer (some ⟨f, 0, none⟩), undef, u9, .pointer (some ⟨p6, 0, none⟩), .pointer (some ⟨p7, 0, none⟩), .slice A k c, .int .i64 (k : Int), .int .i64 (k : Int), .bool false, u16, u17, u18, u19, u20, u21, u22, u23, u24, u25, u26, .agg #[.int .i64 (a : Int), .int .i64 (b : Int)], .func (.func 79) #[] #[.pointer (some ⟨C, 0, none⟩)], .agg #[.int .i64 (x.1.1.1 : Int), .int .i64 (x.1.1.2 : Int)], .agg #[.int .i64 (x.1.2.1 : Int), .int .i64 (x.1.2.2 : Int)], undef, undef, undef, undef, undef, undef, undef, undef], defers := [] })
        ?hAx ?assign ?body ?done ?stop
      case hAx =>
        rintro x a' s A B row ⟨p6, p7, h6, h7, hc6, hc7, rfl⟩ hg hr
        exact ⟨p6, p7, h6, h7, heap_kept hc6 hg hr, heap_kept hc7 hg hr, rfl⟩
      case assign =>
        rintro l pre x W K ⟨ho, hf⟩ hK
        have hzw := ho.size
        have hz3 := HZ3.out
        gi_wp2
        refine hK _ _ (((KeepsOthers.alloc W _).trans (KeepsOthers.alloc _ _)).from _) ((alloc_old _ (by simp; omega) _).trans (alloc_old _ (by omega) _)) ⟨(ho.alloc _).alloc _, (alloc_old _ (by simp; omega) _).trans ((alloc_old _ (by omega) _).trans hf)⟩ ⟨W.heap.size, W.heap.size + 1, hzw, by omega, (alloc_old _ (by simp) _).trans (new_at _ _ rfl), new_at _ _ (by simp), rfl⟩
      case body =>
        rintro l pre x a' W hl hrec ⟨ho, hf⟩ ⟨p6, p7, h6, h7, hc6, hc7, rfl⟩ hlt
        have hzw := ho.size
        have hz3 := HZ3.out
        have hwk := (ho.block (w.heap.size + 1) (heap_lt HK4.out) (fun e => by have : w.heap.size + 1 = f := e; omega)).trans HK4.out
        have hx := cut_less x.2 ha hb
        obtain ⟨⟨⟨x1, y1⟩, ⟨x2, y2⟩⟩, hxm⟩ := x
        simp only [] at hx hc6 hc7 ⊢
        have HX := Lib.hid hx
        have HTW := Lib.hid ((HT.out.below HB3.out hB).below (B := w.heap.size) (w' := W) ⟨ho.os, ho.tape, ho.output, ho.size, fun k hk => ho.block k (by have := HB3.out.size; omega) (fun e => by have : k = f := e; omega)⟩ hB)
        obtain ⟨ol2, hold⟩ : ∃ ol2, mostL old ((vals pre).map (sumT t)) = ol2 := ⟨_, rfl⟩
        rw [hold] at hf
        have HOL2 := Lib.hid hold
        have h6f : p6 ≠ f := by omega
        have h7f : p7 ≠ f := by omega
        have hkf : w.heap.size + 1 ≠ f := by omega
        have l6 := heap_lt hc6
        have l7 := heap_lt hc7
        have lf := heap_lt hf
        have lk := heap_lt hwk
        clear hx hold
        have HO := Lib.hid ho
        have HFW := Lib.hid hf
        have HC6 := Lib.hid hc6
        have HC7 := Lib.hid hc7
        have HWK := Lib.hid hwk
        gi_wp2
        refine round_region_E (S := fun wq => wq.heap[f]? = some (.cells #[.int .i64 ol2] 3 (0, 0)) ∧ wq.heap[w.heap.size + 1]? = some (.cells #[.func (.func 75) #[] #[.pointer (some ⟨X, 0, none⟩)]] 57 (0, 0)) ∧ wq.heap[p6]? = some (.cells #[.int .i64 (x1 : Int), .int .i64 (y1 : Int)] 55 (0, 0)) ∧ wq.heap[p7]? = some (.cells #[.int .i64 (x2 : Int), .int .i64 (y2 : Int)] 55 (0, 0))) 7 (by kernel_rfl) (by kernel_rfl) (by rintro ⟨_, _, h⟩; exact h) ⟨hf, hwk, hc6, hc7⟩ (fun hH0 => ?_)
        refine AnyE.take (i := 0) (v := ?_) (ops_at rfl) (by kernel_rfl) (by kernel_rfl) (by kernel_rfl) (by kernel_rfl) (fun _ _ _ h => h) (Or.inl ⟨by rfl, ?ya0⟩) (by assumption) ?na0
        case ya0 => (intro wS hSw; (try dsimp only at hSw); (have k0 := cell_of hSw.1 0); go_simp; try rfl)
        try simp only [Act.put, List.setIfInBounds_toArray, List.set_cons_zero, List.set_cons_succ]
        refine AnyE.take (i := 1) (v := ?_) (ops_at rfl) (by kernel_rfl) (by kernel_rfl) (by kernel_rfl) (by kernel_rfl) (fun _ _ _ h => h) (Or.inl ⟨by rfl, ?ya1⟩) (by assumption) ?na1
        case ya1 => (intro wS hSw; (try dsimp only at hSw); (have k0 := cell_of hSw.2.1 0); go_simp; try rfl)
        try simp only [Act.put, List.setIfInBounds_toArray, List.set_cons_zero, List.set_cons_succ]
        refine AnyE.take (i := 2) (v := ?_) (ops_at rfl) (by kernel_rfl) (by kernel_rfl) (by kernel_rfl) (by kernel_rfl) (fun _ _ _ h => h) (Or.inl ⟨by rfl, ?ya2⟩) (by assumption) ?na2
        case ya2 => (intro wS hSw; (try dsimp only at hSw); (have k0 := cell_of hSw.2.2.1 0); (have k1 := cell_of hSw.2.2.1 1); go_simp; try rfl)
        try simp only [Act.put, List.setIfInBounds_toArray, List.set_cons_zero, List.set_cons_succ]
        refine AnyE.take (i := 3) (v := ?_) (ops_at rfl) (by kernel_rfl) (by kernel_rfl) (by kernel_rfl) (by kernel_rfl) (fun _ _ _ h => h) (Or.inl ⟨by rfl, ?ya3⟩) (by assumption) ?na3
        case ya3 => (intro wS hSw; (try dsimp only at hSw); (have k0 := cell_of hSw.2.2.2 0); (have k1 := cell_of hSw.2.2.2 1); go_simp; try rfl)
        try simp only [Act.put, List.setIfInBounds_toArray, List.set_cons_zero, List.set_cons_succ]
        refine AnyE.of_ready (rs := [4]) (by kernel_rfl) (by simp) ?_
        refine ReadyE.cons (ops_at rfl) (fun K hK => ?_) ReadyE.nil
        go_simp
        refine hK.out _ _ (fun _ => ⟨(alloc_old _ lf _).trans hf, (alloc_old _ lk _).trans hwk, (alloc_old _ l6 _).trans hc6, (alloc_old _ l7 _).trans hc7⟩) (fun hH1 => ?_)
        clear hK K
        have hS1 := hH1 (by omega)
        obtain ⟨q, hq⟩ : ∃ q, sumB t [(x1, y1), (x2, y2)] = q := ⟨_, rfl⟩
        refine AnyE.of_ready (rs := [5]) (by kernel_rfl) (by simp) ?_
        refine ReadyE.cons (ops_at rfl) (fun K hK => ?_) ReadyE.nil
        go_simp
        refine (worth_any B0 X W.heap.size 2 2 t _ [(x1, y1), (x2, y2)] _ (HTW.out.below (drewB ((Below.refl _ _).alloc (Nat.le_refl _) _)) (Nat.le_trans hB (by have := HB3.out.size; omega))) (by simp; have := HB3.out.size; omega) rfl (by omega) (by simp) (two_cells (show (W.alloc _).heap[W.heap.size]? = _ from new_at W _ rfl)) (fun p hp => ?_) (fun p hp => ?_) q hq).mono ?_
        · have hx := HX.out
          simp at hp
          rcases hp with rfl | rfl
          · exact ⟨hx.1.1, hx.1.2.1, hx.1.2.2.2.1, hx.1.2.2.2.2, hx.1.2.2.1⟩
          · exact ⟨hx.2.1, hx.2.2.1, hx.2.2.2.2.1, hx.2.2.2.2.2, hx.2.2.2.1⟩
        · have hx := HX.out
          simp at hp
          rcases hp with rfl | rfl
          · exact HBD.out _ _ hx.1.1 hx.1.2.1 hx.1.2.2.1
          · exact HBD.out _ _ hx.2.1 hx.2.2.1 hx.2.2.2.1
        rintro e w4 ⟨rfl, hb4⟩
        refine hK.out _ _ (fun _ => ⟨(hb4.block _ (heap_lt hS1.1)).trans hS1.1, (hb4.block _ (heap_lt hS1.2.1)).trans hS1.2.1, (hb4.block _ (heap_lt hS1.2.2.1)).trans hS1.2.2.1, (hb4.block _ (heap_lt hS1.2.2.2)).trans hS1.2.2.2⟩) (fun hH2 => ?_)
        clear hK K
        have hS2 := hH2 (by omega)
        refine AnyE.of_ready (rs := [6]) (by kernel_rfl) (by simp) ?_
        refine ReadyE.cons (ops_at rfl) (fun K hK => ?_) ReadyE.nil
        go_simp
        obtain ⟨nv, hnv⟩ : ∃ nv, (if ol2 < q then q else ol2) = nv := ⟨_, rfl⟩
        rw [hnv]
        refine hK.out _ _ (fun _ => hS2) (fun _ => ?_)
        clear hK K
        have hcf := cell_of hS2.1 0
        have hff := frozen_of hS2.1 0
        refine AnyE.of_ready (rs := [7]) (by kernel_rfl) (by simp) ?_
        refine ReadyE.cons (ops_at rfl) (fun K hK => ?_) ReadyE.nil
        go_simp
        refine hK.out _ _ (fun h => absurd rfl h) (fun _ => ?_)
        clear hK K
        refine AnyE.end_ (by kernel_rfl) ?_ _
        clear hcf hff
        have hb5 : Below W.heap.size W w4 := (drewB ((Below.refl _ _).alloc (Nat.le_refl _) _)).trans (hb4.mono (by simp))
        have hO5 : Only (One f) W (w4.setCell ⟨f, 0, none⟩ (.int .i64 nv)) := Only.setCell (S := One f) (only_of_below hb5) (p := ⟨f, 0, none⟩) rfl _
        refine ⟨keeps_only hO5 HFW.out, hO5.block C (by have := HC3.out; have := heap_lt this; omega) (fun e => by have : C = f := e; omega), HO.out.trans hO5, ?_⟩
        rw [set_self hS2.1 0 _]
        have hv : mostL old ((vals (pre ++ [⟨((x1, y1), (x2, y2)), hxm⟩])).map (sumT t)) = nv := by
          rw [vals_snoc, List.map_append]
          simp only [List.map_cons, List.map_nil]
          rw [mostL_snoc, HOL2.out, show sumT t ((x1, y1), (x2, y2)) = q by rw [← hq, sumB_two]; rfl, ← hnv]
          split <;> omega
        rw [hv]
        rfl
      case done =>
        rintro D xs W hD hxs ⟨ho, hf⟩ hK
        have h0 := cell_of hf 0
        gi_wp2
        refine ⟨by simp, .inl ⟨_, _, rfl, run_takeDeferred hK, ?_⟩⟩
        refine ⟨_, results_tmp rfl _ _ _, ?_, ?_⟩
        · show Ending.returned (Value.int .i64 _) = _
          rw [← HAR.out, HV.out]
        · have hD3 := HB3.out.size
          exact (HB3.out.trans (ho.below (B := w.heap.size) hD3 (fun k hk => by have : k = f := hk; omega))).trans (belowK_b (w := W3) hD3 W D _ _ hD hK rfl rfl)
      case stop =>
        rintro D c pre W _ _ h _
        exact h.elim
end Go.Proofs.Ytjpejhpilfjheaa
