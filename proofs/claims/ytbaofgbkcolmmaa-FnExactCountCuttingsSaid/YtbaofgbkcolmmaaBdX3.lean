/-
  The ways of cutting one board, out of those of lesser ones, as the written program counts them.
  Conditions: a board; the lesser boards' values are in the table.
-/
import Derived.Test.YtbaofgbkcolmmaaBdL
namespace Go.Proofs.Ytbaofgbkcolmmaa
set_option linter.unusedVariables false
open Go.RowKit Go.Shelf
attribute [local go_sem] Oper.semAt_some

theorem wayF_rng {t : Nat → Nat → Int} {cs : List Cut} (h : ∀ c ∈ cs, WayOk (t c.1.1 c.1.2) ∧ WayOk (t c.2.1 c.2.2)) : 0 ≤ wayF capI t 0 cs ∧ wayF capI t 0 cs ≤ 1000000000000001 := by
  by_cases hc : cs = []
  · subst hc; simp [wayF]
  · have h1 := wayF_ok h 0 (by omega) (by omega) (.inl hc)
    exact ⟨by have := h1.1; omega, h1.2⟩

set_option maxRecDepth 100000 in
set_option maxHeartbeats 4000000 in
theorem ways1_any (a b B0 X : Nat) (t : Nat → Nat → Int) (w : World) (ha : 1 ≤ a) (ha2 : a ≤ 24) (hb : 1 ≤ b) (hb2 : b ≤ 24) (hT : Worth w B0 X t (fun a' b' => 1 ≤ a' ∧ 1 ≤ b' ∧ a' ≤ a ∧ b' ≤ b ∧ a' + b' < a + b)) (hB : B0 ≤ w.heap.size)
    (hbd : ∀ a' b', 1 ≤ a' → 1 ≤ b' → a' + b' < a + b → WayOk (t a' b')) (v : Int) (hv : wayI t a b = v) :
    Calls Try.prog 90 #[.agg #[.int .i64 (a : Int), .int .i64 (b : Int)], .func (.func 102) #[] #[.pointer (some ⟨X, 0, none⟩)]] w fun e w' => e = .returned (.int .i64 v) ∧ Below w.heap.size w w' := by
  have hbe := brd_eql (a : Int) (b : Int) 1 1
  have hbb : ∀ W : World, (Instr.build 58 #[(0, .int .i64 1), (1, .int .i64 1)]).run Try.prog W = .ok (.agg #[.int .i64 1, .int .i64 1]) W := fun W => run_build W 58 _ _ (by kernel_rfl)
  by_cases hab : a = 1 ∧ b = 1
  · obtain rfl : v = 1 := by rw [← hv, wayI, if_pos hab]
    obtain ⟨rfl, rfl⟩ := hab
    clear hv hT hbd hbe
    have hbe2 : ∀ W : World, (binOp .eql 58 (.agg #[.int .i64 1, .int .i64 1]) (.agg #[.int .i64 1, .int .i64 1])).run Try.prog W = .ok (.bool true) W := fun W => brd_eql 1 1 1 1 W
    go_enter Try.func90, Try.ntmps90
    go_wp2
    go_ret
    exact ⟨rfl, ((Below.refl _ _).alloc (Nat.le_refl _) _).alloc (by simp) _⟩
  · rw [wayI, if_neg hab] at hv
    have hne : ((a : Int) == 1 && (b : Int) == 1) = false := by
      rw [Bool.eq_false_iff]
      intro h
      rw [Bool.and_eq_true, beq_iff_eq, beq_iff_eq] at h
      exact hab ⟨by omega, by omega⟩
    rw [hne] at hbe
    have HV := Lib.hid hv
    have HT := Lib.hid hT
    have HBD := Lib.hid hbd
    clear hv hT hbd hne
    refine (callsIn_wide (n := 7)).1 ?_
    refine callsIn_of_wp_marks Try.func90 rfl trivial ?_ rfl
    simp only [Try.ntmps90, List.size_toArray, List.length_cons, List.length_nil, Nat.reduceAdd, Nat.reduceSub, Array.replicate_succ, Array.replicate_zero, List.push_toArray, List.append_toArray, List.nil_append, List.cons_append]
    obtain ⟨W0, hW0⟩ : ∃ W0, ((w.alloc (.cells #[.int .i64 (a : Int), .int .i64 (b : Int)] 58)).alloc (.cells #[.func (.func 102) #[] #[.pointer (some ⟨X, 0, none⟩)]] 65)).alloc (.cells #[.int .i64 0] 3) = W0 := ⟨_, rfl⟩
    have hb0 : Below w.heap.size w W0 := by rw [← hW0]; exact (((Below.refl w.heap.size w).alloc (Nat.le_refl _) _).alloc (by simp) _).alloc (by simp; omega) _
    have hk0 : W0.heap[w.heap.size]? = some (.cells #[.int .i64 (a : Int), .int .i64 (b : Int)] 58 (0, 0)) := by rw [← hW0]; exact (alloc_old _ (by simp; omega) _).trans ((alloc_old _ (by simp) _).trans (new_at _ _ rfl))
    have hk1 : W0.heap[w.heap.size + 1]? = some (.cells #[.func (.func 102) #[] #[.pointer (some ⟨X, 0, none⟩)]] 65 (0, 0)) := by rw [← hW0]; exact (alloc_old _ (by simp) _).trans (new_at _ _ (by simp))
    have hf0 : W0.heap[w.heap.size + 2]? = some (.cells #[.int .i64 0] 3 (0, 0)) := by rw [← hW0]; exact new_at _ _ (by simp)
    have HB0 := Lib.hid hb0
    have HK1 := Lib.hid hk1
    have HF0 := Lib.hid hf0
    have HW0 := Lib.hid hW0
    clear hb0 hk0 hk1 hf0 hW0
    gi_wp2_with fail
    rw [HW0.out]
    clear hbe hbb
    refine ⟨trivial, (callsIn_wide.2 (cuts_any (a : Int) (b : Int) _)).mono ?_⟩
    rintro e w3 ⟨rfl, hw3⟩
    gi_wp2
    have hz0 : W0.heap.size = w.heap.size + 3 := by rw [← HW0.out]; simp
    obtain ⟨W3, hW3⟩ : ∃ W3, W0.alloc (.cells #[.int .i64 (a : Int), .int .i64 (b : Int)] 58) = W3 := ⟨_, rfl⟩
    have hf3 : W3.heap[w.heap.size + 2]? = some (.cells #[.int .i64 0] 3 (0, 0)) := by rw [← hW3]; exact (alloc_old _ (heap_lt HF0.out) _).trans HF0.out
    have hc3 : W3.heap[W0.heap.size]? = some (.cells #[.int .i64 (a : Int), .int .i64 (b : Int)] 58 (0, 0)) := by rw [← hW3]; exact new_at _ _ rfl
    have hk4 : W3.heap[w.heap.size + 1]? = some (.cells #[.func (.func 102) #[] #[.pointer (some ⟨X, 0, none⟩)]] 65 (0, 0)) := by rw [← hW3]; exact (alloc_old _ (heap_lt HK1.out) _).trans HK1.out
    have hB3 : Below w.heap.size w W3 := by rw [← hW3]; exact HB0.out.alloc HB0.out.size _
    have hz3 : W3.heap.size = W0.heap.size + 1 := by rw [← hW3]; simp
    try rw [hW3]
    have HC3 := Lib.hid hc3
    have HK4 := Lib.hid hk4
    have HB3 := Lib.hid hB3
    have HZ3 := Lib.hid hz3
    have HF3 := Lib.hid hf3
    clear hW3 hc3 hk4 hB3 hz3 hf3 HW0
    obtain ⟨C, hC⟩ : ∃ C, W0.heap.size = C := ⟨_, rfl⟩
    obtain ⟨f, hf⟩ : ∃ f, w.heap.size + 2 = f := ⟨_, rfl⟩
    rw [hC] at HC3 HZ3 hz0 ⊢
    rw [hf] at HF3 ⊢
    have hfw : w.heap.size + 2 ≤ f := by omega
    have hfC : f < C := by omega
    have hz0' : w.heap.size + 3 ≤ C := by omega
    clear hC hf HF0 HB0 HK1 hz0
    refine wpIn_rangeFunc_ownH (α := CutOf a b) rfl (by omega) (gf := 105) (lb := #[.pointer (some ⟨C, 0, none⟩)]) rfl trivial (enters_of Try.func105 (by kernel_rfl) rfl)
      (cuts_stops 6 C a b 58 ha ha2 hb hb2 W3 HC3.out) keepsB_t (keepsB_b (by have := HZ3.out; omega)) (Below.refl _ _) (fun _ => rfl)
      (fun pre W => Only (One f) W3 W ∧ W.heap[f]? = some (.cells #[.int .i64 (wayF capI t 0 (vals pre))] 3 (0, 0)))
      (fun _ _ _ => False)
      (OwnFrom.both (ownFrom_only (Nat.le_refl _)) ownFrom_heap)
      (fun _ _ _ _ _ hs _ _ => hs)
      ⟨Only.refl _ _, HF3.out⟩
      (fun x a' W => ∃ p6 p7, W3.heap.size ≤ p6 ∧ W3.heap.size ≤ p7 ∧ W.heap[p6]? = some (.cells #[.int .i64 (x.1.1.1 : Int), .int .i64 (x.1.1.2 : Int)] 58 (0, 0)) ∧ W.heap[p7]? = some (.cells #[.int .i64 (x.1.2.1 : Int), .int .i64 (x.1.2.2 : Int)] 58 (0, 0)) ∧ a' = { tmps := #[.agg #[.int .i64 (a : Int), .int .i64 (b : Int)], .func (.func 102) #[] #[.pointer (some ⟨X, 0, none⟩)], .pointer (some ⟨w.heap.size, 0, none⟩), .pointer (some ⟨w.heap.size + 1, 0, none⟩), .int .i64 0, .pointer (some ⟨f, 0, none⟩), .pointer (some ⟨p6, 0, none⟩), .pointer (some ⟨p7, 0, none⟩), .agg #[.int .i64 (a : Int), .int .i64 (b : Int)], .agg #[.int .i64 1, .int .i64 1], .bool false, .agg #[.int .i64 (a : Int), .int .i64 (b : Int)], .func (.func 105) #[] #[.pointer (some ⟨C, 0, none⟩)], .agg #[.int .i64 (x.1.1.1 : Int), .int .i64 (x.1.1.2 : Int)], .agg #[.int .i64 (x.1.2.1 : Int), .int .i64 (x.1.2.2 : Int)], undef, undef, undef, undef, undef, undef, undef, undef, undef, undef, undef, undef, undef], defers := [] })
      ?hAx ?assign ?body ?done ?stop
    case hAx =>
      rintro x a' s A B row ⟨p6, p7, h6, h7, hc6, hc7, rfl⟩ hg hr
      exact ⟨p6, p7, h6, h7, heap_kept hc6 hg hr, heap_kept hc7 hg hr, rfl⟩
    case assign =>
      rintro l pre x W K ⟨ho, hf⟩ hK
      have hzw := ho.size
      have hz3 := HZ3.out
      gi_wp2
      refine hK _ _ (((KeepsOthers.alloc W _).trans (KeepsOthers.alloc _ _)).from _) ((alloc_old _ (by simp; omega) _).trans (alloc_old _ (by omega) _)) ⟨(ho.alloc _).alloc _, (alloc_old _ (by simp; omega) _).trans ((alloc_old _ (by omega) _).trans hf)⟩ ⟨W.heap.size, W.heap.size + 1, hzw, by omega, (alloc_old _ (by simp) _).trans (new_at _ _ rfl), new_at _ _ (by simp), rfl⟩
    case body =>
      rintro l pre x a' W hl hrec ⟨ho, hf⟩ ⟨p6, p7, h6, h7, hc6, hc7, rfl⟩ hlt
      have hzw := ho.size
      have hz3 := HZ3.out
      have hwk := (ho.block (w.heap.size + 1) (heap_lt HK4.out) (fun e => by have : w.heap.size + 1 = f := e; omega)).trans HK4.out
      have hx := cut_less x.2 ha hb
      obtain ⟨⟨⟨x1, y1⟩, ⟨x2, y2⟩⟩, hxm⟩ := x
      simp only [] at hx hc6 hc7 ⊢
      have HX := Lib.hid hx
      have HTW := Lib.hid ((HT.out.below HB3.out hB).below (B := w.heap.size) (w' := W) ⟨ho.os, ho.tape, ho.output, ho.size, fun k hk => ho.block k (by have := HB3.out.size; omega) (fun e => by have : k = f := e; omega)⟩ hB)
      obtain ⟨ol2, hold⟩ : ∃ ol2, wayF capI t 0 (vals pre) = ol2 := ⟨_, rfl⟩
      rw [hold] at hf
      have HOL2 := Lib.hid hold
      have h6f : p6 ≠ f := by omega
      have h7f : p7 ≠ f := by omega
      have hkf : w.heap.size + 1 ≠ f := by omega
      have l6 := heap_lt hc6
      have l7 := heap_lt hc7
      have lf := heap_lt hf
      have lk := heap_lt hwk
      clear hx hold
      have HO := Lib.hid ho
      have HFW := Lib.hid hf
      have HC6 := Lib.hid hc6
      have HC7 := Lib.hid hc7
      have HWK := Lib.hid hwk
      gi_wp2
      have hTWB : B0 ≤ W.heap.size := Nat.le_trans hB (by have := HB3.out.size; omega)
      have HBW := Lib.hid hTWB
      have HSB := Lib.hid (show ∀ W' : World, Below W.heap.size W W' → W'.heap[f]? = some (.cells #[.int .i64 ol2] 3 (0, 0)) ∧ W'.heap[w.heap.size + 1]? = some (.cells #[.func (.func 102) #[] #[.pointer (some ⟨X, 0, none⟩)]] 65 (0, 0)) ∧ W'.heap[p6]? = some (.cells #[.int .i64 (x1 : Int), .int .i64 (y1 : Int)] 58 (0, 0)) ∧ W'.heap[p7]? = some (.cells #[.int .i64 (x2 : Int), .int .i64 (y2 : Int)] 58 (0, 0)) from fun W' h => ⟨(h.block f lf).trans HFW.out, (h.block _ lk).trans HWK.out, (h.block p6 l6).trans HC6.out, (h.block p7 l7).trans HC7.out⟩)
      obtain ⟨q1, hq1⟩ : ∃ q, t x1 y1 = q := ⟨_, rfl⟩
      obtain ⟨q2, hq2⟩ : ∃ q, t x2 y2 = q := ⟨_, rfl⟩
      have hw1 : WayOk q1 := by rw [← hq1]; exact HBD.out _ _ HX.out.1.1 HX.out.1.2.1 HX.out.1.2.2.1
      have hw2 : WayOk q2 := by rw [← hq2]; exact HBD.out _ _ HX.out.2.1 HX.out.2.2.1 HX.out.2.2.2.1
      obtain ⟨cp, hcp⟩ : ∃ cp, capI q1 q2 = cp := ⟨_, rfl⟩
      have hck : WayOk cp := by rw [← hcp]; exact (cap_same hw1 hw2).2
      obtain ⟨hck1, hck2⟩ := hck
      have hold := wayF_rng (cs := vals pre) (t := t) (fun c hc => by obtain ⟨u, _, rfl⟩ := List.mem_map.1 hc; have h := cut_less u.2 ha hb; exact ⟨HBD.out _ _ h.1.1 h.1.2.1 h.1.2.2.1, HBD.out _ _ h.2.1 h.2.2.1 h.2.2.2.1⟩)
      rw [HOL2.out] at hold
      have hwa : IntKind.i64.wrap (ol2 + cp) = ol2 + cp := by rw [IntKind.wrap_i64]; omega
      obtain ⟨nv, hnv⟩ : ∃ nv, (if 1000000000000001 < ol2 + cp then 1000000000000001 else ol2 + cp) = nv := ⟨_, rfl⟩
      have HNEXT := Lib.hid (show wayF capI t 0 (vals (pre ++ [⟨((x1, y1), (x2, y2)), hxm⟩])) = nv by rw [vals_snoc, wayF_snoc, HOL2.out]; simp only [hq1, hq2, hcp]; rw [← hnv]; split <;> omega)
      have HQ1 := Lib.hid hq1
      have HQ2 := Lib.hid hq2
      have HW1 := Lib.hid hw1
      have HW2 := Lib.hid hw2
      have HCP := Lib.hid hcp
      have HNV := Lib.hid hnv
      clear hq1 hq2 hw1 hw2 hcp hnv hold hTWB
      refine round_region_E (S := fun wq => wq.heap[f]? = some (.cells #[.int .i64 ol2] 3 (0, 0)) ∧ wq.heap[w.heap.size + 1]? = some (.cells #[.func (.func 102) #[] #[.pointer (some ⟨X, 0, none⟩)]] 65 (0, 0)) ∧ wq.heap[p6]? = some (.cells #[.int .i64 (x1 : Int), .int .i64 (y1 : Int)] 58 (0, 0)) ∧ wq.heap[p7]? = some (.cells #[.int .i64 (x2 : Int), .int .i64 (y2 : Int)] 58 (0, 0))) 12 (by kernel_rfl) (by kernel_rfl) (by rintro ⟨_, _, h⟩; exact h) ⟨hf, hwk, hc6, hc7⟩ (fun hH0 => ?_)
      refine AnyE.take (i := 0) (v := ?_) (ops_at rfl) (by kernel_rfl) (by kernel_rfl) (by kernel_rfl) (by kernel_rfl) (fun _ _ _ h => h) (Or.inl ⟨by rfl, ?ya0⟩) (by assumption) ?na0
      case ya0 => (intro wS hSw; (try dsimp only at hSw); (have k0 := cell_of hSw.1 0); go_simp; try rfl)
      try simp only [Act.put, List.setIfInBounds_toArray, List.set_cons_zero, List.set_cons_succ]
      refine AnyE.take (i := 1) (v := ?_) (ops_at rfl) (by kernel_rfl) (by kernel_rfl) (by kernel_rfl) (by kernel_rfl) (fun _ _ _ h => h) (Or.inl ⟨by rfl, ?ya1⟩) (by assumption) ?na1
      case ya1 => (intro wS hSw; (try dsimp only at hSw); (have k0 := cell_of hSw.2.1 0); go_simp; try rfl)
      try simp only [Act.put, List.setIfInBounds_toArray, List.set_cons_zero, List.set_cons_succ]
      refine AnyE.take (i := 2) (v := ?_) (ops_at rfl) (by kernel_rfl) (by kernel_rfl) (by kernel_rfl) (by kernel_rfl) (fun _ _ _ h => h) (Or.inl ⟨by rfl, ?ya2⟩) (by assumption) ?na2
      case ya2 => (intro wS hSw; (try dsimp only at hSw); (have k0 := cell_of hSw.2.2.1 0); (have k1 := cell_of hSw.2.2.1 1); go_simp; try rfl)
      try simp only [Act.put, List.setIfInBounds_toArray, List.set_cons_zero, List.set_cons_succ]
      refine AnyE.take (i := 5) (v := ?_) (ops_at rfl) (by kernel_rfl) (by kernel_rfl) (by kernel_rfl) (by kernel_rfl) (fun _ _ _ h => h) (Or.inl ⟨by rfl, ?ya5⟩) (by assumption) ?na5
      case ya5 => (intro wS hSw; (try dsimp only at hSw); (have k0 := cell_of hSw.2.1 0); go_simp; try rfl)
      try simp only [Act.put, List.setIfInBounds_toArray, List.set_cons_zero, List.set_cons_succ]
      refine AnyE.take (i := 6) (v := ?_) (ops_at rfl) (by kernel_rfl) (by kernel_rfl) (by kernel_rfl) (by kernel_rfl) (fun _ _ _ h => h) (Or.inl ⟨by rfl, ?ya6⟩) (by assumption) ?na6
      case ya6 => (intro wS hSw; (try dsimp only at hSw); (have k0 := cell_of hSw.2.2.2 0); (have k1 := cell_of hSw.2.2.2 1); go_simp; try rfl)
      try simp only [Act.put, List.setIfInBounds_toArray, List.set_cons_zero, List.set_cons_succ]
      refine AnyE.of_ready (rs := [3, 7]) (by kernel_rfl) (by simp) ?_
      refine ReadyE.cons (ops_at rfl) (fun K hK => ?_) (ReadyE.cons (ops_at rfl) (fun K hK => ?_) ReadyE.nil)
      · go_simp
        refine hK.out _ _ (fun _ => HSB.out _ (drewB ((Below.refl W.heap.size W).alloc (Nat.le_refl _) (.cells #[.int .i64 (x1 : Int), .int .i64 (y1 : Int)] 58)))) (fun _ => ?_)
        clear hK K
        refine AnyE.of_ready (rs := [4, 7]) (by kernel_rfl) (by simp) ?_
        refine ReadyE.cons (ops_at rfl) (fun K hK => ?_) (ReadyE.cons (ops_at rfl) (fun K hK => ?_) ReadyE.nil)
        · go_simp
          refine (worth_any B0 X (W.heap.size) 1 1 t _ [(x1, y1)] _ (HTW.out.below (drewB ((Below.refl W.heap.size W).alloc (Nat.le_refl _) (.cells #[.int .i64 (x1 : Int), .int .i64 (y1 : Int)] 58))) HBW.out) (Nat.le_trans HBW.out ((drewB ((Below.refl W.heap.size W).alloc (Nat.le_refl _) (.cells #[.int .i64 (x1 : Int), .int .i64 (y1 : Int)] 58)))).size) rfl (by omega) (heap_lt (show (W.alloc (.cells #[.int .i64 (x1 : Int), .int .i64 (y1 : Int)] 58)).heap[W.heap.size]? = _ from new_at W _ rfl)) (one_cell (show (W.alloc (.cells #[.int .i64 (x1 : Int), .int .i64 (y1 : Int)] 58)).heap[W.heap.size]? = _ from new_at W _ rfl)) (fun p hp => ?_) (fun p hp => ?_) q1 (by rw [sumB_one]; exact HQ1.out)).mono ?_
          · have hx := HX.out
            simp at hp
            subst hp
            exact ⟨hx.1.1, hx.1.2.1, hx.1.2.2.2.1, hx.1.2.2.2.2, hx.1.2.2.1⟩
          · have hx := HX.out
            simp at hp
            subst hp
            exact ⟨by have := (HBD.out _ _ hx.1.1 hx.1.2.1 hx.1.2.2.1).1; show 0 ≤ t x1 y1; omega, (HBD.out _ _ hx.1.1 hx.1.2.1 hx.1.2.2.1).2⟩
          rintro e w4 ⟨rfl, hb4⟩
          have hb4' : Below W.heap.size W w4 := ((drewB ((Below.refl W.heap.size W).alloc (Nat.le_refl _) (.cells #[.int .i64 (x1 : Int), .int .i64 (y1 : Int)] 58)))).trans (hb4.mono (by simp))
          refine hK.out _ _ (fun _ => HSB.out _ hb4') (fun _ => ?_)
          clear hK K
          refine AnyE.of_ready (rs := [7]) (by kernel_rfl) (by simp) ?_
          refine ReadyE.cons (ops_at rfl) (fun K hK => ?_) ReadyE.nil
          go_simp
          refine hK.out _ _ (fun _ => HSB.out _ (hb4'.alloc hb4'.size (.cells #[.int .i64 (x2 : Int), .int .i64 (y2 : Int)] 58))) (fun _ => ?_)
          clear hK K
          refine AnyE.of_ready (rs := [8]) (by kernel_rfl) (by simp) ?_
          refine ReadyE.cons (ops_at rfl) (fun K hK => ?_) ReadyE.nil
          go_simp
          refine (worth_any B0 X (w4.heap.size) 1 1 t _ [(x2, y2)] _ (HTW.out.below (hb4'.alloc hb4'.size (.cells #[.int .i64 (x2 : Int), .int .i64 (y2 : Int)] 58)) HBW.out) (Nat.le_trans HBW.out (hb4'.alloc hb4'.size (.cells #[.int .i64 (x2 : Int), .int .i64 (y2 : Int)] 58)).size) rfl (by omega) (heap_lt (show (w4.alloc (.cells #[.int .i64 (x2 : Int), .int .i64 (y2 : Int)] 58)).heap[w4.heap.size]? = _ from new_at w4 _ rfl)) (one_cell (show (w4.alloc (.cells #[.int .i64 (x2 : Int), .int .i64 (y2 : Int)] 58)).heap[w4.heap.size]? = _ from new_at w4 _ rfl)) (fun p hp => ?_) (fun p hp => ?_) q2 (by rw [sumB_one]; exact HQ2.out)).mono ?_
          · have hx := HX.out
            simp at hp
            subst hp
            exact ⟨hx.2.1, hx.2.2.1, hx.2.2.2.2.1, hx.2.2.2.2.2, hx.2.2.2.1⟩
          · have hx := HX.out
            simp at hp
            subst hp
            exact ⟨by have := (HBD.out _ _ hx.2.1 hx.2.2.1 hx.2.2.2.1).1; show 0 ≤ t x2 y2; omega, (HBD.out _ _ hx.2.1 hx.2.2.1 hx.2.2.2.1).2⟩
          rintro e w6 ⟨rfl, hb6⟩
          have hb6' : Below W.heap.size W w6 := (hb4'.alloc hb4'.size (.cells #[.int .i64 (x2 : Int), .int .i64 (y2 : Int)] 58)).trans (hb6.mono (hb4'.alloc hb4'.size (.cells #[.int .i64 (x2 : Int), .int .i64 (y2 : Int)] 58)).size)
          refine hK.out _ _ (fun _ => HSB.out _ hb6') (fun _ => ?_)
          clear hK K
          refine AnyE.of_ready (rs := [9]) (by kernel_rfl) (by simp) ?_
          refine ReadyE.cons (ops_at rfl) (fun K hK => ?_) ReadyE.nil
          go_simp
          refine (capped_any q1 q2 HW1.out HW2.out _ cp HCP.out).mono ?_
          rintro e w7 ⟨rfl, rfl⟩
          refine hK.out _ _ (fun _ => HSB.out _ hb6') (fun _ => ?_)
          clear hK K
          refine AnyE.of_ready (rs := [10]) (by kernel_rfl) (by simp) ?_
          refine ReadyE.cons (ops_at rfl) (fun K hK => ?_) ReadyE.nil
          go_simp
          refine hK.out _ _ (fun _ => HSB.out _ hb6') (fun _ => ?_)
          clear hK K
          refine AnyE.of_ready (rs := [11]) (by kernel_rfl) (by simp) ?_
          refine ReadyE.cons (ops_at rfl) (fun K hK => ?_) ReadyE.nil
          go_simp
          rw [HNV.out]
          refine hK.out _ _ (fun _ => HSB.out _ hb6') (fun _ => ?_)
          clear hK K
          have hS6 := HSB.out _ hb6'
          have hcf := cell_of hS6.1 0
          have hff := frozen_of hS6.1 0
          refine AnyE.of_ready (rs := [12]) (by kernel_rfl) (by simp) ?_
          refine ReadyE.cons (ops_at rfl) (fun K hK => ?_) ReadyE.nil
          go_simp
          refine hK.out _ _ (fun h => absurd rfl h) (fun _ => ?_)
          clear hK K
          refine AnyE.end_ (by kernel_rfl) ?_ _
          clear hcf hff
          have hO5 : Only (One f) W (w6.setCell ⟨f, 0, none⟩ (.int .i64 nv)) := Only.setCell (S := One f) (only_of_below hb6') (p := ⟨f, 0, none⟩) rfl _
          refine ⟨keeps_only hO5 HFW.out, hO5.block C (by have := HC3.out; have := heap_lt this; omega) (fun e => by have : C = f := e; omega), HO.out.trans hO5, ?_⟩
          rw [set_self hS6.1 0 _]
          rw [HNEXT.out]
          rfl
        · go_simp
          refine hK.out _ _ (fun _ => HSB.out _ (drewB (((Below.refl W.heap.size W).alloc (Nat.le_refl _) (.cells #[.int .i64 (x1 : Int), .int .i64 (y1 : Int)] 58)).alloc (by simp) (.cells #[.int .i64 (x2 : Int), .int .i64 (y2 : Int)] 58)))) (fun _ => ?_)
          clear hK K
          refine AnyE.of_ready (rs := [4]) (by kernel_rfl) (by simp) ?_
          refine ReadyE.cons (ops_at rfl) (fun K hK => ?_) ReadyE.nil
          go_simp
          refine (worth_any B0 X (W.heap.size) 1 1 t _ [(x1, y1)] _ (HTW.out.below (drewB (((Below.refl W.heap.size W).alloc (Nat.le_refl _) (.cells #[.int .i64 (x1 : Int), .int .i64 (y1 : Int)] 58)).alloc (by simp) (.cells #[.int .i64 (x2 : Int), .int .i64 (y2 : Int)] 58))) HBW.out) (Nat.le_trans HBW.out ((drewB (((Below.refl W.heap.size W).alloc (Nat.le_refl _) (.cells #[.int .i64 (x1 : Int), .int .i64 (y1 : Int)] 58)).alloc (by simp) (.cells #[.int .i64 (x2 : Int), .int .i64 (y2 : Int)] 58)))).size) rfl (by omega) (heap_lt (show ((W.alloc (.cells #[.int .i64 (x1 : Int), .int .i64 (y1 : Int)] 58)).alloc (.cells #[.int .i64 (x2 : Int), .int .i64 (y2 : Int)] 58)).heap[W.heap.size]? = _ from (alloc_old _ (by simp) _).trans (new_at W _ rfl))) (one_cell (show ((W.alloc (.cells #[.int .i64 (x1 : Int), .int .i64 (y1 : Int)] 58)).alloc (.cells #[.int .i64 (x2 : Int), .int .i64 (y2 : Int)] 58)).heap[W.heap.size]? = _ from (alloc_old _ (by simp) _).trans (new_at W _ rfl))) (fun p hp => ?_) (fun p hp => ?_) q1 (by rw [sumB_one]; exact HQ1.out)).mono ?_
          · have hx := HX.out
            simp at hp
            subst hp
            exact ⟨hx.1.1, hx.1.2.1, hx.1.2.2.2.1, hx.1.2.2.2.2, hx.1.2.2.1⟩
          · have hx := HX.out
            simp at hp
            subst hp
            exact ⟨by have := (HBD.out _ _ hx.1.1 hx.1.2.1 hx.1.2.2.1).1; show 0 ≤ t x1 y1; omega, (HBD.out _ _ hx.1.1 hx.1.2.1 hx.1.2.2.1).2⟩
          rintro e w5 ⟨rfl, hb5⟩
          have hb5' : Below W.heap.size W w5 := ((drewB (((Below.refl W.heap.size W).alloc (Nat.le_refl _) (.cells #[.int .i64 (x1 : Int), .int .i64 (y1 : Int)] 58)).alloc (by simp) (.cells #[.int .i64 (x2 : Int), .int .i64 (y2 : Int)] 58)))).trans (hb5.mono (by simp; omega))
          have hg2 := (hb5.block (W.heap.size + 1) (heap_lt (show ((W.alloc (.cells #[.int .i64 (x1 : Int), .int .i64 (y1 : Int)] 58)).alloc (.cells #[.int .i64 (x2 : Int), .int .i64 (y2 : Int)] 58)).heap[W.heap.size + 1]? = _ from new_at _ _ (by simp)))).trans (show ((W.alloc (.cells #[.int .i64 (x1 : Int), .int .i64 (y1 : Int)] 58)).alloc (.cells #[.int .i64 (x2 : Int), .int .i64 (y2 : Int)] 58)).heap[W.heap.size + 1]? = _ from new_at _ _ (by simp))
          refine hK.out _ _ (fun _ => HSB.out _ hb5') (fun _ => ?_)
          clear hK K
          refine AnyE.of_ready (rs := [8]) (by kernel_rfl) (by simp) ?_
          refine ReadyE.cons (ops_at rfl) (fun K hK => ?_) ReadyE.nil
          go_simp
          refine (worth_any B0 X (W.heap.size + 1) 1 1 t _ [(x2, y2)] _ (HTW.out.below hb5' HBW.out) (Nat.le_trans HBW.out hb5'.size) rfl (by omega) (heap_lt hg2) (one_cell hg2) (fun p hp => ?_) (fun p hp => ?_) q2 (by rw [sumB_one]; exact HQ2.out)).mono ?_
          · have hx := HX.out
            simp at hp
            subst hp
            exact ⟨hx.2.1, hx.2.2.1, hx.2.2.2.2.1, hx.2.2.2.2.2, hx.2.2.2.1⟩
          · have hx := HX.out
            simp at hp
            subst hp
            exact ⟨by have := (HBD.out _ _ hx.2.1 hx.2.2.1 hx.2.2.2.1).1; show 0 ≤ t x2 y2; omega, (HBD.out _ _ hx.2.1 hx.2.2.1 hx.2.2.2.1).2⟩
          rintro e w6 ⟨rfl, hb6⟩
          have hb6' : Below W.heap.size W w6 := hb5'.trans (hb6.mono hb5'.size)
          refine hK.out _ _ (fun _ => HSB.out _ hb6') (fun _ => ?_)
          clear hK K
          refine AnyE.of_ready (rs := [9]) (by kernel_rfl) (by simp) ?_
          refine ReadyE.cons (ops_at rfl) (fun K hK => ?_) ReadyE.nil
          go_simp
          refine (capped_any q1 q2 HW1.out HW2.out _ cp HCP.out).mono ?_
          rintro e w7 ⟨rfl, rfl⟩
          refine hK.out _ _ (fun _ => HSB.out _ hb6') (fun _ => ?_)
          clear hK K
          refine AnyE.of_ready (rs := [10]) (by kernel_rfl) (by simp) ?_
          refine ReadyE.cons (ops_at rfl) (fun K hK => ?_) ReadyE.nil
          go_simp
          refine hK.out _ _ (fun _ => HSB.out _ hb6') (fun _ => ?_)
          clear hK K
          refine AnyE.of_ready (rs := [11]) (by kernel_rfl) (by simp) ?_
          refine ReadyE.cons (ops_at rfl) (fun K hK => ?_) ReadyE.nil
          go_simp
          rw [HNV.out]
          refine hK.out _ _ (fun _ => HSB.out _ hb6') (fun _ => ?_)
          clear hK K
          have hS6 := HSB.out _ hb6'
          have hcf := cell_of hS6.1 0
          have hff := frozen_of hS6.1 0
          refine AnyE.of_ready (rs := [12]) (by kernel_rfl) (by simp) ?_
          refine ReadyE.cons (ops_at rfl) (fun K hK => ?_) ReadyE.nil
          go_simp
          refine hK.out _ _ (fun h => absurd rfl h) (fun _ => ?_)
          clear hK K
          refine AnyE.end_ (by kernel_rfl) ?_ _
          clear hcf hff
          have hO5 : Only (One f) W (w6.setCell ⟨f, 0, none⟩ (.int .i64 nv)) := Only.setCell (S := One f) (only_of_below hb6') (p := ⟨f, 0, none⟩) rfl _
          refine ⟨keeps_only hO5 HFW.out, hO5.block C (by have := HC3.out; have := heap_lt this; omega) (fun e => by have : C = f := e; omega), HO.out.trans hO5, ?_⟩
          rw [set_self hS6.1 0 _]
          rw [HNEXT.out]
          rfl
      · go_simp
        refine hK.out _ _ (fun _ => HSB.out _ (drewB ((Below.refl W.heap.size W).alloc (Nat.le_refl _) (.cells #[.int .i64 (x2 : Int), .int .i64 (y2 : Int)] 58)))) (fun _ => ?_)
        clear hK K
        refine AnyE.of_ready (rs := [3]) (by kernel_rfl) (by simp) ?_
        refine ReadyE.cons (ops_at rfl) (fun K hK => ?_) ReadyE.nil
        go_simp
        refine hK.out _ _ (fun _ => HSB.out _ (drewB (((Below.refl W.heap.size W).alloc (Nat.le_refl _) (.cells #[.int .i64 (x2 : Int), .int .i64 (y2 : Int)] 58)).alloc (by simp) (.cells #[.int .i64 (x1 : Int), .int .i64 (y1 : Int)] 58)))) (fun _ => ?_)
        clear hK K
        refine AnyE.of_ready (rs := [4]) (by kernel_rfl) (by simp) ?_
        refine ReadyE.cons (ops_at rfl) (fun K hK => ?_) ReadyE.nil
        go_simp
        refine (worth_any B0 X (W.heap.size + 1) 1 1 t _ [(x1, y1)] _ (HTW.out.below (drewB (((Below.refl W.heap.size W).alloc (Nat.le_refl _) (.cells #[.int .i64 (x2 : Int), .int .i64 (y2 : Int)] 58)).alloc (by simp) (.cells #[.int .i64 (x1 : Int), .int .i64 (y1 : Int)] 58))) HBW.out) (Nat.le_trans HBW.out ((drewB (((Below.refl W.heap.size W).alloc (Nat.le_refl _) (.cells #[.int .i64 (x2 : Int), .int .i64 (y2 : Int)] 58)).alloc (by simp) (.cells #[.int .i64 (x1 : Int), .int .i64 (y1 : Int)] 58)))).size) rfl (by omega) (heap_lt (show ((W.alloc (.cells #[.int .i64 (x2 : Int), .int .i64 (y2 : Int)] 58)).alloc (.cells #[.int .i64 (x1 : Int), .int .i64 (y1 : Int)] 58)).heap[W.heap.size + 1]? = _ from new_at _ _ (by simp))) (one_cell (show ((W.alloc (.cells #[.int .i64 (x2 : Int), .int .i64 (y2 : Int)] 58)).alloc (.cells #[.int .i64 (x1 : Int), .int .i64 (y1 : Int)] 58)).heap[W.heap.size + 1]? = _ from new_at _ _ (by simp))) (fun p hp => ?_) (fun p hp => ?_) q1 (by rw [sumB_one]; exact HQ1.out)).mono ?_
        · have hx := HX.out
          simp at hp
          subst hp
          exact ⟨hx.1.1, hx.1.2.1, hx.1.2.2.2.1, hx.1.2.2.2.2, hx.1.2.2.1⟩
        · have hx := HX.out
          simp at hp
          subst hp
          exact ⟨by have := (HBD.out _ _ hx.1.1 hx.1.2.1 hx.1.2.2.1).1; show 0 ≤ t x1 y1; omega, (HBD.out _ _ hx.1.1 hx.1.2.1 hx.1.2.2.1).2⟩
        rintro e w5 ⟨rfl, hb5⟩
        have hb5' : Below W.heap.size W w5 := ((drewB (((Below.refl W.heap.size W).alloc (Nat.le_refl _) (.cells #[.int .i64 (x2 : Int), .int .i64 (y2 : Int)] 58)).alloc (by simp) (.cells #[.int .i64 (x1 : Int), .int .i64 (y1 : Int)] 58)))).trans (hb5.mono (by simp; omega))
        have hg2 := (hb5.block (W.heap.size) (heap_lt (show ((W.alloc (.cells #[.int .i64 (x2 : Int), .int .i64 (y2 : Int)] 58)).alloc (.cells #[.int .i64 (x1 : Int), .int .i64 (y1 : Int)] 58)).heap[W.heap.size]? = _ from (alloc_old _ (by simp) _).trans (new_at W _ rfl)))).trans (show ((W.alloc (.cells #[.int .i64 (x2 : Int), .int .i64 (y2 : Int)] 58)).alloc (.cells #[.int .i64 (x1 : Int), .int .i64 (y1 : Int)] 58)).heap[W.heap.size]? = _ from (alloc_old _ (by simp) _).trans (new_at W _ rfl))
        refine hK.out _ _ (fun _ => HSB.out _ hb5') (fun _ => ?_)
        clear hK K
        refine AnyE.of_ready (rs := [8]) (by kernel_rfl) (by simp) ?_
        refine ReadyE.cons (ops_at rfl) (fun K hK => ?_) ReadyE.nil
        go_simp
        refine (worth_any B0 X (W.heap.size) 1 1 t _ [(x2, y2)] _ (HTW.out.below hb5' HBW.out) (Nat.le_trans HBW.out hb5'.size) rfl (by omega) (heap_lt hg2) (one_cell hg2) (fun p hp => ?_) (fun p hp => ?_) q2 (by rw [sumB_one]; exact HQ2.out)).mono ?_
        · have hx := HX.out
          simp at hp
          subst hp
          exact ⟨hx.2.1, hx.2.2.1, hx.2.2.2.2.1, hx.2.2.2.2.2, hx.2.2.2.1⟩
        · have hx := HX.out
          simp at hp
          subst hp
          exact ⟨by have := (HBD.out _ _ hx.2.1 hx.2.2.1 hx.2.2.2.1).1; show 0 ≤ t x2 y2; omega, (HBD.out _ _ hx.2.1 hx.2.2.1 hx.2.2.2.1).2⟩
        rintro e w6 ⟨rfl, hb6⟩
        have hb6' : Below W.heap.size W w6 := hb5'.trans (hb6.mono hb5'.size)
        refine hK.out _ _ (fun _ => HSB.out _ hb6') (fun _ => ?_)
        clear hK K
        refine AnyE.of_ready (rs := [9]) (by kernel_rfl) (by simp) ?_
        refine ReadyE.cons (ops_at rfl) (fun K hK => ?_) ReadyE.nil
        go_simp
        refine (capped_any q1 q2 HW1.out HW2.out _ cp HCP.out).mono ?_
        rintro e w7 ⟨rfl, rfl⟩
        refine hK.out _ _ (fun _ => HSB.out _ hb6') (fun _ => ?_)
        clear hK K
        refine AnyE.of_ready (rs := [10]) (by kernel_rfl) (by simp) ?_
        refine ReadyE.cons (ops_at rfl) (fun K hK => ?_) ReadyE.nil
        go_simp
        refine hK.out _ _ (fun _ => HSB.out _ hb6') (fun _ => ?_)
        clear hK K
        refine AnyE.of_ready (rs := [11]) (by kernel_rfl) (by simp) ?_
        refine ReadyE.cons (ops_at rfl) (fun K hK => ?_) ReadyE.nil
        go_simp
        rw [HNV.out]
        refine hK.out _ _ (fun _ => HSB.out _ hb6') (fun _ => ?_)
        clear hK K
        have hS6 := HSB.out _ hb6'
        have hcf := cell_of hS6.1 0
        have hff := frozen_of hS6.1 0
        refine AnyE.of_ready (rs := [12]) (by kernel_rfl) (by simp) ?_
        refine ReadyE.cons (ops_at rfl) (fun K hK => ?_) ReadyE.nil
        go_simp
        refine hK.out _ _ (fun h => absurd rfl h) (fun _ => ?_)
        clear hK K
        refine AnyE.end_ (by kernel_rfl) ?_ _
        clear hcf hff
        have hO5 : Only (One f) W (w6.setCell ⟨f, 0, none⟩ (.int .i64 nv)) := Only.setCell (S := One f) (only_of_below hb6') (p := ⟨f, 0, none⟩) rfl _
        refine ⟨keeps_only hO5 HFW.out, hO5.block C (by have := HC3.out; have := heap_lt this; omega) (fun e => by have : C = f := e; omega), HO.out.trans hO5, ?_⟩
        rw [set_self hS6.1 0 _]
        rw [HNEXT.out]
        rfl
    case done =>
      rintro D xs W hD hxs ⟨ho, hf⟩ hK
      have h0 := cell_of hf 0
      gi_wp2
      refine ⟨by simp, .inl ⟨_, _, rfl, run_takeDeferred hK, ?_⟩⟩
      refine ⟨_, results_tmp rfl _ _ _, ?_, ?_⟩
      · show Ending.returned (Value.int .i64 _) = _
        rw [HV.out]
      · have hD3 := HB3.out.size
        exact (HB3.out.trans (ho.below (B := w.heap.size) hD3 (fun k hk => by have : k = f := hk; omega))).trans (belowK_b (w := W3) hD3 W D _ _ hD hK rfl rfl)
    case stop =>
      rintro D c pre W _ _ h _
      exact h.elim
end Go.Proofs.Ytbaofgbkcolmmaa
