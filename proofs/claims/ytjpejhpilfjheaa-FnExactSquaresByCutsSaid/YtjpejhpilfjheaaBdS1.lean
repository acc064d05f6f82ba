/-
  The given program's table: the fewest squares of all boards up to one.
  Conditions: a board.
-/
import Derived.Test.YtjpejhpilfjheaaBdS
namespace Go.Proofs.Ytjpejhpilfjheaa
set_option linter.unusedVariables false
open Go.RowKit

theorem fewB_bd (a b : Nat) (ha : 1 ≤ a) (ha2 : a ≤ 24) (hb : 1 ≤ b) (hb2 : b ≤ 24) : 1 ≤ fewB a b ∧ fewB a b ≤ 576 := by
  have h1 := fewB_one _ a b (Nat.le_refl _) ha hb
  have h2 : a * b ≤ 24 * 24 := Nat.mul_le_mul ha2 hb2
  omega

theorem l1Least_any (x y v : Int) (hv : min x y = v) (w : World) : Calls Try.prog 69 #[.int .i64 x, .int .i64 y] w fun e w' => e = .returned (.int .i64 v) ∧ w = w' := by
  by_cases h : x < y
  · have hd : decide (x < y) = true := decide_eq_true h
    obtain rfl : x = v := by omega
    go_enter Try.func69, Try.ntmps69
    clear hv
    go_wp2
    go_ret
    exact ⟨rfl, rfl⟩
  · have hd : decide (x < y) = false := decide_eq_false h
    obtain rfl : y = v := by omega
    go_enter Try.func69, Try.ntmps69
    clear hv
    go_wp2
    go_ret
    exact ⟨rfl, rfl⟩

set_option maxRecDepth 100000 in
set_option maxHeartbeats 4000000 in
theorem bdSquares_any (A H : Nat) (w : World) (hA1 : 1 ≤ A) (hA : A ≤ 24) (hH1 : 1 ≤ H) (hH : H ≤ 24) :
    Calls Try.prog 44 #[.int .i64 (A : Int), .int .i64 (H : Int)] w (RetTab A H (fewB) w) := by
  have hmk := make_tab A hA w
  have hT0 := TabS.new w A H (fewB)
  have HB0 := Lib.hid ((Below.refl w.heap.size w).alloc (Nat.le_refl _) (.cells (madeCells #[.slice none 0 0] (A + 1)) 31))
  obtain ⟨F, hF⟩ : ∃ F, w.heap.size = F := ⟨_, rfl⟩
  have hT1 : TabS (w.alloc (.cells (madeCells #[.slice none 0 0] (A + 1)) 31)) w.heap.size F A H (fewB) 0 H := by rw [← hF]; exact hT0
  have HT0 := Lib.hid hT1
  rw [hF] at hmk
  have hFw : w.heap.size ≤ F := by omega
  have HFW := Lib.hid hF
  clear hT0 hT1 hF
  go_enter Try.func44, Try.ntmps44
  go_wp2
  clear hmk
  go_loopw [6] (fun i wr => ∃ n : Nat, n ≤ A ∧ i = .int .i64 ((n : Int) + 1) ∧ Below w.heap.size w wr ∧ TabS wr w.heap.size F A H (fewB) n H) (fun i _ => A + 1 - (intOf i).toNat)
  case atStart => exact ⟨0, Nat.zero_le _, rfl, HB0.out, HT0.out⟩
  case round =>
    obtain ⟨n, hn, rfl, hb, ht⟩ := hrel
    have HB := Lib.hid hb
    have HT := Lib.hid ht
    clear hb ht
    by_cases hlt : n < A
    · obtain ⟨a, ha'⟩ : ∃ a, n + 1 = a := ⟨_, rfl⟩
      have hai : (n : Int) + 1 = (a : Int) := by omega
      have hle : (a : Int) ≤ (A : Int) := by omega
      have hd0 : decide ((a : Int) ≤ (A : Int)) = true := decide_eq_true hle
      have hmr := make_row H hH
      obtain ⟨cs, c1, c2⟩ := HT.out.cells
      have hfr := heap_lt c1
      obtain ⟨u, hu⟩ : ∃ u, cs[a]? = some u := ⟨_, Array.getElem?_eq_getElem (by omega)⟩
      have c3 := (alloc_old wr hfr (.cells (madeCells #[.int .i64 0] (H + 1)) 3)).trans c1
      have c4 := (cell_of c3 a).trans hu
      have c5 := frozen_of c3 a
      have hzb := HB.out.size
      have HM := Lib.hid (show TabS _ w.heap.size F A H (fewB) a 0 by rw [← ha']; exact HT.out.more hlt)
      rw [ha'] at HM
      have HBM := Lib.hid ((HB.out.alloc hzb (.cells (madeCells #[.int .i64 0] (H + 1)) 3)).setCell (p := ⟨F, a, none⟩) hFw (.slice (some ⟨wr.heap.size, 0, none⟩) (H + 1) (H + 1)))
      have hcm : (wr.alloc (.cells (madeCells #[.int .i64 0] (H + 1)) 3)).setCell ⟨F, a, none⟩ (.slice (some ⟨wr.heap.size, 0, none⟩) (H + 1) (H + 1)) = (wr.setCell ⟨F, a, none⟩ (.slice (some ⟨wr.heap.size, 0, none⟩) (H + 1) (H + 1))).alloc (.cells (madeCells #[.int .i64 0] (H + 1)) 3) := by go_simp
      rw [hcm] at HM HBM
      clear c1 c2 c3 hu hzb hcm
      rw [hai]
      go_wp2
      clear hmr c4 c5
      go_loopw [7] (fun i wr => ∃ m : Nat, m ≤ H ∧ i = .int .i64 ((m : Int) + 1) ∧ Below w.heap.size w wr ∧ TabS wr w.heap.size F A H (fewB) a m) (fun i _ => H + 1 - (intOf i).toNat)
      case atStart => exact ⟨0, Nat.zero_le _, rfl, HBM.out, HM.out⟩
      case round =>
        obtain ⟨m, hm, rfl, hb, ht⟩ := hrel
        have HBm := Lib.hid hb
        have HTm := Lib.hid ht
        clear hb ht
        by_cases hlm : m < H
        · obtain ⟨b, hb'⟩ : ∃ b, m + 1 = b := ⟨_, rfl⟩
          have hbi : (m : Int) + 1 = (b : Int) := by omega
          have hbl : (b : Int) ≤ (H : Int) := by omega
          have hd1 : decide ((b : Int) ≤ (H : Int)) = true := decide_eq_true hbl
          rw [hbi]
          have hab : a * b ≤ 24 * 24 := Nat.mul_le_mul (by omega) (by omega)
          obtain ⟨ab, hab'⟩ : ∃ ab : Nat, a * b = ab := ⟨_, rfl⟩
          have hmul : (a : Int) * (b : Int) = (ab : Int) := by rw [← hab']; push_cast; rfl
          rw [hab'] at hab
          have hwm : IntKind.i64.wrap (ab : Int) = (ab : Int) := by rw [IntKind.wrap_i64]; omega
          have HAB := Lib.hid hab'
          clear hab'
          have HBav := Lib.hid HBm.out
          have HTav := Lib.hid HTm.out
          have HBcv := Lib.hid HBm.out
          have HTcv := Lib.hid HTm.out
          by_cases heq : a = b
          · have hee : ((a : Int) == (b : Int)) = true := by simp [heq]
            have HS := Lib.hid (show (if a = b then 1 else ((a * b : Nat) : Int)) = (1 : Int) by rw [if_pos heq])
            have HEQ := Lib.hid heq
            clear heq
            go_wp2
            clear hwm hmul hee
            go_loopw [8, 9] (fun bs i wk => ∃ k : Nat, 1 ≤ k ∧ 2 * (k - 1) ≤ a ∧ i = .int .i64 (k : Int) ∧ bs = .int .i64 (leastL (1 : Int) ((upL a b (k - 1)).map (sumT (fewB)))) ∧ Below w.heap.size w wk ∧ TabS wk w.heap.size F A H (fewB) a m) (fun _ i _ => 25 - (intOf i).toNat)
            case atStart => exact ⟨1, by omega, by omega, rfl, by simp [upL, leastL], HBav.out, HTav.out⟩
            case round =>
              obtain ⟨k, hk1, hk2, rfl, rfl, hbk, htk⟩ := hrel
              have HBK := Lib.hid hbk
              have HTK := Lib.hid htk
              clear hbk htk
              obtain ⟨s0, hs0⟩ : ∃ s0, leastL (1 : Int) ((upL a b (k - 1)).map (sumT (fewB))) = s0 := ⟨_, rfl⟩
              rw [hs0]
              have HS0 := Lib.hid hs0
              clear hs0
              have hk24 : k ≤ 25 := by omega
              have hw2 : IntKind.i64.wrap (2 * (k : Int)) = 2 * (k : Int) := by rw [IntKind.wrap_i64]; omega
              by_cases hlt : 2 * k ≤ a
              · have hlt' : (2 * (k : Int)) ≤ (a : Int) := by omega
                have hdt : decide ((2 * (k : Int)) ≤ (a : Int)) = true := decide_eq_true hlt'
                obtain ⟨d, hd⟩ : ∃ d, a - k = d := ⟨_, rfl⟩
                have hsub : (a : Int) - (k : Int) = (d : Int) := by omega
                have hwd : IntKind.i64.wrap (d : Int) = (d : Int) := by rw [IntKind.wrap_i64]; omega
                obtain ⟨g1, e1, e2⟩ := HTK.out.read (a := k) (b := b) (by omega) (by omega) (by omega) (by omega) (by omega)
                obtain ⟨g2, e3, e4⟩ := HTK.out.read (a := d) (b := b) (by omega) (by omega) (by omega) (by omega) (by omega)
                have q1 := fewB_bd k b (by omega) (by omega) (by omega) (by omega)
                have q2 := fewB_bd d b (by omega) (by omega) (by omega) (by omega)
                obtain ⟨v1, hv1⟩ : ∃ v1, (fewB) k b = v1 := ⟨_, rfl⟩
                obtain ⟨v2, hv2⟩ : ∃ v2, (fewB) d b = v2 := ⟨_, rfl⟩
                rw [hv1] at e2 q1
                rw [hv2] at e4 q2
                have hwv : IntKind.i64.wrap (v1 + v2) = v1 + v2 := by rw [IntKind.wrap_i64]; omega
                have hnext : leastL (1 : Int) ((upL a b (k + 1 - 1)).map (sumT (fewB))) = min s0 (v1 + v2) := by
                  rw [show k + 1 - 1 = (k - 1) + 1 by omega, upL_succ, List.map_append]
                  simp only [List.map_cons, List.map_nil]
                  rw [leastL_snoc, show k - 1 + 1 = k by omega, hd, HS0.out]
                  simp only [sumT, hv1, hv2]
                obtain ⟨nv, hnv⟩ : ∃ nv, min s0 (v1 + v2) = nv := ⟨_, rfl⟩
                rw [hnv] at hnext
                have HNX := Lib.hid hnext
                have HNV := Lib.hid hnv
                clear hnext hnv hv1 hv2 hd
                have hi0 : (k : Int) < (A : Int) + 1 := by omega
                have hi1 : (d : Int) < (A : Int) + 1 := by omega
                have hi2 : (b : Int) < (H : Int) + 1 := by omega
                go_wp2_with fail
                refine wp_region_held_drew (S := (fun wq => wq.cell? ⟨F, k, none⟩ = some (.slice (some ⟨g1, 0, none⟩) (H + 1) (H + 1)) ∧ wq.cell? ⟨g1, b, none⟩ = some (.int .i64 v1) ∧ wq.cell? ⟨F, d, none⟩ = some (.slice (some ⟨g2, 0, none⟩) (H + 1) (H + 1)) ∧ wq.cell? ⟨g2, b, none⟩ = some (.int .i64 v2))) (by kernel_rfl) ⟨e1, e2, e3, e4⟩ (fun hH0 => ?_)
                refine wpAnyH_take (i := 0) (v := ?_) (ops_at rfl) (by kernel_rfl) (by kernel_rfl) (by kernel_rfl) (fun _ _ _ h => h) (Or.inl ⟨by rfl, ?yav0⟩) (by assumption) ?nav0
                case yav0 => (intro wS hSw; (try dsimp only at hSw); go_simp; try rfl)
                try simp only [Act.put, List.setIfInBounds_toArray, List.set_cons_zero, List.set_cons_succ]
                refine wpAnyH_take (i := 1) (v := ?_) (ops_at rfl) (by kernel_rfl) (by kernel_rfl) (by kernel_rfl) (fun _ _ _ h => h) (Or.inl ⟨by rfl, ?yav1⟩) (by assumption) ?nav1
                case yav1 => (intro wS hSw; (try dsimp only at hSw); go_simp; try rfl)
                try simp only [Act.put, List.setIfInBounds_toArray, List.set_cons_zero, List.set_cons_succ]
                refine wpAnyH_take (i := 2) (v := ?_) (ops_at rfl) (by kernel_rfl) (by kernel_rfl) (by kernel_rfl) (fun _ _ _ h => h) (Or.inl ⟨by rfl, ?yav2⟩) (by assumption) ?nav2
                case yav2 => (intro wS hSw; (try dsimp only at hSw); go_simp; try rfl)
                try simp only [Act.put, List.setIfInBounds_toArray, List.set_cons_zero, List.set_cons_succ]
                refine wpAnyH_take (i := 3) (v := ?_) (ops_at rfl) (by kernel_rfl) (by kernel_rfl) (by kernel_rfl) (fun _ _ _ h => h) (Or.inl ⟨by rfl, ?yav3⟩) (by assumption) ?nav3
                case yav3 => (intro wS hSw; (try dsimp only at hSw); go_simp; try rfl)
                try simp only [Act.put, List.setIfInBounds_toArray, List.set_cons_zero, List.set_cons_succ]
                refine wpAnyH_take (i := 4) (v := ?_) (ops_at rfl) (by kernel_rfl) (by kernel_rfl) (by kernel_rfl) (fun _ _ _ h => h) (Or.inl ⟨by rfl, ?yav4⟩) (by assumption) ?nav4
                case yav4 => (intro wS hSw; (try dsimp only at hSw); go_simp; try rfl)
                try simp only [Act.put, List.setIfInBounds_toArray, List.set_cons_zero, List.set_cons_succ]
                refine wpAnyH_take (i := 5) (v := ?_) (ops_at rfl) (by kernel_rfl) (by kernel_rfl) (by kernel_rfl) (fun _ _ _ h => h) (Or.inl ⟨by rfl, ?yav5⟩) (by assumption) ?nav5
                case yav5 => (intro wS hSw; (try dsimp only at hSw); go_simp; try rfl)
                try simp only [Act.put, List.setIfInBounds_toArray, List.set_cons_zero, List.set_cons_succ]
                refine wpAnyH_take (i := 6) (v := ?_) (ops_at rfl) (by kernel_rfl) (by kernel_rfl) (by kernel_rfl) (fun _ _ _ h => h) (Or.inl ⟨by rfl, ?yav6⟩) (by assumption) ?nav6
                case yav6 => (intro wS hSw; (try dsimp only at hSw); go_simp; try rfl)
                try simp only [Act.put, List.setIfInBounds_toArray, List.set_cons_zero, List.set_cons_succ]
                refine wpAnyH_take (i := 7) (v := ?_) (ops_at rfl) (by kernel_rfl) (by kernel_rfl) (by kernel_rfl) (fun _ _ _ h => h) (Or.inl ⟨by rfl, ?yav7⟩) (by assumption) ?nav7
                case yav7 => (intro wS hSw; (try dsimp only at hSw); go_simp; try rfl)
                try simp only [Act.put, List.setIfInBounds_toArray, List.set_cons_zero, List.set_cons_succ]
                refine wpAnyH_take (i := 8) (v := ?_) (ops_at rfl) (by kernel_rfl) (by kernel_rfl) (by kernel_rfl) (fun _ _ _ h => h) (Or.inl ⟨by rfl, ?yav8⟩) (by assumption) ?nav8
                case yav8 => (intro wS hSw; (try dsimp only at hSw); go_simp; try rfl)
                try simp only [Act.put, List.setIfInBounds_toArray, List.set_cons_zero, List.set_cons_succ]
                refine wpAnyH_take (i := 9) (v := ?_) (ops_at rfl) (by kernel_rfl) (by kernel_rfl) (by kernel_rfl) (fun _ _ _ h => h) (Or.inl ⟨by rfl, ?yav9⟩) (by assumption) ?nav9
                case yav9 => (intro wS hSw; (try dsimp only at hSw); go_simp; try rfl)
                try simp only [Act.put, List.setIfInBounds_toArray, List.set_cons_zero, List.set_cons_succ]
                refine wpAnyH_take (i := 10) (v := ?_) (ops_at rfl) (by kernel_rfl) (by kernel_rfl) (by kernel_rfl) (fun _ _ _ h => h) (Or.inl ⟨by rfl, ?yav10⟩) (by assumption) ?nav10
                case yav10 => (intro wS hSw; (try dsimp only at hSw); go_simp; try rfl)
                try simp only [Act.put, List.setIfInBounds_toArray, List.set_cons_zero, List.set_cons_succ]
                refine wpAnyH_take (i := 11) (v := ?_) (ops_at rfl) (by kernel_rfl) (by kernel_rfl) (by kernel_rfl) (fun _ _ _ h => h) (Or.inl ⟨by rfl, ?yav11⟩) (by assumption) ?nav11
                case yav11 => (intro wS hSw; (try dsimp only at hSw); go_simp; try rfl)
                try simp only [Act.put, List.setIfInBounds_toArray, List.set_cons_zero, List.set_cons_succ]
                refine wpAnyH_take (i := 12) (v := ?_) (ops_at rfl) (by kernel_rfl) (by kernel_rfl) (by kernel_rfl) (fun _ _ _ h => h) (Or.inl ⟨by rfl, ?yav12⟩) (by assumption) ?nav12
                case yav12 => (intro wS hSw; (try dsimp only at hSw); go_simp; try rfl)
                try simp only [Act.put, List.setIfInBounds_toArray, List.set_cons_zero, List.set_cons_succ]
                refine wpAnyH_take (i := 13) (v := ?_) (ops_at rfl) (by kernel_rfl) (by kernel_rfl) (by kernel_rfl) (fun _ _ _ h => h) (Or.inl ⟨by rfl, ?yav13⟩) (by assumption) ?nav13
                case yav13 => (intro wS hSw; (try dsimp only at hSw); go_simp; try rfl)
                try simp only [Act.put, List.setIfInBounds_toArray, List.set_cons_zero, List.set_cons_succ]
                refine wpAnyH_take (i := 14) (v := ?_) (ops_at rfl) (by kernel_rfl) (by kernel_rfl) (by kernel_rfl) (fun _ _ _ h => h) (Or.inl ⟨by rfl, ?yav14⟩) (by assumption) ?nav14
                case yav14 => (intro wS hSw; (try dsimp only at hSw); go_simp; try rfl)
                try simp only [Act.put, List.setIfInBounds_toArray, List.set_cons_zero, List.set_cons_succ]
                refine wpAnyH_take (i := 15) (v := ?_) (ops_at rfl) (by kernel_rfl) (by kernel_rfl) (by kernel_rfl) (fun _ _ _ h => h) (Or.inl ⟨by rfl, ?yav15⟩) (by assumption) ?nav15
                case yav15 => (intro wS hSw; (try dsimp only at hSw); go_simp; try rfl)
                try simp only [Act.put, List.setIfInBounds_toArray, List.set_cons_zero, List.set_cons_succ]
                refine wpAnyH_take (i := 16) (v := ?_) (ops_at rfl) (by kernel_rfl) (by kernel_rfl) (by kernel_rfl) (fun _ _ _ h => h) (Or.inl ⟨by rfl, ?yav16⟩) (by assumption) ?nav16
                case yav16 => (intro wS hSw; (try dsimp only at hSw); go_simp; try rfl)
                try simp only [Act.put, List.setIfInBounds_toArray, List.set_cons_zero, List.set_cons_succ]
                refine wpAnyH_take (i := 17) (v := ?_) (ops_at rfl) (by kernel_rfl) (by kernel_rfl) (by kernel_rfl) (fun _ _ _ h => h) (Or.inl ⟨by rfl, ?yav17⟩) (by assumption) ?nav17
                case yav17 => (intro wS hSw; (try dsimp only at hSw); go_simp; try rfl)
                try simp only [Act.put, List.setIfInBounds_toArray, List.set_cons_zero, List.set_cons_succ]
                refine wpAnyH_ready (rs := [18]) (by kernel_rfl) (by simp) ?_
                refine AllReadyH.cons (ops_at rfl) (fun K hK => ?_) AllReadyH.nil
                go_simp
                refine (l1Least_any s0 (v1 + v2) nv HNV.out _).mono ?_
                rintro e wz ⟨rfl, rfl⟩
                refine hK.out _ _ ⟨e1, e2, e3, e4⟩ (fun hH1 => ?_)
                clear hK K
                refine wpAnyH_take (i := 19) (v := ?_) (ops_at rfl) (by kernel_rfl) (by kernel_rfl) (by kernel_rfl) (fun _ _ _ h => h) (Or.inl ⟨by rfl, ?yavz19⟩) (by assumption) ?navz19
                case yavz19 => (intro wS hSw; (try dsimp only at hSw); go_simp; try rfl)
                try simp only [Act.put, List.setIfInBounds_toArray, List.set_cons_zero, List.set_cons_succ]
                refine wpAnyH_done (by kernel_rfl) ?_ _
                clear e1 e2 e3 e4
                go_wp2
                go_roundw
                case rel => exact ⟨k + 1, by omega, by omega, by go_num, by rw [HNX.out], drewB HBK.out, HTK.out.below (drewB (Below.refl _ _))⟩
                case measure => simp [intOf]; omega
              · have hlt' : ¬ (2 * (k : Int)) ≤ (a : Int) := by omega
                have hdt : decide ((2 * (k : Int)) ≤ (a : Int)) = false := decide_eq_false hlt'
                have hke : k - 1 = a / 2 := by omega
                have HE := Lib.hid (show leastL (1 : Int) ((upL a b (a / 2)).map (sumT (fewB))) = s0 by rw [← hke]; exact HS0.out)
                clear hke
                have HST := Lib.hid HE.out
                have HBaw := Lib.hid HBK.out
                have HTaw := Lib.hid HTK.out
                clear hw2 hlt' hdt HS0 HE
                go_wp2
                go_loopw [8, 10] (fun bs i wk => ∃ k : Nat, 1 ≤ k ∧ 2 * (k - 1) ≤ b ∧ i = .int .i64 (k : Int) ∧ bs = .int .i64 (leastL (1 : Int) ((upL a b (a / 2) ++ lvL a b (k - 1)).map (sumT (fewB)))) ∧ Below w.heap.size w wk ∧ TabS wk w.heap.size F A H (fewB) a m) (fun _ i _ => 25 - (intOf i).toNat)
                case atStart => exact ⟨1, by omega, by omega, rfl, by rw [show (1 : Nat) - 1 = 0 from rfl]; simp only [lvL, List.range_zero, List.map_nil, List.append_nil]; rw [HST.out], HBaw.out, HTaw.out⟩
                case round =>
                  obtain ⟨k, hk1, hk2, rfl, rfl, hbk, htk⟩ := hrel
                  have HBK := Lib.hid hbk
                  have HTK := Lib.hid htk
                  clear hbk htk
                  obtain ⟨s0, hs0⟩ : ∃ s0, leastL (1 : Int) ((upL a b (a / 2) ++ lvL a b (k - 1)).map (sumT (fewB))) = s0 := ⟨_, rfl⟩
                  rw [hs0]
                  have HS0 := Lib.hid hs0
                  clear hs0
                  have hk24 : k ≤ 25 := by omega
                  have hw2 : IntKind.i64.wrap (2 * (k : Int)) = 2 * (k : Int) := by rw [IntKind.wrap_i64]; omega
                  by_cases hlt : 2 * k ≤ b
                  · have hlt' : (2 * (k : Int)) ≤ (b : Int) := by omega
                    have hdt : decide ((2 * (k : Int)) ≤ (b : Int)) = true := decide_eq_true hlt'
                    obtain ⟨d, hd⟩ : ∃ d, b - k = d := ⟨_, rfl⟩
                    have hsub : (b : Int) - (k : Int) = (d : Int) := by omega
                    have hwd : IntKind.i64.wrap (d : Int) = (d : Int) := by rw [IntKind.wrap_i64]; omega
                    obtain ⟨g1, e1, e2⟩ := HTK.out.read (a := a) (b := k) (by omega) (by omega) (by omega) (by omega) (by omega)
                    obtain ⟨g2, e3, e4⟩ := HTK.out.read (a := a) (b := d) (by omega) (by omega) (by omega) (by omega) (by omega)
                    obtain rfl : g1 = g2 := by have h := e1.symm.trans e3; simp at h; exact h
                    have q1 := fewB_bd a k (by omega) (by omega) (by omega) (by omega)
                    have q2 := fewB_bd a d (by omega) (by omega) (by omega) (by omega)
                    obtain ⟨v1, hv1⟩ : ∃ v1, (fewB) a k = v1 := ⟨_, rfl⟩
                    obtain ⟨v2, hv2⟩ : ∃ v2, (fewB) a d = v2 := ⟨_, rfl⟩
                    rw [hv1] at e2 q1
                    rw [hv2] at e4 q2
                    have hwv : IntKind.i64.wrap (v1 + v2) = v1 + v2 := by rw [IntKind.wrap_i64]; omega
                    have hnext : leastL (1 : Int) ((upL a b (a / 2) ++ lvL a b (k + 1 - 1)).map (sumT (fewB))) = min s0 (v1 + v2) := by
                      rw [show k + 1 - 1 = (k - 1) + 1 by omega, lvL_succ, ← List.append_assoc, List.map_append]
                      simp only [List.map_cons, List.map_nil]
                      rw [leastL_snoc, show k - 1 + 1 = k by omega, hd, HS0.out]
                      simp only [sumT, hv1, hv2]
                    obtain ⟨nv, hnv⟩ : ∃ nv, min s0 (v1 + v2) = nv := ⟨_, rfl⟩
                    rw [hnv] at hnext
                    have HNX := Lib.hid hnext
                    have HNV := Lib.hid hnv
                    clear hnext hnv hv1 hv2 hd
                    have hi0 : (a : Int) < (A : Int) + 1 := by omega
                    have hi1 : (k : Int) < (H : Int) + 1 := by omega
                    have hi2 : (d : Int) < (H : Int) + 1 := by omega
                    go_wp2_with fail
                    refine wp_region_held_drew (S := (fun wq => wq.cell? ⟨F, a, none⟩ = some (.slice (some ⟨g1, 0, none⟩) (H + 1) (H + 1)) ∧ wq.cell? ⟨g1, k, none⟩ = some (.int .i64 v1) ∧ wq.cell? ⟨F, a, none⟩ = some (.slice (some ⟨g1, 0, none⟩) (H + 1) (H + 1)) ∧ wq.cell? ⟨g1, d, none⟩ = some (.int .i64 v2))) (by kernel_rfl) ⟨e1, e2, e3, e4⟩ (fun hH0 => ?_)
                    refine wpAnyH_take (i := 0) (v := ?_) (ops_at rfl) (by kernel_rfl) (by kernel_rfl) (by kernel_rfl) (fun _ _ _ h => h) (Or.inl ⟨by rfl, ?yaw0⟩) (by assumption) ?naw0
                    case yaw0 => (intro wS hSw; (try dsimp only at hSw); go_simp; try rfl)
                    try simp only [Act.put, List.setIfInBounds_toArray, List.set_cons_zero, List.set_cons_succ]
                    refine wpAnyH_take (i := 1) (v := ?_) (ops_at rfl) (by kernel_rfl) (by kernel_rfl) (by kernel_rfl) (fun _ _ _ h => h) (Or.inl ⟨by rfl, ?yaw1⟩) (by assumption) ?naw1
                    case yaw1 => (intro wS hSw; (try dsimp only at hSw); go_simp; try rfl)
                    try simp only [Act.put, List.setIfInBounds_toArray, List.set_cons_zero, List.set_cons_succ]
                    refine wpAnyH_take (i := 2) (v := ?_) (ops_at rfl) (by kernel_rfl) (by kernel_rfl) (by kernel_rfl) (fun _ _ _ h => h) (Or.inl ⟨by rfl, ?yaw2⟩) (by assumption) ?naw2
                    case yaw2 => (intro wS hSw; (try dsimp only at hSw); go_simp; try rfl)
                    try simp only [Act.put, List.setIfInBounds_toArray, List.set_cons_zero, List.set_cons_succ]
                    refine wpAnyH_take (i := 3) (v := ?_) (ops_at rfl) (by kernel_rfl) (by kernel_rfl) (by kernel_rfl) (fun _ _ _ h => h) (Or.inl ⟨by rfl, ?yaw3⟩) (by assumption) ?naw3
                    case yaw3 => (intro wS hSw; (try dsimp only at hSw); go_simp; try rfl)
                    try simp only [Act.put, List.setIfInBounds_toArray, List.set_cons_zero, List.set_cons_succ]
                    refine wpAnyH_take (i := 4) (v := ?_) (ops_at rfl) (by kernel_rfl) (by kernel_rfl) (by kernel_rfl) (fun _ _ _ h => h) (Or.inl ⟨by rfl, ?yaw4⟩) (by assumption) ?naw4
                    case yaw4 => (intro wS hSw; (try dsimp only at hSw); go_simp; try rfl)
                    try simp only [Act.put, List.setIfInBounds_toArray, List.set_cons_zero, List.set_cons_succ]
                    refine wpAnyH_take (i := 5) (v := ?_) (ops_at rfl) (by kernel_rfl) (by kernel_rfl) (by kernel_rfl) (fun _ _ _ h => h) (Or.inl ⟨by rfl, ?yaw5⟩) (by assumption) ?naw5
                    case yaw5 => (intro wS hSw; (try dsimp only at hSw); go_simp; try rfl)
                    try simp only [Act.put, List.setIfInBounds_toArray, List.set_cons_zero, List.set_cons_succ]
                    refine wpAnyH_take (i := 6) (v := ?_) (ops_at rfl) (by kernel_rfl) (by kernel_rfl) (by kernel_rfl) (fun _ _ _ h => h) (Or.inl ⟨by rfl, ?yaw6⟩) (by assumption) ?naw6
                    case yaw6 => (intro wS hSw; (try dsimp only at hSw); go_simp; try rfl)
                    try simp only [Act.put, List.setIfInBounds_toArray, List.set_cons_zero, List.set_cons_succ]
                    refine wpAnyH_take (i := 7) (v := ?_) (ops_at rfl) (by kernel_rfl) (by kernel_rfl) (by kernel_rfl) (fun _ _ _ h => h) (Or.inl ⟨by rfl, ?yaw7⟩) (by assumption) ?naw7
                    case yaw7 => (intro wS hSw; (try dsimp only at hSw); go_simp; try rfl)
                    try simp only [Act.put, List.setIfInBounds_toArray, List.set_cons_zero, List.set_cons_succ]
                    refine wpAnyH_take (i := 8) (v := ?_) (ops_at rfl) (by kernel_rfl) (by kernel_rfl) (by kernel_rfl) (fun _ _ _ h => h) (Or.inl ⟨by rfl, ?yaw8⟩) (by assumption) ?naw8
                    case yaw8 => (intro wS hSw; (try dsimp only at hSw); go_simp; try rfl)
                    try simp only [Act.put, List.setIfInBounds_toArray, List.set_cons_zero, List.set_cons_succ]
                    refine wpAnyH_take (i := 9) (v := ?_) (ops_at rfl) (by kernel_rfl) (by kernel_rfl) (by kernel_rfl) (fun _ _ _ h => h) (Or.inl ⟨by rfl, ?yaw9⟩) (by assumption) ?naw9
                    case yaw9 => (intro wS hSw; (try dsimp only at hSw); go_simp; try rfl)
                    try simp only [Act.put, List.setIfInBounds_toArray, List.set_cons_zero, List.set_cons_succ]
                    refine wpAnyH_take (i := 10) (v := ?_) (ops_at rfl) (by kernel_rfl) (by kernel_rfl) (by kernel_rfl) (fun _ _ _ h => h) (Or.inl ⟨by rfl, ?yaw10⟩) (by assumption) ?naw10
                    case yaw10 => (intro wS hSw; (try dsimp only at hSw); go_simp; try rfl)
                    try simp only [Act.put, List.setIfInBounds_toArray, List.set_cons_zero, List.set_cons_succ]
                    refine wpAnyH_take (i := 11) (v := ?_) (ops_at rfl) (by kernel_rfl) (by kernel_rfl) (by kernel_rfl) (fun _ _ _ h => h) (Or.inl ⟨by rfl, ?yaw11⟩) (by assumption) ?naw11
                    case yaw11 => (intro wS hSw; (try dsimp only at hSw); go_simp; try rfl)
                    try simp only [Act.put, List.setIfInBounds_toArray, List.set_cons_zero, List.set_cons_succ]
                    refine wpAnyH_take (i := 12) (v := ?_) (ops_at rfl) (by kernel_rfl) (by kernel_rfl) (by kernel_rfl) (fun _ _ _ h => h) (Or.inl ⟨by rfl, ?yaw12⟩) (by assumption) ?naw12
                    case yaw12 => (intro wS hSw; (try dsimp only at hSw); go_simp; try rfl)
                    try simp only [Act.put, List.setIfInBounds_toArray, List.set_cons_zero, List.set_cons_succ]
                    refine wpAnyH_take (i := 13) (v := ?_) (ops_at rfl) (by kernel_rfl) (by kernel_rfl) (by kernel_rfl) (fun _ _ _ h => h) (Or.inl ⟨by rfl, ?yaw13⟩) (by assumption) ?naw13
                    case yaw13 => (intro wS hSw; (try dsimp only at hSw); go_simp; try rfl)
                    try simp only [Act.put, List.setIfInBounds_toArray, List.set_cons_zero, List.set_cons_succ]
                    refine wpAnyH_take (i := 14) (v := ?_) (ops_at rfl) (by kernel_rfl) (by kernel_rfl) (by kernel_rfl) (fun _ _ _ h => h) (Or.inl ⟨by rfl, ?yaw14⟩) (by assumption) ?naw14
                    case yaw14 => (intro wS hSw; (try dsimp only at hSw); go_simp; try rfl)
                    try simp only [Act.put, List.setIfInBounds_toArray, List.set_cons_zero, List.set_cons_succ]
                    refine wpAnyH_take (i := 15) (v := ?_) (ops_at rfl) (by kernel_rfl) (by kernel_rfl) (by kernel_rfl) (fun _ _ _ h => h) (Or.inl ⟨by rfl, ?yaw15⟩) (by assumption) ?naw15
                    case yaw15 => (intro wS hSw; (try dsimp only at hSw); go_simp; try rfl)
                    try simp only [Act.put, List.setIfInBounds_toArray, List.set_cons_zero, List.set_cons_succ]
                    refine wpAnyH_take (i := 16) (v := ?_) (ops_at rfl) (by kernel_rfl) (by kernel_rfl) (by kernel_rfl) (fun _ _ _ h => h) (Or.inl ⟨by rfl, ?yaw16⟩) (by assumption) ?naw16
                    case yaw16 => (intro wS hSw; (try dsimp only at hSw); go_simp; try rfl)
                    try simp only [Act.put, List.setIfInBounds_toArray, List.set_cons_zero, List.set_cons_succ]
                    refine wpAnyH_take (i := 17) (v := ?_) (ops_at rfl) (by kernel_rfl) (by kernel_rfl) (by kernel_rfl) (fun _ _ _ h => h) (Or.inl ⟨by rfl, ?yaw17⟩) (by assumption) ?naw17
                    case yaw17 => (intro wS hSw; (try dsimp only at hSw); go_simp; try rfl)
                    try simp only [Act.put, List.setIfInBounds_toArray, List.set_cons_zero, List.set_cons_succ]
                    refine wpAnyH_ready (rs := [18]) (by kernel_rfl) (by simp) ?_
                    refine AllReadyH.cons (ops_at rfl) (fun K hK => ?_) AllReadyH.nil
                    go_simp
                    refine (l1Least_any s0 (v1 + v2) nv HNV.out _).mono ?_
                    rintro e wz ⟨rfl, rfl⟩
                    refine hK.out _ _ ⟨e1, e2, e3, e4⟩ (fun hH1 => ?_)
                    clear hK K
                    refine wpAnyH_take (i := 19) (v := ?_) (ops_at rfl) (by kernel_rfl) (by kernel_rfl) (by kernel_rfl) (fun _ _ _ h => h) (Or.inl ⟨by rfl, ?yawz19⟩) (by assumption) ?nawz19
                    case yawz19 => (intro wS hSw; (try dsimp only at hSw); go_simp; try rfl)
                    try simp only [Act.put, List.setIfInBounds_toArray, List.set_cons_zero, List.set_cons_succ]
                    refine wpAnyH_done (by kernel_rfl) ?_ _
                    clear e1 e2 e3 e4
                    go_wp2
                    go_roundw
                    case rel => exact ⟨k + 1, by omega, by omega, by go_num, by rw [HNX.out], drewB HBK.out, HTK.out.below (drewB (Below.refl _ _))⟩
                    case measure => simp [intOf]; omega
                  · have hlt' : ¬ (2 * (k : Int)) ≤ (b : Int) := by omega
                    have hdt : decide ((2 * (k : Int)) ≤ (b : Int)) = false := decide_eq_false hlt'
                    have hke : k - 1 = b / 2 := by omega
                    have HE := Lib.hid (show leastL (1 : Int) ((upL a b (a / 2) ++ lvL a b (b / 2)).map (sumT (fewB))) = s0 by rw [← hke]; exact HS0.out)
                    clear hke
                    clear hw2 hlt' hdt
                    have HV := Lib.hid (show (fewB) a b = s0 by rw [fewB_spec (by omega) (by omega), fewS, HS.out, ← HE.out, halfL_parts])
                    obtain ⟨g, u, e1, e2, e3, e4, e5⟩ := HTK.out.row (by omega) (by omega) s0 (by rw [show m + 1 = b from hb']; exact HV.out)
                    rw [show m + 1 = b from hb'] at e2 e3 e5
                    have HE5 := Lib.hid e5
                    clear e5
                    go_wp2
                    go_roundw
                    case rel => exact ⟨m + 1, by omega, by go_num, HBK.out.setCell (p := ⟨g, b, none⟩) (by show w.heap.size ≤ g; omega) _, by rw [show m + 1 = b from hb']; exact HE5.out⟩
                    case measure => simp [intOf]; omega
          · have hee : ((a : Int) == (b : Int)) = false := by rw [beq_eq_false_iff_ne]; omega
            have HS := Lib.hid (show (if a = b then 1 else ((a * b : Nat) : Int)) = (ab : Int) by rw [if_neg heq, HAB.out])
            have HEQ := Lib.hid heq
            clear heq
            go_wp2
            clear hwm hmul hee
            go_loopw [8, 9] (fun bs i wk => ∃ k : Nat, 1 ≤ k ∧ 2 * (k - 1) ≤ a ∧ i = .int .i64 (k : Int) ∧ bs = .int .i64 (leastL (ab : Int) ((upL a b (k - 1)).map (sumT (fewB)))) ∧ Below w.heap.size w wk ∧ TabS wk w.heap.size F A H (fewB) a m) (fun _ i _ => 25 - (intOf i).toNat)
            case atStart => exact ⟨1, by omega, by omega, rfl, by simp [upL, leastL], HBcv.out, HTcv.out⟩
            case round =>
              obtain ⟨k, hk1, hk2, rfl, rfl, hbk, htk⟩ := hrel
              have HBK := Lib.hid hbk
              have HTK := Lib.hid htk
              clear hbk htk
              obtain ⟨s0, hs0⟩ : ∃ s0, leastL (ab : Int) ((upL a b (k - 1)).map (sumT (fewB))) = s0 := ⟨_, rfl⟩
              rw [hs0]
              have HS0 := Lib.hid hs0
              clear hs0
              have hk24 : k ≤ 25 := by omega
              have hw2 : IntKind.i64.wrap (2 * (k : Int)) = 2 * (k : Int) := by rw [IntKind.wrap_i64]; omega
              by_cases hlt : 2 * k ≤ a
              · have hlt' : (2 * (k : Int)) ≤ (a : Int) := by omega
                have hdt : decide ((2 * (k : Int)) ≤ (a : Int)) = true := decide_eq_true hlt'
                obtain ⟨d, hd⟩ : ∃ d, a - k = d := ⟨_, rfl⟩
                have hsub : (a : Int) - (k : Int) = (d : Int) := by omega
                have hwd : IntKind.i64.wrap (d : Int) = (d : Int) := by rw [IntKind.wrap_i64]; omega
                obtain ⟨g1, e1, e2⟩ := HTK.out.read (a := k) (b := b) (by omega) (by omega) (by omega) (by omega) (by omega)
                obtain ⟨g2, e3, e4⟩ := HTK.out.read (a := d) (b := b) (by omega) (by omega) (by omega) (by omega) (by omega)
                have q1 := fewB_bd k b (by omega) (by omega) (by omega) (by omega)
                have q2 := fewB_bd d b (by omega) (by omega) (by omega) (by omega)
                obtain ⟨v1, hv1⟩ : ∃ v1, (fewB) k b = v1 := ⟨_, rfl⟩
                obtain ⟨v2, hv2⟩ : ∃ v2, (fewB) d b = v2 := ⟨_, rfl⟩
                rw [hv1] at e2 q1
                rw [hv2] at e4 q2
                have hwv : IntKind.i64.wrap (v1 + v2) = v1 + v2 := by rw [IntKind.wrap_i64]; omega
                have hnext : leastL (ab : Int) ((upL a b (k + 1 - 1)).map (sumT (fewB))) = min s0 (v1 + v2) := by
                  rw [show k + 1 - 1 = (k - 1) + 1 by omega, upL_succ, List.map_append]
                  simp only [List.map_cons, List.map_nil]
                  rw [leastL_snoc, show k - 1 + 1 = k by omega, hd, HS0.out]
                  simp only [sumT, hv1, hv2]
                obtain ⟨nv, hnv⟩ : ∃ nv, min s0 (v1 + v2) = nv := ⟨_, rfl⟩
                rw [hnv] at hnext
                have HNX := Lib.hid hnext
                have HNV := Lib.hid hnv
                clear hnext hnv hv1 hv2 hd
                have hi0 : (k : Int) < (A : Int) + 1 := by omega
                have hi1 : (d : Int) < (A : Int) + 1 := by omega
                have hi2 : (b : Int) < (H : Int) + 1 := by omega
                go_wp2_with fail
                refine wp_region_held_drew (S := (fun wq => wq.cell? ⟨F, k, none⟩ = some (.slice (some ⟨g1, 0, none⟩) (H + 1) (H + 1)) ∧ wq.cell? ⟨g1, b, none⟩ = some (.int .i64 v1) ∧ wq.cell? ⟨F, d, none⟩ = some (.slice (some ⟨g2, 0, none⟩) (H + 1) (H + 1)) ∧ wq.cell? ⟨g2, b, none⟩ = some (.int .i64 v2))) (by kernel_rfl) ⟨e1, e2, e3, e4⟩ (fun hH0 => ?_)
                refine wpAnyH_take (i := 0) (v := ?_) (ops_at rfl) (by kernel_rfl) (by kernel_rfl) (by kernel_rfl) (fun _ _ _ h => h) (Or.inl ⟨by rfl, ?ycv0⟩) (by assumption) ?ncv0
                case ycv0 => (intro wS hSw; (try dsimp only at hSw); go_simp; try rfl)
                try simp only [Act.put, List.setIfInBounds_toArray, List.set_cons_zero, List.set_cons_succ]
                refine wpAnyH_take (i := 1) (v := ?_) (ops_at rfl) (by kernel_rfl) (by kernel_rfl) (by kernel_rfl) (fun _ _ _ h => h) (Or.inl ⟨by rfl, ?ycv1⟩) (by assumption) ?ncv1
                case ycv1 => (intro wS hSw; (try dsimp only at hSw); go_simp; try rfl)
                try simp only [Act.put, List.setIfInBounds_toArray, List.set_cons_zero, List.set_cons_succ]
                refine wpAnyH_take (i := 2) (v := ?_) (ops_at rfl) (by kernel_rfl) (by kernel_rfl) (by kernel_rfl) (fun _ _ _ h => h) (Or.inl ⟨by rfl, ?ycv2⟩) (by assumption) ?ncv2
                case ycv2 => (intro wS hSw; (try dsimp only at hSw); go_simp; try rfl)
                try simp only [Act.put, List.setIfInBounds_toArray, List.set_cons_zero, List.set_cons_succ]
                refine wpAnyH_take (i := 3) (v := ?_) (ops_at rfl) (by kernel_rfl) (by kernel_rfl) (by kernel_rfl) (fun _ _ _ h => h) (Or.inl ⟨by rfl, ?ycv3⟩) (by assumption) ?ncv3
                case ycv3 => (intro wS hSw; (try dsimp only at hSw); go_simp; try rfl)
                try simp only [Act.put, List.setIfInBounds_toArray, List.set_cons_zero, List.set_cons_succ]
                refine wpAnyH_take (i := 4) (v := ?_) (ops_at rfl) (by kernel_rfl) (by kernel_rfl) (by kernel_rfl) (fun _ _ _ h => h) (Or.inl ⟨by rfl, ?ycv4⟩) (by assumption) ?ncv4
                case ycv4 => (intro wS hSw; (try dsimp only at hSw); go_simp; try rfl)
                try simp only [Act.put, List.setIfInBounds_toArray, List.set_cons_zero, List.set_cons_succ]
                refine wpAnyH_take (i := 5) (v := ?_) (ops_at rfl) (by kernel_rfl) (by kernel_rfl) (by kernel_rfl) (fun _ _ _ h => h) (Or.inl ⟨by rfl, ?ycv5⟩) (by assumption) ?ncv5
                case ycv5 => (intro wS hSw; (try dsimp only at hSw); go_simp; try rfl)
                try simp only [Act.put, List.setIfInBounds_toArray, List.set_cons_zero, List.set_cons_succ]
                refine wpAnyH_take (i := 6) (v := ?_) (ops_at rfl) (by kernel_rfl) (by kernel_rfl) (by kernel_rfl) (fun _ _ _ h => h) (Or.inl ⟨by rfl, ?ycv6⟩) (by assumption) ?ncv6
                case ycv6 => (intro wS hSw; (try dsimp only at hSw); go_simp; try rfl)
                try simp only [Act.put, List.setIfInBounds_toArray, List.set_cons_zero, List.set_cons_succ]
                refine wpAnyH_take (i := 7) (v := ?_) (ops_at rfl) (by kernel_rfl) (by kernel_rfl) (by kernel_rfl) (fun _ _ _ h => h) (Or.inl ⟨by rfl, ?ycv7⟩) (by assumption) ?ncv7
                case ycv7 => (intro wS hSw; (try dsimp only at hSw); go_simp; try rfl)
                try simp only [Act.put, List.setIfInBounds_toArray, List.set_cons_zero, List.set_cons_succ]
                refine wpAnyH_take (i := 8) (v := ?_) (ops_at rfl) (by kernel_rfl) (by kernel_rfl) (by kernel_rfl) (fun _ _ _ h => h) (Or.inl ⟨by rfl, ?ycv8⟩) (by assumption) ?ncv8
                case ycv8 => (intro wS hSw; (try dsimp only at hSw); go_simp; try rfl)
                try simp only [Act.put, List.setIfInBounds_toArray, List.set_cons_zero, List.set_cons_succ]
                refine wpAnyH_take (i := 9) (v := ?_) (ops_at rfl) (by kernel_rfl) (by kernel_rfl) (by kernel_rfl) (fun _ _ _ h => h) (Or.inl ⟨by rfl, ?ycv9⟩) (by assumption) ?ncv9
                case ycv9 => (intro wS hSw; (try dsimp only at hSw); go_simp; try rfl)
                try simp only [Act.put, List.setIfInBounds_toArray, List.set_cons_zero, List.set_cons_succ]
                refine wpAnyH_take (i := 10) (v := ?_) (ops_at rfl) (by kernel_rfl) (by kernel_rfl) (by kernel_rfl) (fun _ _ _ h => h) (Or.inl ⟨by rfl, ?ycv10⟩) (by assumption) ?ncv10
                case ycv10 => (intro wS hSw; (try dsimp only at hSw); go_simp; try rfl)
                try simp only [Act.put, List.setIfInBounds_toArray, List.set_cons_zero, List.set_cons_succ]
                refine wpAnyH_take (i := 11) (v := ?_) (ops_at rfl) (by kernel_rfl) (by kernel_rfl) (by kernel_rfl) (fun _ _ _ h => h) (Or.inl ⟨by rfl, ?ycv11⟩) (by assumption) ?ncv11
                case ycv11 => (intro wS hSw; (try dsimp only at hSw); go_simp; try rfl)
                try simp only [Act.put, List.setIfInBounds_toArray, List.set_cons_zero, List.set_cons_succ]
                refine wpAnyH_take (i := 12) (v := ?_) (ops_at rfl) (by kernel_rfl) (by kernel_rfl) (by kernel_rfl) (fun _ _ _ h => h) (Or.inl ⟨by rfl, ?ycv12⟩) (by assumption) ?ncv12
                case ycv12 => (intro wS hSw; (try dsimp only at hSw); go_simp; try rfl)
                try simp only [Act.put, List.setIfInBounds_toArray, List.set_cons_zero, List.set_cons_succ]
                refine wpAnyH_take (i := 13) (v := ?_) (ops_at rfl) (by kernel_rfl) (by kernel_rfl) (by kernel_rfl) (fun _ _ _ h => h) (Or.inl ⟨by rfl, ?ycv13⟩) (by assumption) ?ncv13
                case ycv13 => (intro wS hSw; (try dsimp only at hSw); go_simp; try rfl)
                try simp only [Act.put, List.setIfInBounds_toArray, List.set_cons_zero, List.set_cons_succ]
                refine wpAnyH_take (i := 14) (v := ?_) (ops_at rfl) (by kernel_rfl) (by kernel_rfl) (by kernel_rfl) (fun _ _ _ h => h) (Or.inl ⟨by rfl, ?ycv14⟩) (by assumption) ?ncv14
                case ycv14 => (intro wS hSw; (try dsimp only at hSw); go_simp; try rfl)
                try simp only [Act.put, List.setIfInBounds_toArray, List.set_cons_zero, List.set_cons_succ]
                refine wpAnyH_take (i := 15) (v := ?_) (ops_at rfl) (by kernel_rfl) (by kernel_rfl) (by kernel_rfl) (fun _ _ _ h => h) (Or.inl ⟨by rfl, ?ycv15⟩) (by assumption) ?ncv15
                case ycv15 => (intro wS hSw; (try dsimp only at hSw); go_simp; try rfl)
                try simp only [Act.put, List.setIfInBounds_toArray, List.set_cons_zero, List.set_cons_succ]
                refine wpAnyH_take (i := 16) (v := ?_) (ops_at rfl) (by kernel_rfl) (by kernel_rfl) (by kernel_rfl) (fun _ _ _ h => h) (Or.inl ⟨by rfl, ?ycv16⟩) (by assumption) ?ncv16
                case ycv16 => (intro wS hSw; (try dsimp only at hSw); go_simp; try rfl)
                try simp only [Act.put, List.setIfInBounds_toArray, List.set_cons_zero, List.set_cons_succ]
                refine wpAnyH_take (i := 17) (v := ?_) (ops_at rfl) (by kernel_rfl) (by kernel_rfl) (by kernel_rfl) (fun _ _ _ h => h) (Or.inl ⟨by rfl, ?ycv17⟩) (by assumption) ?ncv17
                case ycv17 => (intro wS hSw; (try dsimp only at hSw); go_simp; try rfl)
                try simp only [Act.put, List.setIfInBounds_toArray, List.set_cons_zero, List.set_cons_succ]
                refine wpAnyH_ready (rs := [18]) (by kernel_rfl) (by simp) ?_
                refine AllReadyH.cons (ops_at rfl) (fun K hK => ?_) AllReadyH.nil
                go_simp
                refine (l1Least_any s0 (v1 + v2) nv HNV.out _).mono ?_
                rintro e wz ⟨rfl, rfl⟩
                refine hK.out _ _ ⟨e1, e2, e3, e4⟩ (fun hH1 => ?_)
                clear hK K
                refine wpAnyH_take (i := 19) (v := ?_) (ops_at rfl) (by kernel_rfl) (by kernel_rfl) (by kernel_rfl) (fun _ _ _ h => h) (Or.inl ⟨by rfl, ?ycvz19⟩) (by assumption) ?ncvz19
                case ycvz19 => (intro wS hSw; (try dsimp only at hSw); go_simp; try rfl)
                try simp only [Act.put, List.setIfInBounds_toArray, List.set_cons_zero, List.set_cons_succ]
                refine wpAnyH_done (by kernel_rfl) ?_ _
                clear e1 e2 e3 e4
                go_wp2
                go_roundw
                case rel => exact ⟨k + 1, by omega, by omega, by go_num, by rw [HNX.out], drewB HBK.out, HTK.out.below (drewB (Below.refl _ _))⟩
                case measure => simp [intOf]; omega
              · have hlt' : ¬ (2 * (k : Int)) ≤ (a : Int) := by omega
                have hdt : decide ((2 * (k : Int)) ≤ (a : Int)) = false := decide_eq_false hlt'
                have hke : k - 1 = a / 2 := by omega
                have HE := Lib.hid (show leastL (ab : Int) ((upL a b (a / 2)).map (sumT (fewB))) = s0 by rw [← hke]; exact HS0.out)
                clear hke
                have HST := Lib.hid HE.out
                have HBcw := Lib.hid HBK.out
                have HTcw := Lib.hid HTK.out
                clear hw2 hlt' hdt HS0 HE
                go_wp2
                go_loopw [8, 10] (fun bs i wk => ∃ k : Nat, 1 ≤ k ∧ 2 * (k - 1) ≤ b ∧ i = .int .i64 (k : Int) ∧ bs = .int .i64 (leastL (ab : Int) ((upL a b (a / 2) ++ lvL a b (k - 1)).map (sumT (fewB)))) ∧ Below w.heap.size w wk ∧ TabS wk w.heap.size F A H (fewB) a m) (fun _ i _ => 25 - (intOf i).toNat)
                case atStart => exact ⟨1, by omega, by omega, rfl, by rw [show (1 : Nat) - 1 = 0 from rfl]; simp only [lvL, List.range_zero, List.map_nil, List.append_nil]; rw [HST.out], HBcw.out, HTcw.out⟩
                case round =>
                  obtain ⟨k, hk1, hk2, rfl, rfl, hbk, htk⟩ := hrel
                  have HBK := Lib.hid hbk
                  have HTK := Lib.hid htk
                  clear hbk htk
                  obtain ⟨s0, hs0⟩ : ∃ s0, leastL (ab : Int) ((upL a b (a / 2) ++ lvL a b (k - 1)).map (sumT (fewB))) = s0 := ⟨_, rfl⟩
                  rw [hs0]
                  have HS0 := Lib.hid hs0
                  clear hs0
                  have hk24 : k ≤ 25 := by omega
                  have hw2 : IntKind.i64.wrap (2 * (k : Int)) = 2 * (k : Int) := by rw [IntKind.wrap_i64]; omega
                  by_cases hlt : 2 * k ≤ b
                  · have hlt' : (2 * (k : Int)) ≤ (b : Int) := by omega
                    have hdt : decide ((2 * (k : Int)) ≤ (b : Int)) = true := decide_eq_true hlt'
                    obtain ⟨d, hd⟩ : ∃ d, b - k = d := ⟨_, rfl⟩
                    have hsub : (b : Int) - (k : Int) = (d : Int) := by omega
                    have hwd : IntKind.i64.wrap (d : Int) = (d : Int) := by rw [IntKind.wrap_i64]; omega
                    obtain ⟨g1, e1, e2⟩ := HTK.out.read (a := a) (b := k) (by omega) (by omega) (by omega) (by omega) (by omega)
                    obtain ⟨g2, e3, e4⟩ := HTK.out.read (a := a) (b := d) (by omega) (by omega) (by omega) (by omega) (by omega)
                    obtain rfl : g1 = g2 := by have h := e1.symm.trans e3; simp at h; exact h
                    have q1 := fewB_bd a k (by omega) (by omega) (by omega) (by omega)
                    have q2 := fewB_bd a d (by omega) (by omega) (by omega) (by omega)
                    obtain ⟨v1, hv1⟩ : ∃ v1, (fewB) a k = v1 := ⟨_, rfl⟩
                    obtain ⟨v2, hv2⟩ : ∃ v2, (fewB) a d = v2 := ⟨_, rfl⟩
                    rw [hv1] at e2 q1
                    rw [hv2] at e4 q2
                    have hwv : IntKind.i64.wrap (v1 + v2) = v1 + v2 := by rw [IntKind.wrap_i64]; omega
                    have hnext : leastL (ab : Int) ((upL a b (a / 2) ++ lvL a b (k + 1 - 1)).map (sumT (fewB))) = min s0 (v1 + v2) := by
                      rw [show k + 1 - 1 = (k - 1) + 1 by omega, lvL_succ, ← List.append_assoc, List.map_append]
                      simp only [List.map_cons, List.map_nil]
                      rw [leastL_snoc, show k - 1 + 1 = k by omega, hd, HS0.out]
                      simp only [sumT, hv1, hv2]
                    obtain ⟨nv, hnv⟩ : ∃ nv, min s0 (v1 + v2) = nv := ⟨_, rfl⟩
                    rw [hnv] at hnext
                    have HNX := Lib.hid hnext
                    have HNV := Lib.hid hnv
                    clear hnext hnv hv1 hv2 hd
                    have hi0 : (a : Int) < (A : Int) + 1 := by omega
                    have hi1 : (k : Int) < (H : Int) + 1 := by omega
                    have hi2 : (d : Int) < (H : Int) + 1 := by omega
                    go_wp2_with fail
                    refine wp_region_held_drew (S := (fun wq => wq.cell? ⟨F, a, none⟩ = some (.slice (some ⟨g1, 0, none⟩) (H + 1) (H + 1)) ∧ wq.cell? ⟨g1, k, none⟩ = some (.int .i64 v1) ∧ wq.cell? ⟨F, a, none⟩ = some (.slice (some ⟨g1, 0, none⟩) (H + 1) (H + 1)) ∧ wq.cell? ⟨g1, d, none⟩ = some (.int .i64 v2))) (by kernel_rfl) ⟨e1, e2, e3, e4⟩ (fun hH0 => ?_)
                    refine wpAnyH_take (i := 0) (v := ?_) (ops_at rfl) (by kernel_rfl) (by kernel_rfl) (by kernel_rfl) (fun _ _ _ h => h) (Or.inl ⟨by rfl, ?ycw0⟩) (by assumption) ?ncw0
                    case ycw0 => (intro wS hSw; (try dsimp only at hSw); go_simp; try rfl)
                    try simp only [Act.put, List.setIfInBounds_toArray, List.set_cons_zero, List.set_cons_succ]
                    refine wpAnyH_take (i := 1) (v := ?_) (ops_at rfl) (by kernel_rfl) (by kernel_rfl) (by kernel_rfl) (fun _ _ _ h => h) (Or.inl ⟨by rfl, ?ycw1⟩) (by assumption) ?ncw1
                    case ycw1 => (intro wS hSw; (try dsimp only at hSw); go_simp; try rfl)
                    try simp only [Act.put, List.setIfInBounds_toArray, List.set_cons_zero, List.set_cons_succ]
                    refine wpAnyH_take (i := 2) (v := ?_) (ops_at rfl) (by kernel_rfl) (by kernel_rfl) (by kernel_rfl) (fun _ _ _ h => h) (Or.inl ⟨by rfl, ?ycw2⟩) (by assumption) ?ncw2
                    case ycw2 => (intro wS hSw; (try dsimp only at hSw); go_simp; try rfl)
                    try simp only [Act.put, List.setIfInBounds_toArray, List.set_cons_zero, List.set_cons_succ]
                    refine wpAnyH_take (i := 3) (v := ?_) (ops_at rfl) (by kernel_rfl) (by kernel_rfl) (by kernel_rfl) (fun _ _ _ h => h) (Or.inl ⟨by rfl, ?ycw3⟩) (by assumption) ?ncw3
                    case ycw3 => (intro wS hSw; (try dsimp only at hSw); go_simp; try rfl)
                    try simp only [Act.put, List.setIfInBounds_toArray, List.set_cons_zero, List.set_cons_succ]
                    refine wpAnyH_take (i := 4) (v := ?_) (ops_at rfl) (by kernel_rfl) (by kernel_rfl) (by kernel_rfl) (fun _ _ _ h => h) (Or.inl ⟨by rfl, ?ycw4⟩) (by assumption) ?ncw4
                    case ycw4 => (intro wS hSw; (try dsimp only at hSw); go_simp; try rfl)
                    try simp only [Act.put, List.setIfInBounds_toArray, List.set_cons_zero, List.set_cons_succ]
                    refine wpAnyH_take (i := 5) (v := ?_) (ops_at rfl) (by kernel_rfl) (by kernel_rfl) (by kernel_rfl) (fun _ _ _ h => h) (Or.inl ⟨by rfl, ?ycw5⟩) (by assumption) ?ncw5
                    case ycw5 => (intro wS hSw; (try dsimp only at hSw); go_simp; try rfl)
                    try simp only [Act.put, List.setIfInBounds_toArray, List.set_cons_zero, List.set_cons_succ]
                    refine wpAnyH_take (i := 6) (v := ?_) (ops_at rfl) (by kernel_rfl) (by kernel_rfl) (by kernel_rfl) (fun _ _ _ h => h) (Or.inl ⟨by rfl, ?ycw6⟩) (by assumption) ?ncw6
                    case ycw6 => (intro wS hSw; (try dsimp only at hSw); go_simp; try rfl)
                    try simp only [Act.put, List.setIfInBounds_toArray, List.set_cons_zero, List.set_cons_succ]
                    refine wpAnyH_take (i := 7) (v := ?_) (ops_at rfl) (by kernel_rfl) (by kernel_rfl) (by kernel_rfl) (fun _ _ _ h => h) (Or.inl ⟨by rfl, ?ycw7⟩) (by assumption) ?ncw7
                    case ycw7 => (intro wS hSw; (try dsimp only at hSw); go_simp; try rfl)
                    try simp only [Act.put, List.setIfInBounds_toArray, List.set_cons_zero, List.set_cons_succ]
                    refine wpAnyH_take (i := 8) (v := ?_) (ops_at rfl) (by kernel_rfl) (by kernel_rfl) (by kernel_rfl) (fun _ _ _ h => h) (Or.inl ⟨by rfl, ?ycw8⟩) (by assumption) ?ncw8
                    case ycw8 => (intro wS hSw; (try dsimp only at hSw); go_simp; try rfl)
                    try simp only [Act.put, List.setIfInBounds_toArray, List.set_cons_zero, List.set_cons_succ]
                    refine wpAnyH_take (i := 9) (v := ?_) (ops_at rfl) (by kernel_rfl) (by kernel_rfl) (by kernel_rfl) (fun _ _ _ h => h) (Or.inl ⟨by rfl, ?ycw9⟩) (by assumption) ?ncw9
                    case ycw9 => (intro wS hSw; (try dsimp only at hSw); go_simp; try rfl)
                    try simp only [Act.put, List.setIfInBounds_toArray, List.set_cons_zero, List.set_cons_succ]
                    refine wpAnyH_take (i := 10) (v := ?_) (ops_at rfl) (by kernel_rfl) (by kernel_rfl) (by kernel_rfl) (fun _ _ _ h => h) (Or.inl ⟨by rfl, ?ycw10⟩) (by assumption) ?ncw10
                    case ycw10 => (intro wS hSw; (try dsimp only at hSw); go_simp; try rfl)
                    try simp only [Act.put, List.setIfInBounds_toArray, List.set_cons_zero, List.set_cons_succ]
                    refine wpAnyH_take (i := 11) (v := ?_) (ops_at rfl) (by kernel_rfl) (by kernel_rfl) (by kernel_rfl) (fun _ _ _ h => h) (Or.inl ⟨by rfl, ?ycw11⟩) (by assumption) ?ncw11
                    case ycw11 => (intro wS hSw; (try dsimp only at hSw); go_simp; try rfl)
                    try simp only [Act.put, List.setIfInBounds_toArray, List.set_cons_zero, List.set_cons_succ]
                    refine wpAnyH_take (i := 12) (v := ?_) (ops_at rfl) (by kernel_rfl) (by kernel_rfl) (by kernel_rfl) (fun _ _ _ h => h) (Or.inl ⟨by rfl, ?ycw12⟩) (by assumption) ?ncw12
                    case ycw12 => (intro wS hSw; (try dsimp only at hSw); go_simp; try rfl)
                    try simp only [Act.put, List.setIfInBounds_toArray, List.set_cons_zero, List.set_cons_succ]
                    refine wpAnyH_take (i := 13) (v := ?_) (ops_at rfl) (by kernel_rfl) (by kernel_rfl) (by kernel_rfl) (fun _ _ _ h => h) (Or.inl ⟨by rfl, ?ycw13⟩) (by assumption) ?ncw13
                    case ycw13 => (intro wS hSw; (try dsimp only at hSw); go_simp; try rfl)
                    try simp only [Act.put, List.setIfInBounds_toArray, List.set_cons_zero, List.set_cons_succ]
                    refine wpAnyH_take (i := 14) (v := ?_) (ops_at rfl) (by kernel_rfl) (by kernel_rfl) (by kernel_rfl) (fun _ _ _ h => h) (Or.inl ⟨by rfl, ?ycw14⟩) (by assumption) ?ncw14
                    case ycw14 => (intro wS hSw; (try dsimp only at hSw); go_simp; try rfl)
                    try simp only [Act.put, List.setIfInBounds_toArray, List.set_cons_zero, List.set_cons_succ]
                    refine wpAnyH_take (i := 15) (v := ?_) (ops_at rfl) (by kernel_rfl) (by kernel_rfl) (by kernel_rfl) (fun _ _ _ h => h) (Or.inl ⟨by rfl, ?ycw15⟩) (by assumption) ?ncw15
                    case ycw15 => (intro wS hSw; (try dsimp only at hSw); go_simp; try rfl)
                    try simp only [Act.put, List.setIfInBounds_toArray, List.set_cons_zero, List.set_cons_succ]
                    refine wpAnyH_take (i := 16) (v := ?_) (ops_at rfl) (by kernel_rfl) (by kernel_rfl) (by kernel_rfl) (fun _ _ _ h => h) (Or.inl ⟨by rfl, ?ycw16⟩) (by assumption) ?ncw16
                    case ycw16 => (intro wS hSw; (try dsimp only at hSw); go_simp; try rfl)
                    try simp only [Act.put, List.setIfInBounds_toArray, List.set_cons_zero, List.set_cons_succ]
                    refine wpAnyH_take (i := 17) (v := ?_) (ops_at rfl) (by kernel_rfl) (by kernel_rfl) (by kernel_rfl) (fun _ _ _ h => h) (Or.inl ⟨by rfl, ?ycw17⟩) (by assumption) ?ncw17
                    case ycw17 => (intro wS hSw; (try dsimp only at hSw); go_simp; try rfl)
                    try simp only [Act.put, List.setIfInBounds_toArray, List.set_cons_zero, List.set_cons_succ]
                    refine wpAnyH_ready (rs := [18]) (by kernel_rfl) (by simp) ?_
                    refine AllReadyH.cons (ops_at rfl) (fun K hK => ?_) AllReadyH.nil
                    go_simp
                    refine (l1Least_any s0 (v1 + v2) nv HNV.out _).mono ?_
                    rintro e wz ⟨rfl, rfl⟩
                    refine hK.out _ _ ⟨e1, e2, e3, e4⟩ (fun hH1 => ?_)
                    clear hK K
                    refine wpAnyH_take (i := 19) (v := ?_) (ops_at rfl) (by kernel_rfl) (by kernel_rfl) (by kernel_rfl) (fun _ _ _ h => h) (Or.inl ⟨by rfl, ?ycwz19⟩) (by assumption) ?ncwz19
                    case ycwz19 => (intro wS hSw; (try dsimp only at hSw); go_simp; try rfl)
                    try simp only [Act.put, List.setIfInBounds_toArray, List.set_cons_zero, List.set_cons_succ]
                    refine wpAnyH_done (by kernel_rfl) ?_ _
                    clear e1 e2 e3 e4
                    go_wp2
                    go_roundw
                    case rel => exact ⟨k + 1, by omega, by omega, by go_num, by rw [HNX.out], drewB HBK.out, HTK.out.below (drewB (Below.refl _ _))⟩
                    case measure => simp [intOf]; omega
                  · have hlt' : ¬ (2 * (k : Int)) ≤ (b : Int) := by omega
                    have hdt : decide ((2 * (k : Int)) ≤ (b : Int)) = false := decide_eq_false hlt'
                    have hke : k - 1 = b / 2 := by omega
                    have HE := Lib.hid (show leastL (ab : Int) ((upL a b (a / 2) ++ lvL a b (b / 2)).map (sumT (fewB))) = s0 by rw [← hke]; exact HS0.out)
                    clear hke
                    clear hw2 hlt' hdt
                    have HV := Lib.hid (show (fewB) a b = s0 by rw [fewB_spec (by omega) (by omega), fewS, HS.out, ← HE.out, halfL_parts])
                    obtain ⟨g, u, e1, e2, e3, e4, e5⟩ := HTK.out.row (by omega) (by omega) s0 (by rw [show m + 1 = b from hb']; exact HV.out)
                    rw [show m + 1 = b from hb'] at e2 e3 e5
                    have HE5 := Lib.hid e5
                    clear e5
                    go_wp2
                    go_roundw
                    case rel => exact ⟨m + 1, by omega, by go_num, HBK.out.setCell (p := ⟨g, b, none⟩) (by show w.heap.size ≤ g; omega) _, by rw [show m + 1 = b from hb']; exact HE5.out⟩
                    case measure => simp [intOf]; omega
        · obtain rfl : m = H := by omega
          have hbl : ¬ ((m : Int) + 1) ≤ (m : Int) := by omega
          have hd1 : decide (((m : Int) + 1) ≤ (m : Int)) = false := decide_eq_false hbl
          go_wp2
          go_roundw
          case rel => exact ⟨n + 1, by omega, by go_num, HBm.out, by rw [show n + 1 = a from ha']; exact HTm.out⟩
          case measure => simp [intOf]; omega
    · obtain rfl : n = A := by omega
      have hle : ¬ ((n : Int) + 1) ≤ (n : Int) := by omega
      have hd0 : decide (((n : Int) + 1) ≤ (n : Int)) = false := decide_eq_false hle
      go_wp2
      go_ret
      exact ⟨F, rfl, HT.out, HB.out⟩
end Go.Proofs.Ytjpejhpilfjheaa
