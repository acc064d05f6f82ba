/-
  The written program's best exchange.
  Conditions: lists of at most 1048576 items and numbers.
-/
import Derived.Test.YtjpejhpilfjheabSuD
import Derived.Test.YtjpejhpilfjheabSuQc
import Derived.Test.YtjpejhpilfjheabSuPi
import Derived.Test.YtjpejhpilfjheabCloneI
import Derived.Test.YtjpejhpilfjheabIdx
import Derived.Test.YtjpejhpilfjheabL1Own
import Derived.Test.YtjpejhpilfjheabSuQd
namespace Go.Proofs.Ytjpejhpilfjheab
set_option linter.unusedVariables false
set_option linter.unusedSimpArgs false
open Go.RowKit

set_option maxRecDepth 100000 in
set_option maxHeartbeats 4000000 in
theorem impl_yes (A A2 : Option Addr) (n c m c2 : Nat) (W B : Int) (ts : List (Int × Int × Int)) (ks : List Int) (lo hi lo2 hi2 : Nat) (w : World) (hn : ts.length = n) (hlen : n ≤ 1048576) (hm : ks.length = m) (hlen2 : m ≤ 1048576) (hs : Seg w lo hi A (flat3 ts)) (hB : hi ≤ w.heap.size)
    (hs2 : Seg w lo2 hi2 A2 ks) (hB2 : hi2 ≤ w.heap.size) (hq : askI ts W B = true) (hr : chI ts W B ks = true) :
    Calls Try.prog 23 #[.slice A n c, .agg #[.int .i64 W, .int .i64 B], .slice A2 m c2] w (RetX (exOut ts W B ks ks.length).1 (exOut ts W B ks ks.length).2.1 (decide (0 < (exOut ts W B ks ks.length).2.2)) w) := by
  have HN := Lib.hid hn
  have HM := Lib.hid hm
  have HB0 := Lib.hid ((Below.refl w.heap.size w).alloc (Nat.le_refl _) (.cells #[.int .i64 W, .int .i64 B] 41))
  have HSA := Lib.hid (hs.below HB0.out hB)
  have HTA := Lib.hid (hs2.below HB0.out hB2)
  obtain ⟨hg, hW, hBB⟩ := askI_true.1 hq
  have HG := Lib.hid (goodI_ok hg)
  have hW4 : 0 ≤ W ∧ W ≤ 4000 := by omega
  have hB4 : 0 ≤ B ∧ B ≤ 4000 := by omega
  have HINC := Lib.hid (chI_inc hr)
  have hm10 : m ≤ 10 := by have := incI_len HINC.out; have := HG.out.len; rw [HM.out] at *; omega
  have HS0 := Lib.hid hs
  have HT0 := Lib.hid hs2
  clear hn hs hm hs2 hg
  go_enter Try.func23, Try.ntmps23
  go_wp2_with fail
  refine (choiceOf_yes A A2 n c m c2 W B ts ks _ _ _ _ _ HN.out hlen HM.out hlen2 HSA.out (by simp; omega) HTA.out (by simp; omega) hq hr).mono ?_
  rintro e w1 ⟨rfl, hb1⟩
  have hz1 : w.heap.size < w1.heap.size := by have := hb1.size; simp at this; omega
  have hb1' := HB0.out.trans (hb1.mono (by simp))
  obtain ⟨W1, hW1⟩ : ∃ W1, w1.alloc (.cells #[.slice A n c, .int .i64 W, .int .i64 B] 67) = W1 := ⟨_, rfl⟩
  obtain ⟨P1, hP1⟩ : ∃ P1, w1.heap.size = P1 := ⟨_, rfl⟩
  have hzW : P1 + 1 ≤ W1.heap.size := by rw [← hW1, ← hP1]; simp
  have HB1 := Lib.hid (show Below w.heap.size w W1 by rw [← hW1]; exact hb1'.alloc hb1'.size _)
  have HLG := Lib.hid (show W1.heap[P1]? = some (.cells #[.slice A n c, .int .i64 W, .int .i64 B] 67 (0, 0)) by rw [← hW1, ← hP1]; exact new_at _ _ rfl)
  have hPw1 : w.heap.size < P1 := by omega
  have HW1 := Lib.hid hW1
  clear hb1 hb1' hW1 HSA HTA HB0
  go_wp2
  rw [HW1.out]
  go_loopw [11, 12, 13, 14, 15, 16, 17, 18, 19, 31] (fun a b d _ _ _ _ _ _ i wr => ∃ k : Nat, k ≤ m ∧ i = .int .i64 (k : Int) ∧ (∃ s1 s2 s3 : Int, exOut ts W B ks k = (s1, s2, s3) ∧ a = .int .i64 s1 ∧ b = .int .i64 s2 ∧ d = .int .i64 s3) ∧ Below W1.heap.size W1 wr) (fun _ _ _ _ _ _ _ _ _ i _ => m - (intOf i).toNat)
  case atStart => exact ⟨0, Nat.zero_le _, rfl, ⟨0, 0, 0, rfl, rfl, rfl, rfl⟩, Below.refl _ _⟩
  case round =>
    obtain ⟨k, hk, rfl, ⟨s1, s2, s3, hst, rfl, rfl, rfl⟩, hbw⟩ := hrel
    have HST := Lib.hid hst
    have HBW := Lib.hid hbw
    have HBA := Lib.hid (HB1.out.trans (hbw.mono HB1.out.size))
    have hzr := HBA.out.size
    have hzr1 := hbw.size
    have HS := Lib.hid (HS0.out.below HBA.out hB)
    have HT := Lib.hid (HT0.out.below HBA.out hB2)
    clear hst hbw
    by_cases hlt : k < m
    · have hm0 : 0 < m := by omega
      obtain ⟨g2, o2, x0, rfl, _, _, hx0, hcx⟩ := HT.out.at_ (k := k) (by rw [HM.out]; exact hlt)
      obtain ⟨kn, rfl, hkn⟩ := inc_item HINC.out hx0
      rw [HN.out] at hkn
      obtain ⟨bq, oq, xk, yk, zk, rfl, _, _, hxk, p0, p1, p2⟩ := HS.out.tri (k := kn) (by rw [HN.out]; exact hkn)
      have HXK := Lib.hid hxk
      have HX0 := Lib.hid hx0
      have HP2 := Lib.hid p2
      have hltI : (k : Int) < (m : Int) := by omega
      have hw1 : IntKind.i64.wrap ((k : Int) + 1) = (k : Int) + 1 := by rw [IntKind.wrap_i64]; omega
      have HRI := Lib.hid (restX_inc k HINC.out)
      obtain ⟨Wr, hWr⟩ : ∃ Wr, W - sumF (wI ts) (restX ks k) = Wr := ⟨_, rfl⟩
      obtain ⟨Br, hBr⟩ : ∃ Br, B - sumF (bI ts) (restX ks k) = Br := ⟨_, rfl⟩
      have HWr := Lib.hid hWr
      have HBr := Lib.hid hBr
      have HLW := Lib.hid ((HBW.out.block P1 (by omega)).trans HLG.out)
      clear hx0 hxk p0 p1 p2 hWr hBr
      go_wp2_with fail
      refine region_E (S := fun wq => wq.heap[P1]? = some (.cells #[.slice (some ⟨bq, oq, none⟩) n c, .int .i64 W, .int .i64 B] 67 (0, 0))) 9 (by kernel_rfl) HLW.out (fun hH0 => ?_)
      obtain ⟨V, hV⟩ : ∃ V, wr.drew = V := ⟨_, rfl⟩
      have HBV := Lib.hid (show Below wr.heap.size wr V by rw [← hV]; exact (Below.refl _ _).drew)
      have HLV := Lib.hid (show V.heap[P1]? = some (.cells #[.slice (some ⟨bq, oq, none⟩) n c, .int .i64 W, .int .i64 B] 67 (0, 0)) by rw [← hV]; exact HLW.out)
      rw [hV] at hH0 ⊢
      clear hV hcx
      refine AnyE.take (i := 0) (v := ?_) (ops_at rfl) (by kernel_rfl) (by kernel_rfl) (by kernel_rfl) (by kernel_rfl) (fun _ _ _ h => h) (Or.inl ⟨by rfl, ?yz1⟩) (by assumption) ?nz1
      case yz1 => (intro wS hSw; (try dsimp only at hSw); (have k0 := cell_of hSw 0); (have k1 := cell_of hSw 1); (have k2 := cell_of hSw 2); go_simp; try rfl)
      try simp only [Act.put, List.setIfInBounds_toArray, List.set_cons_zero, List.set_cons_succ]
      refine AnyE.take (i := 1) (v := ?_) (ops_at rfl) (by kernel_rfl) (by kernel_rfl) (by kernel_rfl) (by kernel_rfl) (fun _ _ _ h => h) (Or.inl ⟨by rfl, ?yz2⟩) (by assumption) ?nz2
      case yz2 => (intro wS hSw; (try dsimp only at hSw);  go_simp; try rfl)
      try simp only [Act.put, List.setIfInBounds_toArray, List.set_cons_zero, List.set_cons_succ]
      refine AnyE.take (i := 3) (v := ?_) (ops_at rfl) (by kernel_rfl) (by kernel_rfl) (by kernel_rfl) (by kernel_rfl) (fun _ _ _ h => h) (Or.inl ⟨by rfl, ?yz3⟩) (by assumption) ?nz3
      case yz3 => (intro wS hSw; (try dsimp only at hSw);  go_simp; try rfl)
      try simp only [Act.put, List.setIfInBounds_toArray, List.set_cons_zero, List.set_cons_succ]
      refine AnyE.take (i := 4) (v := ?_) (ops_at rfl) (by kernel_rfl) (by kernel_rfl) (by kernel_rfl) (by kernel_rfl) (fun _ _ _ h => h) (Or.inl ⟨by rfl, ?yz4⟩) (by assumption) ?nz4
      case yz4 => (intro wS hSw; (try dsimp only at hSw);  go_simp; try rfl)
      try simp only [Act.put, List.setIfInBounds_toArray, List.set_cons_zero, List.set_cons_succ]
      refine AnyE.take (i := 5) (v := ?_) (ops_at rfl) (by kernel_rfl) (by kernel_rfl) (by kernel_rfl) (by kernel_rfl) (fun _ _ _ h => h) (Or.inl ⟨by rfl, ?yz5⟩) (by assumption) ?nz5
      case yz5 => (intro wS hSw; (try dsimp only at hSw);  go_simp; try rfl)
      try simp only [Act.put, List.setIfInBounds_toArray, List.set_cons_zero, List.set_cons_succ]
      refine AnyE.of_ready (rs := [2, 8]) (by kernel_rfl) (by simp) ?_
      refine ReadyE.cons (ops_at rfl) (fun K hK => ?_) (ReadyE.cons (ops_at rfl) (fun K hK => ?_) ReadyE.nil)
      · go_simp
        refine (cloneI_any ⟨g2, o2, none⟩ m c2 ks lo2 hi2 V HM.out hlen2 (HT.out.below HBV.out (by omega)) (by have := HBV.out.size; omega)).mono ?_
        rintro e V2 ⟨v, rfl, hown, hbc⟩
        obtain ⟨g, cc, rfl, hg0, hg1, _, _⟩ := ownsRow_head (ys := ks) (by exact hown) hm0
        have hgw : wr.heap.size ≤ g := by have := HBV.out.size; omega
        have HOV := Lib.hid (own_mono hown HBV.out.size)
        have HLV2 := Lib.hid ((hbc.block _ (heap_lt HLV.out)).trans HLV.out)
        have HBV2 := Lib.hid (HBV.out.trans (hbc.mono HBV.out.size))
        have hzV := hbc.size
        refine hK.out _ _ (fun _ => HLV2.out) (fun hHx => ?_)
        have hSx := hHx (by omega)
        clear hK K hown hbc hSx hHx HLV HBV hzV
        obtain ⟨V, rfl⟩ : ∃ V, V = V2 := ⟨_, rfl⟩
        have HLV := HLV2
        have HBV := HBV2
        clear HLV2 HBV2
        refine AnyE.of_ready (rs := [6, 8]) (by kernel_rfl) (by simp) ?_
        refine ReadyE.cons (ops_at rfl) (fun K hK => ?_) (ReadyE.cons (ops_at rfl) (fun K hK => ?_) ReadyE.nil)
        · go_simp
          refine (delete_any g m cc wr.heap.size k ks V HOV.out hlt).mono ?_
          rintro e V2 ⟨rfl, hown, hoc⟩
          have HLV2 := Lib.hid ((hoc.block _ (heap_lt HLV.out) (by omega)).trans HLV.out)
          have HBV2 := Lib.hid (HBV.out.trans (hoc.below (B := wr.heap.size) HBV.out.size (fun k hk => by have : k = g := hk; omega)))
          refine hK.out _ _ (fun _ => HLV2.out) (fun hHx => ?_)
          have hSx := hHx (by omega)
          clear hK K hSx hHx hoc HOV HLV HBV
          have HOV := Lib.hid hown
          clear hown
          obtain ⟨V, rfl⟩ : ∃ V, V = V2 := ⟨_, rfl⟩
          have HLV := HLV2
          have HBV := HBV2
          clear HLV2 HBV2
          refine AnyE.of_ready (rs := [7, 8]) (by kernel_rfl) (by simp) ?_
          refine ReadyE.cons (ops_at rfl) (fun K hK => ?_) (ReadyE.cons (ops_at rfl) (fun K hK => ?_) ReadyE.nil)
          · go_simp
            refine (roomBeside_any (some ⟨bq, oq, none⟩) (some ⟨g, 0, none⟩) n c (m - 1) cc W B ts (restX ks k) lo hi wr.heap.size V.heap.size V HN.out HG.out (by rw [restX_len (by rw [HM.out]; exact hlt), HM.out]) HRI.out hW4 hB4 (HS.out.below HBV.out (by omega)) (by have := HBV.out.size; omega) (ownsRow_own (ys := restX ks k) (by rw [restX_len (by rw [HM.out]; exact hlt), HM.out]; exact HOV.out)).2.seg (Nat.le_refl _)).mono ?_
            rintro e V2 ⟨rfl, hbc⟩
            have HLV2 := Lib.hid ((hbc.block _ (heap_lt HLV.out)).trans HLV.out)
            have HBV2 := Lib.hid (HBV.out.trans (hbc.mono HBV.out.size))
            rw [HWr.out, HBr.out]
            refine hK.out _ _ (fun _ => HLV2.out) (fun hHx => ?_)
            have hSx := hHx (by omega)
            clear hK K hSx hHx hbc HOV HLV HBV
            obtain ⟨V, rfl⟩ : ∃ V, V = V2 := ⟨_, rfl⟩
            have HLV := HLV2
            have HBV := HBV2
            clear HLV2 HBV2
            refine AnyE.of_ready (rs := [8]) (by kernel_rfl) (by simp) ?_
            refine ReadyE.cons (ops_at rfl) (fun K hK => ?_) ReadyE.nil
            go_simp
            obtain ⟨V2, hV2⟩ : ∃ V2, V.alloc (.cells #[.int .i64 0, .int .i64 0] 41) = V2 := ⟨_, rfl⟩
            obtain ⟨Pr, hPr⟩ : ∃ Pr, V.heap.size = Pr := ⟨_, rfl⟩
            have HRV := Lib.hid (show V2.heap[Pr]? = some (.cells #[.int .i64 0, .int .i64 0] 41 (0, 0)) by rw [← hV2, ← hPr]; exact new_at _ _ rfl)
            have HLV2 := Lib.hid (show V2.heap[P1]? = some (.cells #[.slice (some ⟨bq, oq, none⟩) n c, .int .i64 W, .int .i64 B] 67 (0, 0)) by rw [← hV2]; exact (alloc_old _ (heap_lt HLV.out) _).trans HLV.out)
            have HBV2 := Lib.hid (show Below wr.heap.size wr V2 by rw [← hV2]; exact HBV.out.alloc HBV.out.size _)
            have hPw : wr.heap.size ≤ Pr := by rw [← hPr]; exact HBV.out.size
            rw [hV2, hPr]
            clear hV2 hPr
            refine hK.out _ _ (fun _ => HLV2.out) (fun hHx => ?_)
            have hSx := hHx (by omega)
            clear hK K hSx hHx HLV HBV
            obtain ⟨V, rfl⟩ : ∃ V, V = V2 := ⟨_, rfl⟩
            have HLV := HLV2
            have HBV := HBV2
            clear HLV2 HBV2
            have hcr0 := cell_of HRV.out 0
            have hcr1 := cell_of HRV.out 1
            have hfr0 := frozen_of HRV.out 0
            have hfr1 := frozen_of HRV.out 1
            refine AnyE.of_ready (rs := [9]) (by kernel_rfl) (by simp) ?_
            refine ReadyE.cons (ops_at rfl) (fun K hK => ?_) ReadyE.nil
            go_simp
            refine hK.out _ _ (fun h => absurd rfl h) (fun _ => ?_)
            clear hK K
            refine AnyE.end_ (by kernel_rfl) ?_ _
            clear hcr0 hcr1 hfr0 hfr1
            obtain ⟨wz, hwz⟩ : ∃ wz, (V.setCell ⟨Pr, 0, none⟩ (.int .i64 Wr)).setCell ⟨Pr, 1, none⟩ (.int .i64 Br) = wz := ⟨_, rfl⟩
            have HRZ := Lib.hid (show wz.heap[Pr]? = some (.cells #[.int .i64 Wr, .int .i64 Br] 41 (0, 0)) by rw [← hwz]; exact set_two4 HRV.out _ _)
            have HBZ := Lib.hid (show Below wr.heap.size wr wz by rw [← hwz]; exact (HBV.out.setCell (p := ⟨Pr, 0, none⟩) hPw _).setCell (p := ⟨Pr, 1, none⟩) hPw _)
            rw [hwz]
            clear hwz HRV HBV HLV hH0
            have HBZA := Lib.hid (HBA.out.trans (HBZ.out.mono HBA.out.size))
            have hzz := HBZ.out.size
            obtain ⟨wo, rfl⟩ : ∃ wo, wo = wr := ⟨_, rfl⟩
            go_wp2
            go_loopw [11, 12, 13, 17, 18, 19, 46] (fun a b d _ _ _ i wr => ∃ j : Nat, j ≤ n ∧ i = .int .i64 (j : Int) ∧ (∃ t1 t2 t3 : Int, exIn ts W B ks k (kn : Int) (s1, s2, s3) j = (t1, t2, t3) ∧ a = .int .i64 t1 ∧ b = .int .i64 t2 ∧ d = .int .i64 t3) ∧ Below wz.heap.size wz wr) (fun _ _ _ _ _ _ i _ => n - (intOf i).toNat)
            case atStart => exact ⟨0, Nat.zero_le _, rfl, ⟨s1, s2, s3, rfl, rfl, rfl, rfl⟩, Below.refl _ _⟩
            case round =>
              obtain ⟨j, hj, rfl, ⟨t1, t2, t3, hti, rfl, rfl, rfl⟩, hbw⟩ := hrel
              have HTI := Lib.hid hti
              have HBY := Lib.hid hbw
              have HBYA := Lib.hid (HBZA.out.trans (hbw.mono HBZA.out.size))
              have hzy := hbw.size
              clear hti hbw
              by_cases hjn : j < n
              · obtain ⟨b3, o3, x, y, z, hA, _, _, hxj, r0, r1, r2⟩ := (HS0.out.below HBYA.out hB).tri (k := j) (by rw [HN.out]; exact hjn)
                obtain ⟨rfl, rfl⟩ : bq = b3 ∧ oq = o3 := by injection hA with hA; injection hA with h1 h2; exact ⟨h1, h2⟩
                have hjI : (j : Int) < (n : Int) := by omega
                have hbz := item_bd HG.out hxj
                have hbk := item_bd HG.out HXK.out
                obtain ⟨mo, hmo⟩ : ∃ mo, z - zk = mo := ⟨_, rfl⟩
                have hwm : IntKind.i64.wrap (z - zk) = mo := by rw [IntKind.wrap_i64]; omega
                have hpk := ((HBZ.out.trans (HBY.out.mono HBZ.out.size)).cell (cell_lt HP2.out)).trans HP2.out
                have HXJ := Lib.hid hxj
                have HMO := Lib.hid hmo
                have HRY := Lib.hid ((HBY.out.block Pr (heap_lt HRZ.out)).trans HRZ.out)
                clear hA hxj hbz hbk hmo
                have hknI : (kn : Int) < (n : Int) := by omega
                have hws := itm_w HXJ.out
                have hwk := itm_w HXK.out
                have HVO := Lib.hid (show vI ts (j : Int) - vI ts (kn : Int) = mo by rw [hws.2.2, hwk.2.2]; exact HMO.out)
                have HOKQ := Lib.hid (show (decide (x ≤ Wr) && decide (y ≤ Br)) = okX ts W B ks k (j : Int) by rw [okX, hws.1, hws.2.1, HWr.out, HBr.out])
                clear hws hwk
                go_wp2_with fail
                obtain ⟨V, hV⟩ : ∃ V, wr.alloc (.cells #[.int .i64 x, .int .i64 y, .int .i64 z] 63) = V := ⟨_, rfl⟩
                obtain ⟨Pi, hPi⟩ : ∃ Pi, wr.heap.size = Pi := ⟨_, rfl⟩
                have hbV : Below wr.heap.size wr V := by rw [← hV]; exact (Below.refl _ _).alloc (Nat.le_refl _) _
                have hiV : V.heap[Pi]? = some (.cells #[.int .i64 x, .int .i64 y, .int .i64 z] 63 (0, 0)) := by rw [← hV, ← hPi]; exact new_at _ _ rfl
                have hpV := (hbV.cell (cell_lt hpk)).trans hpk
                have HBV := Lib.hid (HBY.out.trans (hbV.mono hzy))
                have HIV := Lib.hid hiV
                have HRV := Lib.hid ((hbV.block Pr (heap_lt HRY.out)).trans HRY.out)
                rw [hV, hPi]
                clear hV hPi hbV r0 r1 r2
                refine wp_region_held_drew (S := (fun wq => wq.cell? ⟨Pi, 2, none⟩ = some (.int .i64 z) ∧ wq.cell? ⟨bq, oq + kn * 3 + 2, none⟩ = some (.int .i64 zk))) (by kernel_rfl) ⟨(cell_of hiV 2).trans rfl, hpV⟩ (fun hH0 => ?_)
                refine wpAnyH_take (i := 0) (v := ?_) (ops_at rfl) (by kernel_rfl) (by kernel_rfl) (by kernel_rfl) (fun _ _ _ h => h) (Or.inl ⟨by rfl, ?yw60⟩) (by assumption) ?nw60
                case yw60 => (intro wS hSw; (try dsimp only at hSw); go_simp; try rfl)
                try simp only [Act.put, List.setIfInBounds_toArray, List.set_cons_zero, List.set_cons_succ]
                refine wpAnyH_take (i := 1) (v := ?_) (ops_at rfl) (by kernel_rfl) (by kernel_rfl) (by kernel_rfl) (fun _ _ _ h => h) (Or.inl ⟨by rfl, ?yw61⟩) (by assumption) ?nw61
                case yw61 => (intro wS hSw; (try dsimp only at hSw); go_simp; try rfl)
                try simp only [Act.put, List.setIfInBounds_toArray, List.set_cons_zero, List.set_cons_succ]
                refine wpAnyH_take (i := 2) (v := ?_) (ops_at rfl) (by kernel_rfl) (by kernel_rfl) (by kernel_rfl) (fun _ _ _ h => h) (Or.inl ⟨by rfl, ?yw62⟩) (by assumption) ?nw62
                case yw62 => (intro wS hSw; (try dsimp only at hSw); go_simp; try rfl)
                try simp only [Act.put, List.setIfInBounds_toArray, List.set_cons_zero, List.set_cons_succ]
                refine wpAnyH_take (i := 3) (v := ?_) (ops_at rfl) (by kernel_rfl) (by kernel_rfl) (by kernel_rfl) (fun _ _ _ h => h) (Or.inl ⟨by rfl, ?yw63⟩) (by assumption) ?nw63
                case yw63 => (intro wS hSw; (try dsimp only at hSw); go_simp; try rfl)
                try simp only [Act.put, List.setIfInBounds_toArray, List.set_cons_zero, List.set_cons_succ]
                refine wpAnyH_take (i := 4) (v := ?_) (ops_at rfl) (by kernel_rfl) (by kernel_rfl) (by kernel_rfl) (fun _ _ _ h => h) (Or.inl ⟨by rfl, ?yw64⟩) (by assumption) ?nw64
                case yw64 => (intro wS hSw; (try dsimp only at hSw); go_simp; try rfl)
                try simp only [Act.put, List.setIfInBounds_toArray, List.set_cons_zero, List.set_cons_succ]
                refine wpAnyH_take (i := 5) (v := ?_) (ops_at rfl) (by kernel_rfl) (by kernel_rfl) (by kernel_rfl) (fun _ _ _ h => h) (Or.inl ⟨by rfl, ?yw65⟩) (by assumption) ?nw65
                case yw65 => (intro wS hSw; (try dsimp only at hSw); go_simp; try rfl)
                try simp only [Act.put, List.setIfInBounds_toArray, List.set_cons_zero, List.set_cons_succ]
                refine wpAnyH_take (i := 6) (v := ?_) (ops_at rfl) (by kernel_rfl) (by kernel_rfl) (by kernel_rfl) (fun _ _ _ h => h) (Or.inl ⟨by rfl, ?yw66⟩) (by assumption) ?nw66
                case yw66 => (intro wS hSw; (try dsimp only at hSw); go_simp; try rfl)
                try simp only [Act.put, List.setIfInBounds_toArray, List.set_cons_zero, List.set_cons_succ]
                refine wpAnyH_take (i := 7) (v := ?_) (ops_at rfl) (by kernel_rfl) (by kernel_rfl) (by kernel_rfl) (fun _ _ _ h => h) (Or.inl ⟨by rfl, ?yw67⟩) (by assumption) ?nw67
                case yw67 => (intro wS hSw; (try dsimp only at hSw); go_simp; try rfl)
                try simp only [Act.put, List.setIfInBounds_toArray, List.set_cons_zero, List.set_cons_succ]
                refine wpAnyH_take (i := 8) (v := ?_) (ops_at rfl) (by kernel_rfl) (by kernel_rfl) (by kernel_rfl) (fun _ _ _ h => h) (Or.inl ⟨by rfl, ?yw68⟩) (by assumption) ?nw68
                case yw68 => (intro wS hSw; (try dsimp only at hSw); go_simp; try rfl)
                try simp only [Act.put, List.setIfInBounds_toArray, List.set_cons_zero, List.set_cons_succ]
                refine wpAnyH_done (by kernel_rfl) ?_ _
                obtain ⟨V2, hV2⟩ : ∃ V2, V.drew = V2 := ⟨_, rfl⟩
                have HB2 := Lib.hid (show Below wz.heap.size wz V2 by rw [← hV2]; exact HBV.out.drew)
                have hi2 : V2.heap[Pi]? = some (.cells #[.int .i64 x, .int .i64 y, .int .i64 z] 63 (0, 0)) := by rw [← hV2]; exact HIV.out
                have hr2 : V2.heap[Pr]? = some (.cells #[.int .i64 Wr, .int .i64 Br] 41 (0, 0)) := by rw [← hV2]; exact HRV.out
                rw [hV2]
                clear hV2 hiV hpV hH0 hpk
                by_cases h1 : t3 < mo
                · have hd1 : decide (t3 < mo) = true := decide_eq_true h1
                  have HL1 := Lib.hid (show (t1, t2, t3).2.2 < vI ts (j : Int) - vI ts (kn : Int) by rw [HVO.out]; exact h1)
                  have rc0 := cell_of hr2 0
                  have rc1 := cell_of hr2 1
                  have ic0 := cell_of hi2 0
                  have ic1 := cell_of hi2 1
                  have ic2 := cell_of hi2 2
                  clear h1 hi2 hr2
                  cases hok : okX ts W B ks k (j : Int)
                  · have HQF := Lib.hid (HOKQ.out.trans hok)
                    have HOK := Lib.hid hok
                    clear hok
                    go_wp2_with fail
                    refine (holds_any Wr Br x y z _ false HQF.out).mono ?_
                    rintro e w5 ⟨rfl, hb5⟩
                    have HB5 := Lib.hid (HB2.out.trans (hb5.mono HB2.out.size))
                    clear hb5 rc0 rc1 ic0 ic1 ic2
                    go_wp2
                    go_roundw
                    case rel => exact ⟨j + 1, by omega, by go_num, ⟨t1, t2, t3, by rw [exIn_next, HTI.out]; exact exS_full HOK.out, rfl, rfl, rfl⟩, HB5.out⟩
                    case measure => simp [intOf]; omega
                  · have HQF := Lib.hid (HOKQ.out.trans hok)
                    have HOK := Lib.hid hok
                    clear hok
                    go_wp2_with fail
                    refine (holds_any Wr Br x y z _ true HQF.out).mono ?_
                    rintro e w5 ⟨rfl, hb5⟩
                    have HB5 := Lib.hid (HB2.out.trans (hb5.mono HB2.out.size))
                    clear hb5 rc0 rc1 ic0 ic1 ic2
                    go_wp2_with fail
                    refine (slicesContains_any (some ⟨g2, o2, none⟩) m c2 ks (j : Int) lo2 hi2 w5 HM.out hlen2 (HT0.out.below (HBZA.out.trans (HB5.out.mono HBZA.out.size)) hB2)).mono ?_
                    rintro e w6 ⟨rfl, rfl⟩
                    by_cases hin : (j : Int) ∈ ks
                    · rw [decide_eq_true hin]
                      have HIN := Lib.hid hin
                      clear hin
                      go_wp2
                      go_roundw
                      case rel => exact ⟨j + 1, by omega, by go_num, ⟨t1, t2, t3, by rw [exIn_next, HTI.out]; exact exS_in HIN.out, rfl, rfl, rfl⟩, HB5.out⟩
                      case measure => simp [intOf]; omega
                    · rw [decide_eq_false hin]
                      have HIN := Lib.hid hin
                      clear hin
                      go_wp2
                      go_roundw
                      case rel => exact ⟨j + 1, by omega, by go_num, ⟨(kn : Int), (j : Int), mo, by rw [exIn_next, HTI.out]; exact by rw [exS_yes HL1.out HOK.out HIN.out, HVO.out], rfl, rfl, rfl⟩, HB5.out⟩
                      case measure => simp [intOf]; omega
                · have hd1 : decide (t3 < mo) = false := decide_eq_false h1
                  have HL1 := Lib.hid (show ¬ (t1, t2, t3).2.2 < vI ts (j : Int) - vI ts (kn : Int) by rw [HVO.out]; exact h1)
                  clear h1 hi2 hr2
                  go_wp2
                  go_roundw
                  case rel => exact ⟨j + 1, by omega, by go_num, ⟨t1, t2, t3, by rw [exIn_next, HTI.out]; exact exS_low HL1.out, rfl, rfl, rfl⟩, HB2.out⟩
                  case measure => simp [intOf]; omega
              · obtain rfl : j = n := by omega
                go_wp2
                go_roundw
                case rel => exact ⟨k + 1, by omega, by go_num, ⟨t1, t2, t3, by rw [exOut_next HX0.out, HST.out, HN.out]; exact HTI.out, rfl, rfl, rfl⟩, (HBW.out.trans (HBZ.out.mono HBW.out.size)).trans (HBY.out.mono (Nat.le_trans HBW.out.size HBZ.out.size))⟩
                case measure => simp [intOf]; omega
          · go_simp
            obtain ⟨V2, hV2⟩ : ∃ V2, V.alloc (.cells #[.int .i64 0, .int .i64 0] 41) = V2 := ⟨_, rfl⟩
            obtain ⟨Pr, hPr⟩ : ∃ Pr, V.heap.size = Pr := ⟨_, rfl⟩
            have HRV := Lib.hid (show V2.heap[Pr]? = some (.cells #[.int .i64 0, .int .i64 0] 41 (0, 0)) by rw [← hV2, ← hPr]; exact new_at _ _ rfl)
            have HLV2 := Lib.hid (show V2.heap[P1]? = some (.cells #[.slice (some ⟨bq, oq, none⟩) n c, .int .i64 W, .int .i64 B] 67 (0, 0)) by rw [← hV2]; exact (alloc_old _ (heap_lt HLV.out) _).trans HLV.out)
            have HBV2 := Lib.hid (show Below wr.heap.size wr V2 by rw [← hV2]; exact HBV.out.alloc HBV.out.size _)
            have hPw : wr.heap.size ≤ Pr := by rw [← hPr]; exact HBV.out.size
            have HOV2 := Lib.hid (by rw [← hV2]; exact HOV.out.alloc (.cells #[.int .i64 0, .int .i64 0] 41) : V2.ownsRow wr.heap.size 3 1 (.slice (some ⟨g, 0, none⟩) (m - 1) cc) (m - 1) ((restX ks k).map (Value.int .i64)))
            have hgP : Pr ≠ g := by have := HOV.out.lt g rfl; omega
            clear HOV
            have HOV := HOV2
            clear HOV2
            rw [hV2, hPr]
            clear hV2 hPr
            refine hK.out _ _ (fun _ => HLV2.out) (fun hHx => ?_)
            have hSx := hHx (by omega)
            clear hK K hSx hHx HLV HBV
            obtain ⟨V, rfl⟩ : ∃ V, V = V2 := ⟨_, rfl⟩
            have HLV := HLV2
            have HBV := HBV2
            clear HLV2 HBV2
            refine AnyE.of_ready (rs := [7]) (by kernel_rfl) (by simp) ?_
            refine ReadyE.cons (ops_at rfl) (fun K hK => ?_) ReadyE.nil
            go_simp
            refine (roomBeside_any (some ⟨bq, oq, none⟩) (some ⟨g, 0, none⟩) n c (m - 1) cc W B ts (restX ks k) lo hi wr.heap.size V.heap.size V HN.out HG.out (by rw [restX_len (by rw [HM.out]; exact hlt), HM.out]) HRI.out hW4 hB4 (HS.out.below HBV.out (by omega)) (by have := HBV.out.size; omega) (ownsRow_own (ys := restX ks k) (by rw [restX_len (by rw [HM.out]; exact hlt), HM.out]; exact HOV.out)).2.seg (Nat.le_refl _)).mono ?_
            rintro e V2 ⟨rfl, hbc⟩
            have HLV2 := Lib.hid ((hbc.block _ (heap_lt HLV.out)).trans HLV.out)
            have HBV2 := Lib.hid (HBV.out.trans (hbc.mono HBV.out.size))
            have HRV2 := Lib.hid ((hbc.block _ (heap_lt HRV.out)).trans HRV.out)
            clear HRV
            rw [HWr.out, HBr.out]
            refine hK.out _ _ (fun _ => HLV2.out) (fun hHx => ?_)
            have hSx := hHx (by omega)
            clear hK K hSx hHx hbc HOV HLV HBV
            obtain ⟨V, rfl⟩ : ∃ V, V = V2 := ⟨_, rfl⟩
            have HLV := HLV2
            have HBV := HBV2
            have HRV := HRV2
            clear HRV2
            clear HLV2 HBV2
            have hcr0 := cell_of HRV.out 0
            have hcr1 := cell_of HRV.out 1
            have hfr0 := frozen_of HRV.out 0
            have hfr1 := frozen_of HRV.out 1
            refine AnyE.of_ready (rs := [9]) (by kernel_rfl) (by simp) ?_
            refine ReadyE.cons (ops_at rfl) (fun K hK => ?_) ReadyE.nil
            go_simp
            refine hK.out _ _ (fun h => absurd rfl h) (fun _ => ?_)
            clear hK K
            refine AnyE.end_ (by kernel_rfl) ?_ _
            clear hcr0 hcr1 hfr0 hfr1
            obtain ⟨wz, hwz⟩ : ∃ wz, (V.setCell ⟨Pr, 0, none⟩ (.int .i64 Wr)).setCell ⟨Pr, 1, none⟩ (.int .i64 Br) = wz := ⟨_, rfl⟩
            have HRZ := Lib.hid (show wz.heap[Pr]? = some (.cells #[.int .i64 Wr, .int .i64 Br] 41 (0, 0)) by rw [← hwz]; exact set_two4 HRV.out _ _)
            have HBZ := Lib.hid (show Below wr.heap.size wr wz by rw [← hwz]; exact (HBV.out.setCell (p := ⟨Pr, 0, none⟩) hPw _).setCell (p := ⟨Pr, 1, none⟩) hPw _)
            rw [hwz]
            clear hwz HRV HBV HLV hH0
            have HBZA := Lib.hid (HBA.out.trans (HBZ.out.mono HBA.out.size))
            have hzz := HBZ.out.size
            obtain ⟨wo, rfl⟩ : ∃ wo, wo = wr := ⟨_, rfl⟩
            go_wp2
            go_loopw [11, 12, 13, 17, 18, 19, 46] (fun a b d _ _ _ i wr => ∃ j : Nat, j ≤ n ∧ i = .int .i64 (j : Int) ∧ (∃ t1 t2 t3 : Int, exIn ts W B ks k (kn : Int) (s1, s2, s3) j = (t1, t2, t3) ∧ a = .int .i64 t1 ∧ b = .int .i64 t2 ∧ d = .int .i64 t3) ∧ Below wz.heap.size wz wr) (fun _ _ _ _ _ _ i _ => n - (intOf i).toNat)
            case atStart => exact ⟨0, Nat.zero_le _, rfl, ⟨s1, s2, s3, rfl, rfl, rfl, rfl⟩, Below.refl _ _⟩
            case round =>
              obtain ⟨j, hj, rfl, ⟨t1, t2, t3, hti, rfl, rfl, rfl⟩, hbw⟩ := hrel
              have HTI := Lib.hid hti
              have HBY := Lib.hid hbw
              have HBYA := Lib.hid (HBZA.out.trans (hbw.mono HBZA.out.size))
              have hzy := hbw.size
              clear hti hbw
              by_cases hjn : j < n
              · obtain ⟨b3, o3, x, y, z, hA, _, _, hxj, r0, r1, r2⟩ := (HS0.out.below HBYA.out hB).tri (k := j) (by rw [HN.out]; exact hjn)
                obtain ⟨rfl, rfl⟩ : bq = b3 ∧ oq = o3 := by injection hA with hA; injection hA with h1 h2; exact ⟨h1, h2⟩
                have hjI : (j : Int) < (n : Int) := by omega
                have hbz := item_bd HG.out hxj
                have hbk := item_bd HG.out HXK.out
                obtain ⟨mo, hmo⟩ : ∃ mo, z - zk = mo := ⟨_, rfl⟩
                have hwm : IntKind.i64.wrap (z - zk) = mo := by rw [IntKind.wrap_i64]; omega
                have hpk := ((HBZ.out.trans (HBY.out.mono HBZ.out.size)).cell (cell_lt HP2.out)).trans HP2.out
                have HXJ := Lib.hid hxj
                have HMO := Lib.hid hmo
                have HRY := Lib.hid ((HBY.out.block Pr (heap_lt HRZ.out)).trans HRZ.out)
                clear hA hxj hbz hbk hmo
                have hknI : (kn : Int) < (n : Int) := by omega
                have hws := itm_w HXJ.out
                have hwk := itm_w HXK.out
                have HVO := Lib.hid (show vI ts (j : Int) - vI ts (kn : Int) = mo by rw [hws.2.2, hwk.2.2]; exact HMO.out)
                have HOKQ := Lib.hid (show (decide (x ≤ Wr) && decide (y ≤ Br)) = okX ts W B ks k (j : Int) by rw [okX, hws.1, hws.2.1, HWr.out, HBr.out])
                clear hws hwk
                go_wp2_with fail
                obtain ⟨V, hV⟩ : ∃ V, wr.alloc (.cells #[.int .i64 x, .int .i64 y, .int .i64 z] 63) = V := ⟨_, rfl⟩
                obtain ⟨Pi, hPi⟩ : ∃ Pi, wr.heap.size = Pi := ⟨_, rfl⟩
                have hbV : Below wr.heap.size wr V := by rw [← hV]; exact (Below.refl _ _).alloc (Nat.le_refl _) _
                have hiV : V.heap[Pi]? = some (.cells #[.int .i64 x, .int .i64 y, .int .i64 z] 63 (0, 0)) := by rw [← hV, ← hPi]; exact new_at _ _ rfl
                have hpV := (hbV.cell (cell_lt hpk)).trans hpk
                have HBV := Lib.hid (HBY.out.trans (hbV.mono hzy))
                have HIV := Lib.hid hiV
                have HRV := Lib.hid ((hbV.block Pr (heap_lt HRY.out)).trans HRY.out)
                rw [hV, hPi]
                clear hV hPi hbV r0 r1 r2
                refine wp_region_held_drew (S := (fun wq => wq.cell? ⟨Pi, 2, none⟩ = some (.int .i64 z) ∧ wq.cell? ⟨bq, oq + kn * 3 + 2, none⟩ = some (.int .i64 zk))) (by kernel_rfl) ⟨(cell_of hiV 2).trans rfl, hpV⟩ (fun hH0 => ?_)
                refine wpAnyH_take (i := 0) (v := ?_) (ops_at rfl) (by kernel_rfl) (by kernel_rfl) (by kernel_rfl) (fun _ _ _ h => h) (Or.inl ⟨by rfl, ?yw70⟩) (by assumption) ?nw70
                case yw70 => (intro wS hSw; (try dsimp only at hSw); go_simp; try rfl)
                try simp only [Act.put, List.setIfInBounds_toArray, List.set_cons_zero, List.set_cons_succ]
                refine wpAnyH_take (i := 1) (v := ?_) (ops_at rfl) (by kernel_rfl) (by kernel_rfl) (by kernel_rfl) (fun _ _ _ h => h) (Or.inl ⟨by rfl, ?yw71⟩) (by assumption) ?nw71
                case yw71 => (intro wS hSw; (try dsimp only at hSw); go_simp; try rfl)
                try simp only [Act.put, List.setIfInBounds_toArray, List.set_cons_zero, List.set_cons_succ]
                refine wpAnyH_take (i := 2) (v := ?_) (ops_at rfl) (by kernel_rfl) (by kernel_rfl) (by kernel_rfl) (fun _ _ _ h => h) (Or.inl ⟨by rfl, ?yw72⟩) (by assumption) ?nw72
                case yw72 => (intro wS hSw; (try dsimp only at hSw); go_simp; try rfl)
                try simp only [Act.put, List.setIfInBounds_toArray, List.set_cons_zero, List.set_cons_succ]
                refine wpAnyH_take (i := 3) (v := ?_) (ops_at rfl) (by kernel_rfl) (by kernel_rfl) (by kernel_rfl) (fun _ _ _ h => h) (Or.inl ⟨by rfl, ?yw73⟩) (by assumption) ?nw73
                case yw73 => (intro wS hSw; (try dsimp only at hSw); go_simp; try rfl)
                try simp only [Act.put, List.setIfInBounds_toArray, List.set_cons_zero, List.set_cons_succ]
                refine wpAnyH_take (i := 4) (v := ?_) (ops_at rfl) (by kernel_rfl) (by kernel_rfl) (by kernel_rfl) (fun _ _ _ h => h) (Or.inl ⟨by rfl, ?yw74⟩) (by assumption) ?nw74
                case yw74 => (intro wS hSw; (try dsimp only at hSw); go_simp; try rfl)
                try simp only [Act.put, List.setIfInBounds_toArray, List.set_cons_zero, List.set_cons_succ]
                refine wpAnyH_take (i := 5) (v := ?_) (ops_at rfl) (by kernel_rfl) (by kernel_rfl) (by kernel_rfl) (fun _ _ _ h => h) (Or.inl ⟨by rfl, ?yw75⟩) (by assumption) ?nw75
                case yw75 => (intro wS hSw; (try dsimp only at hSw); go_simp; try rfl)
                try simp only [Act.put, List.setIfInBounds_toArray, List.set_cons_zero, List.set_cons_succ]
                refine wpAnyH_take (i := 6) (v := ?_) (ops_at rfl) (by kernel_rfl) (by kernel_rfl) (by kernel_rfl) (fun _ _ _ h => h) (Or.inl ⟨by rfl, ?yw76⟩) (by assumption) ?nw76
                case yw76 => (intro wS hSw; (try dsimp only at hSw); go_simp; try rfl)
                try simp only [Act.put, List.setIfInBounds_toArray, List.set_cons_zero, List.set_cons_succ]
                refine wpAnyH_take (i := 7) (v := ?_) (ops_at rfl) (by kernel_rfl) (by kernel_rfl) (by kernel_rfl) (fun _ _ _ h => h) (Or.inl ⟨by rfl, ?yw77⟩) (by assumption) ?nw77
                case yw77 => (intro wS hSw; (try dsimp only at hSw); go_simp; try rfl)
                try simp only [Act.put, List.setIfInBounds_toArray, List.set_cons_zero, List.set_cons_succ]
                refine wpAnyH_take (i := 8) (v := ?_) (ops_at rfl) (by kernel_rfl) (by kernel_rfl) (by kernel_rfl) (fun _ _ _ h => h) (Or.inl ⟨by rfl, ?yw78⟩) (by assumption) ?nw78
                case yw78 => (intro wS hSw; (try dsimp only at hSw); go_simp; try rfl)
                try simp only [Act.put, List.setIfInBounds_toArray, List.set_cons_zero, List.set_cons_succ]
                refine wpAnyH_done (by kernel_rfl) ?_ _
                obtain ⟨V2, hV2⟩ : ∃ V2, V.drew = V2 := ⟨_, rfl⟩
                have HB2 := Lib.hid (show Below wz.heap.size wz V2 by rw [← hV2]; exact HBV.out.drew)
                have hi2 : V2.heap[Pi]? = some (.cells #[.int .i64 x, .int .i64 y, .int .i64 z] 63 (0, 0)) := by rw [← hV2]; exact HIV.out
                have hr2 : V2.heap[Pr]? = some (.cells #[.int .i64 Wr, .int .i64 Br] 41 (0, 0)) := by rw [← hV2]; exact HRV.out
                rw [hV2]
                clear hV2 hiV hpV hH0 hpk
                by_cases h1 : t3 < mo
                · have hd1 : decide (t3 < mo) = true := decide_eq_true h1
                  have HL1 := Lib.hid (show (t1, t2, t3).2.2 < vI ts (j : Int) - vI ts (kn : Int) by rw [HVO.out]; exact h1)
                  have rc0 := cell_of hr2 0
                  have rc1 := cell_of hr2 1
                  have ic0 := cell_of hi2 0
                  have ic1 := cell_of hi2 1
                  have ic2 := cell_of hi2 2
                  clear h1 hi2 hr2
                  cases hok : okX ts W B ks k (j : Int)
                  · have HQF := Lib.hid (HOKQ.out.trans hok)
                    have HOK := Lib.hid hok
                    clear hok
                    go_wp2_with fail
                    refine (holds_any Wr Br x y z _ false HQF.out).mono ?_
                    rintro e w5 ⟨rfl, hb5⟩
                    have HB5 := Lib.hid (HB2.out.trans (hb5.mono HB2.out.size))
                    clear hb5 rc0 rc1 ic0 ic1 ic2
                    go_wp2
                    go_roundw
                    case rel => exact ⟨j + 1, by omega, by go_num, ⟨t1, t2, t3, by rw [exIn_next, HTI.out]; exact exS_full HOK.out, rfl, rfl, rfl⟩, HB5.out⟩
                    case measure => simp [intOf]; omega
                  · have HQF := Lib.hid (HOKQ.out.trans hok)
                    have HOK := Lib.hid hok
                    clear hok
                    go_wp2_with fail
                    refine (holds_any Wr Br x y z _ true HQF.out).mono ?_
                    rintro e w5 ⟨rfl, hb5⟩
                    have HB5 := Lib.hid (HB2.out.trans (hb5.mono HB2.out.size))
                    clear hb5 rc0 rc1 ic0 ic1 ic2
                    go_wp2_with fail
                    refine (slicesContains_any (some ⟨g2, o2, none⟩) m c2 ks (j : Int) lo2 hi2 w5 HM.out hlen2 (HT0.out.below (HBZA.out.trans (HB5.out.mono HBZA.out.size)) hB2)).mono ?_
                    rintro e w6 ⟨rfl, rfl⟩
                    by_cases hin : (j : Int) ∈ ks
                    · rw [decide_eq_true hin]
                      have HIN := Lib.hid hin
                      clear hin
                      go_wp2
                      go_roundw
                      case rel => exact ⟨j + 1, by omega, by go_num, ⟨t1, t2, t3, by rw [exIn_next, HTI.out]; exact exS_in HIN.out, rfl, rfl, rfl⟩, HB5.out⟩
                      case measure => simp [intOf]; omega
                    · rw [decide_eq_false hin]
                      have HIN := Lib.hid hin
                      clear hin
                      go_wp2
                      go_roundw
                      case rel => exact ⟨j + 1, by omega, by go_num, ⟨(kn : Int), (j : Int), mo, by rw [exIn_next, HTI.out]; exact by rw [exS_yes HL1.out HOK.out HIN.out, HVO.out], rfl, rfl, rfl⟩, HB5.out⟩
                      case measure => simp [intOf]; omega
                · have hd1 : decide (t3 < mo) = false := decide_eq_false h1
                  have HL1 := Lib.hid (show ¬ (t1, t2, t3).2.2 < vI ts (j : Int) - vI ts (kn : Int) by rw [HVO.out]; exact h1)
                  clear h1 hi2 hr2
                  go_wp2
                  go_roundw
                  case rel => exact ⟨j + 1, by omega, by go_num, ⟨t1, t2, t3, by rw [exIn_next, HTI.out]; exact exS_low HL1.out, rfl, rfl, rfl⟩, HB2.out⟩
                  case measure => simp [intOf]; omega
              · obtain rfl : j = n := by omega
                go_wp2
                go_roundw
                case rel => exact ⟨k + 1, by omega, by go_num, ⟨t1, t2, t3, by rw [exOut_next HX0.out, HST.out, HN.out]; exact HTI.out, rfl, rfl, rfl⟩, (HBW.out.trans (HBZ.out.mono HBW.out.size)).trans (HBY.out.mono (Nat.le_trans HBW.out.size HBZ.out.size))⟩
                case measure => simp [intOf]; omega
        · go_simp
          obtain ⟨V2, hV2⟩ : ∃ V2, V.alloc (.cells #[.int .i64 0, .int .i64 0] 41) = V2 := ⟨_, rfl⟩
          obtain ⟨Pr, hPr⟩ : ∃ Pr, V.heap.size = Pr := ⟨_, rfl⟩
          have HRV := Lib.hid (show V2.heap[Pr]? = some (.cells #[.int .i64 0, .int .i64 0] 41 (0, 0)) by rw [← hV2, ← hPr]; exact new_at _ _ rfl)
          have HLV2 := Lib.hid (show V2.heap[P1]? = some (.cells #[.slice (some ⟨bq, oq, none⟩) n c, .int .i64 W, .int .i64 B] 67 (0, 0)) by rw [← hV2]; exact (alloc_old _ (heap_lt HLV.out) _).trans HLV.out)
          have HBV2 := Lib.hid (show Below wr.heap.size wr V2 by rw [← hV2]; exact HBV.out.alloc HBV.out.size _)
          have hPw : wr.heap.size ≤ Pr := by rw [← hPr]; exact HBV.out.size
          have HOV2 := Lib.hid (by rw [← hV2]; exact HOV.out.alloc (.cells #[.int .i64 0, .int .i64 0] 41) : V2.ownsRow wr.heap.size 3 1 (.slice (some ⟨g, 0, none⟩) m cc) m ((ks).map (Value.int .i64)))
          have hgP : Pr ≠ g := by have := HOV.out.lt g rfl; omega
          clear HOV
          have HOV := HOV2
          clear HOV2
          rw [hV2, hPr]
          clear hV2 hPr
          refine hK.out _ _ (fun _ => HLV2.out) (fun hHx => ?_)
          have hSx := hHx (by omega)
          clear hK K hSx hHx HLV HBV
          obtain ⟨V, rfl⟩ : ∃ V, V = V2 := ⟨_, rfl⟩
          have HLV := HLV2
          have HBV := HBV2
          clear HLV2 HBV2
          refine AnyE.of_ready (rs := [6]) (by kernel_rfl) (by simp) ?_
          refine ReadyE.cons (ops_at rfl) (fun K hK => ?_) ReadyE.nil
          go_simp
          refine (delete_any g m cc wr.heap.size k ks V HOV.out hlt).mono ?_
          rintro e V2 ⟨rfl, hown, hoc⟩
          have HLV2 := Lib.hid ((hoc.block _ (heap_lt HLV.out) (by omega)).trans HLV.out)
          have HBV2 := Lib.hid (HBV.out.trans (hoc.below (B := wr.heap.size) HBV.out.size (fun k hk => by have : k = g := hk; omega)))
          have HRV2 := Lib.hid ((hoc.block _ (heap_lt HRV.out) hgP).trans HRV.out)
          clear HRV
          refine hK.out _ _ (fun _ => HLV2.out) (fun hHx => ?_)
          have hSx := hHx (by omega)
          clear hK K hSx hHx hoc HOV HLV HBV
          have HOV := Lib.hid hown
          clear hown
          obtain ⟨V, rfl⟩ : ∃ V, V = V2 := ⟨_, rfl⟩
          have HLV := HLV2
          have HBV := HBV2
          have HRV := HRV2
          clear HRV2
          clear HLV2 HBV2
          refine AnyE.of_ready (rs := [7]) (by kernel_rfl) (by simp) ?_
          refine ReadyE.cons (ops_at rfl) (fun K hK => ?_) ReadyE.nil
          go_simp
          refine (roomBeside_any (some ⟨bq, oq, none⟩) (some ⟨g, 0, none⟩) n c (m - 1) cc W B ts (restX ks k) lo hi wr.heap.size V.heap.size V HN.out HG.out (by rw [restX_len (by rw [HM.out]; exact hlt), HM.out]) HRI.out hW4 hB4 (HS.out.below HBV.out (by omega)) (by have := HBV.out.size; omega) (ownsRow_own (ys := restX ks k) (by rw [restX_len (by rw [HM.out]; exact hlt), HM.out]; exact HOV.out)).2.seg (Nat.le_refl _)).mono ?_
          rintro e V2 ⟨rfl, hbc⟩
          have HLV2 := Lib.hid ((hbc.block _ (heap_lt HLV.out)).trans HLV.out)
          have HBV2 := Lib.hid (HBV.out.trans (hbc.mono HBV.out.size))
          have HRV2 := Lib.hid ((hbc.block _ (heap_lt HRV.out)).trans HRV.out)
          clear HRV
          rw [HWr.out, HBr.out]
          refine hK.out _ _ (fun _ => HLV2.out) (fun hHx => ?_)
          have hSx := hHx (by omega)
          clear hK K hSx hHx hbc HOV HLV HBV
          obtain ⟨V, rfl⟩ : ∃ V, V = V2 := ⟨_, rfl⟩
          have HLV := HLV2
          have HBV := HBV2
          have HRV := HRV2
          clear HRV2
          clear HLV2 HBV2
          have hcr0 := cell_of HRV.out 0
          have hcr1 := cell_of HRV.out 1
          have hfr0 := frozen_of HRV.out 0
          have hfr1 := frozen_of HRV.out 1
          refine AnyE.of_ready (rs := [9]) (by kernel_rfl) (by simp) ?_
          refine ReadyE.cons (ops_at rfl) (fun K hK => ?_) ReadyE.nil
          go_simp
          refine hK.out _ _ (fun h => absurd rfl h) (fun _ => ?_)
          clear hK K
          refine AnyE.end_ (by kernel_rfl) ?_ _
          clear hcr0 hcr1 hfr0 hfr1
          obtain ⟨wz, hwz⟩ : ∃ wz, (V.setCell ⟨Pr, 0, none⟩ (.int .i64 Wr)).setCell ⟨Pr, 1, none⟩ (.int .i64 Br) = wz := ⟨_, rfl⟩
          have HRZ := Lib.hid (show wz.heap[Pr]? = some (.cells #[.int .i64 Wr, .int .i64 Br] 41 (0, 0)) by rw [← hwz]; exact set_two4 HRV.out _ _)
          have HBZ := Lib.hid (show Below wr.heap.size wr wz by rw [← hwz]; exact (HBV.out.setCell (p := ⟨Pr, 0, none⟩) hPw _).setCell (p := ⟨Pr, 1, none⟩) hPw _)
          rw [hwz]
          clear hwz HRV HBV HLV hH0
          have HBZA := Lib.hid (HBA.out.trans (HBZ.out.mono HBA.out.size))
          have hzz := HBZ.out.size
          obtain ⟨wo, rfl⟩ : ∃ wo, wo = wr := ⟨_, rfl⟩
          go_wp2
          go_loopw [11, 12, 13, 17, 18, 19, 46] (fun a b d _ _ _ i wr => ∃ j : Nat, j ≤ n ∧ i = .int .i64 (j : Int) ∧ (∃ t1 t2 t3 : Int, exIn ts W B ks k (kn : Int) (s1, s2, s3) j = (t1, t2, t3) ∧ a = .int .i64 t1 ∧ b = .int .i64 t2 ∧ d = .int .i64 t3) ∧ Below wz.heap.size wz wr) (fun _ _ _ _ _ _ i _ => n - (intOf i).toNat)
          case atStart => exact ⟨0, Nat.zero_le _, rfl, ⟨s1, s2, s3, rfl, rfl, rfl, rfl⟩, Below.refl _ _⟩
          case round =>
            obtain ⟨j, hj, rfl, ⟨t1, t2, t3, hti, rfl, rfl, rfl⟩, hbw⟩ := hrel
            have HTI := Lib.hid hti
            have HBY := Lib.hid hbw
            have HBYA := Lib.hid (HBZA.out.trans (hbw.mono HBZA.out.size))
            have hzy := hbw.size
            clear hti hbw
            by_cases hjn : j < n
            · obtain ⟨b3, o3, x, y, z, hA, _, _, hxj, r0, r1, r2⟩ := (HS0.out.below HBYA.out hB).tri (k := j) (by rw [HN.out]; exact hjn)
              obtain ⟨rfl, rfl⟩ : bq = b3 ∧ oq = o3 := by injection hA with hA; injection hA with h1 h2; exact ⟨h1, h2⟩
              have hjI : (j : Int) < (n : Int) := by omega
              have hbz := item_bd HG.out hxj
              have hbk := item_bd HG.out HXK.out
              obtain ⟨mo, hmo⟩ : ∃ mo, z - zk = mo := ⟨_, rfl⟩
              have hwm : IntKind.i64.wrap (z - zk) = mo := by rw [IntKind.wrap_i64]; omega
              have hpk := ((HBZ.out.trans (HBY.out.mono HBZ.out.size)).cell (cell_lt HP2.out)).trans HP2.out
              have HXJ := Lib.hid hxj
              have HMO := Lib.hid hmo
              have HRY := Lib.hid ((HBY.out.block Pr (heap_lt HRZ.out)).trans HRZ.out)
              clear hA hxj hbz hbk hmo
              have hknI : (kn : Int) < (n : Int) := by omega
              have hws := itm_w HXJ.out
              have hwk := itm_w HXK.out
              have HVO := Lib.hid (show vI ts (j : Int) - vI ts (kn : Int) = mo by rw [hws.2.2, hwk.2.2]; exact HMO.out)
              have HOKQ := Lib.hid (show (decide (x ≤ Wr) && decide (y ≤ Br)) = okX ts W B ks k (j : Int) by rw [okX, hws.1, hws.2.1, HWr.out, HBr.out])
              clear hws hwk
              go_wp2_with fail
              obtain ⟨V, hV⟩ : ∃ V, wr.alloc (.cells #[.int .i64 x, .int .i64 y, .int .i64 z] 63) = V := ⟨_, rfl⟩
              obtain ⟨Pi, hPi⟩ : ∃ Pi, wr.heap.size = Pi := ⟨_, rfl⟩
              have hbV : Below wr.heap.size wr V := by rw [← hV]; exact (Below.refl _ _).alloc (Nat.le_refl _) _
              have hiV : V.heap[Pi]? = some (.cells #[.int .i64 x, .int .i64 y, .int .i64 z] 63 (0, 0)) := by rw [← hV, ← hPi]; exact new_at _ _ rfl
              have hpV := (hbV.cell (cell_lt hpk)).trans hpk
              have HBV := Lib.hid (HBY.out.trans (hbV.mono hzy))
              have HIV := Lib.hid hiV
              have HRV := Lib.hid ((hbV.block Pr (heap_lt HRY.out)).trans HRY.out)
              rw [hV, hPi]
              clear hV hPi hbV r0 r1 r2
              refine wp_region_held_drew (S := (fun wq => wq.cell? ⟨Pi, 2, none⟩ = some (.int .i64 z) ∧ wq.cell? ⟨bq, oq + kn * 3 + 2, none⟩ = some (.int .i64 zk))) (by kernel_rfl) ⟨(cell_of hiV 2).trans rfl, hpV⟩ (fun hH0 => ?_)
              refine wpAnyH_take (i := 0) (v := ?_) (ops_at rfl) (by kernel_rfl) (by kernel_rfl) (by kernel_rfl) (fun _ _ _ h => h) (Or.inl ⟨by rfl, ?yw80⟩) (by assumption) ?nw80
              case yw80 => (intro wS hSw; (try dsimp only at hSw); go_simp; try rfl)
              try simp only [Act.put, List.setIfInBounds_toArray, List.set_cons_zero, List.set_cons_succ]
              refine wpAnyH_take (i := 1) (v := ?_) (ops_at rfl) (by kernel_rfl) (by kernel_rfl) (by kernel_rfl) (fun _ _ _ h => h) (Or.inl ⟨by rfl, ?yw81⟩) (by assumption) ?nw81
              case yw81 => (intro wS hSw; (try dsimp only at hSw); go_simp; try rfl)
              try simp only [Act.put, List.setIfInBounds_toArray, List.set_cons_zero, List.set_cons_succ]
              refine wpAnyH_take (i := 2) (v := ?_) (ops_at rfl) (by kernel_rfl) (by kernel_rfl) (by kernel_rfl) (fun _ _ _ h => h) (Or.inl ⟨by rfl, ?yw82⟩) (by assumption) ?nw82
              case yw82 => (intro wS hSw; (try dsimp only at hSw); go_simp; try rfl)
              try simp only [Act.put, List.setIfInBounds_toArray, List.set_cons_zero, List.set_cons_succ]
              refine wpAnyH_take (i := 3) (v := ?_) (ops_at rfl) (by kernel_rfl) (by kernel_rfl) (by kernel_rfl) (fun _ _ _ h => h) (Or.inl ⟨by rfl, ?yw83⟩) (by assumption) ?nw83
              case yw83 => (intro wS hSw; (try dsimp only at hSw); go_simp; try rfl)
              try simp only [Act.put, List.setIfInBounds_toArray, List.set_cons_zero, List.set_cons_succ]
              refine wpAnyH_take (i := 4) (v := ?_) (ops_at rfl) (by kernel_rfl) (by kernel_rfl) (by kernel_rfl) (fun _ _ _ h => h) (Or.inl ⟨by rfl, ?yw84⟩) (by assumption) ?nw84
              case yw84 => (intro wS hSw; (try dsimp only at hSw); go_simp; try rfl)
              try simp only [Act.put, List.setIfInBounds_toArray, List.set_cons_zero, List.set_cons_succ]
              refine wpAnyH_take (i := 5) (v := ?_) (ops_at rfl) (by kernel_rfl) (by kernel_rfl) (by kernel_rfl) (fun _ _ _ h => h) (Or.inl ⟨by rfl, ?yw85⟩) (by assumption) ?nw85
              case yw85 => (intro wS hSw; (try dsimp only at hSw); go_simp; try rfl)
              try simp only [Act.put, List.setIfInBounds_toArray, List.set_cons_zero, List.set_cons_succ]
              refine wpAnyH_take (i := 6) (v := ?_) (ops_at rfl) (by kernel_rfl) (by kernel_rfl) (by kernel_rfl) (fun _ _ _ h => h) (Or.inl ⟨by rfl, ?yw86⟩) (by assumption) ?nw86
              case yw86 => (intro wS hSw; (try dsimp only at hSw); go_simp; try rfl)
              try simp only [Act.put, List.setIfInBounds_toArray, List.set_cons_zero, List.set_cons_succ]
              refine wpAnyH_take (i := 7) (v := ?_) (ops_at rfl) (by kernel_rfl) (by kernel_rfl) (by kernel_rfl) (fun _ _ _ h => h) (Or.inl ⟨by rfl, ?yw87⟩) (by assumption) ?nw87
              case yw87 => (intro wS hSw; (try dsimp only at hSw); go_simp; try rfl)
              try simp only [Act.put, List.setIfInBounds_toArray, List.set_cons_zero, List.set_cons_succ]
              refine wpAnyH_take (i := 8) (v := ?_) (ops_at rfl) (by kernel_rfl) (by kernel_rfl) (by kernel_rfl) (fun _ _ _ h => h) (Or.inl ⟨by rfl, ?yw88⟩) (by assumption) ?nw88
              case yw88 => (intro wS hSw; (try dsimp only at hSw); go_simp; try rfl)
              try simp only [Act.put, List.setIfInBounds_toArray, List.set_cons_zero, List.set_cons_succ]
              refine wpAnyH_done (by kernel_rfl) ?_ _
              obtain ⟨V2, hV2⟩ : ∃ V2, V.drew = V2 := ⟨_, rfl⟩
              have HB2 := Lib.hid (show Below wz.heap.size wz V2 by rw [← hV2]; exact HBV.out.drew)
              have hi2 : V2.heap[Pi]? = some (.cells #[.int .i64 x, .int .i64 y, .int .i64 z] 63 (0, 0)) := by rw [← hV2]; exact HIV.out
              have hr2 : V2.heap[Pr]? = some (.cells #[.int .i64 Wr, .int .i64 Br] 41 (0, 0)) := by rw [← hV2]; exact HRV.out
              rw [hV2]
              clear hV2 hiV hpV hH0 hpk
              by_cases h1 : t3 < mo
              · have hd1 : decide (t3 < mo) = true := decide_eq_true h1
                have HL1 := Lib.hid (show (t1, t2, t3).2.2 < vI ts (j : Int) - vI ts (kn : Int) by rw [HVO.out]; exact h1)
                have rc0 := cell_of hr2 0
                have rc1 := cell_of hr2 1
                have ic0 := cell_of hi2 0
                have ic1 := cell_of hi2 1
                have ic2 := cell_of hi2 2
                clear h1 hi2 hr2
                cases hok : okX ts W B ks k (j : Int)
                · have HQF := Lib.hid (HOKQ.out.trans hok)
                  have HOK := Lib.hid hok
                  clear hok
                  go_wp2_with fail
                  refine (holds_any Wr Br x y z _ false HQF.out).mono ?_
                  rintro e w5 ⟨rfl, hb5⟩
                  have HB5 := Lib.hid (HB2.out.trans (hb5.mono HB2.out.size))
                  clear hb5 rc0 rc1 ic0 ic1 ic2
                  go_wp2
                  go_roundw
                  case rel => exact ⟨j + 1, by omega, by go_num, ⟨t1, t2, t3, by rw [exIn_next, HTI.out]; exact exS_full HOK.out, rfl, rfl, rfl⟩, HB5.out⟩
                  case measure => simp [intOf]; omega
                · have HQF := Lib.hid (HOKQ.out.trans hok)
                  have HOK := Lib.hid hok
                  clear hok
                  go_wp2_with fail
                  refine (holds_any Wr Br x y z _ true HQF.out).mono ?_
                  rintro e w5 ⟨rfl, hb5⟩
                  have HB5 := Lib.hid (HB2.out.trans (hb5.mono HB2.out.size))
                  clear hb5 rc0 rc1 ic0 ic1 ic2
                  go_wp2_with fail
                  refine (slicesContains_any (some ⟨g2, o2, none⟩) m c2 ks (j : Int) lo2 hi2 w5 HM.out hlen2 (HT0.out.below (HBZA.out.trans (HB5.out.mono HBZA.out.size)) hB2)).mono ?_
                  rintro e w6 ⟨rfl, rfl⟩
                  by_cases hin : (j : Int) ∈ ks
                  · rw [decide_eq_true hin]
                    have HIN := Lib.hid hin
                    clear hin
                    go_wp2
                    go_roundw
                    case rel => exact ⟨j + 1, by omega, by go_num, ⟨t1, t2, t3, by rw [exIn_next, HTI.out]; exact exS_in HIN.out, rfl, rfl, rfl⟩, HB5.out⟩
                    case measure => simp [intOf]; omega
                  · rw [decide_eq_false hin]
                    have HIN := Lib.hid hin
                    clear hin
                    go_wp2
                    go_roundw
                    case rel => exact ⟨j + 1, by omega, by go_num, ⟨(kn : Int), (j : Int), mo, by rw [exIn_next, HTI.out]; exact by rw [exS_yes HL1.out HOK.out HIN.out, HVO.out], rfl, rfl, rfl⟩, HB5.out⟩
                    case measure => simp [intOf]; omega
              · have hd1 : decide (t3 < mo) = false := decide_eq_false h1
                have HL1 := Lib.hid (show ¬ (t1, t2, t3).2.2 < vI ts (j : Int) - vI ts (kn : Int) by rw [HVO.out]; exact h1)
                clear h1 hi2 hr2
                go_wp2
                go_roundw
                case rel => exact ⟨j + 1, by omega, by go_num, ⟨t1, t2, t3, by rw [exIn_next, HTI.out]; exact exS_low HL1.out, rfl, rfl, rfl⟩, HB2.out⟩
                case measure => simp [intOf]; omega
            · obtain rfl : j = n := by omega
              go_wp2
              go_roundw
              case rel => exact ⟨k + 1, by omega, by go_num, ⟨t1, t2, t3, by rw [exOut_next HX0.out, HST.out, HN.out]; exact HTI.out, rfl, rfl, rfl⟩, (HBW.out.trans (HBZ.out.mono HBW.out.size)).trans (HBY.out.mono (Nat.le_trans HBW.out.size HBZ.out.size))⟩
              case measure => simp [intOf]; omega
      · go_simp
        obtain ⟨V2, hV2⟩ : ∃ V2, V.alloc (.cells #[.int .i64 0, .int .i64 0] 41) = V2 := ⟨_, rfl⟩
        obtain ⟨Pr, hPr⟩ : ∃ Pr, V.heap.size = Pr := ⟨_, rfl⟩
        have HRV := Lib.hid (show V2.heap[Pr]? = some (.cells #[.int .i64 0, .int .i64 0] 41 (0, 0)) by rw [← hV2, ← hPr]; exact new_at _ _ rfl)
        have HLV2 := Lib.hid (show V2.heap[P1]? = some (.cells #[.slice (some ⟨bq, oq, none⟩) n c, .int .i64 W, .int .i64 B] 67 (0, 0)) by rw [← hV2]; exact (alloc_old _ (heap_lt HLV.out) _).trans HLV.out)
        have HBV2 := Lib.hid (show Below wr.heap.size wr V2 by rw [← hV2]; exact HBV.out.alloc HBV.out.size _)
        have hPw : wr.heap.size ≤ Pr := by rw [← hPr]; exact HBV.out.size
        rw [hV2, hPr]
        clear hV2 hPr
        refine hK.out _ _ (fun _ => HLV2.out) (fun hHx => ?_)
        have hSx := hHx (by omega)
        clear hK K hSx hHx HLV HBV
        obtain ⟨V, rfl⟩ : ∃ V, V = V2 := ⟨_, rfl⟩
        have HLV := HLV2
        have HBV := HBV2
        clear HLV2 HBV2
        refine AnyE.of_ready (rs := [2]) (by kernel_rfl) (by simp) ?_
        refine ReadyE.cons (ops_at rfl) (fun K hK => ?_) ReadyE.nil
        go_simp
        refine (cloneI_any ⟨g2, o2, none⟩ m c2 ks lo2 hi2 V HM.out hlen2 (HT.out.below HBV.out (by omega)) (by have := HBV.out.size; omega)).mono ?_
        rintro e V2 ⟨v, rfl, hown, hbc⟩
        obtain ⟨g, cc, rfl, hg0, hg1, _, _⟩ := ownsRow_head (ys := ks) (by exact hown) hm0
        have hgw : wr.heap.size ≤ g := by have := HBV.out.size; omega
        have HOV := Lib.hid (own_mono hown HBV.out.size)
        have HLV2 := Lib.hid ((hbc.block _ (heap_lt HLV.out)).trans HLV.out)
        have HBV2 := Lib.hid (HBV.out.trans (hbc.mono HBV.out.size))
        have hzV := hbc.size
        have HRV2 := Lib.hid ((hbc.block _ (heap_lt HRV.out)).trans HRV.out)
        have hgP : Pr ≠ g := by have := heap_lt HRV.out; omega
        clear HRV
        refine hK.out _ _ (fun _ => HLV2.out) (fun hHx => ?_)
        have hSx := hHx (by omega)
        clear hK K hown hbc hSx hHx HLV HBV hzV
        obtain ⟨V, rfl⟩ : ∃ V, V = V2 := ⟨_, rfl⟩
        have HLV := HLV2
        have HBV := HBV2
        have HRV := HRV2
        clear HRV2
        clear HLV2 HBV2
        refine AnyE.of_ready (rs := [6]) (by kernel_rfl) (by simp) ?_
        refine ReadyE.cons (ops_at rfl) (fun K hK => ?_) ReadyE.nil
        go_simp
        refine (delete_any g m cc wr.heap.size k ks V HOV.out hlt).mono ?_
        rintro e V2 ⟨rfl, hown, hoc⟩
        have HLV2 := Lib.hid ((hoc.block _ (heap_lt HLV.out) (by omega)).trans HLV.out)
        have HBV2 := Lib.hid (HBV.out.trans (hoc.below (B := wr.heap.size) HBV.out.size (fun k hk => by have : k = g := hk; omega)))
        have HRV2 := Lib.hid ((hoc.block _ (heap_lt HRV.out) hgP).trans HRV.out)
        clear HRV
        refine hK.out _ _ (fun _ => HLV2.out) (fun hHx => ?_)
        have hSx := hHx (by omega)
        clear hK K hSx hHx hoc HOV HLV HBV
        have HOV := Lib.hid hown
        clear hown
        obtain ⟨V, rfl⟩ : ∃ V, V = V2 := ⟨_, rfl⟩
        have HLV := HLV2
        have HBV := HBV2
        have HRV := HRV2
        clear HRV2
        clear HLV2 HBV2
        refine AnyE.of_ready (rs := [7]) (by kernel_rfl) (by simp) ?_
        refine ReadyE.cons (ops_at rfl) (fun K hK => ?_) ReadyE.nil
        go_simp
        refine (roomBeside_any (some ⟨bq, oq, none⟩) (some ⟨g, 0, none⟩) n c (m - 1) cc W B ts (restX ks k) lo hi wr.heap.size V.heap.size V HN.out HG.out (by rw [restX_len (by rw [HM.out]; exact hlt), HM.out]) HRI.out hW4 hB4 (HS.out.below HBV.out (by omega)) (by have := HBV.out.size; omega) (ownsRow_own (ys := restX ks k) (by rw [restX_len (by rw [HM.out]; exact hlt), HM.out]; exact HOV.out)).2.seg (Nat.le_refl _)).mono ?_
        rintro e V2 ⟨rfl, hbc⟩
        have HLV2 := Lib.hid ((hbc.block _ (heap_lt HLV.out)).trans HLV.out)
        have HBV2 := Lib.hid (HBV.out.trans (hbc.mono HBV.out.size))
        have HRV2 := Lib.hid ((hbc.block _ (heap_lt HRV.out)).trans HRV.out)
        clear HRV
        rw [HWr.out, HBr.out]
        refine hK.out _ _ (fun _ => HLV2.out) (fun hHx => ?_)
        have hSx := hHx (by omega)
        clear hK K hSx hHx hbc HOV HLV HBV
        obtain ⟨V, rfl⟩ : ∃ V, V = V2 := ⟨_, rfl⟩
        have HLV := HLV2
        have HBV := HBV2
        have HRV := HRV2
        clear HRV2
        clear HLV2 HBV2
        have hcr0 := cell_of HRV.out 0
        have hcr1 := cell_of HRV.out 1
        have hfr0 := frozen_of HRV.out 0
        have hfr1 := frozen_of HRV.out 1
        refine AnyE.of_ready (rs := [9]) (by kernel_rfl) (by simp) ?_
        refine ReadyE.cons (ops_at rfl) (fun K hK => ?_) ReadyE.nil
        go_simp
        refine hK.out _ _ (fun h => absurd rfl h) (fun _ => ?_)
        clear hK K
        refine AnyE.end_ (by kernel_rfl) ?_ _
        clear hcr0 hcr1 hfr0 hfr1
        obtain ⟨wz, hwz⟩ : ∃ wz, (V.setCell ⟨Pr, 0, none⟩ (.int .i64 Wr)).setCell ⟨Pr, 1, none⟩ (.int .i64 Br) = wz := ⟨_, rfl⟩
        have HRZ := Lib.hid (show wz.heap[Pr]? = some (.cells #[.int .i64 Wr, .int .i64 Br] 41 (0, 0)) by rw [← hwz]; exact set_two4 HRV.out _ _)
        have HBZ := Lib.hid (show Below wr.heap.size wr wz by rw [← hwz]; exact (HBV.out.setCell (p := ⟨Pr, 0, none⟩) hPw _).setCell (p := ⟨Pr, 1, none⟩) hPw _)
        rw [hwz]
        clear hwz HRV HBV HLV hH0
        have HBZA := Lib.hid (HBA.out.trans (HBZ.out.mono HBA.out.size))
        have hzz := HBZ.out.size
        obtain ⟨wo, rfl⟩ : ∃ wo, wo = wr := ⟨_, rfl⟩
        go_wp2
        go_loopw [11, 12, 13, 17, 18, 19, 46] (fun a b d _ _ _ i wr => ∃ j : Nat, j ≤ n ∧ i = .int .i64 (j : Int) ∧ (∃ t1 t2 t3 : Int, exIn ts W B ks k (kn : Int) (s1, s2, s3) j = (t1, t2, t3) ∧ a = .int .i64 t1 ∧ b = .int .i64 t2 ∧ d = .int .i64 t3) ∧ Below wz.heap.size wz wr) (fun _ _ _ _ _ _ i _ => n - (intOf i).toNat)
        case atStart => exact ⟨0, Nat.zero_le _, rfl, ⟨s1, s2, s3, rfl, rfl, rfl, rfl⟩, Below.refl _ _⟩
        case round =>
          obtain ⟨j, hj, rfl, ⟨t1, t2, t3, hti, rfl, rfl, rfl⟩, hbw⟩ := hrel
          have HTI := Lib.hid hti
          have HBY := Lib.hid hbw
          have HBYA := Lib.hid (HBZA.out.trans (hbw.mono HBZA.out.size))
          have hzy := hbw.size
          clear hti hbw
          by_cases hjn : j < n
          · obtain ⟨b3, o3, x, y, z, hA, _, _, hxj, r0, r1, r2⟩ := (HS0.out.below HBYA.out hB).tri (k := j) (by rw [HN.out]; exact hjn)
            obtain ⟨rfl, rfl⟩ : bq = b3 ∧ oq = o3 := by injection hA with hA; injection hA with h1 h2; exact ⟨h1, h2⟩
            have hjI : (j : Int) < (n : Int) := by omega
            have hbz := item_bd HG.out hxj
            have hbk := item_bd HG.out HXK.out
            obtain ⟨mo, hmo⟩ : ∃ mo, z - zk = mo := ⟨_, rfl⟩
            have hwm : IntKind.i64.wrap (z - zk) = mo := by rw [IntKind.wrap_i64]; omega
            have hpk := ((HBZ.out.trans (HBY.out.mono HBZ.out.size)).cell (cell_lt HP2.out)).trans HP2.out
            have HXJ := Lib.hid hxj
            have HMO := Lib.hid hmo
            have HRY := Lib.hid ((HBY.out.block Pr (heap_lt HRZ.out)).trans HRZ.out)
            clear hA hxj hbz hbk hmo
            have hknI : (kn : Int) < (n : Int) := by omega
            have hws := itm_w HXJ.out
            have hwk := itm_w HXK.out
            have HVO := Lib.hid (show vI ts (j : Int) - vI ts (kn : Int) = mo by rw [hws.2.2, hwk.2.2]; exact HMO.out)
            have HOKQ := Lib.hid (show (decide (x ≤ Wr) && decide (y ≤ Br)) = okX ts W B ks k (j : Int) by rw [okX, hws.1, hws.2.1, HWr.out, HBr.out])
            clear hws hwk
            go_wp2_with fail
            obtain ⟨V, hV⟩ : ∃ V, wr.alloc (.cells #[.int .i64 x, .int .i64 y, .int .i64 z] 63) = V := ⟨_, rfl⟩
            obtain ⟨Pi, hPi⟩ : ∃ Pi, wr.heap.size = Pi := ⟨_, rfl⟩
            have hbV : Below wr.heap.size wr V := by rw [← hV]; exact (Below.refl _ _).alloc (Nat.le_refl _) _
            have hiV : V.heap[Pi]? = some (.cells #[.int .i64 x, .int .i64 y, .int .i64 z] 63 (0, 0)) := by rw [← hV, ← hPi]; exact new_at _ _ rfl
            have hpV := (hbV.cell (cell_lt hpk)).trans hpk
            have HBV := Lib.hid (HBY.out.trans (hbV.mono hzy))
            have HIV := Lib.hid hiV
            have HRV := Lib.hid ((hbV.block Pr (heap_lt HRY.out)).trans HRY.out)
            rw [hV, hPi]
            clear hV hPi hbV r0 r1 r2
            refine wp_region_held_drew (S := (fun wq => wq.cell? ⟨Pi, 2, none⟩ = some (.int .i64 z) ∧ wq.cell? ⟨bq, oq + kn * 3 + 2, none⟩ = some (.int .i64 zk))) (by kernel_rfl) ⟨(cell_of hiV 2).trans rfl, hpV⟩ (fun hH0 => ?_)
            refine wpAnyH_take (i := 0) (v := ?_) (ops_at rfl) (by kernel_rfl) (by kernel_rfl) (by kernel_rfl) (fun _ _ _ h => h) (Or.inl ⟨by rfl, ?yw90⟩) (by assumption) ?nw90
            case yw90 => (intro wS hSw; (try dsimp only at hSw); go_simp; try rfl)
            try simp only [Act.put, List.setIfInBounds_toArray, List.set_cons_zero, List.set_cons_succ]
            refine wpAnyH_take (i := 1) (v := ?_) (ops_at rfl) (by kernel_rfl) (by kernel_rfl) (by kernel_rfl) (fun _ _ _ h => h) (Or.inl ⟨by rfl, ?yw91⟩) (by assumption) ?nw91
            case yw91 => (intro wS hSw; (try dsimp only at hSw); go_simp; try rfl)
            try simp only [Act.put, List.setIfInBounds_toArray, List.set_cons_zero, List.set_cons_succ]
            refine wpAnyH_take (i := 2) (v := ?_) (ops_at rfl) (by kernel_rfl) (by kernel_rfl) (by kernel_rfl) (fun _ _ _ h => h) (Or.inl ⟨by rfl, ?yw92⟩) (by assumption) ?nw92
            case yw92 => (intro wS hSw; (try dsimp only at hSw); go_simp; try rfl)
            try simp only [Act.put, List.setIfInBounds_toArray, List.set_cons_zero, List.set_cons_succ]
            refine wpAnyH_take (i := 3) (v := ?_) (ops_at rfl) (by kernel_rfl) (by kernel_rfl) (by kernel_rfl) (fun _ _ _ h => h) (Or.inl ⟨by rfl, ?yw93⟩) (by assumption) ?nw93
            case yw93 => (intro wS hSw; (try dsimp only at hSw); go_simp; try rfl)
            try simp only [Act.put, List.setIfInBounds_toArray, List.set_cons_zero, List.set_cons_succ]
            refine wpAnyH_take (i := 4) (v := ?_) (ops_at rfl) (by kernel_rfl) (by kernel_rfl) (by kernel_rfl) (fun _ _ _ h => h) (Or.inl ⟨by rfl, ?yw94⟩) (by assumption) ?nw94
            case yw94 => (intro wS hSw; (try dsimp only at hSw); go_simp; try rfl)
            try simp only [Act.put, List.setIfInBounds_toArray, List.set_cons_zero, List.set_cons_succ]
            refine wpAnyH_take (i := 5) (v := ?_) (ops_at rfl) (by kernel_rfl) (by kernel_rfl) (by kernel_rfl) (fun _ _ _ h => h) (Or.inl ⟨by rfl, ?yw95⟩) (by assumption) ?nw95
            case yw95 => (intro wS hSw; (try dsimp only at hSw); go_simp; try rfl)
            try simp only [Act.put, List.setIfInBounds_toArray, List.set_cons_zero, List.set_cons_succ]
            refine wpAnyH_take (i := 6) (v := ?_) (ops_at rfl) (by kernel_rfl) (by kernel_rfl) (by kernel_rfl) (fun _ _ _ h => h) (Or.inl ⟨by rfl, ?yw96⟩) (by assumption) ?nw96
            case yw96 => (intro wS hSw; (try dsimp only at hSw); go_simp; try rfl)
            try simp only [Act.put, List.setIfInBounds_toArray, List.set_cons_zero, List.set_cons_succ]
            refine wpAnyH_take (i := 7) (v := ?_) (ops_at rfl) (by kernel_rfl) (by kernel_rfl) (by kernel_rfl) (fun _ _ _ h => h) (Or.inl ⟨by rfl, ?yw97⟩) (by assumption) ?nw97
            case yw97 => (intro wS hSw; (try dsimp only at hSw); go_simp; try rfl)
            try simp only [Act.put, List.setIfInBounds_toArray, List.set_cons_zero, List.set_cons_succ]
            refine wpAnyH_take (i := 8) (v := ?_) (ops_at rfl) (by kernel_rfl) (by kernel_rfl) (by kernel_rfl) (fun _ _ _ h => h) (Or.inl ⟨by rfl, ?yw98⟩) (by assumption) ?nw98
            case yw98 => (intro wS hSw; (try dsimp only at hSw); go_simp; try rfl)
            try simp only [Act.put, List.setIfInBounds_toArray, List.set_cons_zero, List.set_cons_succ]
            refine wpAnyH_done (by kernel_rfl) ?_ _
            obtain ⟨V2, hV2⟩ : ∃ V2, V.drew = V2 := ⟨_, rfl⟩
            have HB2 := Lib.hid (show Below wz.heap.size wz V2 by rw [← hV2]; exact HBV.out.drew)
            have hi2 : V2.heap[Pi]? = some (.cells #[.int .i64 x, .int .i64 y, .int .i64 z] 63 (0, 0)) := by rw [← hV2]; exact HIV.out
            have hr2 : V2.heap[Pr]? = some (.cells #[.int .i64 Wr, .int .i64 Br] 41 (0, 0)) := by rw [← hV2]; exact HRV.out
            rw [hV2]
            clear hV2 hiV hpV hH0 hpk
            by_cases h1 : t3 < mo
            · have hd1 : decide (t3 < mo) = true := decide_eq_true h1
              have HL1 := Lib.hid (show (t1, t2, t3).2.2 < vI ts (j : Int) - vI ts (kn : Int) by rw [HVO.out]; exact h1)
              have rc0 := cell_of hr2 0
              have rc1 := cell_of hr2 1
              have ic0 := cell_of hi2 0
              have ic1 := cell_of hi2 1
              have ic2 := cell_of hi2 2
              clear h1 hi2 hr2
              cases hok : okX ts W B ks k (j : Int)
              · have HQF := Lib.hid (HOKQ.out.trans hok)
                have HOK := Lib.hid hok
                clear hok
                go_wp2_with fail
                refine (holds_any Wr Br x y z _ false HQF.out).mono ?_
                rintro e w5 ⟨rfl, hb5⟩
                have HB5 := Lib.hid (HB2.out.trans (hb5.mono HB2.out.size))
                clear hb5 rc0 rc1 ic0 ic1 ic2
                go_wp2
                go_roundw
                case rel => exact ⟨j + 1, by omega, by go_num, ⟨t1, t2, t3, by rw [exIn_next, HTI.out]; exact exS_full HOK.out, rfl, rfl, rfl⟩, HB5.out⟩
                case measure => simp [intOf]; omega
              · have HQF := Lib.hid (HOKQ.out.trans hok)
                have HOK := Lib.hid hok
                clear hok
                go_wp2_with fail
                refine (holds_any Wr Br x y z _ true HQF.out).mono ?_
                rintro e w5 ⟨rfl, hb5⟩
                have HB5 := Lib.hid (HB2.out.trans (hb5.mono HB2.out.size))
                clear hb5 rc0 rc1 ic0 ic1 ic2
                go_wp2_with fail
                refine (slicesContains_any (some ⟨g2, o2, none⟩) m c2 ks (j : Int) lo2 hi2 w5 HM.out hlen2 (HT0.out.below (HBZA.out.trans (HB5.out.mono HBZA.out.size)) hB2)).mono ?_
                rintro e w6 ⟨rfl, rfl⟩
                by_cases hin : (j : Int) ∈ ks
                · rw [decide_eq_true hin]
                  have HIN := Lib.hid hin
                  clear hin
                  go_wp2
                  go_roundw
                  case rel => exact ⟨j + 1, by omega, by go_num, ⟨t1, t2, t3, by rw [exIn_next, HTI.out]; exact exS_in HIN.out, rfl, rfl, rfl⟩, HB5.out⟩
                  case measure => simp [intOf]; omega
                · rw [decide_eq_false hin]
                  have HIN := Lib.hid hin
                  clear hin
                  go_wp2
                  go_roundw
                  case rel => exact ⟨j + 1, by omega, by go_num, ⟨(kn : Int), (j : Int), mo, by rw [exIn_next, HTI.out]; exact by rw [exS_yes HL1.out HOK.out HIN.out, HVO.out], rfl, rfl, rfl⟩, HB5.out⟩
                  case measure => simp [intOf]; omega
            · have hd1 : decide (t3 < mo) = false := decide_eq_false h1
              have HL1 := Lib.hid (show ¬ (t1, t2, t3).2.2 < vI ts (j : Int) - vI ts (kn : Int) by rw [HVO.out]; exact h1)
              clear h1 hi2 hr2
              go_wp2
              go_roundw
              case rel => exact ⟨j + 1, by omega, by go_num, ⟨t1, t2, t3, by rw [exIn_next, HTI.out]; exact exS_low HL1.out, rfl, rfl, rfl⟩, HB2.out⟩
              case measure => simp [intOf]; omega
          · obtain rfl : j = n := by omega
            go_wp2
            go_roundw
            case rel => exact ⟨k + 1, by omega, by go_num, ⟨t1, t2, t3, by rw [exOut_next HX0.out, HST.out, HN.out]; exact HTI.out, rfl, rfl, rfl⟩, (HBW.out.trans (HBZ.out.mono HBW.out.size)).trans (HBY.out.mono (Nat.le_trans HBW.out.size HBZ.out.size))⟩
            case measure => simp [intOf]; omega
    · obtain rfl : k = m := by omega
      go_wp2
      go_ret3
      exact ⟨by rw [HM.out, HST.out]; rfl, HBA.out⟩

set_option maxRecDepth 100000 in
set_option maxHeartbeats 1000000 in
theorem impl_bad (A A2 : Option Addr) (n c m c2 : Nat) (W B : Int) (ts : List (Int × Int × Int)) (ks : List Int) (lo hi lo2 hi2 : Nat) (w : World) (hn : ts.length = n) (hlen : n ≤ 1048576) (hm : ks.length = m) (hlen2 : m ≤ 1048576) (hs : Seg w lo hi A (flat3 ts)) (hB : hi ≤ w.heap.size)
    (hs2 : Seg w lo2 hi2 A2 ks) (hB2 : hi2 ≤ w.heap.size) (hq : askI ts W B = false) :
    Calls Try.prog 23 #[.slice A n c, .agg #[.int .i64 W, .int .i64 B], .slice A2 m c2] w (RetX 0 0 false w) := by
  have HN := Lib.hid hn
  have HM := Lib.hid hm
  have HB0 := Lib.hid ((Below.refl w.heap.size w).alloc (Nat.le_refl _) (.cells #[.int .i64 W, .int .i64 B] 41))
  have HSA := Lib.hid (hs.below HB0.out hB)
  have HTA := Lib.hid (hs2.below HB0.out hB2)
  clear hn hs hm hs2
  go_enter Try.func23, Try.ntmps23
  go_wp2_with fail
  refine (choiceOf_bad A A2 n c m c2 W B ts ks _ _ _ _ _ HN.out hlen HM.out hlen2 HSA.out (by simp; omega) HTA.out (by simp; omega) hq).mono ?_
  rintro e w1 ⟨rfl, hb1⟩
  have HB1 := Lib.hid (HB0.out.trans (hb1.mono (by simp)))
  clear hb1
  go_wp2
  go_ret3
  exact ⟨rfl, HB1.out.alloc HB1.out.size _⟩

set_option maxRecDepth 100000 in
set_option maxHeartbeats 1000000 in
theorem impl_none (A A2 : Option Addr) (n c m c2 : Nat) (W B : Int) (ts : List (Int × Int × Int)) (ks : List Int) (lo hi lo2 hi2 : Nat) (w : World) (hn : ts.length = n) (hlen : n ≤ 1048576) (hm : ks.length = m) (hlen2 : m ≤ 1048576) (hs : Seg w lo hi A (flat3 ts)) (hB : hi ≤ w.heap.size)
    (hs2 : Seg w lo2 hi2 A2 ks) (hB2 : hi2 ≤ w.heap.size) (hq : askI ts W B = true) (hr : chI ts W B ks = false) :
    Calls Try.prog 23 #[.slice A n c, .agg #[.int .i64 W, .int .i64 B], .slice A2 m c2] w (RetX 0 0 false w) := by
  have HN := Lib.hid hn
  have HM := Lib.hid hm
  have HB0 := Lib.hid ((Below.refl w.heap.size w).alloc (Nat.le_refl _) (.cells #[.int .i64 W, .int .i64 B] 41))
  have HSA := Lib.hid (hs.below HB0.out hB)
  have HTA := Lib.hid (hs2.below HB0.out hB2)
  clear hn hs hm hs2
  go_enter Try.func23, Try.ntmps23
  go_wp2_with fail
  refine (choiceOf_none A A2 n c m c2 W B ts ks _ _ _ _ _ HN.out hlen HM.out hlen2 HSA.out (by simp; omega) HTA.out (by simp; omega) hq hr).mono ?_
  rintro e w1 ⟨rfl, hb1⟩
  have HB1 := Lib.hid (HB0.out.trans (hb1.mono (by simp)))
  clear hb1
  go_wp2
  go_ret3
  exact ⟨rfl, HB1.out.alloc HB1.out.size _⟩

theorem impl_BestExchange (A A2 : Option Addr) (n c m c2 : Nat) (W B : Int) (ts : List (Int × Int × Int)) (ks : List Int) (lo hi lo2 hi2 : Nat) (w : World) (hn : ts.length = n) (hlen : n ≤ 1048576) (hm : ks.length = m) (hlen2 : m ≤ 1048576) (hs : Seg w lo hi A (flat3 ts)) (hB : hi ≤ w.heap.size)
    (hs2 : Seg w lo2 hi2 A2 ks) (hB2 : hi2 ≤ w.heap.size) (q : Bool) (hq : exQ ts W B ks = q) (u v : Int) (hu : exU ts W B ks = u) (hv : exW ts W B ks = v) :
    Calls Try.prog 23 #[.slice A n c, .agg #[.int .i64 W, .int .i64 B], .slice A2 m c2] w (RetX u v q w) := by
  cases ha : askI ts W B
  · obtain ⟨h1, h2, h3⟩ := ex_no (ks := ks) (show exA ts W B ks = false by rw [exA, ha]; rfl)
    rw [h1] at hq
    rw [h2] at hu
    rw [h3] at hv
    subst hq hu hv
    exact impl_bad A A2 n c m c2 W B ts ks lo hi lo2 hi2 w hn hlen hm hlen2 hs hB hs2 hB2 ha
  · cases hr : chI ts W B ks
    · obtain ⟨h1, h2, h3⟩ := ex_no (show exA ts W B ks = false by rw [exA, ha, hr]; rfl)
      rw [h1] at hq
      rw [h2] at hu
      rw [h3] at hv
      subst hq hu hv
      exact impl_none A A2 n c m c2 W B ts ks lo hi lo2 hi2 w hn hlen hm hlen2 hs hB hs2 hB2 ha hr
    · obtain ⟨h1, h2, h3⟩ := ex_yes (show exA ts W B ks = true by rw [exA, ha, hr]; rfl)
      rw [h1] at hq
      rw [h2] at hu
      rw [h3] at hv
      subst hq hu hv
      exact impl_yes A A2 n c m c2 W B ts ks lo hi lo2 hi2 w hn hlen hm hlen2 hs hB hs2 hB2 ha hr
end Go.Proofs.Ytjpejhpilfjheab
