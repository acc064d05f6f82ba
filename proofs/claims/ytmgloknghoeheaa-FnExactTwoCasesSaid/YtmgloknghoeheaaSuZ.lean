/-
  What both programs answer of two suitcases.
  Conditions: lists of at most 1048576 items.
-/
import Derived.Test.YtmgloknghoeheaaSuZb
import Derived.Test.YtmgloknghoeheaaHas
namespace Go.Proofs.Ytmgloknghoeheaa
set_option linter.unusedVariables false
open Go.RowKit

set_option maxRecDepth 100000 in
set_option maxHeartbeats 4000000 in
theorem spec_TwoCases (A : Option Addr) (n c : Nat) (W B X Y : Int) (ts : List (Int × Int × Int)) (lo hi : Nat) (w : World) (hn : ts.length = n) (hlen : n ≤ 1048576) (hs : Seg w lo hi A (flat3 ts)) (hB : hi ≤ w.heap.size) (q : Bool) (hq : askI ts W B = q) (r : Bool) (hr : caseB X Y = r) :
    Calls Try.prog 46 #[.slice A n c, .agg #[.int .i64 W, .int .i64 B], .agg #[.int .i64 X, .int .i64 Y]] w (RetI (if (q && r) = true then twoL ts X Y (allC ts W B) else 0) (q && r) w) := by
  have HN := Lib.hid hn
  obtain ⟨vv, hvv⟩ : ∃ vv, (if (q && r) = true then twoL ts X Y (allC ts W B) else 0) = vv := ⟨_, rfl⟩
  rw [hvv]
  have HVV := Lib.hid hvv
  clear hvv
  have hb0 : Below w.heap.size w ((w.alloc (.cells #[.int .i64 W, .int .i64 B] 34)).alloc (.cells #[.int .i64 X, .int .i64 Y] 34)) := ((Below.refl _ _).alloc (Nat.le_refl _) _).alloc (by simp) _
  have hc0 : ((w.alloc (.cells #[.int .i64 W, .int .i64 B] 34)).alloc (.cells #[.int .i64 X, .int .i64 Y] 34)).heap[w.heap.size]? = some (.cells #[.int .i64 W, .int .i64 B] 34 (0, 0)) := by rw [alloc_old _ (by simp)]; exact new_at w _ rfl
  have hd0 : ((w.alloc (.cells #[.int .i64 W, .int .i64 B] 34)).alloc (.cells #[.int .i64 X, .int .i64 Y] 34)).heap[w.heap.size + 1]? = some (.cells #[.int .i64 X, .int .i64 Y] 34 (0, 0)) := new_at _ _ (by simp)
  have hz0 : ((w.alloc (.cells #[.int .i64 W, .int .i64 B] 34)).alloc (.cells #[.int .i64 X, .int .i64 Y] 34)).heap.size = w.heap.size + 2 := by simp
  have j0 := cell_of hc0 0
  have j1 := cell_of hc0 1
  obtain ⟨w0, hw0⟩ : ∃ w0, (w.alloc (.cells #[.int .i64 W, .int .i64 B] 34)).alloc (.cells #[.int .i64 X, .int .i64 Y] 34) = w0 := ⟨_, rfl⟩
  rw [hw0] at hb0 hc0 hd0 hz0
  have HW0 := Lib.hid hw0
  have HB0 := Lib.hid hb0
  have HC0 := Lib.hid hc0
  have HD0 := Lib.hid hd0
  have HS0 := Lib.hid (hs.below hb0 hB)
  have HQ := Lib.hid hq
  have HR := Lib.hid hr
  clear hw0 hb0 hc0 hd0
  cases q
  · clear hn hq hr hs
    go_enter Try.func46, Try.ntmps46
    go_wp2_with fail
    try rw [HW0.out]
    refine (suAsked_any A n c W B ts lo hi _ HN.out hlen HS0.out (by omega) _ HQ.out).mono ?_
    rintro e w1 ⟨rfl, hb1⟩
    have HB1 := Lib.hid (HB0.out.trans (hb1.mono (by omega)))
    go_wp2
    go_ret2
    exact ⟨by rw [← HVV.out]; rfl, HB1.out⟩
  · obtain ⟨i0, hi0, hy0, hy1, hy2⟩ := info_parts item_info
    obtain ⟨hg, hW, hBB⟩ := askI_true.1 hq
    have HG := Lib.hid (goodI_ok hg)
    have hn10 : n ≤ 10 := by rw [← hn]; exact (goodI_ok hg).len
    have HR2 := Lib.hid (show askI ts X Y = r by rw [askI, hg, ← hr, caseB]; rfl)
    have hxy : r = true → 0 ≤ X ∧ 0 ≤ Y := fun e => by rw [e] at hr; rw [caseB, Bool.and_eq_true, inB_true, inB_true] at hr; omega
    clear hn hq hr hs hg
    go_enter Try.func46, Try.ntmps46
    go_wp2_with fail
    try rw [HW0.out]
    refine (suAsked_any A n c W B ts lo hi _ HN.out hlen HS0.out (by omega) _ HQ.out).mono ?_
    rintro e w1 ⟨rfl, hb1⟩
    have hz1 := hb1.size
    have HB1 := Lib.hid (HB0.out.trans (hb1.mono (by omega)))
    have HS1 := Lib.hid (HS0.out.below hb1 (by omega))
    have hc1 := (hb1.block w.heap.size (by omega)).trans HC0.out
    have hd1 := (hb1.block (w.heap.size + 1) (by omega)).trans HD0.out
    have HC1 := Lib.hid hc1
    have HD1 := Lib.hid hd1
    have d0 := cell_of hd1 0
    have d1 := cell_of hd1 1
    clear hb1 hc1 hd1 j0 j1
    go_wp2_with fail
    refine (suAsked_any A n c X Y ts lo hi _ HN.out hlen HS1.out (by omega) _ HR2.out).mono ?_
    rintro e w2 ⟨rfl, hb2⟩
    have hz2 := hb2.size
    have HB2 := Lib.hid (HB1.out.trans (hb2.mono (by omega)))
    have HS2 := Lib.hid (HS1.out.below hb2 (by omega))
    have hc2 := (hb2.block w.heap.size (by omega)).trans HC1.out
    have hd2 := (hb2.block (w.heap.size + 1) (by omega)).trans HD1.out
    have HD2 := Lib.hid hd2
    have k0 := cell_of hc2 0
    have k1 := cell_of hc2 1
    clear hb2 hc2 hd2 d0 d1
    cases r
    · go_wp2
      go_ret2
      exact ⟨by rw [← HVV.out]; rfl, HB2.out⟩
    · obtain ⟨hX, hY⟩ := hxy rfl
      clear hxy
      go_wp2_with fail
      refine (suAll_any A n c W B ts lo hi _ HN.out HG.out HS2.out (by omega)).mono ?_
      rintro e w3 ⟨A2, n2, c2, vs, rfl, hl, hr, hb3⟩
      have hz3 := hb3.size
      have HB3 := Lib.hid (HB2.out.trans (hb3.mono (by omega)))
      have HL := Lib.hid hl
      have HRR := Lib.hid hr
      have HD3 := Lib.hid ((hb3.block (w.heap.size + 1) (by omega)).trans HD2.out)
      have HS3 := Lib.hid (HS2.out.below hb3 (by omega))
      have hn2b : n2 ≤ 1024 := by rw [← HL.out]; exact allC_few HG.out W B
      have HMEM := Lib.hid (show ∀ xs ∈ allC ts W B, incI ts.length xs = true from fun xs hx => (allC_mem hW.1 hBB.1 hx).1)
      obtain ⟨LL, hLL⟩ : ∃ LL, allC ts W B = LL := ⟨_, rfl⟩
      rw [hLL] at HL HRR HMEM
      have HLL := Lib.hid hLL
      clear hb3 hl hr k0 k1 hLL
      go_wp2
      go_loopw [8, 10, 11, 12, 13, 14, 15, 16, 17, 18, 33, 37, 44, 45, 46, 60] (fun m _ _ _ _ _ _ _ _ _ i _ _ _ _ _ wr => ∃ k : Nat, k ≤ n2 ∧ i = .int .i64 k ∧ m = .int .i64 (twoL ts X Y (LL.take k)) ∧ Below w3.heap.size w3 wr) (fun _ _ _ _ _ _ _ _ _ _ i _ _ _ _ _ _ => n2 - (intOf i).toNat)
      case atStart => exact ⟨0, Nat.zero_le _, rfl, rfl, Below.refl _ _⟩
      case round =>
        rename World => wr
        obtain ⟨k, hk, rfl, rfl, hbr⟩ := hrel
        have hzr := hbr.size
        have HBR := Lib.hid hbr
        obtain ⟨m0, hm0⟩ : ∃ m0, twoL ts X Y (LL.take k) = m0 := ⟨_, rfl⟩
        rw [hm0]
        by_cases hlk : k < n2
        · obtain ⟨xs, hx⟩ : ∃ xs, LL[k]? = some xs := ⟨_, List.getElem?_eq_getElem (by rw [HL.out]; exact hlk)⟩
          obtain ⟨g, Bx, dx, rfl, hg1, hg2, hgc, hgo⟩ := HRR.out.at_ hx
          have hgc' := (hbr.cell (by exact hg2)).trans hgc
          have HINC := Lib.hid (HMEM.out xs (List.mem_of_getElem? hx))
          have hxl := incI_len HINC.out
          rw [HN.out] at hxl
          have HNX := Lib.hid (show twoL ts X Y (LL.take (k + 1)) = max m0 (twoV ts X Y xs) by rw [twoL_next ts X Y hx, hm0])
          have HGR := Lib.hid ((hgo.below hbr (Nat.le_refl _)).seg)
          have HSR := Lib.hid (HS3.out.below hbr (by omega))
          have HDR := Lib.hid ((hbr.block (w.heap.size + 1) (by omega)).trans HD3.out)
          have hbv := valI_bd HG.out HINC.out
          have hbt := topI_bd (restI_ok HG.out xs) hX hY
          obtain ⟨v1, hv1⟩ : ∃ v1, valI ts xs = v1 := ⟨_, rfl⟩
          obtain ⟨v2, hv2⟩ : ∃ v2, (topI (restI ts xs) X Y).1 = v2 := ⟨_, rfl⟩
          rw [hv1] at hbv
          rw [hv2] at hbt
          have HVAL := Lib.hid (show sumF (vI ts) xs = v1 from hv1)
          have HTOP := Lib.hid (show (bestL (valI (restI ts xs)) (allC (restI ts xs) X Y)).2 = v2 by rw [← hv2]; exact (topI_same _ _ _).2.1.symm)
          have HTV := Lib.hid (show twoV ts X Y xs = v1 + v2 by unfold twoV; rw [hv1, hv2])
          have hadd : IntKind.i64.wrap (v1 + v2) = v1 + v2 := by rw [IntKind.wrap_i64]; omega
          obtain ⟨nx, hnx⟩ : ∃ nx, xs.length = nx := ⟨_, rfl⟩
          rw [hnx] at hgc' hxl
          have HXL := Lib.hid hnx
          have HE := Lib.hid (show restK ts xs n = restI ts xs by rw [restI, HN.out])
          clear hx hgc hgo hnx hbr hm0 hv1 hv2
          go_wp2_with fail
          refine (suTotals_any A Bx n c nx dx ts xs _ _ _ _ _ HN.out HG.out HXL.out HINC.out HSR.out HGR.out).mono ?_
          rw [HVAL.out]
          rintro e w' ⟨rfl, rfl⟩
          clear hgc'
          go_wp2
          go_loopw [14, 15, 16, 46] (fun v _ _ i wz => ∃ j : Nat, j ≤ n ∧ i = .int .i64 j ∧ Below wr.heap.size wr wz ∧ wz.ownsRow wr.heap.size 54 3 v (restK ts xs j).length (vals3 (restK ts xs j))) (fun _ _ _ i _ => n - (intOf i).toNat)
          case atStart => exact ⟨0, Nat.zero_le _, rfl, Below.refl _ _, World.ownsRow_nil _ _ _ _⟩
          case round =>
            rename World => wz
            obtain ⟨j, hj, rfl, hbz, hown⟩ := hrel
            have hsz := hbz.size
            have HBZ := Lib.hid hbz
            obtain ⟨Bv, dv, rfl, _, hdv, _⟩ := seg_of_row3 hown
            obtain ⟨nv, hnv⟩ : ∃ nv, (restK ts xs j).length = nv := ⟨_, rfl⟩
            rw [hnv] at hown ⊢
            have hnv10 : nv ≤ 10 := by rw [← hnv]; exact Nat.le_trans (restK_len ts xs j) (by omega)
            have HNV := Lib.hid hnv
            have HOW := Lib.hid hown
            clear hnv hown hdv
            by_cases hlt : j < n
            · obtain ⟨b, off, x, y, z, rfl, _, _, hx, hc0, hc1, hc2⟩ := (HSR.out.below hbz (by omega)).tri (k := j) (by rw [HN.out]; exact hlt)
              have HX := Lib.hid hx
              have HBI := Lib.hid ((Below.refl wz.heap.size wz).alloc (Nat.le_refl _) (.cells #[.int .i64 x, .int .i64 y, .int .i64 z] 54))
              have HKK := Lib.hid ((HGR.out.below hbz (by omega)).below HBI.out (by omega))
              clear hx
              cases hin : decide ((j : Int) ∈ xs)
              · have HNJ := Lib.hid (restK_no (of_decide_eq_false hin) HX.out)
                have HIN := Lib.hid hin
                have HOW1 := Lib.hid (HOW.out.alloc (.cells #[.int .i64 x, .int .i64 y, .int .i64 z] 54))
                have HOW2 := Lib.hid (HOW1.out.alloc (.cells #[.int .i64 x, .int .i64 y, .int .i64 z] 54))
                have HSB := Lib.hid (seg_box (wz.alloc (.cells #[.int .i64 x, .int .i64 y, .int .i64 z] 54)) x y z 54)
                have HLT := Lib.hid HOW.out.lt
                have hit := new_at wz (.cells #[.int .i64 x, .int .i64 y, .int .i64 z] 54) rfl
                clear hin
                go_wp2_with fail
                refine (l1Has_any Bx nx dx xs (j : Int) _ _ _ HXL.out (by omega) HKK.out _ HIN.out).mono ?_
                rintro e w' ⟨rfl, rfl⟩
                go_wp2_with (at_builtin; refine wpList_append_flat3 _ rfl _ _ 25 rfl wr.heap.size 54 i0 Try.underlying25 hi0 hy0 hy1 hy2 _ nv _ rfl HOW2.out _ 1 1 [(x, y, z)] _ _ rfl rfl (by simpa using HSB.out) (by omega) (by simp; omega) ?_; intro v3 w9 hown3 hgr3; obtain ⟨A3, c3, rfl, _, _, _⟩ := seg_of_row3 (bs := restK ts xs j ++ [(x, y, z)]) (by rw [vals3_append]; exact hown3); have HO3 := Lib.hid hown3; have HB9 := Lib.hid (show Below wr.heap.size wr w9 from ((HBZ.out.alloc hsz _).alloc (by simp; omega) _).grown hgr3 (by simp; omega) (fun g' hg' => (HLT.out g' hg').1)); clear hown3 hgr3)
                go_roundw
                case rel => exact ⟨j + 1, by omega, by go_num, HB9.out, by rw [HNJ.out, List.length_append, HNV.out, vals3_append]; exact HO3.out⟩
                case measure => simp [intOf]; omega
              · have HNJ := Lib.hid (restK_yes (ts := ts) (of_decide_eq_true hin))
                have HIN := Lib.hid hin
                have HOW1 := Lib.hid (HOW.out.alloc (.cells #[.int .i64 x, .int .i64 y, .int .i64 z] 54))
                clear hin
                go_wp2_with fail
                refine (l1Has_any Bx nx dx xs (j : Int) _ _ _ HXL.out (by omega) HKK.out _ HIN.out).mono ?_
                rintro e w' ⟨rfl, rfl⟩
                go_wp2
                go_roundw
                case rel => exact ⟨j + 1, by omega, by go_num, HBZ.out.alloc hsz _, by rw [HNJ.out, HNV.out]; exact HOW1.out⟩
                case measure => simp [intOf]; omega
            · obtain rfl : j = n := by omega
              have hdz := (hbz.block (w.heap.size + 1) (by omega)).trans HDR.out
              have d0 := cell_of hdz 0
              have d1 := cell_of hdz 1
              have HBR2 := Lib.hid (HBR.out.trans (hbz.mono hzr))
              obtain ⟨Bf, df, hvf, _, _, hof⟩ := seg_of_row3 HOW.out
              injection hvf with hvf1 hvf2 hvf3
              subst hvf1 hvf3
              rw [HE.out] at hof HNV
              have HOF := Lib.hid hof.seg
              clear hof hbz hdz
              go_wp2_with fail
              refine (suBest_any Bv nv dv X Y (restI ts xs) _ _ _ HNV.out (restI_ok HG.out xs) hX hY HOF.out (Nat.le_refl _)).mono ?_
              rw [HTOP.out]
              rintro e w5 ⟨A5, n5, c5, vs5, rfl, _, _, hb5⟩
              have HB5 := Lib.hid (HBR2.out.trans (hb5.mono (by omega)))
              clear hb5 d0 d1
              go_wp2_with fail
              refine (l1Most_any m0 (v1 + v2) _).mono ?_
              rintro e w' ⟨rfl, rfl⟩
              go_wp2
              go_roundw
              case rel => exact ⟨k + 1, by omega, by go_num, by rw [HNX.out, HTV.out], HB5.out⟩
              case measure => simp [intOf]; omega
        · obtain rfl : k = n2 := by omega
          have HM0 := Lib.hid hm0
          have HBF := Lib.hid (HB3.out.trans (hbr.mono (by omega)))
          clear hm0 hbr
          go_wp2
          go_ret2
          exact ⟨by rw [← HM0.out, ← HL.out, List.take_length, ← HVV.out, HLL.out]; rfl, HBF.out⟩

set_option maxRecDepth 100000 in
set_option maxHeartbeats 4000000 in
theorem impl_TwoCases (A : Option Addr) (n c : Nat) (W B X Y : Int) (ts : List (Int × Int × Int)) (lo hi : Nat) (w : World) (hn : ts.length = n) (hlen : n ≤ 1048576) (hs : Seg w lo hi A (flat3 ts)) (hB : hi ≤ w.heap.size) (q : Bool) (hq : askI ts W B = q) (r : Bool) (hr : caseB X Y = r) :
    Calls Try.prog 47 #[.slice A n c, .agg #[.int .i64 W, .int .i64 B], .agg #[.int .i64 X, .int .i64 Y]] w (RetI (if (q && r) = true then twoL ts X Y (allC ts W B) else 0) (q && r) w) := by
  have HN := Lib.hid hn
  obtain ⟨vv, hvv⟩ : ∃ vv, (if (q && r) = true then twoL ts X Y (allC ts W B) else 0) = vv := ⟨_, rfl⟩
  rw [hvv]
  have HVV := Lib.hid hvv
  clear hvv
  have hb0 : Below w.heap.size w ((w.alloc (.cells #[.int .i64 W, .int .i64 B] 34)).alloc (.cells #[.int .i64 X, .int .i64 Y] 34)) := ((Below.refl _ _).alloc (Nat.le_refl _) _).alloc (by simp) _
  have hc0 : ((w.alloc (.cells #[.int .i64 W, .int .i64 B] 34)).alloc (.cells #[.int .i64 X, .int .i64 Y] 34)).heap[w.heap.size]? = some (.cells #[.int .i64 W, .int .i64 B] 34 (0, 0)) := by rw [alloc_old _ (by simp)]; exact new_at w _ rfl
  have hd0 : ((w.alloc (.cells #[.int .i64 W, .int .i64 B] 34)).alloc (.cells #[.int .i64 X, .int .i64 Y] 34)).heap[w.heap.size + 1]? = some (.cells #[.int .i64 X, .int .i64 Y] 34 (0, 0)) := new_at _ _ (by simp)
  have hz0 : ((w.alloc (.cells #[.int .i64 W, .int .i64 B] 34)).alloc (.cells #[.int .i64 X, .int .i64 Y] 34)).heap.size = w.heap.size + 2 := by simp
  have j0 := cell_of hc0 0
  have j1 := cell_of hc0 1
  obtain ⟨w0, hw0⟩ : ∃ w0, (w.alloc (.cells #[.int .i64 W, .int .i64 B] 34)).alloc (.cells #[.int .i64 X, .int .i64 Y] 34) = w0 := ⟨_, rfl⟩
  rw [hw0] at hb0 hc0 hd0 hz0
  have HW0 := Lib.hid hw0
  have HB0 := Lib.hid hb0
  have HC0 := Lib.hid hc0
  have HD0 := Lib.hid hd0
  have HS0 := Lib.hid (hs.below hb0 hB)
  have HQ := Lib.hid hq
  have HR := Lib.hid hr
  clear hw0 hb0 hc0 hd0
  cases q
  · clear hn hq hr hs
    go_enter Try.func47, Try.ntmps47
    go_wp2_with fail
    try rw [HW0.out]
    refine (luggage_no A n c W B ts lo hi _ HN.out hlen HS0.out (by omega) HQ.out).mono ?_
    rintro e w1 ⟨rfl, hb1⟩
    have HB1 := Lib.hid (HB0.out.trans (hb1.mono (by omega)))
    go_wp2
    go_ret2
    exact ⟨by rw [← HVV.out]; rfl, HB1.out.alloc HB1.out.size _⟩
  · obtain ⟨hg, hW, hBB⟩ := askI_true.1 hq
    have HG := Lib.hid (goodI_ok hg)
    have hW4 : 0 ≤ W ∧ W ≤ 4000 := by omega
    have hB4 : 0 ≤ B ∧ B ≤ 4000 := by omega
    have hxy : r = true → (0 ≤ X ∧ X ≤ 4000) ∧ 0 ≤ Y ∧ Y ≤ 4000 := fun e => by rw [e] at hr; rw [caseB, Bool.and_eq_true, inB_true, inB_true] at hr; omega
    clear hn hq hr hs hg
    go_enter Try.func47, Try.ntmps47
    go_wp2_with fail
    try rw [HW0.out]
    refine (luggage_yes A n c W B ts lo hi _ HN.out hlen HS0.out (by omega) HQ.out).mono ?_
    rintro e w1 ⟨rfl, hb1⟩
    have hz1 := hb1.size
    have HB1 := Lib.hid (HB0.out.trans (hb1.mono (by omega)))
    have hba := (Below.refl w1.heap.size w1).alloc (Nat.le_refl _) (.cells #[.slice A n c, .int .i64 W, .int .i64 B] 62)
    have hd1 := (hba.block (w.heap.size + 1) (by omega)).trans ((hb1.block (w.heap.size + 1) (by omega)).trans HD0.out)
    have HD1 := Lib.hid hd1
    have d0 := cell_of hd1 0
    have d1 := cell_of hd1 1
    have HL1 := Lib.hid (new_at w1 (.cells #[.slice A n c, .int .i64 W, .int .i64 B] 62) rfl)
    have HB2 := Lib.hid (HB1.out.trans (hba.mono HB1.out.size))
    have HS2 := Lib.hid ((HS0.out.below hb1 (by omega)).below hba (by omega))
    have hz2 : (w1.alloc (.cells #[.slice A n c, .int .i64 W, .int .i64 B] 62)).heap.size = w1.heap.size + 1 := by simp
    clear hb1 hba hd1 j0 j1
    go_wp2_with fail
    refine (isCase_any X Y _ r HR.out).mono ?_
    rintro e w2 ⟨rfl, hb2⟩
    have hz3 := hb2.size
    rw [hz2] at hz3
    have HB3 := Lib.hid (HB2.out.trans (hb2.mono HB2.out.size))
    have HS3 := Lib.hid (HS2.out.below hb2 (by omega))
    have HD3 := Lib.hid ((hb2.block (w.heap.size + 1) (by omega)).trans HD1.out)
    have HL3 := Lib.hid ((hb2.block w1.heap.size (by omega)).trans HL1.out)
    clear hb2 d0 d1 hz2
    cases r
    · go_wp2
      go_ret2
      exact ⟨by rw [← HVV.out]; rfl, HB3.out⟩
    · obtain ⟨hX, hY⟩ := hxy rfl
      clear hxy
      have hba := (Below.refl w2.heap.size w2).alloc (Nat.le_refl _) (.cells #[.int .i64 0] 3)
      have hl4 := (hba.block w1.heap.size (by omega)).trans HL3.out
      have hd4 := (hba.block (w.heap.size + 1) (by omega)).trans HD3.out
      have hv4 := new_at w2 (.cells #[.int .i64 0] 3) rfl
      have hz4 : (w2.alloc (.cells #[.int .i64 0] 3)).heap.size = w2.heap.size + 1 := by simp
      have hs4 := HS3.out.below hba (by omega)
      have HB4 := Lib.hid (HB3.out.trans (hba.mono HB3.out.size))
      have l0 := cell_of hl4 0
      have l1 := cell_of hl4 1
      have l2 := cell_of hl4 2
      obtain ⟨w4, hw4⟩ : ∃ w4, w2.alloc (.cells #[.int .i64 0] 3) = w4 := ⟨_, rfl⟩
      rw [hw4] at hl4 hd4 hv4 hz4 hs4 HB4
      have HW4 := Lib.hid hw4
      have HL4 := Lib.hid hl4
      have HD4 := Lib.hid hd4
      have HV4 := Lib.hid hv4
      have HS4 := Lib.hid hs4
      clear hba hl4 hd4 hv4 hs4 hw4
      go_wp2_with fail
      try rw [HW4.out]
      have HEX := Lib.hid (show ∀ p ∈ [(w1.heap.size, (Obj.cells #[.slice A n c, .int .i64 W, .int .i64 B] 62 (0, 0))), (w.heap.size + 1, (Obj.cells #[.int .i64 X, .int .i64 Y] 34 (0, 0)))], w4.heap[p.1]? = some p.2 by
        intro p hp
        simp only [List.mem_cons, List.not_mem_nil, or_false] at hp
        rcases hp with rfl | rfl
        · exact HL4.out
        · exact HD4.out)
      refine (each_two w1.heap.size (w.heap.size + 1) w2.heap.size A n c ts W B lo hi w2.heap.size (RT w4.heap.size w2.heap.size [(w1.heap.size, (Obj.cells #[.slice A n c, .int .i64 W, .int .i64 B] 62 (0, 0))), (w.heap.size + 1, (Obj.cells #[.int .i64 X, .int .i64 Y] 34 (0, 0)))] (twoL ts X Y)) w4 HN.out HG.out (by omega) (by omega) hW4 hB4 (RT.keeps (by omega) fun p hp => heap_lt (HEX.out p hp)) ?_ HS4.out ⟨Nat.le_refl _, (fun g e => by cases e), HEX.out, HV4.out⟩).mono ?_
      · exact visit_two _ _ _ A n c ts W B lo hi _ _ X Y HN.out HG.out (by omega) (by omega) (by omega) (by omega) (by omega) (Nat.le_refl _) (by omega) hX hY
      rintro e w5 ⟨rfl, ⟨ob, hr5⟩, hb5⟩
      have HB5 := Lib.hid (HB4.out.trans (hb5.mono (by omega)))
      have c0 := cell_of hr5.val 0
      clear hb5 hr5 l0 l1 l2
      go_wp2
      go_ret2
      exact ⟨by rw [← HVV.out]; rfl, HB5.out⟩
end Go.Proofs.Ytmgloknghoeheaa
