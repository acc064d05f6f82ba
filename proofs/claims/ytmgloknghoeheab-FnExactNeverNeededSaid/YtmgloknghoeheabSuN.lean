/-
  What both programs answer of items that are never needed.
  Conditions: lists of at most 1048576 items.
-/
import Derived.Test.YtmgloknghoeheabSuNb
import Derived.Test.YtmgloknghoeheabItmGood
namespace Go.Proofs.Ytmgloknghoeheab
set_option linter.unusedVariables false
open Go.RowKit

set_option maxRecDepth 100000 in
set_option maxHeartbeats 4000000 in
theorem spec_NeverNeeded (A : Option Addr) (n c : Nat) (ts : List (Int × Int × Int)) (lo hi : Nat) (w : World) (hn : ts.length = n) (hlen : n ≤ 1048576) (hs : Seg w lo hi A (flat3 ts)) (hB : hi ≤ w.heap.size) (q : Bool) (hq : goodI ts = q) :
    Calls Try.prog 19 #[.slice A n c] w (RetL q (someN q (nnK ts ts.length)) w) := by
  have HN := Lib.hid hn
  have HQ := Lib.hid hq
  have HS := Lib.hid hs
  cases q
  · clear hn hq hs
    go_enter Try.func19, Try.ntmps19
    go_wp2_with fail
    refine (suGood_any A n c ts lo hi _ HN.out hlen HS.out hB _ HQ.out).mono ?_
    rintro e w1 ⟨rfl, hb1⟩
    go_wp2
    go_ret2
    exact ⟨none, 0, 0, rfl, rfl, Own.nil_, hb1⟩
  · obtain ⟨i0, hi0, hy0, hy1, hy2⟩ := info_parts int_info
    have hn10 : n ≤ 10 := by rw [← hn]; exact (goodI_ok hq).len
    have HNN := Lib.hid (show someN true (nnK ts ts.length) = nnK ts n by rw [hn]; rfl)
    rw [HNN.out]
    clear hn hq hs
    go_enter Try.func19, Try.ntmps19
    go_wp2_with fail
    refine (suGood_any A n c ts lo hi _ HN.out hlen HS.out hB _ HQ.out).mono ?_
    rintro e w1 ⟨rfl, hb1⟩
    have hz1 := hb1.size
    have HB1 := Lib.hid hb1
    have HS1 := Lib.hid (HS.out.below hb1 hB)
    clear hb1
    go_wp2
    go_loopw [4, 5, 6, 7, 8, 14, 19, 20, 21] (fun o _ _ _ _ i _ _ _ wr => ∃ j : Nat, j ≤ n ∧ i = .int .i64 j ∧ Below w1.heap.size w1 wr ∧ wr.ownsRow w1.heap.size 3 1 o (nnK ts j).length ((nnK ts j).map (Value.int .i64))) (fun _ _ _ _ _ i _ _ _ _ => n - (intOf i).toNat)
    case atStart => exact ⟨0, Nat.zero_le _, rfl, Below.refl _ _, World.ownsRow_nil _ _ _ _⟩
    case round =>
        rename World => wr
        obtain ⟨j, hj, rfl, hbr, hown⟩ := hrel
        obtain ⟨Ba, da, rfl⟩ := ownsRow_form hown
        obtain ⟨na, hna⟩ : ∃ na, (nnK ts j).length = na := ⟨_, rfl⟩
        rw [hna] at hown ⊢
        have hna10 : na ≤ 10 := by rw [← hna]; exact Nat.le_trans (nnK_len _ _) (by omega)
        have HNA := Lib.hid hna
        have HOWN := Lib.hid hown
        have HBR := Lib.hid hbr
        have hsr := hbr.size
        clear hna
        by_cases hlt : j < n
        · obtain ⟨b, off, x, y, z, rfl, _, hbh, hx, hc0, hc1, hc2⟩ := (HS1.out.below hbr (by omega)).tri (k := j) (by rw [HN.out]; exact hlt)
          obtain ⟨wi, hwi⟩ : ∃ wi, wr.alloc (.cells #[.int .i64 x, .int .i64 y, .int .i64 z] 57) = wi := ⟨_, rfl⟩
          have hbi : Below wr.heap.size wr wi := by rw [← hwi]; exact (Below.refl _ _).alloc (Nat.le_refl _) _
          have hzi : wi.heap.size = wr.heap.size + 1 := by rw [← hwi]; simp
          have HIT := Lib.hid (show wi.heap[wr.heap.size]? = some (.cells #[.int .i64 x, .int .i64 y, .int .i64 z] 57 (0, 0)) by rw [← hwi]; exact new_at wr _ rfl)
          have HBI := Lib.hid (hbr.trans (hbi.mono hsr))
          have HOWI := Lib.hid (row_below HOWN.out hbi)
          have HWI := Lib.hid hwi
          have HX := Lib.hid hx
          clear hx hbi hown hbr hwi
          go_wp2
          try rw [HWI.out]
          go_loopw [4, 7, 8, 21] (fun o _ _ i wz => ∃ k : Nat, k ≤ n ∧ i = .int .i64 k ∧ o = .slice Ba na da ∧ Below wi.heap.size wi wz ∧ hitK ts (x, y, z) j k = false) (fun _ _ _ i _ => n - (intOf i).toNat)
          case atStart => exact ⟨0, Nat.zero_le _, rfl, rfl, Below.refl _ _, rfl⟩
          case round =>
            rename World => wz
            obtain ⟨k, hk, rfl, rfl, hbz, hh⟩ := hrel
            have hszz := hbz.size
            have HH := Lib.hid hh
            by_cases hlk : k < n
            · obtain ⟨b2, off2, x2, y2, z2, e1, _, _, hx2, hd0, hd1, hd2⟩ := ((HS1.out.below HBI.out (by omega)).below hbz (by omega)).tri (k := k) (by rw [HN.out]; exact hlk)
              injection e1 with e1
              injection e1 with e11 e12 _
              subst e11 e12
              obtain ⟨wy, hwy⟩ : ∃ wy, wz.alloc (.cells #[.int .i64 x2, .int .i64 y2, .int .i64 z2] 57) = wy := ⟨_, rfl⟩
              have hby : Below wz.heap.size wz wy := by rw [← hwy]; exact (Below.refl _ _).alloc (Nat.le_refl _) _
              have hzy : wy.heap.size = wz.heap.size + 1 := by rw [← hwy]; simp
              have HBY := Lib.hid (hbz.trans (hby.mono hszz))
              have hiy := (HBY.out.block wr.heap.size (by omega)).trans HIT.out
              have hny : wy.heap[wz.heap.size]? = some (.cells #[.int .i64 x2, .int .i64 y2, .int .i64 z2] 57 (0, 0)) := by rw [← hwy]; exact new_at wz _ rfl
              have a0 := cell_of hiy 0
              have a1 := cell_of hiy 1
              have a2 := cell_of hiy 2
              have b0 := cell_of hny 0
              have b1 := cell_of hny 1
              have b2 := cell_of hny 2
              have HBY1 := Lib.hid (HBI.out.trans (HBY.out.mono (by omega)))
              have HOWY := Lib.hid (row_below HOWI.out HBY.out)
              have HX2 := Lib.hid hx2
              clear hx2 hby hiy hny hbz hh
              by_cases h1 : x < x2
              · have d1 : decide (x < x2) = true := decide_eq_true h1
                have hy : hitK ts (x, y, z) j (k + 1) = false := by rw [hitK_next HX2.out, HH.out, Bool.false_or]; simp [hitB, worseB]; omega
                have HNX := Lib.hid hy
                clear hy
                go_wp2
                go_roundw
                case rel => exact ⟨k + 1, by omega, by go_num, (by first | rfl | trivial), HBY.out, HNX.out⟩
                case measure => simp [intOf]; omega
              · have d1 : decide (x < x2) = false := decide_eq_false h1
                by_cases h2 : y < y2
                · have d2 : decide (y < y2) = true := decide_eq_true h2
                  have hy : hitK ts (x, y, z) j (k + 1) = false := by rw [hitK_next HX2.out, HH.out, Bool.false_or]; simp [hitB, worseB]; omega
                  have HNX := Lib.hid hy
                  clear hy
                  go_wp2
                  go_roundw
                  case rel => exact ⟨k + 1, by omega, by go_num, (by first | rfl | trivial), HBY.out, HNX.out⟩
                  case measure => simp [intOf]; omega
                · have d2 : decide (y < y2) = false := decide_eq_false h2
                  by_cases h3 : z2 < z
                  · have d3 : decide (z2 < z) = true := decide_eq_true h3
                    have hy : hitK ts (x, y, z) j (k + 1) = false := by rw [hitK_next HX2.out, HH.out, Bool.false_or]; simp [hitB, worseB]; omega
                    have HNX := Lib.hid hy
                    clear hy
                    go_wp2
                    go_roundw
                    case rel => exact ⟨k + 1, by omega, by go_num, (by first | rfl | trivial), HBY.out, HNX.out⟩
                    case measure => simp [intOf]; omega
                  · have d3 : decide (z2 < z) = false := decide_eq_false h3
                    have hwb : worseB (x2, y2, z2) (x, y, z) = true := by simp [worseB]; omega
                    cases hdc : decide ((x2, y2, z2) = (x, y, z))
                    · have heq : ∀ W', (binOp .eql 57 (.agg #[.int .i64 x2, .int .i64 y2, .int .i64 z2]) (.agg #[.int .i64 x, .int .i64 y, .int .i64 z])).run Try.prog W' = .ok (.bool false) W' := fun W' => by rw [item_eql, hdc]
                      have hy : hitK ts (x, y, z) j (k + 1) = true := by rw [hitK_next HX2.out, HH.out, Bool.false_or]; rw [hitB, hwb, hdc]; rfl
                      clear hwb hdc
                      have HHIT := Lib.hid (hitK_up (n := n) (by omega) hy)
                      have HNJ := Lib.hid (nnK_yes HX.out (by rw [HN.out]; exact HHIT.out))
                      clear hy
                      have HOW1 := Lib.hid (HOWY.out.alloc (.cells #[.int .i64 (j : Int)] 3))
                      have HSJ := Lib.hid (show Seg (wy.alloc (.cells #[.int .i64 (j : Int)] 3)) wy.heap.size (wy.alloc (.cells #[.int .i64 (j : Int)] 3)).heap.size (some ⟨wz.heap.size + 1, 0, none⟩) [(j : Int)] by rw [← hzy]; exact seg_one wy (j : Int) 3)
                      have HLT := Lib.hid HOWY.out.lt
                      go_wp2_with (at_builtin; refine wpList_append_seg _ rfl _ _ 23 rfl w1.heap.size 3 i0 Try.underlying23 hi0 hy0 hy1 hy2 _ na _ rfl HOW1.out _ 1 1 [(j : Int)] _ _ rfl rfl HSJ.out (by omega) (by simp; omega) ?_; intro v3 w7 hown3 hgr3; obtain ⟨A3, c3, rfl⟩ := ownsRow_form hown3; have HO3 := Lib.hid hown3; have HB7 := Lib.hid ((HBY1.out.alloc HBY1.out.size _).grown hgr3 (by simp; omega) (fun g' hg' => (HLT.out g' hg').1)); clear hown3 hgr3)
                      go_roundw
                      case rel => exact ⟨j + 1, by omega, by go_num, HB7.out, by rw [HNJ.out, List.length_append, HNA.out, List.map_append]; exact HO3.out⟩
                      case measure => simp [intOf]; omega
                    · have heq : ∀ W', (binOp .eql 57 (.agg #[.int .i64 x2, .int .i64 y2, .int .i64 z2]) (.agg #[.int .i64 x, .int .i64 y, .int .i64 z])).run Try.prog W' = .ok (.bool true) W' := fun W' => by rw [item_eql, hdc]
                      by_cases hkj : k < j
                      · have hkj' : decide ((j : Int) ≤ (k : Int)) = false := decide_eq_false (by omega)
                        have hy : hitK ts (x, y, z) j (k + 1) = true := by rw [hitK_next HX2.out, HH.out, Bool.false_or]; rw [hitB, hwb, hdc, decide_eq_true hkj]; rfl
                        clear hwb hdc
                        have HHIT := Lib.hid (hitK_up (n := n) (by omega) hy)
                        have HNJ := Lib.hid (nnK_yes HX.out (by rw [HN.out]; exact HHIT.out))
                        clear hy
                        have HOW1 := Lib.hid (HOWY.out.alloc (.cells #[.int .i64 (j : Int)] 3))
                        have HSJ := Lib.hid (show Seg (wy.alloc (.cells #[.int .i64 (j : Int)] 3)) wy.heap.size (wy.alloc (.cells #[.int .i64 (j : Int)] 3)).heap.size (some ⟨wz.heap.size + 1, 0, none⟩) [(j : Int)] by rw [← hzy]; exact seg_one wy (j : Int) 3)
                        have HLT := Lib.hid HOWY.out.lt
                        go_wp2_with (at_builtin; refine wpList_append_seg _ rfl _ _ 23 rfl w1.heap.size 3 i0 Try.underlying23 hi0 hy0 hy1 hy2 _ na _ rfl HOW1.out _ 1 1 [(j : Int)] _ _ rfl rfl HSJ.out (by omega) (by simp; omega) ?_; intro v3 w7 hown3 hgr3; obtain ⟨A3, c3, rfl⟩ := ownsRow_form hown3; have HO3 := Lib.hid hown3; have HB7 := Lib.hid ((HBY1.out.alloc HBY1.out.size _).grown hgr3 (by simp; omega) (fun g' hg' => (HLT.out g' hg').1)); clear hown3 hgr3)
                        go_roundw
                        case rel => exact ⟨j + 1, by omega, by go_num, HB7.out, by rw [HNJ.out, List.length_append, HNA.out, List.map_append]; exact HO3.out⟩
                        case measure => simp [intOf]; omega
                      · have hkj' : decide ((j : Int) ≤ (k : Int)) = true := decide_eq_true (by omega)
                        have hy : hitK ts (x, y, z) j (k + 1) = false := by rw [hitK_next HX2.out, HH.out, Bool.false_or]; rw [hitB, hwb, hdc, decide_eq_false hkj]; rfl
                        clear hwb hdc
                        have HNX := Lib.hid hy
                        clear hy
                        go_wp2
                        go_roundw
                        case rel => exact ⟨k + 1, by omega, by go_num, (by first | rfl | trivial), HBY.out, HNX.out⟩
                        case measure => simp [intOf]; omega
            · obtain rfl : k = n := by omega
              have HNJ := Lib.hid (nnK_no HX.out (by rw [HN.out]; exact hh))
              have HBZ1 := Lib.hid (HBI.out.trans (hbz.mono (by omega)))
              have HOWZ := Lib.hid (row_below HOWI.out hbz)
              clear hbz hh
              go_wp2
              go_roundw
              case rel => exact ⟨j + 1, by omega, by go_num, HBZ1.out, by rw [HNJ.out, HNA.out]; exact HOWZ.out⟩
              case measure => simp [intOf]; omega
        · obtain rfl : j = n := by omega
          clear hown hbr
          have HFO := Lib.hid (ownsRow_own (ys := nnK ts j) (by rw [HNA.out]; exact HOWN.out)).2
          go_wp2
          go_ret2
          exact ⟨Ba, na, da, rfl, HNA.out, HFO.out.more (by omega) (Nat.le_refl _), HB1.out.trans (HBR.out.mono hz1)⟩

set_option maxRecDepth 100000 in
set_option maxHeartbeats 4000000 in
theorem impl_NeverNeeded (A : Option Addr) (n c : Nat) (ts : List (Int × Int × Int)) (lo hi : Nat) (w : World) (hn : ts.length = n) (hlen : n ≤ 1048576) (hs : Seg w lo hi A (flat3 ts)) (hB : hi ≤ w.heap.size) (q : Bool) (hq : goodI ts = q) :
    Calls Try.prog 20 #[.slice A n c] w (RetL q (someN q (nnK ts ts.length)) w) := by
  have HN := Lib.hid hn
  have HQ := Lib.hid hq
  have HS := Lib.hid hs
  cases q
  · clear hn hq hs
    go_enter Try.func20, Try.ntmps20
    go_wp2_with fail
    refine (areItems_any A n c ts lo hi _ HN.out hlen HS.out hB _ HQ.out).mono ?_
    rintro e w1 ⟨rfl, hb1⟩
    go_wp2
    go_ret2
    exact ⟨none, 0, 0, rfl, rfl, Own.nil_, hb1⟩
  · obtain ⟨i0, hi0, hy0, hy1, hy2⟩ := info_parts int_info
    have hn10 : n ≤ 10 := by rw [← hn]; exact (goodI_ok hq).len
    have HNN := Lib.hid (show someN true (nnK ts ts.length) = nnK ts n by rw [hn]; rfl)
    rw [HNN.out]
    clear hn hq hs
    go_enter Try.func20, Try.ntmps20
    go_wp2_with fail
    refine (areItems_any A n c ts lo hi _ HN.out hlen HS.out hB _ HQ.out).mono ?_
    rintro e w1 ⟨rfl, hb1⟩
    have hz1 := hb1.size
    have HB1 := Lib.hid hb1
    have HS1 := Lib.hid (HS.out.below hb1 hB)
    clear hb1
    have hba := (Below.refl w1.heap.size w1).alloc (Nat.le_refl _) (.cells #[.slice A n c, .int .i64 0, .int .i64 0] 62)
    have hz2 : (w1.alloc (.cells #[.slice A n c, .int .i64 0, .int .i64 0] 62)).heap.size = w1.heap.size + 1 := by simp
    have hl2 := new_at w1 (.cells #[.slice A n c, .int .i64 0, .int .i64 0] 62) rfl
    have hs2 := HS1.out.below hba (by omega)
    obtain ⟨w2, hw2⟩ : ∃ w2, w1.alloc (.cells #[.slice A n c, .int .i64 0, .int .i64 0] 62) = w2 := ⟨_, rfl⟩
    rw [hw2] at hba hz2 hl2 hs2
    have HW2 := Lib.hid hw2
    have HL2 := Lib.hid hl2
    have HS2 := Lib.hid hs2
    have HB2 := Lib.hid (HB1.out.trans (hba.mono hz1))
    clear hba hl2 hs2 hw2
    go_wp2
    try rw [HW2.out]
    go_loopw [5, 6, 14] (fun o _ i wr => ∃ j : Nat, j ≤ n ∧ i = .int .i64 j ∧ Below w2.heap.size w2 wr ∧ wr.ownsRow w2.heap.size 3 1 o (nnK ts j).length ((nnK ts j).map (Value.int .i64))) (fun _ _ i _ => n - (intOf i).toNat)
    case atStart => exact ⟨0, Nat.zero_le _, rfl, Below.refl _ _, World.ownsRow_nil _ _ _ _⟩
    case round =>
        rename World => wr
        obtain ⟨j, hj, rfl, hbr, hown⟩ := hrel
        obtain ⟨Ba, da, rfl⟩ := ownsRow_form hown
        obtain ⟨na, hna⟩ : ∃ na, (nnK ts j).length = na := ⟨_, rfl⟩
        rw [hna] at hown ⊢
        have hna10 : na ≤ 10 := by rw [← hna]; exact Nat.le_trans (nnK_len _ _) (by omega)
        have HNA := Lib.hid hna
        have HOWN := Lib.hid hown
        have HBR := Lib.hid hbr
        have hsr := hbr.size
        clear hna
        by_cases hlt : j < n
        · have hlu := (hbr.block w1.heap.size (by omega)).trans HL2.out
          have l0 := cell_of hlu 0
          have l1 := cell_of hlu 1
          have l2 := cell_of hlu 2
          obtain ⟨a, ha⟩ : ∃ a, ts[j]? = some a := ⟨_, List.getElem?_eq_getElem (by rw [HN.out]; exact hlt)⟩
          have HA := Lib.hid ha
          have HSR := Lib.hid (HS2.out.below hbr (by omega))
          obtain ⟨v, hv⟩ : ∃ v, hitK ts a j n = v := ⟨_, rfl⟩
          have HV := Lib.hid hv
          clear hown hbr hlu ha hv
          go_wp2_with fail
          refine (isNeedless_any A n c _ _ ts j a lo hi _ HN.out hlen hlt HA.out HSR.out (by omega) _ HV.out).mono ?_
          rintro e wy ⟨rfl, hb3⟩
          have HBY1 := Lib.hid (HBR.out.trans (hb3.mono hsr))
          have HOWY := Lib.hid (row_below HOWN.out hb3)
          have hzy := hb3.size
          clear hb3 l0 l1 l2
          cases v
          · have HNJ := Lib.hid (nnK_no HA.out (by rw [HN.out]; exact HV.out))
            go_wp2
            go_roundw
            case rel => exact ⟨j + 1, by omega, by go_num, HBY1.out, by rw [HNJ.out, HNA.out]; exact HOWY.out⟩
            case measure => simp [intOf]; omega
          · have HNJ := Lib.hid (nnK_yes HA.out (by rw [HN.out]; exact HV.out))
            have HOW1 := Lib.hid (HOWY.out.alloc (.cells #[.int .i64 (j : Int)] 3))
            have HSJ := Lib.hid (seg_one wy (j : Int) 3)
            have HLT := Lib.hid HOWY.out.lt
            go_wp2_with (at_builtin; refine wpList_append_seg _ rfl _ _ 23 rfl w2.heap.size 3 i0 Try.underlying23 hi0 hy0 hy1 hy2 _ na _ rfl HOW1.out _ 1 1 [(j : Int)] _ _ rfl rfl HSJ.out (by omega) (by simp; omega) ?_; intro v3 w7 hown3 hgr3; obtain ⟨A3, c3, rfl⟩ := ownsRow_form hown3; have HO3 := Lib.hid hown3; have HB7 := Lib.hid ((HBY1.out.alloc HBY1.out.size _).grown hgr3 (by simp; omega) (fun g' hg' => (HLT.out g' hg').1)); clear hown3 hgr3)
            go_roundw
            case rel => exact ⟨j + 1, by omega, by go_num, HB7.out, by rw [HNJ.out, List.length_append, HNA.out, List.map_append]; exact HO3.out⟩
            case measure => simp [intOf]; omega
        · obtain rfl : j = n := by omega
          clear hown hbr
          have HFO := Lib.hid (ownsRow_own (ys := nnK ts j) (by rw [HNA.out]; exact HOWN.out)).2
          go_wp2
          go_ret2
          exact ⟨Ba, na, da, rfl, HNA.out, HFO.out.more (by omega) (Nat.le_refl _), HB2.out.trans (HBR.out.mono (by omega))⟩
end Go.Proofs.Ytmgloknghoeheab
