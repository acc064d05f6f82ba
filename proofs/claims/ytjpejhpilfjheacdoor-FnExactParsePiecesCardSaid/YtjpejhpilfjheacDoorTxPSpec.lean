/-
  The checking program's pieces of a text.
  Conditions: none.
-/
import Derived.Test.YtjpejhpilfjheacDoorTxPPure
import Derived.Test.YtjpejhpilfjheacDoorTxCut
import Derived.Test.YtjpejhpilfjheacDoorAppendFlat3
namespace Go.Proofs.YtjpejhpilfjheacDoor
set_option linter.unusedVariables false
open Go.RowKit

theorem boxT_noZ {s x : ByteArray} (hx : x ∈ splitW 44 s) (h : threeBZ x = false) : boxTZ s = false := by
  rw [boxTZ, List.all_eq_false.2 ⟨x, hx, by simp [h]⟩, Bool.false_and, Bool.and_false]
theorem boxT_allZ {s : ByteArray} (hs : s.size ≤ 50) (h : ∀ x ∈ splitW 44 s, threeBZ x = true) : boxTZ s = goodPc (bxsSZ s) := by
  rw [boxTZ, List.all_eq_true.2 h, decide_eq_true hs, Bool.true_and, Bool.true_and]

theorem splitW_posZ (b : UInt8) (s : ByteArray) : 0 < (splitW b s).length := by rw [splitW, List.length_append]; simp

/-- Two words of a word, the first of two words, make a piece. -/
theorem trip_threeZ {x p v x0 x1 : ByteArray} (h : splitW 61 x = [p, v]) (h2 : splitW 120 p = [x0, x1]) : threeBZ x = true ∧ tripSZ x = (readL x0.data.toList, readL x1.data.toList, readL v.data.toList) := by
  have hp : halfZ x = p := by rw [halfZ, h]; rfl
  rw [threeBZ, tripSZ, hp, h, h2]
  exact ⟨rfl, rfl⟩

set_option maxRecDepth 100000 in
set_option maxHeartbeats 4000000 in
theorem neParse_anyZ (s : ByteArray) (w : World) (hmax : s.size ≤ 9223372036854775807) (q : Bool) (hq : boxTZ s = q) :
    Calls Tryd.prog 9 #[.string s] w (RetNL q (listN q (bxsSZ s)) w) := by
  by_cases hbig : 50 < s.size
  · obtain rfl : q = false := by
      rw [← hq, boxTZ, decide_eq_false (by omega), Bool.false_and]
    have hbig' : decide ((s.size : Int) > 50) = true := by simp; omega
    go_enter Tryd.func9, Tryd.ntmps9
    go_wp2
    go_ret2
    exact ⟨none, 0, 0, rfl, rfl, Own.nil_, Below.refl _ _⟩
  · have hbig' : decide ((s.size : Int) > 50) = false := by simp; omega
    obtain ⟨i0, hi0, hz0, hz1, hz2⟩ := info_parts piece_info
    have HQ := Lib.hid hq
    have HC := Lib.hid (cut_size 44 s)
    have HNO := Lib.hid (fun x hx h => boxT_noZ (s := s) (x := x) hx h)
    have HALL := Lib.hid (boxT_allZ (s := s) (by omega))
    clear hq
    go_enter Tryd.func9, Tryd.ntmps9
    go_wp2_with fail
    refine (l1Split_any 44 s _ (by omega)).mono ?_
    rintro e w1 ⟨v, rfl, hown, hb1⟩
    have hwl := splitW_length 44 s
    have hw1 := splitW_posZ 44 s
    have HBS := Lib.hid (show bxsSZ s = (splitW 44 s).map tripSZ from rfl)
    generalize hW : splitW 44 s = ws at *
    generalize hB : bxsSZ s = bs at *
    obtain ⟨g, cap, rfl, hg0, hg1, hcell⟩ := ownsRow_words hown hw1
    obtain ⟨n, hn⟩ : ∃ n, ws.length = n := ⟨_, rfl⟩
    rw [hn] at hwl hw1 ⊢
    have HN := Lib.hid hn
    have HCE := Lib.hid hcell
    have HBL := Lib.hid (show bs.length = n by rw [HBS.out, List.length_map]; exact hn)
    have hz1' := hb1.size
    clear hown hcell hW hn hB
    go_wp2
    go_loopw [4, 15] (fun o i wr => ∃ k : Nat, k ≤ n ∧ i = .int .i64 k ∧ Below w1.heap.size w1 wr ∧ wr.ownsRow w1.heap.size 34 3 o k (vals3 (bs.take k)) ∧ ∀ (j : Nat) x, j < k → ws[j]? = some x → threeBZ x = true) (fun _ i _ => n - (intOf i).toNat)
    case atStart => exact ⟨0, Nat.zero_le _, rfl, Below.refl _ _, World.ownsRow_nil _ _ _ _, fun j x hj => by omega⟩
    case round =>
      obtain ⟨k, hk, rfl, hb, hownk, hall⟩ := hrel
      have hz := hb.size
      have HA := Lib.hid hall
      clear hall
      by_cases hlt : k < n
      · obtain ⟨x, hx⟩ : ∃ x, ws[k]? = some x := ⟨_, List.getElem?_eq_getElem (by rw [HN.out]; exact hlt)⟩
        have hc : wr.cell? ⟨g, k, none⟩ = some (.string x) := (hb.cell hg1).trans (HCE.out k x hx)
        have hxs := HC.out x (List.mem_of_getElem? hx)
        have HX := Lib.hid hx
        have HBK := Lib.hid (show bs[k]? = some (tripSZ x) by rw [HBS.out, List.getElem?_map, hx]; rfl)
        have hx2 := cut_size 61 x
        have hwp := splitW_posZ 61 x
        obtain ⟨m, hm⟩ : ∃ m, (splitW 61 x).length = m := ⟨_, rfl⟩
        have HM := Lib.hid hm
        clear hx hm
        go_wp2_with fail
        refine (l1Split_any 61 x _ (by omega)).mono ?_
        rintro e w2 ⟨v2, rfl, hown2, hb2⟩
        rw [HM.out] at hown2 hwp
        obtain ⟨g2, cap2, rfl, hg20, hg21, hcell2⟩ := ownsRow_words hown2 hwp
        have HOW2 := Lib.hid (row_below hownk hb2)
        have HLT := Lib.hid hownk.lt
        have HB2 := Lib.hid (hb.trans (hb2.mono hz))
        have HC2 := Lib.hid hcell2
        clear hown2 hcell2 hownk
        by_cases hm2 : m = 2
        · subst hm2
          obtain ⟨p, v, hxx⟩ := list2Z HM.out
          have hc20 : w2.cell? ⟨g2, 0, none⟩ = some (.string p) := HC2.out 0 p (by rw [hxx]; rfl)
          have hc21 : w2.cell? ⟨g2, 1, none⟩ = some (.string v) := HC2.out 1 v (by rw [hxx]; rfl)
          have hps : p.size ≤ x.size := hx2 p (by rw [hxx]; simp)
          have hvs : v.size ≤ 9223372036854775807 := by have := hx2 v (by rw [hxx]; simp); omega
          have HXX := Lib.hid hxx
          have hx3 := cut_size 120 p
          have hwp3 := splitW_posZ 120 p
          have hzw2 := hb2.size
          obtain ⟨m3, hm3⟩ : ∃ m3, (splitW 120 p).length = m3 := ⟨_, rfl⟩
          have HM3 := Lib.hid hm3
          clear hxx hm3 hx2
          go_wp2_with fail
          refine (l1Split_any 120 p _ (by omega)).mono ?_
          rintro e w3 ⟨v3, rfl, hown3, hb3⟩
          rw [HM3.out] at hown3 hwp3
          obtain ⟨g3, cap3, rfl, hg30, hg31, hcell3⟩ := ownsRow_words hown3 hwp3
          have HOW := Lib.hid (row_below HOW2.out hb3)
          have HB3 := Lib.hid (HB2.out.trans (hb3.mono HB2.out.size))
          have HC3 := Lib.hid hcell3
          have hc21' := (hb3.cell (cell_lt hc21)).trans hc21
          have HCV := Lib.hid hc21'
          clear hown3 hcell3 hc20 hc21 hc21' hb3
          by_cases hm4 : m3 = 2
          · subst hm4
            obtain ⟨x0, x1, hyy⟩ := list2Z HM3.out
            obtain ⟨htw, hpr⟩ := trip_threeZ HXX.out hyy
            have hc30 : w3.cell? ⟨g3, 0, none⟩ = some (.string x0) := HC3.out 0 x0 (by rw [hyy]; rfl)
            have hc31 : w3.cell? ⟨g3, 1, none⟩ = some (.string x1) := HC3.out 1 x1 (by rw [hyy]; rfl)
            have hc32 := HCV.out
            have hs0 : x0.size ≤ 9223372036854775807 := by have := hx3 x0 (by rw [hyy]; simp); omega
            have hs1 : x1.size ≤ 9223372036854775807 := by have := hx3 x1 (by rw [hyy]; simp); omega
            have hs2 : v.size ≤ 9223372036854775807 := hvs
            have HTW := Lib.hid htw
            obtain ⟨t, ht⟩ : ∃ t, readL x0.data.toList = t := ⟨_, rfl⟩
            obtain ⟨u, hu⟩ : ∃ u, readL x1.data.toList = u := ⟨_, rfl⟩
            obtain ⟨z, hzz⟩ : ∃ z, readL v.data.toList = z := ⟨_, rfl⟩
            rw [ht, hu, hzz] at hpr
            have HT := Lib.hid ht
            have HU := Lib.hid hu
            have HV := Lib.hid hzz
            have HNX := Lib.hid (show bs.take (k + 1) = bs.take k ++ [(t, u, z)] by rw [List.take_add_one, HBK.out, hpr]; rfl)
            clear hyy htw hpr hx3 ht hu hzz
            go_wp2_with fail
            refine wp_region_held_drew (S := (fun wq => wq.cell? ⟨g3, 0, none⟩ = some (.string x0) ∧ wq.cell? ⟨g3, 1, none⟩ = some (.string x1) ∧ wq.cell? ⟨g2, 1, none⟩ = some (.string v))) (by kernel_rfl) ⟨hc30, hc31, hc32⟩ (fun hH0 => ?_)
            refine wpAnyH_take (i := 0) (v := ?_) (ops_at rfl) (by kernel_rfl) (by kernel_rfl) (by kernel_rfl) (fun _ _ _ h => h) (Or.inl ⟨by rfl, ?yk0⟩) (by assumption) ?nk0
            case yk0 => (intro wS hSw; (try dsimp only at hSw); go_simp; try rfl)
            try simp only [Act.put, List.setIfInBounds_toArray, List.set_cons_zero, List.set_cons_succ]
            refine wpAnyH_take (i := 1) (v := ?_) (ops_at rfl) (by kernel_rfl) (by kernel_rfl) (by kernel_rfl) (fun _ _ _ h => h) (Or.inl ⟨by rfl, ?yk1⟩) (by assumption) ?nk1
            case yk1 => (intro wS hSw; (try dsimp only at hSw); go_simp; try rfl)
            try simp only [Act.put, List.setIfInBounds_toArray, List.set_cons_zero, List.set_cons_succ]
            refine wpAnyH_take (i := 2) (v := ?_) (ops_at rfl) (by kernel_rfl) (by kernel_rfl) (by kernel_rfl) (fun _ _ _ h => h) (Or.inl ⟨by rfl, ?yk2⟩) (by assumption) ?nk2
            case yk2 => (intro wS hSw; (try dsimp only at hSw); go_simp; try rfl)
            try simp only [Act.put, List.setIfInBounds_toArray, List.set_cons_zero, List.set_cons_succ]
            refine wpAnyH_take (i := 3) (v := ?_) (ops_at rfl) (by kernel_rfl) (by kernel_rfl) (by kernel_rfl) (fun _ _ _ h => h) (Or.inl ⟨by rfl, ?yk3⟩) (by assumption) ?nk3
            case yk3 => (intro wS hSw; (try dsimp only at hSw); go_simp; try rfl)
            try simp only [Act.put, List.setIfInBounds_toArray, List.set_cons_zero, List.set_cons_succ]
            refine wpAnyH_take (i := 5) (v := ?_) (ops_at rfl) (by kernel_rfl) (by kernel_rfl) (by kernel_rfl) (fun _ _ _ h => h) (Or.inl ⟨by rfl, ?yk5⟩) (by assumption) ?nk5
            case yk5 => (intro wS hSw; (try dsimp only at hSw); go_simp; try rfl)
            try simp only [Act.put, List.setIfInBounds_toArray, List.set_cons_zero, List.set_cons_succ]
            refine wpAnyH_take (i := 6) (v := ?_) (ops_at rfl) (by kernel_rfl) (by kernel_rfl) (by kernel_rfl) (fun _ _ _ h => h) (Or.inl ⟨by rfl, ?yk6⟩) (by assumption) ?nk6
            case yk6 => (intro wS hSw; (try dsimp only at hSw); go_simp; try rfl)
            try simp only [Act.put, List.setIfInBounds_toArray, List.set_cons_zero, List.set_cons_succ]
            refine wpAnyH_take (i := 7) (v := ?_) (ops_at rfl) (by kernel_rfl) (by kernel_rfl) (by kernel_rfl) (fun _ _ _ h => h) (Or.inl ⟨by rfl, ?yk7⟩) (by assumption) ?nk7
            case yk7 => (intro wS hSw; (try dsimp only at hSw); go_simp; try rfl)
            try simp only [Act.put, List.setIfInBounds_toArray, List.set_cons_zero, List.set_cons_succ]
            refine wpAnyH_take (i := 9) (v := ?_) (ops_at rfl) (by kernel_rfl) (by kernel_rfl) (by kernel_rfl) (fun _ _ _ h => h) (Or.inl ⟨by rfl, ?yk9⟩) (by assumption) ?nk9
            case yk9 => (intro wS hSw; (try dsimp only at hSw); go_simp; try rfl)
            try simp only [Act.put, List.setIfInBounds_toArray, List.set_cons_zero, List.set_cons_succ]
            refine wpAnyH_take (i := 10) (v := ?_) (ops_at rfl) (by kernel_rfl) (by kernel_rfl) (by kernel_rfl) (fun _ _ _ h => h) (Or.inl ⟨by rfl, ?yk10⟩) (by assumption) ?nk10
            case yk10 => (intro wS hSw; (try dsimp only at hSw); go_simp; try rfl)
            try simp only [Act.put, List.setIfInBounds_toArray, List.set_cons_zero, List.set_cons_succ]
            refine wpAnyH_take (i := 11) (v := ?_) (ops_at rfl) (by kernel_rfl) (by kernel_rfl) (by kernel_rfl) (fun _ _ _ h => h) (Or.inl ⟨by rfl, ?yk11⟩) (by assumption) ?nk11
            case yk11 => (intro wS hSw; (try dsimp only at hSw); go_simp; try rfl)
            try simp only [Act.put, List.setIfInBounds_toArray, List.set_cons_zero, List.set_cons_succ]
            refine wpAnyH_ready (rs := [4]) (by kernel_rfl) (by simp) ?_
            refine AllReadyH.cons (ops_at rfl) (fun K hK => ?_) AllReadyH.nil
            go_simp
            refine (l1Read_any x0 _ hs0).mono ?_
            rintro e wb4 ⟨rfl, rfl⟩
            dsimp only
            refine hK.out _ _ ⟨hc30, hc31, hc32⟩ (fun hH4 => ?_)
            clear hK K
            refine wpAnyH_ready (rs := [8]) (by kernel_rfl) (by simp) ?_
            refine AllReadyH.cons (ops_at rfl) (fun K hK => ?_) AllReadyH.nil
            go_simp
            refine (l1Read_any x1 _ hs1).mono ?_
            rintro e wb8 ⟨rfl, rfl⟩
            dsimp only
            refine hK.out _ _ ⟨hc30, hc31, hc32⟩ (fun hH8 => ?_)
            clear hK K
            refine wpAnyH_ready (rs := [12]) (by kernel_rfl) (by simp) ?_
            refine AllReadyH.cons (ops_at rfl) (fun K hK => ?_) AllReadyH.nil
            go_simp
            refine (l1Read_any v _ hs2).mono ?_
            rintro e wb12 ⟨rfl, rfl⟩
            dsimp only
            refine hK.out _ _ ⟨hc30, hc31, hc32⟩ (fun hH12 => ?_)
            clear hK K
            refine wpAnyH_take (i := 13) (v := .agg #[.int .i64 t, .int .i64 u, .int .i64 z]) (ops_at rfl) (by kernel_rfl) (by kernel_rfl) (by kernel_rfl) (fun _ _ _ h => h) (Or.inl ⟨by rfl, ?y13⟩) (by assumption) ?n13
            case y13 => (intro wS hSw; (try dsimp only at hSw); rw [HT.out, HU.out, HV.out]; go_simp; try rfl)
            try simp only [Act.put, List.setIfInBounds_toArray, List.set_cons_zero, List.set_cons_succ]
            refine wpAnyH_ready (rs := [14]) (by kernel_rfl) (by simp) ?_
            refine AllReadyH.cons (ops_at rfl) (fun K hK => ?_) AllReadyH.nil
            go_simp
            have z6 := ((Below.refl w3.heap.size w3).alloc (Nat.le_refl _) (.cells #[.int .i64 t, .int .i64 u, .int .i64 z] 34)).drew
            have R6 := HOW.out.alloc (.cells #[.int .i64 t, .int .i64 u, .int .i64 z] 34)
            have L6 := seg_box w3 t u z 34
            have hc30b := (z6.cell (by exact cell_lt hc30)).trans hc30
            have hc31b := (z6.cell (by exact cell_lt hc31)).trans hc31
            have hc32b := (z6.cell (by exact cell_lt hc32)).trans hc32
            refine hK.out _ _ ⟨hc30b, hc31b, hc32b⟩ (fun hH14 => ?_)
            clear hK K
            refine wpAnyH_ready (rs := [15]) (by kernel_rfl) (by simp) ?_
            refine AllReadyH.cons (ops_at rfl) (fun K hK => ?_) AllReadyH.nil
            refine step_append_flat3 _ rfl (.tmp 31) (.tmp 45) 22 rfl w1.heap.size 34 i0 Tryd.underlying22 hi0 hz0 hz1 hz2 _ k _ rfl R6 _ 1 1 [(t, u, z)] _ _ rfl rfl L6 (by omega) (Nat.le_trans HB3.out.size z6.size) ?_
            intro vb xb hob hgb
            have zb := (HB3.out.trans (z6.mono HB3.out.size)).trans (below_of_grown3 hgb (fun g hg => (R6.lt g hg).1) (Nat.le_trans HB3.out.size z6.size))
            refine hK.out _ _ ⟨hgb.cell hc30b (fun e => by have := HLT.out g3 e.symm; omega), hgb.cell hc31b (fun e => by have := HLT.out g3 e.symm; omega), hgb.cell hc32b (fun e => by have := HLT.out g2 e.symm; omega)⟩ (fun hH15 => ?_)
            clear hK K
            have HF := Lib.hid (show xb.ownsRow w1.heap.size 34 3 vb (k + 1) (vals3 (bs.take (k + 1))) by rw [HNX.out, vals3_append]; exact hob)
            clear hob
            refine wpAnyH_take (i := 16) (v := ?_) (ops_at rfl) (by kernel_rfl) (by kernel_rfl) (by kernel_rfl) (fun _ _ _ h => h) (Or.inl ⟨by rfl, ?y16⟩) (by assumption) ?n16
            case y16 => (intro wS hSw; (try dsimp only at hSw); go_simp; try rfl)
            try simp only [Act.put, List.setIfInBounds_toArray, List.set_cons_zero, List.set_cons_succ]
            refine wpAnyH_done (by kernel_rfl) ?_ _
            go_wp2
            go_roundw
            case rel =>
              refine ⟨k + 1, by omega, by go_num, zb, HF.out, fun j y hj hy => ?_⟩
              by_cases e : j = k
              · subst e; rw [HX.out] at hy; injection hy with hy; subst hy; exact HTW.out
              · exact HA.out j y (by omega) hy
            case measure => simp [intOf]; omega
          · have hqf : q = false := by
              rw [← HQ.out]
              exact HNO.out x (List.mem_of_getElem? HX.out) (by rw [threeBZ, show halfZ x = p by rw [halfZ, HXX.out]; rfl, HM3.out, decide_eq_false hm4, Bool.and_false])
            subst hqf
            clear hx3
            go_wp2
            go_ret2
            exact ⟨none, 0, 0, rfl, rfl, Own.nil_, hb1.trans (HB3.out.mono hz1')⟩
        · have hqf : q = false := by
            rw [← HQ.out]
            exact HNO.out x (List.mem_of_getElem? HX.out) (by rw [threeBZ, HM.out, decide_eq_false hm2, Bool.false_and])
          subst hqf
          clear hx2
          go_wp2
          go_ret2
          exact ⟨none, 0, 0, rfl, rfl, Own.nil_, hb1.trans (HB2.out.mono hz1')⟩
      · obtain rfl : k = n := by omega
        rw [List.take_of_length_le (by rw [HBL.out]; exact Nat.le_refl _)] at hownk
        obtain ⟨Ao, co, rfl, hol, hoc, hoo⟩ := seg_of_row3 hownk
        have hqe : goodPc bs = q := by
          rw [← HQ.out]
          exact (HALL.out fun x hx => by
            obtain ⟨j, hj⟩ := List.getElem?_of_mem hx
            exact HA.out j x (by have := (List.getElem?_eq_some_iff.1 hj).1; have := HN.out; omega) hj).symm
        have HOO := Lib.hid hoo
        have HOL := Lib.hid hol
        have HQE := Lib.hid hqe
        have HFB := Lib.hid (hb1.trans (hb.mono hz1'))
        clear hownk hol hoo hqe
        cases q
        all_goals
          go_wp2_with fail
          refine (bdPieces_any Ao k co bs _ _ _ HOL.out (by omega) HOO.out.seg (Nat.le_refl _) _ HQE.out).mono ?_
          rintro e w2 ⟨rfl, hb2⟩
          go_wp2
          go_ret2
          first
            | exact ⟨none, 0, 0, rfl, rfl, Own.nil_, HFB.out.trans (hb2.mono HFB.out.size)⟩
            | exact ⟨Ao, k, co, rfl, HOL.out, (HOO.out.below hb2 (Nat.le_refl _)).more hz1' hb2.size, HFB.out.trans (hb2.mono HFB.out.size)⟩

theorem specParseBoxes_anyZ (s : ByteArray) (w : World) (hmax : s.size ≤ 9223372036854775807) (q : Bool) (hq : boxTZ s = q) :
    Calls Tryd.prog 4 #[.string s] w (RetNL q (listN q (bxsSZ s)) w) := by
  have HQ := Lib.hid hq
  clear hq
  go_enter Tryd.func4, Tryd.ntmps4
  go_wp2_with fail
  refine (neParse_anyZ s _ hmax q HQ.out).mono ?_
  rintro e w1 ⟨A, n, c, rfl, hn, hown, hb⟩
  go_wp2
  go_ret2
  exact ⟨A, n, c, rfl, hn, hown, hb⟩
end Go.Proofs.YtjpejhpilfjheacDoor
