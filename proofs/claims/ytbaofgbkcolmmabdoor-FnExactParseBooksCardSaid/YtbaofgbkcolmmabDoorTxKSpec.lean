/-
  The checking program's books of a text.
  Conditions: none.
-/
import Derived.Test.YtbaofgbkcolmmabDoorTxKPure
import Derived.Test.YtbaofgbkcolmmabDoorTxCut
import Derived.Test.YtbaofgbkcolmmabDoorAppendFlat
namespace Go.Proofs.YtbaofgbkcolmmabDoor
set_option linter.unusedVariables false
open Go.RowKit

theorem bookT_no {s x : ByteArray} (hx : x ∈ splitW 44 s) (h : twoB x = false) : bookT s = false := by
  rw [bookT, List.all_eq_false.2 ⟨x, hx, by simp [h]⟩, Bool.false_and, Bool.and_false]
theorem bookT_all {s : ByteArray} (hs : s.size ≤ 100) (h : ∀ x ∈ splitW 44 s, twoB x = true) : bookT s = (goodK (bksS s) && (joinB 44 ((bksS s).map bkS)).toList == s.toList) := by
  rw [bookT, List.all_eq_true.2 h, decide_eq_true hs, Bool.true_and, Bool.true_and]

theorem listK_none (bs : List (Int × Int)) : listK false bs = [] := rfl
theorem listK_some (bs : List (Int × Int)) : listK true bs = bs := rfl

theorem splitW_pos (b : UInt8) (s : ByteArray) : 0 < (splitW b s).length := by rw [splitW, List.length_append]; simp

/-- Two words of a word make a book. -/
theorem pair_two {x x0 x1 : ByteArray} (h : splitW 124 x = [x0, x1]) : twoB x = true ∧ pairS x = (readL x0.data.toList, readL x1.data.toList) := by
  rw [twoB, pairS, h]
  exact ⟨rfl, rfl⟩

theorem two_of {ws : List ByteArray} (h : ws.length = 2) : ∃ x0 x1, ws = [x0, x1] := by
  match ws, h with
  | [a, b], _ => exact ⟨a, b, rfl⟩

set_option maxRecDepth 100000 in
set_option maxHeartbeats 4000000 in
theorem specParseBooks_any (s : ByteArray) (w : World) (hmax : s.size ≤ 9223372036854775807) (q : Bool) (hq : bookT s = q) :
    Calls Tryd.prog 23 #[.string s] w (RetKL q (listK q (bksS s)) w) := by
  by_cases hbig : 100 < s.size
  · obtain rfl : q = false := by
      rw [← hq, bookT, decide_eq_false (by omega), Bool.false_and]
    have hbig' : decide ((s.size : Int) > 100) = true := by simp; omega
    go_enter Tryd.func23, Tryd.ntmps23
    go_wp2
    go_ret2
    exact ⟨none, 0, 0, rfl, rfl, Own.nil_, Below.refl _ _⟩
  · have hbig' : decide ((s.size : Int) > 100) = false := by simp; omega
    obtain ⟨i0, hi0, hz0, hz1, hz2⟩ := info_parts book_info
    have HQ := Lib.hid hq
    have HC := Lib.hid (cut_size 44 s)
    have HNO := Lib.hid (fun x hx h => bookT_no (s := s) (x := x) hx h)
    have HALL := Lib.hid (bookT_all (s := s) (by omega))
    clear hq
    go_enter Tryd.func23, Tryd.ntmps23
    go_wp2_with fail
    refine (l1Split_any 44 s _ (by omega)).mono ?_
    rintro e w1 ⟨v, rfl, hown, hb1⟩
    have hwl := splitW_length 44 s
    have hw1 := splitW_pos 44 s
    have HBS := Lib.hid (show bksS s = (splitW 44 s).map pairS from rfl)
    generalize hW : splitW 44 s = ws at *
    generalize hB : bksS s = bs at *
    obtain ⟨g, cap, rfl, hg0, hg1, hcell⟩ := ownsRow_words hown hw1
    obtain ⟨n, hn⟩ : ∃ n, ws.length = n := ⟨_, rfl⟩
    rw [hn] at hwl hw1 ⊢
    have HN := Lib.hid hn
    have HCE := Lib.hid hcell
    have HBL := Lib.hid (show bs.length = n by rw [HBS.out, List.length_map]; exact hn)
    have hz1' := hb1.size
    clear hown hcell hW hn hB
    go_wp2
    go_loopw [4, 14] (fun o i wr => ∃ k : Nat, k ≤ n ∧ i = .int .i64 k ∧ Below w1.heap.size w1 wr ∧ wr.ownsRow w1.heap.size 83 2 o k (vals (bs.take k)) ∧ ∀ (j : Nat) x, j < k → ws[j]? = some x → twoB x = true) (fun _ i _ => n - (intOf i).toNat)
    case atStart => exact ⟨0, Nat.zero_le _, rfl, Below.refl _ _, World.ownsRow_nil _ _ _ _, fun j x hj => by omega⟩
    case round =>
      obtain ⟨k, hk, rfl, hb, hownk, hall⟩ := hrel
      have hz := hb.size
      have HA := Lib.hid hall
      clear hall
      by_cases hlt : k < n
      · obtain ⟨x, hx⟩ : ∃ x, ws[k]? = some x := ⟨_, List.getElem?_eq_getElem (by rw [HN.out]; exact hlt)⟩
        have hc : wr.cell? ⟨g, k, none⟩ = some (.string x) := (hb.cell hg1).trans (HCE.out k x hx)
        have hxs := HC.out x (List.mem_of_getElem? hx)
        have HX := Lib.hid hx
        have HBK := Lib.hid (show bs[k]? = some (pairS x) by rw [HBS.out, List.getElem?_map, hx]; rfl)
        have hx2 := cut_size 124 x
        have hwp := splitW_pos 124 x
        obtain ⟨m, hm⟩ : ∃ m, (splitW 124 x).length = m := ⟨_, rfl⟩
        have HM := Lib.hid hm
        clear hx hm
        go_wp2_with fail
        refine (l1Split_any 124 x _ (by omega)).mono ?_
        rintro e w2 ⟨v2, rfl, hown2, hb2⟩
        rw [HM.out] at hown2 hwp
        obtain ⟨g2, cap2, rfl, hg20, hg21, hcell2⟩ := ownsRow_words hown2 hwp
        have HOW := Lib.hid (row_below hownk hb2)
        have HLT := Lib.hid hownk.lt
        have HB2 := Lib.hid (hb.trans (hb2.mono hz))
        have HC2 := Lib.hid hcell2
        clear hown2 hcell2 hownk
        by_cases hm2 : m = 2
        · subst hm2
          obtain ⟨x0, x1, hxx⟩ := two_of HM.out
          obtain ⟨htw, hpr⟩ := pair_two hxx
          have hc20 : w2.cell? ⟨g2, 0, none⟩ = some (.string x0) := HC2.out 0 x0 (by rw [hxx]; rfl)
          have hc21 : w2.cell? ⟨g2, 1, none⟩ = some (.string x1) := HC2.out 1 x1 (by rw [hxx]; rfl)
          have hs0 : x0.size ≤ 9223372036854775807 := by have := hx2 x0 (by rw [hxx]; simp); omega
          have hs1 : x1.size ≤ 9223372036854775807 := by have := hx2 x1 (by rw [hxx]; simp); omega
          have HTW := Lib.hid htw
          obtain ⟨t, ht⟩ : ∃ t, readL x0.data.toList = t := ⟨_, rfl⟩
          obtain ⟨u, hu⟩ : ∃ u, readL x1.data.toList = u := ⟨_, rfl⟩
          rw [ht, hu] at hpr
          have HT := Lib.hid ht
          have HU := Lib.hid hu
          have HNX := Lib.hid (show bs.take (k + 1) = bs.take k ++ [(t, u)] by rw [List.take_add_one, HBK.out, hpr]; rfl)
          clear hxx htw hpr hx2 ht hu
          go_wp2_with fail
          refine wp_region_held_drew (S := (fun wq => wq.cell? ⟨g2, 0, none⟩ = some (.string x0) ∧ wq.cell? ⟨g2, 1, none⟩ = some (.string x1))) (by kernel_rfl) ⟨hc20, hc21⟩ (fun hH0 => ?_)
          refine wpAnyH_take (i := 0) (v := ?_) (ops_at rfl) (by kernel_rfl) (by kernel_rfl) (by kernel_rfl) (fun _ _ _ h => h) (Or.inl ⟨by rfl, ?yk0⟩) (by assumption) ?nk0
          case yk0 => (intro wS hSw; (try dsimp only at hSw); go_simp; try rfl)
          try simp only [Act.put, List.setIfInBounds_toArray, List.set_cons_zero, List.set_cons_succ]
          refine wpAnyH_take (i := 1) (v := ?_) (ops_at rfl) (by kernel_rfl) (by kernel_rfl) (by kernel_rfl) (fun _ _ _ h => h) (Or.inl ⟨by rfl, ?yk1⟩) (by assumption) ?nk1
          case yk1 => (intro wS hSw; (try dsimp only at hSw); go_simp; try rfl)
          try simp only [Act.put, List.setIfInBounds_toArray, List.set_cons_zero, List.set_cons_succ]
          refine wpAnyH_take (i := 2) (v := ?_) (ops_at rfl) (by kernel_rfl) (by kernel_rfl) (by kernel_rfl) (fun _ _ _ h => h) (Or.inl ⟨by rfl, ?yk2⟩) (by assumption) ?nk2
          case yk2 => (intro wS hSw; (try dsimp only at hSw); go_simp; try rfl)
          try simp only [Act.put, List.setIfInBounds_toArray, List.set_cons_zero, List.set_cons_succ]
          refine wpAnyH_take (i := 3) (v := ?_) (ops_at rfl) (by kernel_rfl) (by kernel_rfl) (by kernel_rfl) (fun _ _ _ h => h) (Or.inl ⟨by rfl, ?yk3⟩) (by assumption) ?nk3
          case yk3 => (intro wS hSw; (try dsimp only at hSw); go_simp; try rfl)
          try simp only [Act.put, List.setIfInBounds_toArray, List.set_cons_zero, List.set_cons_succ]
          refine wpAnyH_take (i := 5) (v := ?_) (ops_at rfl) (by kernel_rfl) (by kernel_rfl) (by kernel_rfl) (fun _ _ _ h => h) (Or.inl ⟨by rfl, ?yk5⟩) (by assumption) ?nk5
          case yk5 => (intro wS hSw; (try dsimp only at hSw); go_simp; try rfl)
          try simp only [Act.put, List.setIfInBounds_toArray, List.set_cons_zero, List.set_cons_succ]
          refine wpAnyH_take (i := 6) (v := ?_) (ops_at rfl) (by kernel_rfl) (by kernel_rfl) (by kernel_rfl) (fun _ _ _ h => h) (Or.inl ⟨by rfl, ?yk6⟩) (by assumption) ?nk6
          case yk6 => (intro wS hSw; (try dsimp only at hSw); go_simp; try rfl)
          try simp only [Act.put, List.setIfInBounds_toArray, List.set_cons_zero, List.set_cons_succ]
          refine wpAnyH_take (i := 7) (v := ?_) (ops_at rfl) (by kernel_rfl) (by kernel_rfl) (by kernel_rfl) (fun _ _ _ h => h) (Or.inl ⟨by rfl, ?yk7⟩) (by assumption) ?nk7
          case yk7 => (intro wS hSw; (try dsimp only at hSw); go_simp; try rfl)
          try simp only [Act.put, List.setIfInBounds_toArray, List.set_cons_zero, List.set_cons_succ]
          refine wpAnyH_ready (rs := [4]) (by kernel_rfl) (by simp) ?_
          refine AllReadyH.cons (ops_at rfl) (fun K hK => ?_) AllReadyH.nil
          go_simp
          refine (l1Read_any x0 _ hs0).mono ?_
          rintro e wb4 ⟨rfl, rfl⟩
          dsimp only
          refine hK.out _ _ ⟨hc20, hc21⟩ (fun hH4 => ?_)
          clear hK K
          refine wpAnyH_ready (rs := [8]) (by kernel_rfl) (by simp) ?_
          refine AllReadyH.cons (ops_at rfl) (fun K hK => ?_) AllReadyH.nil
          go_simp
          refine (l1Read_any x1 _ hs1).mono ?_
          rintro e wb8 ⟨rfl, rfl⟩
          dsimp only
          refine hK.out _ _ ⟨hc20, hc21⟩ (fun hH8 => ?_)
          clear hK K
          refine wpAnyH_take (i := 9) (v := .agg #[.int .i64 t, .int .i64 u]) (ops_at rfl) (by kernel_rfl) (by kernel_rfl) (by kernel_rfl) (fun _ _ _ h => h) (Or.inl ⟨by rfl, ?y9⟩) (by assumption) ?n9
          case y9 => (intro wS hSw; (try dsimp only at hSw); rw [HT.out, HU.out]; go_simp; try rfl)
          try simp only [Act.put, List.setIfInBounds_toArray, List.set_cons_zero, List.set_cons_succ]
          refine wpAnyH_ready (rs := [10]) (by kernel_rfl) (by simp) ?_
          refine AllReadyH.cons (ops_at rfl) (fun K hK => ?_) AllReadyH.nil
          go_simp
          have z6 := ((Below.refl w2.heap.size w2).alloc (Nat.le_refl _) (.cells #[.int .i64 t, .int .i64 u] 83)).drew
          have R6 := HOW.out.alloc (.cells #[.int .i64 t, .int .i64 u] 83)
          have L6 := seg_book w2 t u 83
          have hc20b := (z6.cell (by exact cell_lt hc20)).trans hc20
          have hc21b := (z6.cell (by exact cell_lt hc21)).trans hc21
          refine hK.out _ _ ⟨hc20b, hc21b⟩ (fun hH10 => ?_)
          clear hK K
          refine wpAnyH_ready (rs := [11]) (by kernel_rfl) (by simp) ?_
          refine AllReadyH.cons (ops_at rfl) (fun K hK => ?_) AllReadyH.nil
          refine step_append_flat _ rfl (.tmp 23) (.tmp 33) 39 rfl w1.heap.size 83 i0 Tryd.underlying39 hi0 hz0 hz1 hz2 _ k _ rfl R6 _ 1 1 [(t, u)] _ _ rfl rfl L6 (by omega) (Nat.le_trans HB2.out.size z6.size) ?_
          intro vb xb hob hgb
          have zb := (HB2.out.trans (z6.mono HB2.out.size)).trans (below_of_grown hgb (fun g hg => (R6.lt g hg).1) (Nat.le_trans HB2.out.size z6.size))
          refine hK.out _ _ ⟨hgb.cell hc20b (fun e => by have := HLT.out g2 e.symm; omega), hgb.cell hc21b (fun e => by have := HLT.out g2 e.symm; omega)⟩ (fun hH11 => ?_)
          clear hK K
          have HF := Lib.hid (show xb.ownsRow w1.heap.size 83 2 vb (k + 1) (vals (bs.take (k + 1))) by rw [HNX.out, vals_append]; exact hob)
          clear hob
          refine wpAnyH_take (i := 12) (v := ?_) (ops_at rfl) (by kernel_rfl) (by kernel_rfl) (by kernel_rfl) (fun _ _ _ h => h) (Or.inl ⟨by rfl, ?y12⟩) (by assumption) ?n12
          case y12 => (intro wS hSw; (try dsimp only at hSw); go_simp; try rfl)
          try simp only [Act.put, List.setIfInBounds_toArray, List.set_cons_zero, List.set_cons_succ]
          refine wpAnyH_done (by kernel_rfl) ?_ _
          go_wp2
          go_roundw
          case rel =>
            refine ⟨k + 1, by omega, by go_num, zb, HF.out, fun j y hj hy => ?_⟩
            by_cases e : j = k
            · subst e; rw [HX.out] at hy; injection hy with hy; subst hy; exact HTW.out
            · exact HA.out j y (by omega) hy
          case measure => simp [intOf]; omega
        · have hqf : q = false := by
            rw [← HQ.out]
            exact HNO.out x (List.mem_of_getElem? HX.out) (by rw [twoB, HM.out]; exact decide_eq_false hm2)
          subst hqf
          clear hx2
          go_wp2
          go_ret2
          exact ⟨none, 0, 0, rfl, rfl, Own.nil_, hb1.trans (HB2.out.mono hz1')⟩
      · obtain rfl : k = n := by omega
        rw [List.take_of_length_le (by rw [HBL.out]; exact Nat.le_refl _)] at hownk
        obtain ⟨Ao, co, rfl, hol, hoc, hoo⟩ := seg_of_row hownk
        have hqe : (goodK bs && (joinB 44 (bs.map bkS)).toList == s.toList) = q := by
          rw [← HQ.out]
          exact (HALL.out fun x hx => by
            obtain ⟨j, hj⟩ := List.getElem?_of_mem hx
            exact HA.out j x (by have := (List.getElem?_eq_some_iff.1 hj).1; have := HN.out; omega) hj).symm
        obtain ⟨gb, hgb⟩ : ∃ gb, goodK bs = gb := ⟨_, rfl⟩
        have HG := Lib.hid hgb
        have HOO := Lib.hid hoo
        have HOL := Lib.hid hol
        have HQE := Lib.hid hqe
        have HFB := Lib.hid (hb1.trans (hb.mono hz1'))
        clear hownk hol hoo hqe hgb
        cases gb
        · obtain rfl : q = false := by rw [← HQE.out, HG.out, Bool.false_and]
          go_wp2_with fail
          refine (shGood_any Ao k co bs _ _ _ HOL.out (by omega) HOO.out.seg (Nat.le_refl _) _ HG.out).mono ?_
          rintro e w2 ⟨rfl, hb2⟩
          go_wp2
          go_ret2
          exact ⟨none, 0, 0, rfl, rfl, Own.nil_, HFB.out.trans (hb2.mono HFB.out.size)⟩
        · have HE := Lib.hid (show ((joinB 44 (bs.map bkS)).toList == s.toList) = q by rw [← HQE.out, HG.out, Bool.true_and])
          obtain ⟨tt, htt⟩ : ∃ tt, joinB 44 (bs.map bkS) = tt := ⟨_, rfl⟩
          have HTT := Lib.hid htt
          rw [htt] at HE
          clear htt
          cases q
          all_goals
            have hE := HE.out
            go_wp2_with fail
            refine (shGood_any Ao k co bs _ _ _ HOL.out (by omega) HOO.out.seg (Nat.le_refl _) _ HG.out).mono ?_
            rintro e w2 ⟨rfl, hb2⟩
            have hz2 := hb2.size
            go_wp2_with fail
            refine (shText_any Ao k co bs _ _ _ HOL.out (by omega) (good_plain HG.out) (HOO.out.seg.below hb2 (Nat.le_refl _)) hz2).mono ?_
            rw [HTT.out]
            rintro e w3 ⟨rfl, hb3⟩
            have HB3 := Lib.hid (hb2.trans (hb3.mono hz2))
            go_wp2
            go_ret2
            first
              | exact ⟨none, 0, 0, rfl, rfl, Own.nil_, HFB.out.trans (HB3.out.mono HFB.out.size)⟩
              | exact ⟨Ao, k, co, rfl, HOL.out, (HOO.out.below HB3.out (Nat.le_refl _)).more hz1' HB3.out.size, HFB.out.trans (HB3.out.mono HFB.out.size)⟩
end Go.Proofs.YtbaofgbkcolmmabDoor
