/-
  The checking program's things of a text.
  Conditions: none.
-/
import Derived.Test.YthlhpddfifpkeacDoorTxCut
import Derived.Test.YthlhpddfifpkeacDoorGood
import Derived.Test.YthlhpddfifpkeacDoorTxThingP
namespace Go.Proofs.YthlhpddfifpkeacDoor
set_option linter.unusedVariables false
open Go.RowKit

set_option maxRecDepth 100000 in
set_option maxHeartbeats 2000000 in
theorem bxParse_any (s : ByteArray) (w : World) (hmax : s.size ≤ 9223372036854775807) (q : Bool) (hq : thingB s = q) :
    Calls Tryd.prog 23 #[.string s] w (RetL q (someL q (numsOf 45 s)) w) := by
  by_cases hbig : 40 < s.size
  · obtain rfl : q = false := by
      rw [← hq, thingB, decide_eq_false (by omega), Bool.false_and]
    have hbig' : decide ((s.size : Int) > 40) = true := by simp; omega
    go_enter Tryd.func23, Tryd.ntmps23
    go_wp2
    go_ret2
    exact ⟨none, 0, 0, rfl, rfl, Own.nil_, Below.refl _ _⟩
  · have hbig' : decide ((s.size : Int) > 40) = false := by simp; omega
    obtain ⟨i0, hi0, hz0, hz1, hz2⟩ := info_parts int_info
    have HQ := Lib.hid (show goodB (numsOf 45 s) = q by rw [← hq, thingB, decide_eq_true (by omega), Bool.true_and])
    have HC := Lib.hid (cut_size 45 s)
    clear hq
    go_enter Tryd.func23, Tryd.ntmps23
    go_wp2_with fail
    refine (l1Split_any 45 s _ (by omega)).mono ?_
    rintro e w1 ⟨v, rfl, hown, hb1⟩
    have hwl := splitW_length 45 s
    have hw1 : 0 < (splitW 45 s).length := by rw [splitW, List.length_append]; simp
    have HNS := Lib.hid (show numsOf 45 s = (splitW 45 s).map (fun x => readL x.data.toList) from rfl)
    generalize hW : splitW 45 s = ws at *
    obtain ⟨g, cap, rfl, hg0, hg1, hcell⟩ := ownsRow_words hown hw1
    obtain ⟨n, hn⟩ : ∃ n, ws.length = n := ⟨_, rfl⟩
    rw [hn] at hwl hw1 ⊢
    have HN := Lib.hid hn
    have HCE := Lib.hid hcell
    have hz1' := hb1.size
    clear hown hcell hW hn
    go_wp2
    go_loopw [4, 13] (fun o i wr => ∃ k : Nat, k ≤ n ∧ i = .int .i64 k ∧ Below w1.heap.size w1 wr ∧ wr.ownsRow w1.heap.size 3 1 o k (((numsOf 45 s).take k).map (Value.int .i64))) (fun _ i _ => n - (intOf i).toNat)
    case atStart => exact ⟨0, Nat.zero_le _, rfl, Below.refl _ _, World.ownsRow_nil _ _ _ _⟩
    case round =>
      obtain ⟨k, hk, rfl, hb, hownk⟩ := hrel
      have hz := hb.size
      by_cases hlt : k < n
      · obtain ⟨x, hx⟩ : ∃ x, ws[k]? = some x := ⟨_, List.getElem?_eq_getElem (by rw [HN.out]; exact hlt)⟩
        have hc : wr.cell? ⟨g, k, none⟩ = some (.string x) := (hb.cell hg1).trans (HCE.out k x hx)
        have hxs := HC.out x (List.mem_of_getElem? hx)
        have HNX := Lib.hid (show (numsOf 45 s).take (k + 1) = (numsOf 45 s).take k ++ [readL x.data.toList] from take_snoc (by rw [HNS.out, List.getElem?_map, hx]; rfl))
        clear hx
        go_wp2_with fail
        refine (l1Read_any x _ (by omega)).mono ?_
        rintro e w2 ⟨rfl, rfl⟩
        generalize hr : readL x.data.toList = r at *
        clear hr
        go_wp2_with (at_builtin; refine wpList_append_own _ rfl _ _ 22 rfl w1.heap.size 3 i0 (.int .i64 0) 1 8 Tryd.underlying22 hi0 hz0 hz1 hz2 rfl (by decide) _ _ _ rfl (hownk.alloc _) ⟨wr.heap.size, 0, none⟩ 1 1 [.int .i64 r] rfl rfl (one_new _ _ _) (int_one _) (by unfold maxLen; omega) (by omega) (by simp; omega) ?_; intro v' w2 hown2 hgrow2 _)
        have HOW := Lib.hid (show w2.ownsRow w1.heap.size 3 1 v' (k + 1) (((numsOf 45 s).take (k + 1)).map (Value.int .i64)) by rw [HNX.out]; simpa using hown2)
        have HBB := Lib.hid ((hb.alloc hz (.cells #[.int .i64 r] 3)).grown hgrow2 (by simp; omega) (fun g hg => (hownk.lt g hg).1))
        clear hown2 hgrow2
        go_roundw
        case rel => exact ⟨k + 1, by omega, by go_num, HBB.out, HOW.out⟩
        case measure => simp [intOf]; omega
      · obtain rfl : k = n := by omega
        have hnl : (numsOf 45 s).length = k := by rw [HNS.out, List.length_map]; exact HN.out
        rw [List.take_of_length_le (by omega)] at hownk
        obtain ⟨A, c, rfl⟩ := ownsRow_form hownk
        have hown2 := (ownsRow_own (by rw [hnl]; exact hownk)).2
        have HO := Lib.hid hown2
        have HNL := Lib.hid hnl
        have HFB := Lib.hid (hb1.trans (hb.mono hz1'))
        clear hownk hown2 hnl
        cases q
        · go_wp2_with fail
          refine (bxGood_any A k c (numsOf 45 s) w1.heap.size wr.heap.size _ HNL.out (by omega) HO.out.seg _ HQ.out).mono ?_
          rintro e w2 ⟨rfl, rfl⟩
          go_wp2
          go_ret2
          exact ⟨none, 0, 0, rfl, rfl, Own.nil_, HFB.out⟩
        · go_wp2_with fail
          refine (bxGood_any A k c (numsOf 45 s) w1.heap.size wr.heap.size _ HNL.out (by omega) HO.out.seg _ HQ.out).mono ?_
          rintro e w2 ⟨rfl, rfl⟩
          go_wp2
          go_ret2
          exact ⟨A, k, c, rfl, HNL.out, HO.out.more hz1' (Nat.le_refl _), HFB.out⟩
end Go.Proofs.YthlhpddfifpkeacDoor
