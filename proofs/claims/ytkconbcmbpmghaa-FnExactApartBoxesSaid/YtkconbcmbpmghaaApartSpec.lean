/-
  ApartBoxes of the checking program: its law's contract.
  Conditions: the list has at most 1048576 boxes.
-/
import Derived.Test.YtkconbcmbpmghaaNeApart
namespace Go.Proofs.Ytkconbcmbpmghaa
set_option linter.unusedVariables false
open Go.RowKit

set_option maxHeartbeats 1000000 in
theorem spec_ApartBoxes (A : Option Addr) (n c : Nat) (bs : List (Int × Int × Int)) (lo hi : Nat) (w : World) (hn : bs.length = n) (hlen : n ≤ 1048576) (hs : Seg w lo hi A (flat3 bs)) (hB : hi ≤ w.heap.size) (q : Bool) (hq : goodN bs = q) :
    Calls Try.prog 49 #[.slice A n c] w (RetL q (someN q (mostT (togA bs) n (below n))) w) := by
  have HN := Lib.hid hn
  have HQ := Lib.hid hq
  cases q
  · clear hn hq
    go_enter Try.func49, Try.ntmps49
    go_wp2_with fail
    refine (neAll_any _ _ _ bs lo hi _ HN.out hlen hs hB _ HQ.out).mono ?_
    rintro e w1 ⟨rfl, hb1⟩
    go_wp2
    go_ret2
    exact ⟨none, 0, 0, rfl, rfl, Own.nil_, hb1⟩
  · have hn7 : n ≤ 7 := by rw [← hn]; exact (goodN_at hq).2.1
    clear hn hq
    go_enter Try.func49, Try.ntmps49
    go_wp2_with fail
    refine (neAll_any _ _ _ bs lo hi _ HN.out hlen hs hB _ HQ.out).mono ?_
    rintro e w1 ⟨rfl, hb1⟩
    have hz1 := hb1.size
    go_wp2_with fail
    refine (neApart_any A n c bs HN.out hn7 n [] none 0 0 lo hi 0 0 _ rfl (by omega) (cands_le _ _ _) (upTo_nil _) Seg.nil_ (Nat.zero_le _) (hs.below hb1 hB) (by omega)).mono ?_
    rw [candsC_nil, List.nil_append]
    rintro e w3 ⟨A3, n3, c3, rfl, hl3, hown3, hb3⟩
    go_wp2
    go_ret2
    exact ⟨A3, n3, c3, rfl, hl3, hown3.more hz1 (Nat.le_refl _), hb1.trans (hb3.mono hz1)⟩

end Go.Proofs.Ytkconbcmbpmghaa
