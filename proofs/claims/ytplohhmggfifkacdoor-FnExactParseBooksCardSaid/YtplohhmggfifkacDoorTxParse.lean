/-
  The written program's things of a text, and the checking program's.
  Conditions: the text has at most 1048576 bytes; the library's variables read as the program's text writes them.
-/
import Derived.Test.YtplohhmggfifkacDoorTxNums
import Derived.Test.YtplohhmggfifkacDoorTxAsk
namespace Go.Proofs.YtplohhmggfifkacDoor
set_option linter.unusedVariables false
open Go.RowKit

/-- The written program takes a text for one of things. -/
def takesB (s : ByteArray) : Bool := allNum (cutN 45 9 s) && (goodB (numsA (cutN 45 9 s)) && (textS 45 (numsA (cutN 45 9 s))).toList == s.toList)

theorem takes_no {s : ByteArray} (h : allNum (cutN 45 9 s) = false) : takesB s = false := by rw [takesB, h, Bool.false_and]
theorem takes_bad {s : ByteArray} (h : goodB (numsA (cutN 45 9 s)) = false) : takesB s = false := by rw [takesB, h, Bool.false_and, Bool.and_false]
theorem takes_eq {s : ByteArray} (h : allNum (cutN 45 9 s) = true) (h2 : goodB (numsA (cutN 45 9 s)) = true) : takesB s = ((textS 45 (numsA (cutN 45 9 s))).toList == s.toList) := by rw [takesB, h, h2, Bool.true_and, Bool.true_and]

theorem someL_no (xs : List Int) : someL false xs = [] := rfl
theorem someL_yes (xs : List Int) : someL true xs = xs := rfl

set_option maxHeartbeats 1000000 in
theorem specParseThings_any (s : ByteArray) (w : World) (hmax : s.size ≤ 9223372036854775807) (q : Bool) (hq : thingB s = q) :
    Calls Tryd.prog 11 #[.string s] w (RetL q (someL q (numsOf 45 s)) w) := by
  have HQ := Lib.hid hq
  clear hq
  go_enter Tryd.func11, Tryd.ntmps11
  go_wp2_with fail
  refine (bxParse_any s _ hmax q HQ.out).mono ?_
  rintro e w1 ⟨A, n, c, rfl, hn, hown, hb⟩
  go_wp2
  go_ret2
  exact ⟨A, n, c, rfl, hn, hown, hb⟩

set_option maxRecDepth 100000 in
set_option maxHeartbeats 2000000 in
theorem implParseThings_any (s : ByteArray) (w : World) (hmax : s.size ≤ 1048576) (hv : Vars w) (hT : Tab w) (hsz : ∀ x ∈ cutN 45 9 s, x.size ≤ 1048576) (hcl : (cutN 45 9 s).length ≤ 1000) (q : Bool) (hq : takesB s = q) :
    Calls Tryd.prog 12 #[.string s] w (RetL q (someL q (numsA (cutN 45 9 s))) w) := by
  obtain ⟨ns, hns⟩ : ∃ ns, numsA (cutN 45 9 s) = ns := ⟨_, rfl⟩
  obtain ⟨g, hg⟩ : ∃ g, goodB ns = g := ⟨_, rfl⟩
  obtain ⟨p, hp⟩ : ∃ p, allNum (cutN 45 9 s) = p := ⟨_, rfl⟩
  have hnl : ns.length ≤ 1000 := by rw [← hns, numsA, List.length_map]; exact hcl
  have HNS := Lib.hid hns
  have HG := Lib.hid hg
  have HP := Lib.hid hp
  have HV := Lib.hid hv
  have HT := Lib.hid hT
  have HZ := Lib.hid hsz
  have HQ := Lib.hid hq
  rw [hns]
  clear hns hg hp hv hT hsz hq
  go_enter Tryd.func12, Tryd.ntmps12
  go_wp2_with fail
  refine (splitNumbers_any 45 9 s _ hmax (by omega) (by omega) HV.out HZ.out hcl p HP.out).mono ?_
  rw [HNS.out]
  rintro e w1 ⟨A, n, c, rfl, hn, hown, hb1⟩
  have hz1 := hb1.size
  cases p
  · obtain rfl : q = false := by rw [← HQ.out, takes_no HP.out]
    go_wp2
    go_ret2
    exact ⟨none, 0, 0, rfl, rfl, Own.nil_, hb1⟩
  · rw [someL_yes] at hn hown
    have HOW := Lib.hid hown
    have HN := Lib.hid hn
    have hT1 := HT.out.below hb1 (Nat.le_refl _)
    obtain ⟨t, ht⟩ : ∃ t, someT g (textS 45 ns) = t := ⟨_, rfl⟩
    have HTT := Lib.hid ht
    clear hown hn ht
    cases g
    · obtain rfl : q = false := by rw [← HQ.out, takes_bad (by rw [HNS.out]; exact HG.out)]
      go_wp2_with fail
      refine (implThingsText_any A n c ns w.heap.size w1.heap.size _ HN.out (by have := HN.out; omega) HOW.out.seg (Nat.le_refl _) false HG.out hT1).mono ?_
      rintro e w2 ⟨rfl, hb2⟩
      go_wp2
      go_ret2
      exact ⟨none, 0, 0, rfl, rfl, Own.nil_, hb1.trans (hb2.mono hz1)⟩
    · have HE := Lib.hid (show (t.toList == s.toList) = q by rw [← HQ.out, takes_eq HP.out (by rw [HNS.out]; exact HG.out), HNS.out, ← HTT.out]; rfl)
      cases q
      all_goals
        have hE := HE.out
        go_wp2_with fail
        refine (implThingsText_any A n c ns w.heap.size w1.heap.size _ HN.out (by have := HN.out; omega) HOW.out.seg (Nat.le_refl _) true HG.out hT1).mono ?_
        rw [HTT.out]
        rintro e w2 ⟨rfl, hb2⟩
        go_wp2
        go_ret2
        first
          | exact ⟨none, 0, 0, rfl, rfl, Own.nil_, hb1.trans (hb2.mono hz1)⟩
          | exact ⟨A, n, c, rfl, HN.out, HOW.out.below hb2 (Nat.le_refl _) |>.more (Nat.le_refl _) hb2.size, hb1.trans (hb2.mono hz1)⟩
end Go.Proofs.YtplohhmggfifkacDoor
