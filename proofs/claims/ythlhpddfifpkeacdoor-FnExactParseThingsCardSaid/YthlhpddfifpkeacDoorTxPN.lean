/-
  The written program's numbers of a text, for things and for lengths.
  Conditions: the text has at most 1048576 bytes; the library's variables read as the program's text writes them.
-/
import Derived.Test.YthlhpddfifpkeacDoorTxTakes
import Derived.Test.YthlhpddfifpkeacDoorTxLM
import Derived.Test.YthlhpddfifpkeacDoorTxLAsk
namespace Go.Proofs.YthlhpddfifpkeacDoor
set_option linter.unusedVariables false
open Go.RowKit

set_option maxRecDepth 100000 in
set_option maxHeartbeats 2000000 in
theorem parseNumbers_things (s : ByteArray) (w : World) (hmax : s.size ≤ 1048576) (hv : Vars w) (hT : Tab w) (hsz : ∀ x ∈ cutN 45 9 s, x.size ≤ 1048576) (hcl : (cutN 45 9 s).length ≤ 1000) (q : Bool) (hq : takesB s = q) :
    Calls Tryd.prog 22 #[.string s, .string ⟨#[45]⟩, .int .i64 9, .func (.func 24) #[] #[]] w (RetL q (someL q (numsA (cutN 45 9 s))) w) := by
  obtain ⟨ns, hns⟩ : ∃ ns, numsA (cutN 45 9 s) = ns := ⟨_, rfl⟩
  obtain ⟨g, hg⟩ : ∃ g, goodB ns = g := ⟨_, rfl⟩
  obtain ⟨p, hp⟩ : ∃ p, allNum (cutN 45 9 s) = p := ⟨_, rfl⟩
  have hnl : ns.length ≤ 1000 := by rw [← hns, numsA, List.length_map]; exact hcl
  have HNS := Lib.hid hns
  have HG := Lib.hid hg
  have HP := Lib.hid hp
  have HV := Lib.hid hv
  have HT := Lib.hid hT
  have HZ := Lib.hid hsz
  have HQ := Lib.hid hq
  rw [hns]
  clear hns hg hp hv hT hsz hq
  go_enter Tryd.func22, Tryd.ntmps22
  go_wp2_with fail
  refine (splitNumbers_any 45 9 s _ hmax (by omega) (by omega) HV.out HZ.out hcl p HP.out).mono ?_
  rw [HNS.out]
  rintro e w1 ⟨A, n, c, rfl, hn, hown, hb1⟩
  have hz1 := hb1.size
  cases p
  · obtain rfl : q = false := by rw [← HQ.out, takes_no HP.out]
    go_wp2
    go_ret2
    exact ⟨none, 0, 0, rfl, rfl, Own.nil_, hb1⟩
  · rw [someL_yes] at hn hown
    have HOW := Lib.hid hown
    have HN := Lib.hid hn
    have hT1 := HT.out.below hb1 (Nat.le_refl _)
    obtain ⟨t, ht⟩ : ∃ t, someT g (textS 45 ns) = t := ⟨_, rfl⟩
    have HTT := Lib.hid ht
    clear hown hn ht
    cases g
    · obtain rfl : q = false := by rw [← HQ.out, takes_bad (by rw [HNS.out]; exact HG.out)]
      go_wp2_with fail
      refine (implThingsText_any A n c ns w.heap.size w1.heap.size _ HN.out (by have := HN.out; omega) HOW.out.seg (Nat.le_refl _) false HG.out hT1).mono ?_
      rintro e w2 ⟨rfl, hb2⟩
      go_wp2
      go_ret2
      exact ⟨none, 0, 0, rfl, rfl, Own.nil_, hb1.trans (hb2.mono hz1)⟩
    · have HE := Lib.hid (show (t.toList == s.toList) = q by rw [← HQ.out, takes_eq HP.out (by rw [HNS.out]; exact HG.out), HNS.out, ← HTT.out]; rfl)
      cases q
      all_goals
        have hE := HE.out
        go_wp2_with fail
        refine (implThingsText_any A n c ns w.heap.size w1.heap.size _ HN.out (by have := HN.out; omega) HOW.out.seg (Nat.le_refl _) true HG.out hT1).mono ?_
        rw [HTT.out]
        rintro e w2 ⟨rfl, hb2⟩
        go_wp2
        go_ret2
        first
          | exact ⟨none, 0, 0, rfl, rfl, Own.nil_, hb1.trans (hb2.mono hz1)⟩
          | exact ⟨A, n, c, rfl, HN.out, HOW.out.below hb2 (Nat.le_refl _) |>.more (Nat.le_refl _) hb2.size, hb1.trans (hb2.mono hz1)⟩

set_option maxRecDepth 100000 in
set_option maxHeartbeats 2000000 in
theorem parseNumbers_lengths (s : ByteArray) (w : World) (hmax : s.size ≤ 1048576) (hv : Vars w) (hT : Tab w) (hsz : ∀ x ∈ cutN 44 4 s, x.size ≤ 1048576) (hcl : (cutN 44 4 s).length ≤ 1000) (q : Bool) (hq : takesLB s = q) :
    Calls Tryd.prog 22 #[.string s, .string ⟨#[44]⟩, .int .i64 4, .func (.func 8) #[] #[]] w (RetL q (someL q (numsA (cutN 44 4 s))) w) := by
  obtain ⟨ns, hns⟩ : ∃ ns, numsA (cutN 44 4 s) = ns := ⟨_, rfl⟩
  obtain ⟨g, hg⟩ : ∃ g, lensB ns = g := ⟨_, rfl⟩
  obtain ⟨p, hp⟩ : ∃ p, allNum (cutN 44 4 s) = p := ⟨_, rfl⟩
  have hnl : ns.length ≤ 1000 := by rw [← hns, numsA, List.length_map]; exact hcl
  have HNS := Lib.hid hns
  have HG := Lib.hid hg
  have HP := Lib.hid hp
  have HV := Lib.hid hv
  have HT := Lib.hid hT
  have HZ := Lib.hid hsz
  have HQ := Lib.hid hq
  rw [hns]
  clear hns hg hp hv hT hsz hq
  go_enter Tryd.func22, Tryd.ntmps22
  go_wp2_with fail
  refine (splitNumbers_any 44 4 s _ hmax (by omega) (by omega) HV.out HZ.out hcl p HP.out).mono ?_
  rw [HNS.out]
  rintro e w1 ⟨A, n, c, rfl, hn, hown, hb1⟩
  have hz1 := hb1.size
  cases p
  · obtain rfl : q = false := by rw [← HQ.out, takesL_no HP.out]
    go_wp2
    go_ret2
    exact ⟨none, 0, 0, rfl, rfl, Own.nil_, hb1⟩
  · rw [someL_yes] at hn hown
    have HOW := Lib.hid hown
    have HN := Lib.hid hn
    have hT1 := HT.out.below hb1 (Nat.le_refl _)
    obtain ⟨t, ht⟩ : ∃ t, someT g (textS 44 ns) = t := ⟨_, rfl⟩
    have HTT := Lib.hid ht
    clear hown hn ht
    cases g
    · obtain rfl : q = false := by rw [← HQ.out, takesL_bad (by rw [HNS.out]; exact HG.out)]
      go_wp2_with fail
      refine (implLengthsText_any A n c ns w.heap.size w1.heap.size _ HN.out (by have := HN.out; omega) HOW.out.seg (Nat.le_refl _) false HG.out hT1).mono ?_
      rintro e w2 ⟨rfl, hb2⟩
      go_wp2
      go_ret2
      exact ⟨none, 0, 0, rfl, rfl, Own.nil_, hb1.trans (hb2.mono hz1)⟩
    · have HE := Lib.hid (show (t.toList == s.toList) = q by rw [← HQ.out, takesL_eq HP.out (by rw [HNS.out]; exact HG.out), HNS.out, ← HTT.out]; rfl)
      cases q
      all_goals
        have hE := HE.out
        go_wp2_with fail
        refine (implLengthsText_any A n c ns w.heap.size w1.heap.size _ HN.out (by have := HN.out; omega) HOW.out.seg (Nat.le_refl _) true HG.out hT1).mono ?_
        rw [HTT.out]
        rintro e w2 ⟨rfl, hb2⟩
        go_wp2
        go_ret2
        first
          | exact ⟨none, 0, 0, rfl, rfl, Own.nil_, hb1.trans (hb2.mono hz1)⟩
          | exact ⟨A, n, c, rfl, HN.out, HOW.out.below hb2 (Nat.le_refl _) |>.more (Nat.le_refl _) hb2.size, hb1.trans (hb2.mono hz1)⟩

set_option maxHeartbeats 1000000 in
theorem implParseThings_any (s : ByteArray) (w : World) (hmax : s.size ≤ 1048576) (hv : Vars w) (hT : Tab w) (hsz : ∀ x ∈ cutN 45 9 s, x.size ≤ 1048576) (hcl : (cutN 45 9 s).length ≤ 1000) (q : Bool) (hq : takesB s = q) :
    Calls Tryd.prog 15 #[.string s] w (RetL q (someL q (numsA (cutN 45 9 s))) w) := by
  have HQ := Lib.hid hq
  have HV := Lib.hid hv
  have HT := Lib.hid hT
  have HZ := Lib.hid hsz
  clear hq hv hT hsz
  go_enter Tryd.func15, Tryd.ntmps15
  go_wp2_with fail
  refine (parseNumbers_things s _ hmax HV.out HT.out HZ.out hcl _ HQ.out).mono ?_
  rintro e w1 ⟨A, n, c, rfl, hn, hown, hb⟩
  go_wp2
  go_ret2
  exact ⟨A, n, c, rfl, hn, hown, hb⟩

set_option maxHeartbeats 1000000 in
theorem implParseLengths_any (s : ByteArray) (w : World) (hmax : s.size ≤ 1048576) (hv : Vars w) (hT : Tab w) (hsz : ∀ x ∈ cutN 44 4 s, x.size ≤ 1048576) (hcl : (cutN 44 4 s).length ≤ 1000) (q : Bool) (hq : takesLB s = q) :
    Calls Tryd.prog 11 #[.string s] w (RetL q (someL q (numsA (cutN 44 4 s))) w) := by
  have HQ := Lib.hid hq
  have HV := Lib.hid hv
  have HT := Lib.hid hT
  have HZ := Lib.hid hsz
  clear hq hv hT hsz
  go_enter Tryd.func11, Tryd.ntmps11
  go_wp2_with fail
  refine (parseNumbers_lengths s _ hmax HV.out HT.out HZ.out hcl _ HQ.out).mono ?_
  rintro e w1 ⟨A, n, c, rfl, hn, hown, hb⟩
  go_wp2
  go_ret2
  exact ⟨A, n, c, rfl, hn, hown, hb⟩

end Go.Proofs.YthlhpddfifpkeacDoor
