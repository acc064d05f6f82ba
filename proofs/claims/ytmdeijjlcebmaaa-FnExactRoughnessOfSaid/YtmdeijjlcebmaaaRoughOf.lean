/-
  Both programs' RoughnessOf.
  Conditions: the lists have at most 1048576 elements.
-/
import Derived.Test.YtmdeijjlcebmaaaShelfRough
namespace Go.Proofs.Ytmdeijjlcebmaaa
set_option linter.unusedVariables false
open Go.RowKit

section
variable (A D : Option Addr) (n c m d : Nat) (bs : List (Int × Int)) (width : Int) (fs : List Int) (lo hi lo' hi' : Nat) (w : World) (hn : bs.length = n) (hlen : n ≤ 1048576) (hc : n ≤ c) (hm : fs.length = m) (hm2 : m ≤ 1048576)
    (hs : Seg w lo hi A (flat bs)) (hB : hi ≤ w.heap.size) (ho : Seg w lo' hi' D fs) (hB' : hi' ≤ w.heap.size) (p : Bool) (hp : bothB bs width fs = p)
include hn hlen hc hm hm2 hs hB ho hB' hp

set_option maxHeartbeats 2000000 in
theorem spec_RoughnessOf :
    Calls Try.prog 26 #[.slice A n c, .int .i64 width, .slice D m d] w (RetI (numL p (roughK bs width (natsOf fs)).sum) p w) := by
  have HN := Lib.hid hn
  have HM := Lib.hid hm
  have HP := Lib.hid hp
  cases p
  · clear hn hm hp
    go_enter Try.func26, Try.ntmps26
    go_wp2_with fail
    refine (shBoth_any _ _ _ _ _ _ bs width fs lo hi lo' hi' _ HN.out hlen hc HM.out hm2 hs hB ho hB' _ HP.out).mono ?_
    rintro e w1 ⟨rfl, hb1⟩
    go_wp2
    go_ret2
    exact ⟨rfl, hb1⟩
  · obtain ⟨b, off, _, _, rfl, _⟩ := hs.book (k := 0) (by have := (askedK_at (bothB_at hp).1).1; omega)
    clear hn hm hp
    go_enter Try.func26, Try.ntmps26
    go_wp2_with fail
    refine (shBoth_any _ _ _ _ _ _ bs width fs lo hi lo' hi' _ HN.out hlen hc HM.out hm2 hs hB ho hB' _ HP.out).mono ?_
    rintro e w1 ⟨rfl, hb1⟩
    go_wp2_with fail
    refine (shRough_any b off n c m d _ bs width fs lo hi lo' hi' _ HN.out hc HM.out (hs.below hb1 hB) (Nat.le_trans hB hb1.size) (ho.below hb1 hB') (Nat.le_trans hB' hb1.size) HP.out).mono ?_
    rintro e w2 ⟨rfl, hb2⟩
    go_wp2
    go_ret2
    exact ⟨rfl, hb1.trans (hb2.mono hb1.size)⟩

set_option maxHeartbeats 2000000 in
theorem impl_RoughnessOf :
    Calls Try.prog 27 #[.slice A n c, .int .i64 width, .slice D m d] w (RetI (numL p (roughK bs width (natsOf fs)).sum) p w) := by
  have HN := Lib.hid hn
  have HM := Lib.hid hm
  have HP := Lib.hid hp
  cases p
  · clear hn hm hp
    go_enter Try.func27, Try.ntmps27
    go_wp2_with fail
    refine (shelvingOf_any _ _ _ _ _ _ bs width fs lo hi lo' hi' _ HN.out hlen hc HM.out hm2 hs hB ho hB' _ HP.out).mono ?_
    rintro e w1 ⟨v0, v1, v2, v3, v4, v5, v6, v7, v8, v9, v10, v11, v12, rfl, hsl, hb1⟩
    clear hsl
    go_wp2
    go_ret2
    exact ⟨rfl, hb1.alloc hb1.size _⟩
  · obtain ⟨b, off, _, _, rfl, _⟩ := hs.book (k := 0) (by have := (askedK_at (bothB_at hp).1).1; omega)
    have HT := Lib.hid (⟨asked_good (bothB_at hp).1, (bothB_at hp).2.2, (askedK_at (bothB_at hp).1).2.2.2.2⟩ : goodK bs = true ∧ fullB bs width (natsOf fs) = true ∧ width ≤ 1000)
    clear hn hm hp
    go_enter Try.func27, Try.ntmps27
    go_wp2_with fail
    refine (shelvingOf_any _ _ _ _ _ _ bs width fs lo hi lo' hi' _ HN.out hlen hc HM.out hm2 hs hB ho hB' _ HP.out).mono ?_
    rintro e w1 ⟨v0, v1, v2, v3, v4, v5, v6, v7, v8, v9, v10, v11, v12, rfl, hsl, hb1⟩
    have HF := Lib.hid (both_facts HN.out HP.out (hsl rfl))
    have hb1' := hb1.alloc hb1.size (.cells #[.int .i64 v0, .int .i64 v1, .int .i64 v2, .int .i64 v3, .int .i64 v4, .int .i64 v5, .int .i64 v6, .int .i64 v7, .int .i64 v8, .int .i64 v9, .int .i64 v10, .int .i64 v11, .int .i64 v12] 51)
    have hs1 := hs.below hb1' hB
    have hB1 := Nat.le_trans hB hb1'.size
    clear hsl
    go_wp2_with fail
    refine (roughness_any b off n c bs width (natsOf fs) _ _ _ _ _ _ _ _ _ _ _ _ _ lo hi _ HN.out hc HF.out.1 HF.out.2.1 HT.out.1 HT.out.2.1 HT.out.2.2 hs1 hB1).mono ?_
    rintro e w2 ⟨rfl, hb2⟩
    have hbb := hb1'.trans (hb2.mono hb1'.size)
    go_wp2
    go_ret2
    exact ⟨rfl, hbb⟩
end
end Go.Proofs.Ytmdeijjlcebmaaa
