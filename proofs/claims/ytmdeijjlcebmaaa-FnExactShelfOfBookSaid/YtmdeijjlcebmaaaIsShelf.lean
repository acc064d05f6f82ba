/-
  The written program's shelving, cell by cell; both programs' test for a shelving.
  Conditions: the lists have at most 1048576 elements.
-/
import Derived.Test.YtmdeijjlcebmaaaShelvingOf
import Derived.Test.YtmdeijjlcebmaaaShelfSpec
namespace Go.Proofs.Ytmdeijjlcebmaaa
set_option linter.unusedVariables false
open Go.RowKit

/-- A shelving, each of its cells told, and a bool. -/
def RetShE (p : Bool) (fs : List Int) (w : World) (e : Ending) (w' : World) : Prop :=
  ∃ v0 v1 v2 v3 v4 v5 v6 v7 v8 v9 v10 v11 v12 : Int, e = .returned (.tuple #[.agg #[.int .i64 v0, .int .i64 v1, .int .i64 v2, .int .i64 v3, .int .i64 v4, .int .i64 v5, .int .i64 v6, .int .i64 v7, .int .i64 v8, .int .i64 v9, .int .i64 v10, .int .i64 v11, .int .i64 v12], .bool p]) ∧ (p = true → shL fs = [v0, v1, v2, v3, v4, v5, v6, v7, v8, v9, v10, v11, v12]) ∧ Below w.heap.size w w'

theorem shelvingOf_any (A D : Option Addr) (n c m d : Nat) (bs : List (Int × Int)) (width : Int) (fs : List Int) (lo hi lo' hi' : Nat) (w : World) (hn : bs.length = n) (hlen : n ≤ 1048576) (hc : n ≤ c) (hm : fs.length = m) (hm2 : m ≤ 1048576)
    (hs : Seg w lo hi A (flat bs)) (hB : hi ≤ w.heap.size) (ho : Seg w lo' hi' D fs) (hB' : hi' ≤ w.heap.size) (p : Bool) (hp : bothB bs width fs = p) :
    Calls Try.prog 36 #[.slice A n c, .int .i64 width, .slice D m d] w (RetShE p fs w) := by
  have hall : Calls Try.prog 36 #[.slice A n c, .int .i64 width, .slice D m d] w (RetSh p fs w) := by
    rw [← hp]
    by_cases ha : askedK bs width = true
    · exact shelvingOf_yes A D n c m d bs width fs lo hi lo' hi' w hn hc hm hm2 hs hB ho hB' ha
    · exact shelvingOf_no A D n c m d bs width fs lo hi w hn hlen hs hB (by simpa using ha)
  refine hall.mono fun e w' ⟨he, hb⟩ => ?_
  cases p
  · exact ⟨0, 0, 0, 0, 0, 0, 0, 0, 0, 0, 0, 0, 0, he, (fun h => by cases h), hb⟩
  · obtain ⟨h1, h2, h3⟩ := bothB_at hp
    have hl := (rise_of h2).len
    rw [natsOf_length] at hl
    have h12 := (askedK_at h1).2.1
    obtain ⟨v0, v1, v2, v3, v4, v5, v6, v7, v8, v9, v10, v11, v12, hsl⟩ := ints_13 (shL_len (fs := fs) (by omega))
    refine ⟨v0, v1, v2, v3, v4, v5, v6, v7, v8, v9, v10, v11, v12, ?_, fun _ => hsl, hb⟩
    rw [he, if_pos rfl]
    have : shV fs = .agg #[.int .i64 v0, .int .i64 v1, .int .i64 v2, .int .i64 v3, .int .i64 v4, .int .i64 v5, .int .i64 v6, .int .i64 v7, .int .i64 v8, .int .i64 v9, .int .i64 v10, .int .i64 v11, .int .i64 v12] := by rw [shV, hsl]; rfl
    rw [this]

/-- What is known of a shelving. -/
theorem both_facts {bs : List (Int × Int)} {width : Int} {fs : List Int} {n : Nat} (hn : bs.length = n) (hp : bothB bs width fs = true) {v0 v1 v2 v3 v4 v5 v6 v7 v8 v9 v10 v11 v12 : Int} (h : shL fs = [v0, v1, v2, v3, v4, v5, v6, v7, v8, v9, v10, v11, v12]) :
    Cells13 #[.int .i64 v0, .int .i64 v1, .int .i64 v2, .int .i64 v3, .int .i64 v4, .int .i64 v5, .int .i64 v6, .int .i64 v7, .int .i64 v8, .int .i64 v9, .int .i64 v10, .int .i64 v11, .int .i64 v12] (natsOf fs) ∧ Rise n (natsOf fs) ∧ partB bs ∧ riseB n fs = true ∧ n ≤ 12 ∧ 1 ≤ n := by
  obtain ⟨h1, h2, h3⟩ := bothB_at hp
  subst hn
  have h12 := (askedK_at h1).2.1
  exact ⟨cells_of_rise h2 h12 (by rw [h]; rfl), rise_of h2, goodK_part (asked_good h1), h2, h12, (askedK_at h1).1⟩

section
variable (A D : Option Addr) (n c m d : Nat) (bs : List (Int × Int)) (width : Int) (fs : List Int) (lo hi lo' hi' : Nat) (w : World) (hn : bs.length = n) (hlen : n ≤ 1048576) (hc : n ≤ c) (hm : fs.length = m) (hm2 : m ≤ 1048576)
    (hs : Seg w lo hi A (flat bs)) (hB : hi ≤ w.heap.size) (ho : Seg w lo' hi' D fs) (hB' : hi' ≤ w.heap.size) (p : Bool) (hp : bothB bs width fs = p) (q : Bool) (hq : askedK bs width = q)
include hn hlen hc hm hm2 hs hB ho hB' hp hq

set_option maxHeartbeats 1000000 in
theorem spec_IsShelving :
    Calls Try.prog 11 #[.slice A n c, .int .i64 width, .slice D m d] w (RetBB p q w) := by
  have HN := Lib.hid hn
  have HM := Lib.hid hm
  have HQ := Lib.hid hq
  cases q
  · obtain rfl : p = false := by rw [← hp, bothB_no hq]
    clear hn hm hq hp
    go_enter Try.func11, Try.ntmps11
    go_wp2_with fail
    refine (shAsked_any _ _ _ bs width lo hi _ HN.out hlen hs hB _ HQ.out).mono ?_
    rintro e w1 ⟨rfl, hb1⟩
    go_wp2
    go_ret2
    exact ⟨rfl, hb1⟩
  · have h2 : shelfB bs width fs = p := by rw [← hp, bothB_yes hq]
    have H2 := Lib.hid h2
    clear hn hm hq hp h2
    go_enter Try.func11, Try.ntmps11
    go_wp2_with fail
    refine (shAsked_any _ _ _ bs width lo hi _ HN.out hlen hs hB _ HQ.out).mono ?_
    rintro e w1 ⟨rfl, hb1⟩
    go_wp2_with fail
    refine (shIs_any _ _ _ _ _ _ bs width fs lo hi lo' hi' _ HN.out hc HM.out hm2 (hs.below hb1 hB) (Nat.le_trans hB hb1.size) (ho.below hb1 hB') (Nat.le_trans hB' hb1.size) (asked_good HQ.out)).mono ?_
    rintro e w2 ⟨rfl, hb2⟩
    rw [H2.out]
    go_wp2
    go_ret2
    exact ⟨rfl, hb1.trans (hb2.mono hb1.size)⟩

set_option maxHeartbeats 1000000 in
theorem impl_IsShelving :
    Calls Try.prog 14 #[.slice A n c, .int .i64 width, .slice D m d] w (RetBB p q w) := by
  have HN := Lib.hid hn
  have HM := Lib.hid hm
  have HQ := Lib.hid hq
  have HP := Lib.hid hp
  cases q
  · obtain rfl : p = false := by rw [← hp, bothB_no hq]
    clear hn hm hq hp
    go_enter Try.func14, Try.ntmps14
    go_wp2_with fail
    refine (canBeShelved_any _ _ _ bs width lo hi _ HN.out hlen hs hB _ HQ.out).mono ?_
    rintro e w1 ⟨rfl, hb1⟩
    go_wp2
    go_ret2
    exact ⟨rfl, hb1⟩
  · clear hn hm hq hp
    go_enter Try.func14, Try.ntmps14
    go_wp2_with fail
    refine (canBeShelved_any _ _ _ bs width lo hi _ HN.out hlen hs hB _ HQ.out).mono ?_
    rintro e w1 ⟨rfl, hb1⟩
    go_wp2_with fail
    refine (shelvingOf_any _ _ _ _ _ _ bs width fs lo hi lo' hi' _ HN.out hlen hc HM.out hm2 (hs.below hb1 hB) (Nat.le_trans hB hb1.size) (ho.below hb1 hB') (Nat.le_trans hB' hb1.size) p HP.out).mono ?_
    rintro e w2 ⟨v0, v1, v2, v3, v4, v5, v6, v7, v8, v9, v10, v11, v12, rfl, hsl, hb2⟩
    clear hsl
    go_wp2
    go_ret2
    exact ⟨rfl, (hb1.trans (hb2.mono hb1.size)).alloc (Nat.le_trans hb1.size hb2.size) _⟩
end
end Go.Proofs.Ytmdeijjlcebmaaa
