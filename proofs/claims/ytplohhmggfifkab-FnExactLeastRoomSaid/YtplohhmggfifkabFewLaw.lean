/-
  The written program's fewest boxes, first packing and count of packings.
  Conditions: lists of at most 1048576 numbers.
-/
import Derived.Test.YtplohhmggfifkabFewImpl
namespace Go.Proofs.Ytplohhmggfifkab
set_option linter.unusedVariables false
open Go.RowKit

theorem field_few (a0 a1 room cnt m : Int) (P1 P2 A G : Option Addr) (n1 c1 n2 c2 n3 c3 k cc : Nat) (w : World) :
    (Instr.field 65 (.agg #[.int .i64 a0, .int .i64 a1, .int .i64 room, .slice P1 n1 c1, .slice P2 n2 c2, .slice A n3 c3, .int .i64 m, .slice G k cc, .int .i64 cnt]) 2).run Try.prog w = .ok (.int .i64 m) w := by kernel_rfl

theorem field_first (a0 a1 room cnt m : Int) (P1 P2 A G : Option Addr) (n1 c1 n2 c2 n3 c3 k cc : Nat) (w : World) :
    (Instr.field 65 (.agg #[.int .i64 a0, .int .i64 a1, .int .i64 room, .slice P1 n1 c1, .slice P2 n2 c2, .slice A n3 c3, .int .i64 m, .slice G k cc, .int .i64 cnt]) 3).run Try.prog w = .ok (.slice G k cc) w := by kernel_rfl

theorem field_count (a0 a1 room cnt m : Int) (P1 P2 A G : Option Addr) (n1 c1 n2 c2 n3 c3 k cc : Nat) (w : World) :
    (Instr.field 65 (.agg #[.int .i64 a0, .int .i64 a1, .int .i64 room, .slice P1 n1 c1, .slice P2 n2 c2, .slice A n3 c3, .int .i64 m, .slice G k cc, .int .i64 cnt]) 4).run Try.prog w = .ok (.int .i64 cnt) w := by kernel_rfl

/-- The first plan with the fewest boxes, if it was asked for. -/
def firstP (q : Bool) (room : Int) (xs : List Int) (m : Nat) : List Int := if q = true then ((bestP room xs m).head?.map (·.1)).getD [] else []

section
variable (A : Option Addr) (n c : Nat) (xs : List Int) (room : Int) (lo hi : Nat) (w : World) (hn : xs.length = n) (hlen : n ≤ 1048576) (hs : Seg w lo hi A xs) (hB : hi ≤ w.heap.size) (q : Bool) (hq : askedB xs room = q) (m : Nat) (hm : q = true → Least (allP room xs) m)
include hn hlen hs hB hq hm

set_option maxRecDepth 100000 in
set_option maxHeartbeats 2000000 in
theorem impl_FewestBoxes : Calls Try.prog 27 #[.slice A n c, .int .i64 room] w (RetI (if q = true then (m : Int) else 0) q w) := by
  have HN := Lib.hid hn
  have HQ := Lib.hid hq
  have hfd := field_few
  cases q
  · clear hn hq hm
    go_enter Try.func27, Try.ntmps27
    go_wp2_with fail
    refine (canBePacked_any _ _ _ xs room lo hi _ HN.out hlen hs _ HQ.out).mono ?_
    rintro e w' ⟨rfl, rfl⟩
    go_wp2
    go_ret2
    exact ⟨rfl, Below.refl _ _⟩
  · obtain ⟨p, hp⟩ : ∃ p, (bestP room xs m).head? = some p := by
      have := best_pos (hm rfl)
      cases hb : bestP room xs m with
      | nil => rw [hb] at this; simp at this
      | cons p r => exact ⟨p, rfl⟩
    have HM := Lib.hid (hm rfl)
    have HH := Lib.hid hp
    clear hn hq hm hp
    go_enter Try.func27, Try.ntmps27
    go_wp2_with fail
    refine (canBePacked_any _ _ _ xs room lo hi _ HN.out hlen hs _ HQ.out).mono ?_
    rintro e w' ⟨rfl, rfl⟩
    go_wp2_with fail
    refine (searchFewest_any A n c xs room lo hi _ HN.out hs hB HQ.out m HM.out p HH.out).mono ?_
    rintro e w1 ⟨Bo, Bp, FV, rfl, ⟨g, cc, rfl, hg1, hg2, hg3⟩, hb⟩
    have HG1 := Lib.hid hg1
    clear hg1
    go_wp2
    go_ret2
    exact ⟨rfl, hb⟩

set_option maxRecDepth 100000 in
set_option maxHeartbeats 2000000 in
theorem impl_CountPackings : Calls Try.prog 31 #[.slice A n c, .int .i64 room] w (RetI (if q = true then ((bestP room xs m).length : Int) else 0) q w) := by
  have HN := Lib.hid hn
  have HQ := Lib.hid hq
  have hfd := field_count
  cases q
  · clear hn hq hm
    go_enter Try.func31, Try.ntmps31
    go_wp2_with fail
    refine (canBePacked_any _ _ _ xs room lo hi _ HN.out hlen hs _ HQ.out).mono ?_
    rintro e w' ⟨rfl, rfl⟩
    go_wp2
    go_ret2
    exact ⟨rfl, Below.refl _ _⟩
  · obtain ⟨p, hp⟩ : ∃ p, (bestP room xs m).head? = some p := by
      have := best_pos (hm rfl)
      cases hb : bestP room xs m with
      | nil => rw [hb] at this; simp at this
      | cons p r => exact ⟨p, rfl⟩
    have HM := Lib.hid (hm rfl)
    have HH := Lib.hid hp
    clear hn hq hm hp
    go_enter Try.func31, Try.ntmps31
    go_wp2_with fail
    refine (canBePacked_any _ _ _ xs room lo hi _ HN.out hlen hs _ HQ.out).mono ?_
    rintro e w' ⟨rfl, rfl⟩
    go_wp2_with fail
    refine (searchFewest_any A n c xs room lo hi _ HN.out hs hB HQ.out m HM.out p HH.out).mono ?_
    rintro e w1 ⟨Bo, Bp, FV, rfl, ⟨g, cc, rfl, hg1, hg2, hg3⟩, hb⟩
    have HG1 := Lib.hid hg1
    clear hg1
    go_wp2
    go_ret2
    exact ⟨rfl, hb⟩

set_option maxRecDepth 100000 in
set_option maxHeartbeats 2000000 in
theorem impl_FirstPacking : Calls Try.prog 29 #[.slice A n c, .int .i64 room] w (RetL q (if q = true then ((bestP room xs m).head?.map (·.1)).getD [] else []) w) := by
  have HN := Lib.hid hn
  have HQ := Lib.hid hq
  have hfd := field_first
  cases q
  · clear hn hq hm
    go_enter Try.func29, Try.ntmps29
    go_wp2_with fail
    refine (canBePacked_any _ _ _ xs room lo hi _ HN.out hlen hs _ HQ.out).mono ?_
    rintro e w' ⟨rfl, rfl⟩
    go_wp2
    go_ret2
    exact ⟨none, 0, 0, rfl, rfl, Own.nil_, Below.refl _ _⟩
  · obtain ⟨p, hp⟩ : ∃ p, (bestP room xs m).head? = some p := by
      have := best_pos (hm rfl)
      cases hb : bestP room xs m with
      | nil => rw [hb] at this; simp at this
      | cons p r => exact ⟨p, rfl⟩
    have HM := Lib.hid (hm rfl)
    have HH := Lib.hid hp
    clear hn hq hm hp
    go_enter Try.func29, Try.ntmps29
    go_wp2_with fail
    refine (canBePacked_any _ _ _ xs room lo hi _ HN.out hlen hs _ HQ.out).mono ?_
    rintro e w' ⟨rfl, rfl⟩
    go_wp2_with fail
    refine (searchFewest_any A n c xs room lo hi _ HN.out hs hB HQ.out m HM.out p HH.out).mono ?_
    rintro e w1 ⟨Bo, Bp, FV, rfl, ⟨g, cc, rfl, hg1, hg2, hg3⟩, hb⟩
    have HG1 := Lib.hid hg1
    clear hg1
    go_wp2
    go_ret2
    exact ⟨_, _, _, rfl, by rw [HH.out]; rfl, by rw [HH.out]; exact HG1.out.more (by omega) (by omega), hb⟩

theorem spec_FirstPackingP : Calls Try.prog 28 #[.slice A n c, .int .i64 room] w (RetL q (firstP q room xs m) w) :=
  spec_FirstPacking A n c xs room lo hi w hn hlen hs hB q hq m hm

theorem impl_FirstPackingP : Calls Try.prog 29 #[.slice A n c, .int .i64 room] w (RetL q (firstP q room xs m) w) :=
  impl_FirstPacking A n c xs room lo hi w hn hlen hs hB q hq m hm

end

theorem least_asked {xs : List Int} {room : Int} {q : Bool} (hq : askedB xs room = q) :
    ∃ m, (q = true → Least (allP room xs) m) ∧ (firstP q room xs m).length ≤ 1048576 := by
  cases q
  · exact ⟨0, fun h => (by cases h), by simp [firstP]⟩
  · obtain ⟨h1, h9, hx, hr⟩ := askedB_at hq
    have h2 : allP room xs ≠ [] := List.ne_nil_of_mem (run_leaf (ls := []) (pl := []) fun x hy => (hx x hy).2.2)
    obtain ⟨m, hm⟩ := least_exists h2
    refine ⟨m, fun _ => hm, ?_⟩
    rw [firstP, if_pos rfl]
    cases hb : (bestP room xs m).head? with
    | none => simp
    | some p =>
      have := best_len hb
      simp
      omega

end Go.Proofs.Ytplohhmggfifkab
