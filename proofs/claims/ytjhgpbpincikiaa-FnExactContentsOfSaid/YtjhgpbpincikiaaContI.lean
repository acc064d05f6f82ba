/-
  The written program's map of the boxes that are put into others.
  Conditions: the list has at most 1048576 numbers, each below 1048576.
-/
import Derived.Test.YtjhgpbpincikiaaContS
import Derived.Maps.OwnOps
import Derived.Maps.RangeWalk
import Derived.Maps.OwnSet
import Derived.WalkKit
namespace Go.Proofs.Ytjhgpbpincikiaa
set_option linter.unusedVariables false
open Go.RowKit Go.Maps

theorem keyI : Keyed Try.prog 3 := int_keyed Try.underlying3
/-- The boxes that are put into others, with these. -/
def insD (plan : List Int) : Nat → DataW Unit
  | 0 => .map []
  | k + 1 => if plan.getD k 0 = -1 then insD plan k else (insD plan k).put (.int .i64 (k : Int)) (.lit (.int .i64 (plan.getD k 0)))
theorem insD_no {plan : List Int} {k : Nat} (h : plan[k]? = some (-1)) : insD plan (k + 1) = insD plan k := by
  rw [insD, if_pos (by simp [List.getD, h])]
theorem insD_yes {plan : List Int} {k : Nat} {u : Int} (h : plan[k]? = some u) (hu : u ≠ -1) : insD plan (k + 1) = (insD plan k).put (.int .i64 (k : Int)) (.lit (.int .i64 u)) := by
  have e : plan.getD k 0 = u := by simp [List.getD, h]
  rw [insD, e, if_neg hu]

set_option maxRecDepth 100000 in
set_option maxHeartbeats 1000000 in
theorem boxesInside_any (B : Option Addr) (m d : Nat) (plan : List Int) (lo' hi' : Nat) (w : World) (hm : plan.length = m) (hm2 : m ≤ 1048576) (hp : Seg w lo' hi' B plan) (hBp : hi' ≤ w.heap.size) (hpb : ∀ u ∈ plan, -1 ≤ u ∧ u < 1048576) :
    Calls Try.prog 58 #[.slice B m d] w fun e w' => e = .returned (.map (some w.heap.size)) ∧ (∃ c, c ≤ m ∧ w'.ownsMap Try.prog 3 (plainElem Try.prog 3) w.heap.size c (insD plan m)) ∧ Below w.heap.size w w' := by
  have hmm := @run_makeMap Try.prog
  have HM := Lib.hid hm
  have HPB := Lib.hid hpb
  clear hm hpb
  go_enter Try.func58, Try.ntmps58
  go_wp2
  go_loopw [9] (fun i wr => ∃ k c : Nat, k ≤ m ∧ c ≤ k ∧ i = .int .i64 k ∧ wr.ownsMap Try.prog 3 (plainElem Try.prog 3) w.heap.size c (insD plan k) ∧ Below w.heap.size w wr)
    (fun i _ => m - (intOf i).toNat)
  case atStart => exact ⟨0, 0, Nat.zero_le _, Nat.le_refl _, rfl, World.ownsMap_made _ _ _ _, (Below.refl _ _).alloc (Nat.le_refl _) _⟩
  case round =>
    obtain ⟨k, c, hk, hc, rfl, hown, hnx⟩ := hrel
    by_cases hlt : k < m
    · obtain ⟨b, off, u, rfl, _, hbh, hu, hcu⟩ := (hp.below hnx hBp).at_ (k := k) (by rw [HM.out]; exact hlt)
      have hub := HPB.out u (List.mem_of_getElem? hu)
      by_cases hu1 : u = -1
      · subst hu1
        have HX := Lib.hid (insD_no hu)
        clear hu
        go_wp2
        go_roundw
        case rel => exact ⟨k + 1, c, by omega, by omega, by go_num, by rw [HX.out]; exact hown, hnx⟩
        case measure => simp [intOf]; omega
      · have HX := Lib.hid (insD_yes hu hu1)
        have hune : (u == -1) = false := by rw [beq_eq_false_iff_ne]; exact hu1
        have hwk : (Lit.int .i64 (k : Int)).wf = true := WalkArith.wf_i64 (by omega)
        have hwu : (Lit.int .i64 u).wf = true := WalkArith.wf_i64 (by omega)
        clear hu
        go_wp2_with (first
          | (at_mapUpdate; refine wpList_mapUpdate_own _ rfl _ _ _ 68 rfl 3 3 keyI Try.underlying68 _ w.heap.size c _ rfl hown (by unfold maxLen; omega) _ _ _ rfl rfl (keyOf_int_mk Try.underlying3 hwk) _ [] (plainElem_int Try.underlying3 hwu) ?_; intro w1 hown1 hgrow1)
          | go_in)
        go_roundw
        case rel => exact ⟨k + 1, c + 1, by omega, by omega, by go_num, by rw [HX.out]; exact hown1, hnx.grown hgrow1 hnx.size (fun j hj => by cases hj; exact Nat.le_refl _)⟩
        case measure => simp [intOf]; omega
    · obtain rfl : k = m := by omega
      go_wp2
      go_ret
      exact ⟨rfl, ⟨c, by omega, hown⟩, hnx⟩
end Go.Proofs.Ytjhgpbpincikiaa
