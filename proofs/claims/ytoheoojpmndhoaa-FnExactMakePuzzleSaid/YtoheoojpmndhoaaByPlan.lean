/-
  The written program follows a plan: it fills the boxes that the plan tells, or finds that it is none.
  Conditions: lists of at most 1048576 numbers.
-/
import Derived.Test.YtoheoojpmndhoaaNew
import Derived.Test.YtoheoojpmndhoaaFollM
import Derived.Deep.RegionHeld3
namespace Go.Proofs.Ytoheoojpmndhoaa
set_option linter.unusedVariables false
open Go.RowKit

set_option maxHeartbeats 400000 in
theorem cartonAt_any (P T Bo Bp cap : Nat) (room : Int) (ls pl : List Int) (rest : List Value) (b : Nat) (w : World) (h : Pk w P T Bo Bp cap room ls pl rest) (hb : b ≤ ls.length) :
    Calls Try.prog 132 #[.pointer (some ⟨P, 0, none⟩), .int .i64 (b : Int)] w (Named ls b w) := by
  obtain ⟨f0, f1, f2, f3, f4⟩ := h.facts
  obtain ⟨hP, hBo, hBp⟩ := h.lt
  have h1 := h.len1
  have h9 := h.cap9
  by_cases e : b = ls.length
  · subst e
    have HC := Lib.hid (cart_new ls)
    clear h
    go_enter Try.func132, Try.ntmps132
    go_wp2
    exact bodyPost_ret (v := .agg #[.int .i64 (ls.length : Int), .int .i64 0]) (by simp [results, Try.results132, go_sem]) rfl ⟨by rw [HC.out], (Below.refl _ _).alloc (Nat.le_refl _) _⟩
  · have hbl : b < ls.length := by omega
    obtain ⟨l, hle⟩ : ∃ l, l = ls[b] := ⟨_, rfl⟩
    have hl : ls[b]? = some l := by rw [hle]; exact List.getElem?_eq_getElem hbl
    clear hle
    obtain ⟨g1, g2⟩ := h.box hl
    have HC := Lib.hid (cart_at hl)
    clear h hl
    go_enter Try.func132, Try.ntmps132
    go_wp2
    exact bodyPost_ret (v := .agg #[.int .i64 (b : Int), .int .i64 l]) (by simp [results, Try.results132, go_sem]) rfl ⟨by rw [HC.out], (Below.refl _ _).alloc (Nat.le_refl _) _⟩

/-- A packing of a plan, and that it is one; or that it is none. -/
def PlanRet (n : Nat) (room : Int) (plan : List Int) (r : Option (List Int)) (w : World) (e : Ending) (w' : World) : Prop :=
  (r = none ∧ e = .returned (.tuple #[.agg #[.int .i64 0, .int .i64 0, .int .i64 0, .slice none 0 0, .slice none 0 0], .bool false]) ∧ Below w.heap.size w w') ∨
  ∃ ls Bo Bp, r = some ls ∧ e = .returned (.tuple #[.agg #[.int .i64 (ls.length : Int), .int .i64 0, .int .i64 room, .slice (some ⟨Bo, 0, none⟩) ls.length n, .slice (some ⟨Bp, 0, none⟩) n n], .bool true]) ∧
    Boxes w' Bo n ls ∧ Plan w' Bp n plan ∧ Bo ≠ Bp ∧ w.heap.size ≤ Bo ∧ w.heap.size ≤ Bp ∧ Below w.heap.size w w'

/-- The loads that the written program finds for a plan. -/
def packM (room : Int) (xs plan : List Int) : Option (List Int) := if askedB xs room then loadsM room xs plan else none
theorem packM_no {room : Int} {xs plan : List Int} (h : askedB xs room = false) : packM room xs plan = none := by unfold packM; rw [if_neg (by rw [h]; decide)]
theorem packM_len {room : Int} {xs plan ls : List Int} (h : packM room xs plan = some ls) : ls.length ≤ 9 := by
  unfold packM at h
  split at h
  · next ha =>
    obtain ⟨h1, h9, hx, _⟩ := askedB_at ha
    unfold loadsM at h
    split at h
    · exact Nat.le_trans (foll_loads hx (Nat.le_refl _) h).2 h9
    · cases h
  · cases h
theorem packM_yes {room : Int} {xs plan : List Int} (h : askedB xs room = true) : packM room xs plan = loadsM room xs plan := by unfold packM; rw [if_pos h]

end Go.Proofs.Ytoheoojpmndhoaa
