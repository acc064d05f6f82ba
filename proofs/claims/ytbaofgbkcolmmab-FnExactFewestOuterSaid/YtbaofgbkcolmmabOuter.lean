/-
  Both programs' outer boxes of a nesting.
  Conditions: the lists have at most 1048576 elements.
-/
import Derived.Test.YtbaofgbkcolmmabSomeN
import Derived.Test.YtbaofgbkcolmmabIsNest
namespace Go.Proofs.Ytbaofgbkcolmmab
set_option linter.unusedVariables false
open Go.RowKit


/-- The outer boxes of the first 'k'. -/
def outerF (plan : List Int) : Nat → List Int
  | 0 => []
  | k + 1 => outerF plan k ++ (if plan.getD k 0 = -1 then [(k : Int)] else [])
def outerL (plan : List Int) : List Int := outerF plan plan.length
theorem outerF_length (plan : List Int) (k : Nat) : (outerF plan k).length ≤ k := by
  induction k with
  | zero => exact Nat.le_refl _
  | succ k ih =>
    rw [outerF, List.length_append]
    split <;> simp <;> omega
theorem outer_hit {plan : List Int} {k : Nat} (h : plan[k]? = some (-1)) : outerF plan (k + 1) = outerF plan k ++ [(k : Int)] := by
  rw [outerF, if_pos (by simp [List.getD, h])]
theorem outer_miss {plan : List Int} {k : Nat} {u : Int} (h : plan[k]? = some u) (hu : u ≠ -1) : outerF plan (k + 1) = outerF plan k := by
  rw [outerF, if_neg (by simp [List.getD, h]; exact hu), List.append_nil]

theorem plan_ge {bs : List (Int × Int × Int)} {plan : List Int} (h : bothN bs plan = true) : ∀ u ∈ plan, -1 ≤ u := by
  intro u hu
  obtain ⟨k, hk⟩ := List.getElem?_of_mem hu
  rcases nest_bd h hk with h1 | h1 <;> omega

set_option maxRecDepth 100000 in
set_option maxHeartbeats 1000000 in
theorem neOuter_any (B : Option Addr) (m d : Nat) (plan : List Int) (lo' hi' : Nat) (w : World) (hm : plan.length = m) (hm2 : m ≤ 1048576) (hp : Seg w lo' hi' B plan) (hBp : hi' ≤ w.heap.size) (hge : ∀ u ∈ plan, -1 ≤ u) :
    Calls Try.prog 44 #[.slice B m d] w fun e w' => ∃ A' n' c', e = .returned (.slice A' n' c') ∧ (outerL plan).length = n' ∧ Own w' w.heap.size w'.heap.size A' (outerL plan) ∧ Below w.heap.size w w' := by
  obtain ⟨i0, hi0, hz0, hz1, hz2⟩ := info_parts int_info
  have HM := Lib.hid hm
  have HGE := Lib.hid hge
  clear hm hge
  go_enter Try.func44, Try.ntmps44
  go_wp2
  go_loopw [3, 8] (fun v i wr => ∃ k : Nat, k ≤ m ∧ i = .int .i64 k ∧ Below w.heap.size w wr ∧ (∃ os, outerF plan k = os ∧ wr.ownsRow w.heap.size 3 1 v os.length (os.map (Value.int .i64)))) (fun _ i _ => m - (intOf i).toNat)
  case atStart => exact ⟨0, Nat.zero_le _, rfl, Below.refl _ _, [], rfl, World.ownsRow_nil _ _ _ _⟩
  case round =>
    obtain ⟨k, hk, rfl, hb, os, hos, hown⟩ := hrel
    have hz := hb.size
    have hol : os.length ≤ k := by rw [← hos]; exact outerF_length _ _
    have HOS := Lib.hid hos
    have HOW := Lib.hid hown
    clear hos
    obtain ⟨A', c', rfl⟩ := ownsRow_form hown
    by_cases hlt : k < m
    · obtain ⟨b, off, u, rfl, _, hbh, hu, hcu⟩ := hp.at_ (k := k) (by rw [HM.out]; exact hlt)
      have hcu1 : wr.cell? ⟨b, off + k, none⟩ = some (.int .i64 u) := (hb.cell (by exact Nat.lt_of_lt_of_le hbh hBp)).trans hcu
      have hub := HGE.out u (List.mem_of_getElem? hu)
      by_cases hm1 : u = -1
      · subst hm1
        have HX := Lib.hid (outer_hit hu)
        have HOA := Lib.hid (hown.alloc (.cells #[.int .i64 (k : Int)] 3))
        have HS1 := Lib.hid (seg_one wr (k : Int) 3)
        have HLT := Lib.hid hown.lt
        clear hu hcu hown
        go_wp2_with (at_builtin; refine wpList_append_seg _ rfl _ _ 30 rfl w.heap.size 3 i0 Try.underlying30 hi0 hz0 hz1 hz2 _ os.length _ rfl HOA.out _ 1 1 [(k : Int)] _ _ rfl rfl HS1.out (by omega) (by simp; omega) ?_; intro v3 w3 hown3 hgr3; have HB3 := Lib.hid ((hb.alloc hz _).grown hgr3 (by simp; omega) (fun g' hg' => (HLT.out g' hg').1)); have HO3 := Lib.hid (show w3.ownsRow w.heap.size 3 1 v3 (os ++ [(k : Int)]).length ((os ++ [(k : Int)]).map (Value.int .i64)) by simpa using hown3); clear hown3 hgr3; obtain ⟨A3, c3, rfl⟩ := ownsRow_form HO3.out)
        go_roundw
        case rel =>
          refine ⟨k + 1, by omega, by go_num, HB3.out, os ++ [(k : Int)], by rw [HX.out, HOS.out], ?_⟩
          have h := HO3.out
          rw [List.length_append] at h ⊢
          exact h
        case measure => simp [intOf]; omega
      · have HX := Lib.hid (outer_miss hu hm1)
        have hm2' : ¬ u < 0 ∨ True := .inr trivial
        have hm3 : decide (u < 0) = false := by rw [decide_eq_false_iff_not]; omega
        clear hu hcu
        go_wp2
        go_roundw
        case rel => exact ⟨k + 1, by omega, by go_num, hb, os, by rw [HX.out, HOS.out], HOW.out⟩
        case measure => simp [intOf]; omega
    · obtain rfl : k = m := by omega
      go_wp2
      go_ret
      have e : outerL plan = os := by rw [← HOS.out, outerL, HM.out]
      rw [e]
      exact ⟨A', _, c', rfl, rfl, (ownsRow_own HOW.out).2, hb⟩

set_option maxRecDepth 100000 in
set_option maxHeartbeats 1000000 in
theorem outerOf_any (B : Option Addr) (m d : Nat) (plan : List Int) (lo' hi' : Nat) (w : World) (hm : plan.length = m) (hm2 : m ≤ 1048576) (hp : Seg w lo' hi' B plan) (hBp : hi' ≤ w.heap.size) (hge : ∀ u ∈ plan, -1 ≤ u) :
    Calls Try.prog 90 #[.slice B m d] w fun e w' => ∃ A' n' c', e = .returned (.slice A' n' c') ∧ (outerL plan).length = n' ∧ Own w' w.heap.size w'.heap.size A' (outerL plan) ∧ Below w.heap.size w w' := by
  obtain ⟨i0, hi0, hz0, hz1, hz2⟩ := info_parts int_info
  have HM := Lib.hid hm
  have HGE := Lib.hid hge
  clear hm hge
  go_enter Try.func90, Try.ntmps90
  go_wp2
  go_loopw [3, 8] (fun v i wr => ∃ k : Nat, k ≤ m ∧ i = .int .i64 k ∧ Below w.heap.size w wr ∧ (∃ os, outerF plan k = os ∧ wr.ownsRow w.heap.size 3 1 v os.length (os.map (Value.int .i64)))) (fun _ i _ => m - (intOf i).toNat)
  case atStart => exact ⟨0, Nat.zero_le _, rfl, Below.refl _ _, [], rfl, World.ownsRow_nil _ _ _ _⟩
  case round =>
    obtain ⟨k, hk, rfl, hb, os, hos, hown⟩ := hrel
    have hz := hb.size
    have hol : os.length ≤ k := by rw [← hos]; exact outerF_length _ _
    have HOS := Lib.hid hos
    have HOW := Lib.hid hown
    clear hos
    obtain ⟨A', c', rfl⟩ := ownsRow_form hown
    by_cases hlt : k < m
    · obtain ⟨b, off, u, rfl, _, hbh, hu, hcu⟩ := hp.at_ (k := k) (by rw [HM.out]; exact hlt)
      have hcu1 : wr.cell? ⟨b, off + k, none⟩ = some (.int .i64 u) := (hb.cell (by exact Nat.lt_of_lt_of_le hbh hBp)).trans hcu
      have hub := HGE.out u (List.mem_of_getElem? hu)
      by_cases hm1 : u = -1
      · subst hm1
        have HX := Lib.hid (outer_hit hu)
        have HOA := Lib.hid (hown.alloc (.cells #[.int .i64 (k : Int)] 3))
        have HS1 := Lib.hid (seg_one wr (k : Int) 3)
        have HLT := Lib.hid hown.lt
        clear hu hcu hown
        go_wp2_with (at_builtin; refine wpList_append_seg _ rfl _ _ 30 rfl w.heap.size 3 i0 Try.underlying30 hi0 hz0 hz1 hz2 _ os.length _ rfl HOA.out _ 1 1 [(k : Int)] _ _ rfl rfl HS1.out (by omega) (by simp; omega) ?_; intro v3 w3 hown3 hgr3; have HB3 := Lib.hid ((hb.alloc hz _).grown hgr3 (by simp; omega) (fun g' hg' => (HLT.out g' hg').1)); have HO3 := Lib.hid (show w3.ownsRow w.heap.size 3 1 v3 (os ++ [(k : Int)]).length ((os ++ [(k : Int)]).map (Value.int .i64)) by simpa using hown3); clear hown3 hgr3; obtain ⟨A3, c3, rfl⟩ := ownsRow_form HO3.out)
        go_roundw
        case rel =>
          refine ⟨k + 1, by omega, by go_num, HB3.out, os ++ [(k : Int)], by rw [HX.out, HOS.out], ?_⟩
          have h := HO3.out
          rw [List.length_append] at h ⊢
          exact h
        case measure => simp [intOf]; omega
      · have HX := Lib.hid (outer_miss hu hm1)
        have hm2' : ¬ u < 0 ∨ True := .inr trivial
        have hm3 : decide (u < 0) = false := by rw [decide_eq_false_iff_not]; omega
        clear hu hcu
        go_wp2
        go_roundw
        case rel => exact ⟨k + 1, by omega, by go_num, hb, os, by rw [HX.out, HOS.out], HOW.out⟩
        case measure => simp [intOf]; omega
    · obtain rfl : k = m := by omega
      go_wp2
      go_ret
      have e : outerL plan = os := by rw [← HOS.out, outerL, HM.out]
      rw [e]
      exact ⟨A', _, c', rfl, rfl, (ownsRow_own HOW.out).2, hb⟩

end Go.Proofs.Ytbaofgbkcolmmab
