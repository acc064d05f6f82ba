/-
  The order by size, and what is packed in it; no program is spoken of here.
  Conditions: none.
-/
import Derived.Test.YtkconbcmbpmghabBelowS
import Derived.Test.YtkconbcmbpmghabInsC
import Derived.Test.YtkconbcmbpmghabRule
import Derived.Test.YtkconbcmbpmghabOrdM
import Derived.Test.YtkconbcmbpmghabNamedM
namespace Go.Proofs.Ytkconbcmbpmghab
set_option linter.unusedVariables false
open Go.RowKit

/-- The indices, the greater sizes first. -/
def ordI (xs : List Int) : List Int := sortG (upZ xs) (below xs.length)
def ordN (xs : List Int) : List Nat := (ordI xs).map Int.toNat
theorem ordI_mem {xs : List Int} : ∀ x ∈ ordI xs, 0 ≤ x ∧ x < (xs.length : Int) := sortG_mem (fun x hx => below_mem hx)
theorem ordI_length (xs : List Int) : (ordI xs).length = xs.length := by rw [ordI, sortG_length, below_length]
theorem ordN_ints (xs : List Int) : ints (ordN xs) = ordI xs := by
  rw [ints, ordN, List.map_map]
  have h : (ordI xs).map ((fun i : Nat => (i : Int)) ∘ Int.toNat) = (ordI xs).map id := List.map_congr_left fun x hx => by
    have := ordI_mem x hx
    simp only [Function.comp, id]
    omega
  rw [h, List.map_id]
theorem ordN_length (xs : List Int) : (ordN xs).length = xs.length := by rw [ordN, List.length_map, ordI_length]
theorem ordN_lt {xs : List Int} : ∀ i ∈ ordN xs, i < xs.length := by
  intro i hi
  obtain ⟨x, hx, rfl⟩ := List.mem_map.1 hi
  have := ordI_mem x hx
  omega
theorem ordN_at {xs : List Int} {k : Nat} {x : Int} (h : (ordI xs)[k]? = some x) : ∃ i : Nat, x = (i : Int) ∧ (ordN xs)[k]? = some i ∧ i < xs.length := by
  have := ordI_mem x (List.mem_of_getElem? h)
  refine ⟨x.toNat, by omega, by rw [ordN, List.getElem?_map, h]; rfl, by omega⟩
theorem sizes_at {xs : List Int} {k i : Nat} {u : Int} (h : (ordN xs)[k]? = some i) (hu : xs[i]? = some u) : (sizesL xs (ordN xs))[k]? = some u := by
  simp [sizesL, h, List.getD, hu]
theorem sizes_length (xs : List Int) : (sizesL xs (ordN xs)).length = xs.length := by rw [sizesL, List.length_map, ordN_length]
theorem maxz_le (xs : List Int) (r : Int) : ∀ a : Int, a ≤ r → (∀ x ∈ xs, x ≤ r) → xs.foldl max a ≤ r := by
  induction xs with
  | nil => intro a h _; exact h
  | cons x xs ih =>
    intro a h hx
    have := hx x List.mem_cons_self
    exact ih _ (by omega) fun y hy => hx y (List.mem_cons_of_mem _ hy)
theorem sizes_asked {xs : List Int} {room : Int} (h : askedB xs room = true) : askedB (sizesL xs (ordN xs)) room = true := by
  obtain ⟨h1, h9, hx, hr1, hr2⟩ := askedB_at h
  have hm : ∀ y ∈ sizesL xs (ordN xs), 1 ≤ y ∧ y ≤ 100 ∧ y ≤ room := by
    intro y hy
    obtain ⟨i, hi, rfl⟩ := List.mem_map.1 hy
    have hl := ordN_lt i hi
    refine hx _ ?_
    simp [List.getD, hl]
  refine askedB_true.2 ⟨goodB_true.2 ⟨?_, ?_⟩, maxz_le _ _ _ (by omega) fun x hx => (hm x hx).2.2, hr2⟩
  · rw [sizes_length, inB, decide_eq_true_iff]
    omega
  · refine allB_of fun k u hu => ?_
    have := hm u (List.mem_of_getElem? hu)
    rw [inB, decide_eq_true_iff]
    omega
/-- The plan of FirstFit by that order, its boxes told anew. -/
def gfM (xs : List Int) (room : Int) : List Int := namedL (putL (ordN xs) (run 102 room (sizesL xs (ordN xs)) ([], [])).2 (List.replicate xs.length 0))
theorem gfM_spec (xs : List Int) (room : Int) : namedL (runOrd 102 room xs (ordN xs) ([], List.replicate xs.length 0)).2 = gfM xs room := by rw [runOrd_put]; rfl
theorem gfM_length (xs : List Int) (room : Int) : (gfM xs room).length = xs.length := by rw [gfM, named_length, putL_length]; simp
end Go.Proofs.Ytkconbcmbpmghab
