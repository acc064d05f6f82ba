/-
  Lists of numbers that go together, the longest one, the first of as many; no program is spoken of here.
  Conditions: none.
-/
import Derived.Test.YtkconbcmbpmghaaNestM
namespace Go.Proofs.Ytkconbcmbpmghaa
set_option linter.unusedVariables false
open Go.RowKit

def stepW (g : Int → List Int) (most : List Int) (k : Int) : List Int := if most.length ≤ (g k).length then k :: g k else most
/-- The longest list, the first one, of numbers that go together, with so many steps at most. -/
def mostT (tog : Int → Int → Bool) : Nat → List Int → List Int
  | 0, _ => []
  | f + 1, ns => ns.foldl (stepW fun k => mostT tog f (ns.filter (tog k))) []

theorem stepW_take (g : Int → List Int) {ns : List Int} {t : Nat} {k : Int} (h : ns[t]? = some k) : (ns.take (t + 1)).foldl (stepW g) [] = stepW g ((ns.take t).foldl (stepW g) []) k := by
  rw [take_snoc h, List.foldl_append]; rfl
theorem stepW_yes {g : Int → List Int} {most : List Int} {k : Int} (h : most.length ≤ (g k).length) : stepW g most k = k :: g k := by rw [stepW, if_pos h]
theorem stepW_no {g : Int → List Int} {most : List Int} {k : Int} (h : ¬ most.length ≤ (g k).length) : stepW g most k = most := by rw [stepW, if_neg h]

theorem foldW_length {g : Int → List Int} {f : Nat} (hg : ∀ k, (g k).length ≤ f) : ∀ (l acc : List Int), acc.length ≤ f + 1 → (l.foldl (stepW g) acc).length ≤ f + 1 := by
  intro l
  induction l with
  | nil => intro acc h; exact h
  | cons k l ih =>
    intro acc h
    refine ih _ ?_
    rw [stepW]
    split
    · have := hg k
      simp only [List.length_cons]
      omega
    · exact h
theorem mostT_length (tog : Int → Int → Bool) (f : Nat) : ∀ ns, (mostT tog f ns).length ≤ f := by
  induction f with
  | zero => intro ns; exact Nat.le_refl _
  | succ f ih => intro ns; exact foldW_length (fun k => ih _) ns [] (by simp)

theorem filter_take {ns : List Int} {s : Nat} {u : Int} (p : Int → Bool) (h : ns[s]? = some u) : (ns.take (s + 1)).filter p = (ns.take s).filter p ++ (if p u = true then [u] else []) := by
  rw [take_snoc h, List.filter_append]
  cases hp : p u <;> simp [hp]
theorem filter_less {ns : List Int} {p : Int → Bool} {k : Int} (h : k ∈ ns) (hp : p k = false) : (ns.filter p).length + 1 ≤ ns.length := by
  have : (ns.filter p).length < ns.length := List.length_filter_lt_length_iff_exists.2 ⟨k, h, by rw [hp]; simp⟩
  omega

/-- The numbers 0, 1, .. -/
def below (n : Nat) : List Int := (List.range n).map fun i : Nat => (i : Int)
theorem below_length (n : Nat) : (below n).length = n := by simp [below]
theorem below_at {n i : Nat} (h : i < n) : (below n)[i]? = some (i : Int) := by simp [below, h]
theorem below_mem {n : Nat} {x : Int} (h : x ∈ below n) : 0 ≤ x ∧ x < (n : Int) := by
  obtain ⟨i, hi, rfl⟩ := List.mem_map.1 h
  have := List.mem_range.1 hi
  omega

def togL (bs : List (Int × Int × Int)) (i j : Int) : Bool := fitL bs i.toNat j.toNat
def togA (bs : List (Int × Int × Int)) (i j : Int) : Bool := decide (i < j) && ((!fitL bs i.toNat j.toNat) && !fitL bs j.toNat i.toNat)
theorem togL_self (bs : List (Int × Int × Int)) (i : Int) : togL bs i i = false := fitL_self _ _
theorem togA_self (bs : List (Int × Int × Int)) (i : Int) : togA bs i i = false := by simp [togA]

theorem fitT_trans {a b c : Int × Int × Int} (h1 : fitT a b = true) (h2 : fitT b c = true) : fitT a c = true := by
  unfold fitT insideB at *
  simp only [decide_eq_true_eq] at *
  omega
theorem togL_trans {bs : List (Int × Int × Int)} {i j k : Int} (h1 : togL bs i j = true) (h2 : togL bs j k = true) : togL bs i k = true := by
  unfold togL fitL at *
  split at h1
  · rename_i a b ha hb
    split at h2
    · rename_i b' c hb' hc
      rw [hb] at hb'
      injection hb' with hb'
      subst hb'
      rw [ha, hc]
      exact fitT_trans h1 h2
    · cases h2
  · cases h1

/-- What is left to go on with. -/
def candsC (tog : Int → Int → Bool) (all begin_ : List Int) : List Int := all.filter fun i => begin_.all fun b => tog b i
theorem candsC_nil (tog : Int → Int → Bool) (all : List Int) : candsC tog all [] = all := by simp [candsC]
theorem candsC_snoc (tog : Int → Int → Bool) (all begin_ : List Int) (k : Int) : candsC tog all (begin_ ++ [k]) = (candsC tog all begin_).filter (tog k) := by
  unfold candsC
  rw [List.filter_filter]
  refine List.filter_congr fun x _ => ?_
  simp [List.all_append, Bool.and_comm]
theorem candsC_sub {tog : Int → Int → Bool} {all begin_ : List Int} {x : Int} (h : x ∈ candsC tog all begin_) : x ∈ all := (List.mem_filter.1 h).1
end Go.Proofs.Ytkconbcmbpmghaa
