/-
  A plan that is followed, thing by thing, as a function on lists; no program is spoken of here.
  Conditions: none.
-/
import Derived.Test.YtoheoojpmndhoaaPickM
namespace Go.Proofs.Ytoheoojpmndhoaa
set_option linter.unusedVariables false

/-- One thing more goes into the box that the plan tells, if there is such a box, or it is the next one, and there is room. -/
def stepL (room : Int) (ls : List Int) (b size : Int) : Option (List Int) :=
  if 0 ≤ b ∧ b ≤ ls.length ∧ ls.getD b.toNat 0 + size ≤ room then some (addTo ls b.toNat size) else none

theorem stepL_low {room : Int} {ls : List Int} {b size : Int} (h : b < 0) : stepL room ls b size = none := by unfold stepL; rw [if_neg (by omega)]
theorem stepL_high {room : Int} {ls : List Int} {b size : Int} (h : (ls.length : Int) < b) : stepL room ls b size = none := by unfold stepL; rw [if_neg (by omega)]
theorem stepL_full {room : Int} {ls : List Int} {b : Nat} {size : Int} (h : ¬ ls.getD b 0 + size ≤ room) : stepL room ls (b : Int) size = none := by
  unfold stepL; rw [Int.toNat_natCast, if_neg (by omega)]
theorem stepL_ok {room : Int} {ls : List Int} {b : Nat} {size : Int} (hb : b ≤ ls.length) (h : ls.getD b 0 + size ≤ room) : stepL room ls (b : Int) size = some (addTo ls b size) := by
  unfold stepL; rw [Int.toNat_natCast, if_pos ⟨by omega, by omega, h⟩]

/-- The loads behind the first 'k' things. -/
def foll (room : Int) (xs plan : List Int) : Nat → Option (List Int)
  | 0 => some []
  | k + 1 => (foll room xs plan k).bind fun ls => stepL room ls (plan.getD k 0) (xs.getD k 0)

theorem foll_none {room : Int} {xs plan : List Int} {k : Nat} (h : foll room xs plan k = none) (d : Nat) : foll room xs plan (k + d) = none := by
  induction d with
  | zero => exact h
  | succ d ih => rw [Nat.add_succ, foll, ih]; rfl

theorem foll_fail {room : Int} {xs plan ls : List Int} {k n : Nat} {b size : Int} (h : foll room xs plan k = some ls) (hb : plan[k]? = some b) (hx : xs[k]? = some size) (hs : stepL room ls b size = none) (hk : k < n) :
    foll room xs plan n = none := by
  have e1 : plan.getD k 0 = b := by simp [List.getD, hb]
  have e2 : xs.getD k 0 = size := by simp [List.getD, hx]
  have h1 : foll room xs plan (k + 1) = none := by rw [foll, h, e1, e2]; exact hs
  have h2 := foll_none h1 (n - (k + 1))
  rwa [show k + 1 + (n - (k + 1)) = n by omega] at h2

theorem foll_step {room : Int} {xs plan ls ls' : List Int} {k : Nat} {b size : Int} (h : foll room xs plan k = some ls) (hb : plan[k]? = some b) (hx : xs[k]? = some size) (hs : stepL room ls b size = some ls') :
    foll room xs plan (k + 1) = some ls' := by
  have e1 : plan.getD k 0 = b := by simp [List.getD, hb]
  have e2 : xs.getD k 0 = size := by simp [List.getD, hx]
  rw [foll, h, e1, e2]
  exact hs

theorem foll_loads {room : Int} {xs plan ls : List Int} {k : Nat} (hx : ∀ x ∈ xs, 1 ≤ x ∧ x ≤ 100 ∧ x ≤ room) (hk : k ≤ xs.length) (h : foll room xs plan k = some ls) : Loads room ls ∧ ls.length ≤ k := by
  induction k generalizing ls with
  | zero => simp [foll] at h; subst h; exact ⟨fun x hx => (by cases hx), Nat.le_refl _⟩
  | succ k ih =>
    rw [foll] at h
    rcases hf : foll room xs plan k with _ | l0
    · rw [hf] at h; cases h
    · rw [hf] at h
      obtain ⟨i1, i2⟩ := ih (by omega) hf
      simp only [Option.bind_some] at h
      unfold stepL at h
      split at h
      · next hc =>
        injection h with h
        subst h
        have hxk : xs.getD k 0 ∈ xs := by simp [List.getD, show k < xs.length by omega]
        have hb := hx _ hxk
        refine ⟨i1.add hb.1 hb.2.2 (fun _ => hc.2.2), ?_⟩
        rw [addTo_length]
        split <;> omega
      · cases h

/-- The loads of a plan, if it is one. -/
def loadsM (room : Int) (xs plan : List Int) : Option (List Int) := if plan.length = xs.length then foll room xs plan xs.length else none

theorem loadsM_ne {room : Int} {xs plan : List Int} (h : plan.length ≠ xs.length) : loadsM room xs plan = none := by unfold loadsM; rw [if_neg h]
theorem loadsM_eq {room : Int} {xs plan : List Int} (h : plan.length = xs.length) : loadsM room xs plan = foll room xs plan xs.length := by unfold loadsM; rw [if_pos h]

theorem addTo_at {ls : List Int} {b : Nat} (hb : b ≤ ls.length) (size : Int) : (addTo ls b size)[b]? = some (ls.getD b 0 + size) := by
  unfold addTo
  split
  · next e => subst e; simp [List.getD]
  · have h : b < ls.length := by omega
    rw [List.getElem?_set_self h]
end Go.Proofs.Ytoheoojpmndhoaa
