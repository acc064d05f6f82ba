/-
  What a clue tells of things.
  Conditions: none.
-/
import Derived.Test.YtoheoojpmndhoaaPzM
import Derived.Test.YtoheoojpmndhoaaPkA
import Derived.Test.YtoheoojpmndhoaaFewA
namespace Go.Proofs.Ytoheoojpmndhoaa
set_option linter.unusedVariables false
set_option linter.unusedSimpArgs false
open Go.RowKit

/-- The search for things that fill a room finds some just if there are some. -/
theorem fill_some {xs : List Int} (hx : ∀ x ∈ xs, 1 ≤ x) (m : Nat) : ∀ (k : Nat) (room : Int), k + m = xs.length → 0 ≤ room → (fillM xs m k room).isSome = someS (xs.drop k) room := by
  induction m with
  | zero =>
    intro k room hk hr
    have hd : xs.drop k = [] := by rw [List.drop_eq_nil_iff]; omega
    rw [hd, someS, fillM]
    by_cases h : room = 0
    · rw [if_pos h, decide_eq_true h]; rfl
    · rw [if_neg h, decide_eq_false h]; rfl
  | succ m ih =>
    intro k room hk hr
    by_cases h0 : room = 0
    · subst h0; rw [fillM_zero, someS_zero]; rfl
    have hlt : k < xs.length := by omega
    have hxk : xs[k]? = some xs[k] := List.getElem?_eq_getElem hlt
    have hdr : xs.drop k = xs[k] :: xs.drop (k + 1) := List.drop_eq_getElem_cons hlt
    have hpos := hx xs[k] (List.getElem_mem hlt)
    have hd : ∀ x ∈ xs.drop (k + 1), 0 ≤ x := fun x h => by have := hx x (List.mem_of_mem_drop h); omega
    rw [hdr, someS]
    by_cases ho : room < xs[k]
    · rw [fillM_over h0 hxk ho, ih (k + 1) room (by omega) hr, someS_neg hd (show room - xs[k] < 0 by omega), Bool.or_false]
    · have h1 := ih (k + 1) room (by omega) hr
      have h2 := ih (k + 1) (room - xs[k]) (by omega) (by omega)
      cases hf : fillM xs m (k + 1) (room - xs[k]) with
      | none =>
        rw [fillM_no h0 hxk hf, h1, ← h2, hf, Option.isSome_none, Bool.or_false]
      | some r =>
        rw [fillM_yes h0 hxk ho hf, ← h2, hf, Option.isSome_some, Option.isSome_some, Bool.or_true]

/-- The fewest boxes. -/
noncomputable def fewN (room : Int) (xs : List Int) : Nat := open Classical in if h : ∃ m, Least (allP room xs) m then Classical.choose h else 0
theorem fewN_least {room : Int} {xs : List Int} (hx : ∀ x ∈ xs, x ≤ room) : Least (allP room xs) (fewN room xs) := by
  have h2 : allP room xs ≠ [] := List.ne_nil_of_mem (run_leaf (ls := []) (pl := []) hx)
  have h := least_exists h2
  unfold fewN
  rw [dif_pos h]
  exact Classical.choose_spec h

/-- What a clue of a kind with two numbers tells of things. -/
noncomputable def toldK (k a b : Int) (xs : List Int) : Int :=
  if k = 0 then xs.sum
  else if k = 1 then (if xs.getD b.toNat 0 < xs.getD a.toNat 0 then 1 else 0)
  else if k = 2 then (fewN a xs : Int)
  else if k = 3 then (if someS xs a = true then 1 else 0)
  else if k = 4 then xs.getD a.toNat 0 * xs.getD b.toNat 0
  else mostOf xs
noncomputable def toldV (c : Clu) (xs : List Int) : Int := toldK c.1 c.2.1 c.2.2.1 xs

/-- Hidden things. -/
def hidB (xs : List Int) : Bool := inB (xs.length : Int) 2 4 && allB xs 1 6
theorem hidB_at {xs : List Int} (h : hidB xs = true) : 2 ≤ xs.length ∧ xs.length ≤ 4 ∧ ∀ x ∈ xs, 1 ≤ x ∧ x ≤ 6 := by
  simp only [hidB, Bool.and_eq_true, inB_true, allB, List.all_eq_true] at h
  exact ⟨by omega, by omega, fun x hx => h.2 x hx⟩
theorem hid_of {xs : List Int} {n : Nat} (h2 : 2 ≤ n) (h4 : n ≤ 4) (h : xs.length = n ∧ ∀ x ∈ xs, 1 ≤ x ∧ x ≤ 6) : hidB xs = true := by
  simp only [hidB, Bool.and_eq_true, inB_true, allB, List.all_eq_true]
  exact ⟨by omega, fun x hx => h.2 x hx⟩
theorem hid_good {xs : List Int} (h : hidB xs = true) : goodB xs = true := by
  obtain ⟨h2, h4, hx⟩ := hidB_at h
  simp only [goodB, Bool.and_eq_true, inB_true, allB, List.all_eq_true]
  exact ⟨by omega, fun x hy => by have := hx x hy; omega⟩

/-- A kind and two numbers that a clue of so many things may have. -/
def ValOk (n k a b : Int) : Prop := ((k = 1 ∨ k = 4) → (0 ≤ a ∧ a < n) ∧ 0 ≤ b ∧ b < n) ∧ (k = 2 → 6 ≤ a ∧ a ≤ 24) ∧ (k = 3 → 1 ≤ a ∧ a ≤ 24)
theorem ValOk.of_clue {n : Int} {c : Clu} (h : clueB n c = true) : ValOk n c.1 c.2.1 c.2.2.1 := by
  refine ⟨?_, ?_, ?_⟩
  · rintro (e | e)
    · simp [clueB, e, twoC, inB_true] at h; omega
    · simp [clueB, e, twoC, inB_true] at h; omega
  · intro e; simp [clueB, e, inB_true] at h; omega
  · intro e; simp [clueB, e, inB_true] at h; omega
end Go.Proofs.Ytoheoojpmndhoaa
