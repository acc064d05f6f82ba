/-
  Lists that fall: put in one by one, or sorted and turned round; no program is spoken of here.
  Conditions: none.
-/
import Derived.Test.YtjpejhpilfjheaaBdE
namespace Go.Proofs.Ytjpejhpilfjheaa
set_option linter.unusedVariables false

/-- Where a number comes in a list that falls: behind all that are not less. -/
def posD (out : List Int) (x : Int) : Nat → Nat
  | 0 => 0
  | k + 1 => if out.getD k 0 < x then posD out x k else k + 1
def insD (out : List Int) (x : Int) : List Int := out.take (posD out x out.length) ++ x :: out.drop (posD out x out.length)
theorem posD_le (out : List Int) (x : Int) : ∀ k, posD out x k ≤ k := by
  intro k
  induction k with
  | zero => simp [posD]
  | succ k ih => rw [posD]; split <;> omega
theorem posD_ge (out : List Int) (x : Int) : ∀ k, k ≤ out.length → ∀ j, posD out x k ≤ j → j < k → out.getD j 0 < x := by
  intro k
  induction k with
  | zero => intro _ j _ h; omega
  | succ k ih =>
    intro hk j h1 h2
    rw [posD] at h1
    split at h1
    · rename_i h3
      by_cases e : j = k
      · subst e; exact h3
      · exact ih (by omega) j h1 (by omega)
    · omega
theorem posD_at (out : List Int) (x : Int) : ∀ k, posD out x k = 0 ∨ x ≤ out.getD (posD out x k - 1) 0 := by
  intro k
  induction k with
  | zero => left; rfl
  | succ k ih =>
    rw [posD]
    split
    · exact ih
    · rename_i h3; right; rw [show k + 1 - 1 = k by omega]; omega
theorem insD_len (out : List Int) (x : Int) : (insD out x).length = out.length + 1 := by
  have := posD_le out x out.length
  simp only [insD, List.length_append, List.length_take, List.length_cons, List.length_drop]
  omega
theorem insD_perm (out : List Int) (x : Int) : List.Perm (insD out x) (out ++ [x]) := by
  have h : List.Perm (insD out x) (x :: (out.take (posD out x out.length) ++ out.drop (posD out x out.length))) := List.perm_middle
  rw [List.take_append_drop] at h
  exact h.trans (List.perm_append_singleton x out).symm
theorem insD_falls {out : List Int} (x : Int) (h : out.Pairwise (fun a b => b ≤ a)) : (insD out x).Pairwise (fun a b => b ≤ a) := by
  obtain ⟨p, hp⟩ : ∃ p, posD out x out.length = p := ⟨_, rfl⟩
  have hle := posD_le out x out.length
  have hge := posD_ge out x out.length (Nat.le_refl _)
  have hat := posD_at out x out.length
  rw [hp] at hle hge hat
  rw [insD, hp]
  have h0 := h
  rw [← List.take_append_drop p out] at h
  have h' := List.pairwise_append.1 h
  refine List.pairwise_append.2 ⟨h'.1, List.pairwise_cons.2 ⟨fun b hb => ?_, h'.2.1⟩, fun a ha b hb => ?_⟩
  · obtain ⟨j, hj⟩ := List.getElem?_of_mem hb
    rw [List.getElem?_drop] at hj
    have hl := (List.getElem?_eq_some_iff.1 hj).1
    have := hge (p + j) (by omega) hl
    simp [List.getD, hj] at this
    omega
  · have hpa : p ≠ 0 := by rintro rfl; simp at ha
    have hax : x ≤ a := by
      obtain ⟨j, hj⟩ := List.getElem?_of_mem ha
      have hjp : j < p := by have := (List.getElem?_eq_some_iff.1 hj).1; rw [List.length_take] at this; omega
      rw [List.getElem?_take_of_lt hjp] at hj
      have hxp : x ≤ out.getD (p - 1) 0 := by rcases hat with h | h; exact absurd h hpa; exact h
      by_cases e : j = p - 1
      · subst e; simpa [List.getD, hj] using hxp
      · have hg := List.pairwise_iff_getElem.1 h0 j (p - 1) (by omega) (by omega) (by omega)
        obtain ⟨hl, he⟩ := List.getElem?_eq_some_iff.1 hj
        rw [he] at hg
        simp [List.getD, show p - 1 < out.length by omega] at hxp
        omega
    rcases List.mem_cons.1 hb with rfl | hb
    · exact hax
    · exact h'.2.2 a ha b hb
/-- A list in falling order. -/
def fallD (xs : List Int) : List Int := xs.foldl insD []
theorem fallD_snoc (xs : List Int) (x : Int) : fallD (xs ++ [x]) = insD (fallD xs) x := by simp [fallD]
theorem fall_all (xs : List Int) : ∀ ys, ys.Pairwise (fun a b => b ≤ a) → (xs.foldl insD ys).Pairwise (fun a b => b ≤ a) ∧ List.Perm (xs.foldl insD ys) (ys ++ xs) := by
  induction xs with
  | nil => intro ys h; exact ⟨h, by simp⟩
  | cons x xs ih =>
    intro ys h
    obtain ⟨h1, h2⟩ := ih (insD ys x) (insD_falls x h)
    refine ⟨h1, h2.trans ?_⟩
    have h3 := (insD_perm ys x).append_right xs
    simpa using h3
/-- Sorted, then turned round, is that. -/
theorem fallD_sort (xs ys : List Int) (hs : ys.Pairwise (fun a b => a ≤ b)) (hp : List.Perm ys xs) : ys.reverse = fallD xs := by
  obtain ⟨h1, h2⟩ := fall_all xs [] List.Pairwise.nil
  refine List.Perm.eq_of_pairwise (le := fun a b => b ≤ a) (fun a b _ _ h h' => by omega) (List.pairwise_reverse.2 hs) h1 ?_
  refine (List.reverse_perm ys).trans (hp.trans ?_)
  rw [List.nil_append] at h2
  exact h2.symm
theorem fallD_len (xs : List Int) : (fallD xs).length = xs.length := by
  have := (fall_all xs [] List.Pairwise.nil).2.length_eq
  simpa [fallD] using this
end Go.Proofs.Ytjpejhpilfjheaa
