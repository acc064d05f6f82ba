/-
  How many patterns there are: told by the walk through them, and by a table of lengths; no program is spoken of here.
  Conditions: none.
-/
import Derived.Test.YtoheoojpmndhoabCutsF
namespace Go.Proofs.Ytoheoojpmndhoab
set_option linter.unusedVariables false

/-- The patterns of these lengths that are not longer than a number, the first length outermost. -/
def cntG (T : Nat → Int) : List Nat → Nat → Int
  | [] => T
  | l :: ls => sumR l (cntG T ls)

/-- The table, length by length. -/
def tabG : (Nat → Int) → List Nat → Nat → Int
  | T, [] => T
  | T, l :: ls => tabG (sumR l T) ls

theorem cntG_swap {q : Nat} (hq : 0 < q) (ls : List Nat) (h : ∀ l ∈ ls, 0 < l) (T : Nat → Int) : cntG (sumR q T) ls = sumR q (cntG T ls) := by
  induction ls with
  | nil => rfl
  | cons l ls ih =>
    show sumR l (cntG (sumR q T) ls) = sumR q (sumR l (cntG T ls))
    rw [ih (fun x hx => h x (List.mem_cons_of_mem _ hx))]
    funext n
    exact sumR_swap (h l (List.mem_cons_self ..)) hq _ n

theorem tabG_cnt (ls : List Nat) (h : ∀ l ∈ ls, 0 < l) (T : Nat → Int) : tabG T ls = cntG T ls := by
  induction ls generalizing T with
  | nil => rfl
  | cons l ls ih =>
    show tabG (sumR l T) ls = sumR l (cntG T ls)
    rw [ih (fun x hx => h x (List.mem_cons_of_mem _ hx)), cntG_swap (h l (List.mem_cons_self ..)) ls (fun x hx => h x (List.mem_cons_of_mem _ hx))]

theorem sum_one (n : Nat) : sumR 1 (wayA 0) n = 1 := by
  induction n with
  | zero => rw [sumR_less (by omega)]; rfl
  | succ n ih =>
    rw [sumR_at (by omega) (by omega), Nat.add_sub_cancel, ih]
    show (if n + 1 = 0 then (1 : Int) else 0) + 1 = 1
    rw [if_neg (by omega)]
    rfl

/-- The sum of a row. -/
theorem row_sum (T : Nat → Int) (n : Nat) : ((List.range (n + 1)).map T).foldl (· + ·) 0 = sumR 1 T n := by
  induction n with
  | zero => rw [sumR_less (by omega)]; simp
  | succ n ih =>
    rw [List.range_succ, List.map_append, List.foldl_append, ih, sumR_at (n := n + 1) (by omega) (by omega), Nat.add_sub_cancel]
    simp
    omega

theorem count_same (ls : List Nat) (h : ∀ l ∈ ls, 0 < l) (n : Nat) : sumR 1 (tabG (wayA 0) ls) n = cntG (fun _ => 1) ls n := by
  rw [tabG_cnt ls h, ← cntG_swap (by omega) ls h]
  congr 1
  funext m
  exact sum_one m

/-- Bounds: at most 61 numbers of each length. -/
theorem sumR_le {q : Nat} {T : Nat → Int} {B : Int} (hq : 0 < q) (hT : ∀ m, 0 ≤ T m ∧ T m ≤ B) (n : Nat) : 0 ≤ sumR q T n ∧ sumR q T n ≤ B * ((n : Int) + 1) := by
  induction n using Nat.strongRecOn with
  | _ n ih =>
    have h0 := hT n
    have hB : 0 ≤ B := by omega
    by_cases h : q ≤ n
    · rw [sumR_at hq h]
      have h1 := ih (n - q) (by omega)
      have h2 : B * (((n - q : Nat) : Int) + 1) ≤ B * (n : Int) := Int.mul_le_mul_of_nonneg_left (by omega) hB
      have h3 : B * ((n : Int) + 1) = B * (n : Int) + B := by rw [Int.mul_add, Int.mul_one]
      omega
    · rw [sumR_less (by omega)]
      have h3 : B * ((n : Int) + 1) = B * (n : Int) + B := by rw [Int.mul_add, Int.mul_one]
      have h4 : 0 ≤ B * (n : Int) := Int.mul_nonneg hB (by omega)
      omega

theorem cnt_bd (ls : List Nat) (h : ∀ l ∈ ls, 0 < l) (h4 : ls.length ≤ 4) (n : Nat) (hn : n ≤ 60) : 0 ≤ cntG (fun _ => 1) ls n ∧ cntG (fun _ => 1) ls n ≤ 13845841 := by
  have hall : ∀ (k : Nat) (ls : List Nat), (∀ l ∈ ls, 0 < l) → ls.length ≤ k → ∀ n, n ≤ 60 → 0 ≤ cntG (fun _ => 1) ls n ∧ cntG (fun _ => 1) ls n ≤ 61 ^ k := by
    intro k
    induction k with
    | zero =>
      intro ls _ hl n hn
      have : ls = [] := List.eq_nil_of_length_eq_zero (by omega)
      subst this
      exact ⟨by simp [cntG], by simp [cntG]⟩
    | succ k ih =>
      intro ls hp hl n hn
      match ls with
      | [] =>
        have : (1 : Int) ≤ 61 ^ (k + 1) := by
          have h1 : 1 ≤ 61 ^ (k + 1) := Nat.one_le_pow _ _ (by omega)
          exact_mod_cast h1
        exact ⟨by simp [cntG], by simpa [cntG] using this⟩
      | l :: ls =>
        have h2 := ih ls (fun x hx => hp x (List.mem_cons_of_mem _ hx)) (by simpa using hl)
        have h5 : (0 : Int) ≤ 61 ^ k := Int.le_trans (h2 0 (by omega)).1 (h2 0 (by omega)).2
        have hc : cntG (fun _ => 1) (l :: ls) n = sumR l (fun m => if m ≤ 60 then cntG (fun _ => 1) ls m else 0) n := by
          show sumR l (cntG (fun _ => 1) ls) n = _
          clear h5 h2
          induction n using Nat.strongRecOn with
          | _ n ihn =>
            by_cases e : 0 < l ∧ l ≤ n
            · rw [sumR_at e.1 e.2, sumR_at e.1 e.2, ihn (n - l) (by omega) (by omega), if_pos hn]
            · rw [sumR, dif_neg e, sumR, dif_neg e, if_pos hn]
        rw [hc]
        have h6 := sumR_le (q := l) (T := fun m => if m ≤ 60 then cntG (fun _ => 1) ls m else 0) (B := 61 ^ k) (hp l (List.mem_cons_self ..)) (fun m => by
          show 0 ≤ (if m ≤ 60 then cntG (fun _ => 1) ls m else 0) ∧ (if m ≤ 60 then cntG (fun _ => 1) ls m else 0) ≤ 61 ^ k
          split
          · exact h2 m (by assumption)
          · exact ⟨Int.le_refl _, h5⟩) n
        refine ⟨h6.1, Int.le_trans h6.2 ?_⟩
        rw [Int.pow_succ]
        exact Int.mul_le_mul_of_nonneg_left (by omega) h5
  have := hall 4 ls h h4 n hn
  have e : (61 : Int) ^ 4 = 13845841 := by decide
  rw [e] at this
  exact this
end Go.Proofs.Ytoheoojpmndhoab
