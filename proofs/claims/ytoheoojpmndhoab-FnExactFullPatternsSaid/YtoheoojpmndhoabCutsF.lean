/-
  The first best cut, told piece by piece; the number of all cuts, told from the least piece or from the greatest; no program is spoken of here.
  Conditions: none.
-/
import Derived.Test.YtoheoojpmndhoabCutsM
namespace Go.Proofs.Ytoheoojpmndhoab
set_option linter.unusedVariables false

/-- The table of the pieces that are not less than 'q'. -/
def fromE (ps : List Int) (q : Nat) : Nat → Ent := tabE ps (ps.length + 1 - q)

theorem fromE_step {ps : List Int} {q : Nat} (h1 : 1 ≤ q) (h2 : q ≤ ps.length) : fromE ps q = cutE (ps.getD (q - 1) 0) q (fromE ps (q + 1)) := by
  unfold fromE
  obtain ⟨j, hj⟩ : ∃ j, ps.length + 1 - q = j + 1 := ⟨ps.length - q, by omega⟩
  have e1 : ps.length - j = q := by omega
  have e2 : ps.length - j - 1 = q - 1 := by omega
  have e3 : ps.length + 1 - (q + 1) = j := by omega
  rw [hj, e3]
  show cutE (ps.getD (ps.length - j - 1) 0) (ps.length - j) (tabE ps j) = _
  rw [e1]

theorem fromE_out {ps : List Int} {q n : Nat} (h : ps.length < q) (hn : 0 < n) : (fromE ps q n).worth = -1 := by
  unfold fromE
  have e : ps.length + 1 - q = 0 := by omega
  rw [e]
  unfold tabE
  rw [if_neg (by omega)]

theorem fromE_zero (ps : List Int) {q : Nat} (h1 : 1 ≤ q) : fromE ps q 0 = ⟨0, 1, []⟩ := tabE_zero ps _ (by omega)

/-- A piece that is worth it is the first one. -/
theorem first_take {ps : List Int} {q n : Nat} {due : Int} (h1 : 1 ≤ q) (h2 : q ≤ ps.length) (hq : q ≤ n) (hd : (fromE ps q n).worth = due) (ha : 0 ≤ (fromE ps q (n - q)).worth)
    (h : (fromE ps q (n - q)).worth + ps.getD (q - 1) 0 = due) : (fromE ps q n).first = (q : Int) :: (fromE ps q (n - q)).first := by
  have e : fromE ps q n = combE (ps.getD (q - 1) 0) q (fromE ps q (n - q)) (fromE ps (q + 1) n) := by
    rw [fromE_step h1 h2, cutE_at (by omega) hq]
  rw [e] at hd ⊢
  unfold combE at hd ⊢
  rw [if_neg (by omega)] at hd ⊢
  by_cases c1 : (fromE ps (q + 1) n).worth < (fromE ps q (n - q)).worth + ps.getD (q - 1) 0
  · rw [if_pos c1]
  · rw [if_neg c1] at hd ⊢
    by_cases c2 : (fromE ps (q + 1) n).worth = (fromE ps q (n - q)).worth + ps.getD (q - 1) 0
    · rw [if_pos c2]
    · rw [if_neg c2] at hd
      omega

/-- A piece that is not worth it is none. -/
theorem first_skip {ps : List Int} {q n : Nat} {due : Int} (h1 : 1 ≤ q) (h2 : q ≤ ps.length) (hd : (fromE ps q n).worth = due)
    (h : n < q ∨ (fromE ps q (n - q)).worth < 0 ∨ (fromE ps q (n - q)).worth + ps.getD (q - 1) 0 ≠ due) : fromE ps q n = fromE ps (q + 1) n := by
  by_cases hq : q ≤ n
  · have e : fromE ps q n = combE (ps.getD (q - 1) 0) q (fromE ps q (n - q)) (fromE ps (q + 1) n) := by
      rw [fromE_step h1 h2, cutE_at (by omega) hq]
    rw [e] at hd ⊢
    unfold combE at hd ⊢
    by_cases c0 : (fromE ps q (n - q)).worth < 0
    · rw [if_pos c0]
    · rw [if_neg c0] at hd ⊢
      by_cases c1 : (fromE ps (q + 1) n).worth < (fromE ps q (n - q)).worth + ps.getD (q - 1) 0
      · rw [if_pos c1] at hd
        simp only at hd
        omega
      · rw [if_neg c1] at hd ⊢
        by_cases c2 : (fromE ps (q + 1) n).worth = (fromE ps q (n - q)).worth + ps.getD (q - 1) 0
        · rw [if_pos c2] at hd
          simp only at hd
          omega
        · rw [if_neg c2]
  · rw [fromE_step h1 h2, cutE_less (by omega)]

/-- Numbers of cuts behind one piece more. -/
def sumR (q : Nat) (T : Nat → Int) (n : Nat) : Int := if h : 0 < q ∧ q ≤ n then T n + sumR q T (n - q) else T n
termination_by n
decreasing_by omega

theorem sumR_less {q : Nat} {T : Nat → Int} {n : Nat} (h : n < q) : sumR q T n = T n := by
  rw [sumR, dif_neg (by omega)]

theorem sumR_at {q : Nat} {T : Nat → Int} {n : Nat} (h0 : 0 < q) (h : q ≤ n) : sumR q T n = T n + sumR q T (n - q) := by
  conv => lhs; rw [sumR]
  rw [dif_pos ⟨h0, h⟩]

theorem sumR_swap {p q : Nat} (hp : 0 < p) (hq : 0 < q) (T : Nat → Int) (n : Nat) : sumR p (sumR q T) n = sumR q (sumR p T) n := by
  induction n using Nat.strongRecOn with
  | _ n ih =>
    by_cases h1 : p ≤ n
    · by_cases h2 : q ≤ n
      · have i1 := ih (n - p) (by omega)
        have i2 := ih (n - q) (by omega)
        rw [sumR_at (T := sumR q T) hp h1, sumR_at (T := sumR p T) hq h2, sumR_at (T := T) hq h2, sumR_at (T := T) hp h1]
        by_cases h3 : p + q ≤ n
        · have i3 := ih (n - q - p) (by omega)
          have e1 : sumR p (sumR q T) (n - q) = sumR q T (n - q) + sumR p (sumR q T) (n - q - p) := sumR_at hp (by omega)
          have e2 : sumR q (sumR p T) (n - p) = sumR p T (n - p) + sumR q (sumR p T) (n - p - q) := sumR_at hq (by omega)
          have e3 : n - p - q = n - q - p := by omega
          rw [e3] at e2
          omega
        · have e1 : sumR p (sumR q T) (n - q) = sumR q T (n - q) := sumR_less (by omega)
          have e2 : sumR q (sumR p T) (n - p) = sumR p T (n - p) := sumR_less (by omega)
          omega
      · have i1 := ih (n - p) (by omega)
        rw [sumR_at hp h1, sumR_less (q := q) (by omega), sumR_less (q := q) (T := sumR p T) (by omega), sumR_at hp h1]
        have e2 : sumR q (sumR p T) (n - p) = sumR p T (n - p) := sumR_less (by omega)
        omega
    · by_cases h2 : q ≤ n
      · have i2 := ih (n - q) (by omega)
        rw [sumR_less (q := p) (by omega), sumR_at hq h2, sumR_at hq h2, sumR_less (q := p) (T := T) (by omega)]
        have e1 : sumR p (sumR q T) (n - q) = sumR q T (n - q) := sumR_less (by omega)
        omega
      · rw [sumR_less (q := p) (by omega), sumR_less (q := q) (by omega), sumR_less (q := q) (by omega), sumR_less (q := p) (by omega)]

/-- The ways from the least piece on. -/
def wayA : Nat → Nat → Int
  | 0 => fun n => if n = 0 then 1 else 0
  | k + 1 => sumR (k + 1) (wayA k)

/-- The ways from the greatest piece on. -/
def wayD (rod : Nat) : Nat → Nat → Int
  | 0 => fun n => if n = 0 then 1 else 0
  | j + 1 => sumR (rod - j) (wayD rod j)

def downR : Nat → (Nat → Int) → Nat → Int
  | 0, T => T
  | k + 1, T => downR k (sumR (k + 1) T)

theorem downR_swap (q : Nat) (hq : 0 < q) (k : Nat) (T : Nat → Int) : sumR q (downR k T) = downR k (sumR q T) := by
  induction k generalizing T with
  | zero => rfl
  | succ k ih =>
    show sumR q (downR k (sumR (k + 1) T)) = downR k (sumR (k + 1) (sumR q T))
    rw [ih]
    congr 1
    funext n
    exact sumR_swap hq (by omega) T n

theorem wayA_down (k : Nat) : wayA k = downR k (wayA 0) := by
  induction k with
  | zero => rfl
  | succ k ih =>
    show sumR (k + 1) (wayA k) = downR k (sumR (k + 1) (wayA 0))
    rw [ih, downR_swap _ (by omega)]

theorem wayD_down (rod j : Nat) (h : j ≤ rod) : downR rod (wayA 0) = downR (rod - j) (wayD rod j) := by
  induction j with
  | zero => rfl
  | succ j ih =>
    rw [ih (by omega)]
    obtain ⟨m, hm⟩ : ∃ m, rod - j = m + 1 := ⟨rod - j - 1, by omega⟩
    have e : rod - (j + 1) = m := by omega
    rw [hm, e]
    show downR m (sumR (m + 1) (wayD rod j)) = downR m (sumR (rod - j) (wayD rod j))
    rw [hm]

theorem way_same (rod : Nat) : wayD rod rod = wayA rod := by
  have h := wayD_down rod rod (Nat.le_refl _)
  rw [Nat.sub_self] at h
  rw [wayA_down]
  exact h.symm

/-- If no piece is worth anything, the best cuts are all cuts. -/
theorem zero_cut {q : Nat} {T : Nat → Ent} {U : Nat → Int} (h0 : 0 < q) (hT : ∀ n, ((T n).worth = -1 ∧ (T n).count = 0 ∨ (T n).worth = 0) ∧ (T n).count = U n) (n : Nat) :
    ((cutE 0 q T n).worth = -1 ∧ (cutE 0 q T n).count = 0 ∨ (cutE 0 q T n).worth = 0) ∧ (cutE 0 q T n).count = sumR q U n := by
  induction n using Nat.strongRecOn with
  | _ n ih =>
    by_cases h : q ≤ n
    · rw [cutE_at h0 h, sumR_at h0 h]
      obtain ⟨a1, a2⟩ := ih (n - q) (by omega)
      obtain ⟨b1, b2⟩ := hT n
      unfold combE
      split
      · refine ⟨b1, ?_⟩
        rcases a1 with a1 | a1 <;> omega
      · split
        · refine ⟨.inr ?_, ?_⟩
          · simp only; omega
          · simp only; omega
        · split
          · refine ⟨.inr ?_, ?_⟩
            · simp only; omega
            · simp only; omega
          · omega
    · rw [cutE_less (by omega), sumR_less (by omega)]
      exact hT n

theorem zero_tab (rod j : Nat) (h : j ≤ rod) (n : Nat) :
    ((tabE (List.replicate rod 0) j n).worth = -1 ∧ (tabE (List.replicate rod 0) j n).count = 0 ∨ (tabE (List.replicate rod 0) j n).worth = 0) ∧ (tabE (List.replicate rod 0) j n).count = wayD rod j n := by
  induction j generalizing n with
  | zero =>
    unfold tabE wayD
    by_cases e : n = 0
    · rw [if_pos e, if_pos e]; exact ⟨.inr rfl, rfl⟩
    · rw [if_neg e, if_neg e]; exact ⟨.inl ⟨rfl, rfl⟩, rfl⟩
  | succ j ih =>
    have e1 : (List.replicate rod (0 : Int)).length = rod := List.length_replicate
    have e2 : (List.replicate rod (0 : Int)).getD (rod - j - 1) 0 = 0 := by
      simp only [List.getD, List.getElem?_replicate]
      split <;> rfl
    unfold tabE wayD
    rw [e1, e2]
    exact zero_cut (by omega) (fun m => ih (by omega) m) n

theorem all_cuts (rod : Nat) : (tabE (List.replicate rod 0) rod rod).count = wayA rod rod := by
  rw [(zero_tab rod rod (Nat.le_refl _) rod).2, way_same]

theorem sumR_ge {q : Nat} {T : Nat → Int} (hT : ∀ n, 0 ≤ T n) (n : Nat) : 0 ≤ sumR q T n ∧ T n ≤ sumR q T n := by
  induction n using Nat.strongRecOn with
  | _ n ih =>
    have h0 := hT n
    by_cases h : 0 < q ∧ q ≤ n
    · rw [sumR_at h.1 h.2]
      have := ih (n - q) (by omega)
      omega
    · rw [sumR, dif_neg h]
      omega

theorem wayA_ge (k n : Nat) : 0 ≤ wayA k n := by
  induction k generalizing n with
  | zero => unfold wayA; split <;> omega
  | succ k ih => exact (sumR_ge (fun m => ih m) n).1

theorem wayA_mono {k m : Nat} (h : k ≤ m) (n : Nat) : wayA k n ≤ wayA m n := by
  induction m with
  | zero => obtain rfl : k = 0 := by omega
            exact Int.le_refl _
  | succ m ih =>
    by_cases e : k = m + 1
    · subst e; exact Int.le_refl _
    · exact Int.le_trans (ih (by omega)) (sumR_ge (fun i => wayA_ge m i) n).2

theorem wayA_bd {k n : Nat} (hk : k ≤ 60) (hn : n ≤ 60) : 0 ≤ wayA k n ∧ wayA k n ≤ 1152921504606846976 := by
  refine ⟨wayA_ge k n, Int.le_trans (wayA_mono hk n) ?_⟩
  have hp : ∀ (k : Nat) u, (List.replicate 60 (0 : Int))[k]? = some u → 0 ≤ u ∧ u ≤ 1000 := by
    intro k u hu
    rw [List.getElem?_replicate] at hu
    split at hu
    · injection hu with hu; omega
    · cases hu
  have hg := (GoodE.tab hp 60 (by simp) n).2
  rw [(zero_tab 60 60 (Nat.le_refl _) n).2, way_same, List.length_replicate] at hg
  exact Int.le_trans hg (cb_max (by omega) hn)

/-- A row in the midst of one piece. -/
def partR (q : Nat) (T : Nat → Int) (m n : Nat) : Int := if n < m then sumR q T n else T n

theorem partR_first (q : Nat) (T : Nat → Int) : partR q T q = T := by
  funext n
  unfold partR
  by_cases h : n < q
  · rw [if_pos h, sumR_less h]
  · rw [if_neg h]

theorem partR_less {q : Nat} {T : Nat → Int} {m n : Nat} (h : n < m) : partR q T m n = sumR q T n := if_pos h
theorem partR_not {q : Nat} {T : Nat → Int} {m n : Nat} (h : m ≤ n) : partR q T m n = T n := if_neg (by omega)

theorem partR_step (q : Nat) (T : Nat → Int) (m : Nat) : partR q T (m + 1) = fun n => if n = m then sumR q T m else partR q T m n := by
  funext n
  by_cases h : n = m
  · subst h
    rw [partR_less (by omega), if_pos rfl]
  · rw [if_neg h]
    by_cases h2 : n < m
    · rw [partR_less h2, partR_less (by omega)]
    · rw [partR_not (by omega), partR_not (by omega)]

/-- Rows that are alike up to the rod are the same. -/
theorem rowOf_congr {rod : Nat} {f g : Nat → Int} (h : ∀ n, n ≤ rod → f n = g n) : rowOf rod f = rowOf rod g := by
  unfold rowOf
  apply List.map_congr_left
  intro n hn
  exact h n (by have := List.mem_range.1 hn; omega)
end Go.Proofs.Ytoheoojpmndhoab
