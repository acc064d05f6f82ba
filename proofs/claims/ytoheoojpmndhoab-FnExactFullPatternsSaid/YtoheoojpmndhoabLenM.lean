/-
  Lengths: numbers that increase from above 0 up to 60, at most four; how long pieces are together; patterns.
  Conditions: none.
-/
import Derived.Test.YtoheoojpmndhoabAllB
namespace Go.Proofs.Ytoheoojpmndhoab
set_option linter.unusedVariables false

/-- The number before the k-th one, 0 before the first. -/
def prevL (xs : List Int) (k : Nat) : Int := if k = 0 then 0 else xs.getD (k - 1) 0

theorem prevL_zero (xs : List Int) : prevL xs 0 = 0 := rfl
theorem prevL_succ {xs : List Int} {k : Nat} {u : Int} (h : xs[k]? = some u) : prevL xs (k + 1) = u := by simp [prevL, List.getD, h]

def upB (xs : List Int) : Bool := (List.range xs.length).all fun k => decide (prevL xs k < xs.getD k 0 ∧ xs.getD k 0 ≤ 60)

theorem upB_true {xs : List Int} : upB xs = true ↔ ∀ (k : Nat) u, xs[k]? = some u → prevL xs k < u ∧ u ≤ 60 := by
  simp only [upB, List.all_eq_true, List.mem_range, decide_eq_true_iff]
  constructor
  · intro h k u hu
    have hk := (List.getElem?_eq_some_iff.1 hu).1
    have h2 := h k hk
    have e : xs.getD k 0 = u := by simp [List.getD, hu]
    rwa [e] at h2
  · intro h k hk
    have h2 := h k _ (List.getElem?_eq_getElem hk)
    have e : xs.getD k 0 = xs[k] := by simp [List.getD, hk]
    rwa [e]

theorem upB_not {xs : List Int} {k : Nat} {u : Int} (h : xs[k]? = some u) (hu : ¬ (prevL xs k < u ∧ u ≤ 60)) : upB xs = false := by
  by_cases h1 : upB xs = true
  · exact absurd (upB_true.1 h1 k u h) hu
  · simpa using h1

def lensB (xs : List Int) : Bool := inB (xs.length : Int) 1 4 && upB xs

theorem lensB_n {xs : List Int} {n : Nat} (hn : xs.length = n) (h : ¬ (1 ≤ n ∧ n ≤ 4)) : lensB xs = false := by
  rw [lensB, hn, inB_false.2 (by omega), Bool.false_and]

theorem lensB_bad {xs : List Int} {k : Nat} {u : Int} (h : xs[k]? = some u) (hu : ¬ (prevL xs k < u ∧ u ≤ 60)) : lensB xs = false := by
  rw [lensB, upB_not h hu, Bool.and_false]

theorem lensB_yes {xs : List Int} {n : Nat} (hn : xs.length = n) (h1 : 1 ≤ n) (h4 : n ≤ 4) (h : ∀ (k : Nat) u, k < n → xs[k]? = some u → prevL xs k < u ∧ u ≤ 60) : lensB xs = true := by
  rw [lensB, hn, inB_true.2 (by omega), Bool.true_and, upB_true]
  exact fun k u hu => h k u (by rw [← hn]; exact (List.getElem?_eq_some_iff.1 hu).1) hu

theorem prevL_ge {xs : List Int} {k : Nat} (h : ∀ (j : Nat) u, j < k → xs[j]? = some u → prevL xs j < u ∧ u ≤ 60) (hk : k ≤ xs.length) : 0 ≤ prevL xs k := by
  induction k with
  | zero => exact Int.le_refl 0
  | succ k ih =>
    have h1 := ih (fun j u hj hu => h j u (by omega) hu) (by omega)
    have hx := List.getElem?_eq_getElem (l := xs) (i := k) (by omega)
    have h2 := h k _ (by omega) hx
    rw [prevL_succ hx]
    omega

theorem lensB_at {xs : List Int} (h : lensB xs = true) : 1 ≤ xs.length ∧ xs.length ≤ 4 ∧ ∀ (k : Nat) u, xs[k]? = some u → 1 ≤ u ∧ u ≤ 60 := by
  simp only [lensB, Bool.and_eq_true] at h
  obtain ⟨h1, h2⟩ := h
  rw [inB_true] at h1
  rw [upB_true] at h2
  refine ⟨by omega, by omega, fun k u hu => ?_⟩
  have hk := (List.getElem?_eq_some_iff.1 hu).1
  have h3 := prevL_ge (xs := xs) (k := k) (fun j v hj hv => h2 j v hv) (by omega)
  have h4 := h2 k u hu
  omega

/-- How long the first k of the pieces are together. -/
def usedTo (zs ps : List Int) : Nat → Int
  | 0 => 0
  | k + 1 => usedTo zs ps k + ps.getD k 0 * zs.getD k 0

theorem usedTo_step {zs ps : List Int} {k : Nat} {u v : Int} (hu : ps[k]? = some u) (hv : zs[k]? = some v) : usedTo zs ps (k + 1) = usedTo zs ps k + u * v := by
  simp [usedTo, List.getD, hu, hv]

theorem mul_bd {a b A B : Int} (h1 : 0 ≤ a) (h2 : a ≤ A) (h3 : 0 ≤ b) (h4 : b ≤ B) : 0 ≤ a * b ∧ a * b ≤ A * B :=
  ⟨Int.mul_nonneg h1 h3, Int.mul_le_mul h2 h4 h3 (by omega)⟩

/-- Numbers of pieces from 0 to 60, lengths from 1 to 60. -/
theorem usedTo_bd {zs ps : List Int} (hz : ∀ (k : Nat) u, zs[k]? = some u → 1 ≤ u ∧ u ≤ 60) (hp : ∀ (k : Nat) u, ps[k]? = some u → 0 ≤ u ∧ u ≤ 60) (k : Nat) : 0 ≤ usedTo zs ps k ∧ usedTo zs ps k ≤ 3600 * (k : Int) := by
  have gz : ∀ j, 0 ≤ zs.getD j 0 ∧ zs.getD j 0 ≤ 60 := fun j => by
    rcases hh : zs[j]? with _ | u
    · simp [List.getD, hh]
    · have := hz j u hh; simp [List.getD, hh]; omega
  have gp : ∀ j, 0 ≤ ps.getD j 0 ∧ ps.getD j 0 ≤ 60 := fun j => by
    rcases hh : ps[j]? with _ | u
    · simp [List.getD, hh]
    · have := hp j u hh; simp [List.getD, hh]; omega
  induction k with
  | zero => simp [usedTo]
  | succ k ih =>
    have h := mul_bd (gp k).1 (gp k).2 (gz k).1 (gz k).2
    simp only [usedTo]
    omega

def rodB (rod : Int) (zs : List Int) : Bool := inB rod 1 60 && lensB zs

theorem rodB_true {rod : Int} {zs : List Int} : rodB rod zs = true ↔ (1 ≤ rod ∧ rod ≤ 60) ∧ lensB zs = true := by simp [rodB, inB_true]

/-- A list of numbers is a pattern. -/
def patB (rod : Int) (zs ps : List Int) : Bool := decide (ps.length = zs.length) && allB ps 0 60 && decide (usedTo zs ps zs.length ≤ rod)

theorem patB_true {rod : Int} {zs ps : List Int} : patB rod zs ps = true ↔ (ps.length = zs.length ∧ allB ps 0 60 = true) ∧ usedTo zs ps zs.length ≤ rod := by simp [patB]

def bothR (rod : Int) (zs ps : List Int) : Bool := rodB rod zs && patB rod zs ps

theorem allB_at {xs : List Int} {lo hi : Int} (h : allB xs lo hi = true) (k : Nat) (u : Int) (hu : xs[k]? = some u) : lo ≤ u ∧ u ≤ hi := by
  by_cases h1 : inB u lo hi = true
  · exact inB_true.1 h1
  · rw [allB_not hu (by simpa using h1)] at h; cases h

/-- Sums of numbers that are not negative do not decrease. -/
theorem usedTo_mono {zs ps : List Int} (hz : ∀ (k : Nat) u, zs[k]? = some u → 1 ≤ u ∧ u ≤ 60) (hp : ∀ (k : Nat) u, ps[k]? = some u → 0 ≤ u ∧ u ≤ 60) {j k : Nat} (h : j ≤ k) : usedTo zs ps j ≤ usedTo zs ps k := by
  induction k with
  | zero => obtain rfl : j = 0 := by omega
            exact Int.le_refl _
  | succ k ih =>
    by_cases e : j = k + 1
    · subst e; exact Int.le_refl _
    · refine Int.le_trans (ih (by omega)) ?_
      have gz : 0 ≤ zs.getD k 0 := by
        rcases hh : zs[k]? with _ | u
        · simp [List.getD, hh]
        · have := hz k u hh; simp [List.getD, hh]; omega
      have gp : 0 ≤ ps.getD k 0 := by
        rcases hh : ps[k]? with _ | u
        · simp [List.getD, hh]
        · have := hp k u hh; simp [List.getD, hh]; omega
      have := Int.mul_nonneg gp gz
      simp only [usedTo]
      omega

/-- More pieces of one length than the rod is long enough for: no pattern. -/
theorem patB_more {rod : Int} {zs ps : List Int} (hl : lensB zs = true) {k : Nat} {u v : Int} (hu : ps[k]? = some u) (hv : zs[k]? = some v) (h : u < 0 ∨ rod / v < u) : patB rod zs ps = false := by
  by_cases h1 : patB rod zs ps = true
  · obtain ⟨⟨h2, h3⟩, h4⟩ := patB_true.1 h1
    obtain ⟨_, _, hz⟩ := lensB_at hl
    have hp := fun k u hu => allB_at h3 k u hu
    have hk := (List.getElem?_eq_some_iff.1 hv).1
    have h5 := usedTo_mono hz hp (j := k + 1) (k := zs.length) (by omega)
    rw [usedTo_step hu hv] at h5
    have h6 := (usedTo_bd hz hp k).1
    have h7 := hz k v hv
    have h8 := hp k u hu
    have h9 : rod < u * v := by
      rcases h with h | h
      · omega
      · exact (Int.ediv_lt_iff_lt_mul (by omega)).1 h
    omega
  · simpa using h1
end Go.Proofs.Ytoheoojpmndhoab
