/-
  The greatest squares cut off, the greatest tiles, the first best cuts, and the squares by them; no program is spoken of here.
  Conditions: none.
-/
import Derived.Test.YtjpejhpilfjheaaBdM
namespace Go.Proofs.Ytjpejhpilfjheaa
set_option linter.unusedVariables false

/-- The greatest squares cut off, so many steps. -/
def euc : Nat → Nat → Nat → List Int
  | 0, _, _ => []
  | n + 1, a, b => if a = 0 ∨ b = 0 then [] else if b ≤ a then (b : Int) :: euc n (a - b) b else (a : Int) :: euc n a (b - a)
def eucL (a b : Nat) : List Int := euc (a + b) a b
theorem euc_same : ∀ n m a b, a + b ≤ n → a + b ≤ m → euc n a b = euc m a b := by
  intro n
  induction n with
  | zero =>
    intro m a b h1 h2
    obtain rfl : a = 0 := by omega
    cases m with
    | zero => rfl
    | succ m => simp [euc]
  | succ n ih =>
    intro m a b h1 h2
    cases m with
    | zero => obtain rfl : a = 0 := by omega
              simp [euc]
    | succ m =>
      simp only [euc]
      split
      · rfl
      · split
        · rw [ih m (a - b) b (by omega) (by omega)]
        · rw [ih m a (b - a) (by omega) (by omega)]
theorem eucL_wide {a b : Nat} (ha : 1 ≤ a) (hb : 1 ≤ b) (h : b ≤ a) : eucL a b = (b : Int) :: eucL (a - b) b := by
  rw [eucL, eucL, show a + b = (a + b - 1) + 1 by omega, euc, if_neg (by omega), if_pos h, euc_same (a + b - 1) (a - b + b) (a - b) b (by omega) (by omega)]
theorem eucL_high {a b : Nat} (ha : 1 ≤ a) (hb : 1 ≤ b) (h : ¬ b ≤ a) : eucL a b = (a : Int) :: eucL a (b - a) := by
  rw [eucL, eucL, show a + b = (a + b - 1) + 1 by omega, euc, if_neg (by omega), if_neg h, euc_same (a + b - 1) (a + (b - a)) a (b - a) (by omega) (by omega)]
theorem eucL_none {a b : Nat} (h : a = 0 ∨ b = 0) : eucL a b = [] := by
  rw [eucL]
  cases hn : a + b with
  | zero => rfl
  | succ n => rw [euc, if_pos h]
theorem eucL_len : ∀ n a b, a + b ≤ n → (eucL a b).length ≤ a + b := by
  intro n
  induction n with
  | zero => intro a b h; rw [eucL_none (by omega)]; simp
  | succ n ih =>
    intro a b h
    by_cases h0 : a = 0 ∨ b = 0
    · rw [eucL_none h0]; simp
    · by_cases h1 : b ≤ a
      · have := ih (a - b) b (by omega)
        rw [eucL_wide (by omega) (by omega) h1, List.length_cons]; omega
      · have := ih a (b - a) (by omega)
        rw [eucL_high (by omega) (by omega) h1, List.length_cons]; omega
theorem eucL_some {a b : Nat} (ha : 1 ≤ a) (hb : 1 ≤ b) : eucL a b ≠ [] := by
  by_cases h1 : b ≤ a
  · rw [eucL_wide ha hb h1]; simp
  · rw [eucL_high ha hb h1]; simp
theorem eucL_last : ∀ n a b, a + b ≤ n → 1 ≤ a → 1 ≤ b → (eucL a b).getLast? = some ((Nat.gcd a b : Nat) : Int) := by
  intro n
  induction n with
  | zero => intro a b h ha; omega
  | succ n ih =>
    intro a b h ha hb
    by_cases h1 : b ≤ a
    · rw [eucL_wide ha hb h1]
      by_cases h2 : a = b
      · subst h2
        rw [eucL_none (by omega)]
        simp
      · have h3 := ih (a - b) b (by omega) (by omega) hb
        rw [List.getLast?_cons, h3, Nat.gcd_sub_self_left h1]
        rfl
    · rw [eucL_high ha hb h1]
      have h3 := ih a (b - a) (by omega) ha (by omega)
      rw [List.getLast?_cons, h3, Nat.gcd_sub_self_right (by omega)]
      rfl
/-- The greatest number not above k that divides both. -/
def tileS (a b : Nat) : Nat → Nat
  | 0 => 1
  | k + 1 => if a % (k + 1) = 0 ∧ b % (k + 1) = 0 then k + 1 else tileS a b k
theorem tileS_gcd {a b : Nat} (ha : 1 ≤ a) : ∀ k, Nat.gcd a b ≤ k → tileS a b k = Nat.gcd a b := by
  intro k
  have hg : 1 ≤ Nat.gcd a b := Nat.gcd_pos_of_pos_left b (by omega)
  induction k with
  | zero => intro h; omega
  | succ k ih =>
    intro h
    rw [tileS]
    split
    · rename_i h1
      have h2 := Nat.le_of_dvd (by omega) (Nat.dvd_gcd (Nat.dvd_of_mod_eq_zero h1.1) (Nat.dvd_of_mod_eq_zero h1.2))
      omega
    · rename_i h1
      apply ih
      rcases Nat.lt_or_ge (Nat.gcd a b) (k + 1) with h2 | h2
      · omega
      · exfalso
        have e : Nat.gcd a b = k + 1 := by omega
        exact h1 ⟨Nat.mod_eq_zero_of_dvd (e ▸ Nat.gcd_dvd_left a b), Nat.mod_eq_zero_of_dvd (e ▸ Nat.gcd_dvd_right a b)⟩
theorem tileS_le (a b : Nat) : ∀ k, 1 ≤ tileS a b k ∧ tileS a b k ≤ k + 1 := by
  intro k
  induction k with
  | zero => simp [tileS]
  | succ k ih => rw [tileS]; split <;> omega
theorem tiles_same {a b : Nat} : a / Nat.gcd a b * (b / Nat.gcd a b) = a * b / (Nat.gcd a b * Nat.gcd a b) := Nat.div_mul_div_comm (Nat.gcd_dvd_left a b) (Nat.gcd_dvd_right a b)

/-- The first cut whose parts are worth so much together. -/
def fcut (t : Nat → Nat → Int) (v : Int) (a b : Nat) : Option ((Nat × Nat) × (Nat × Nat)) := (cutsL a b).find? fun c => sumT t c == v
theorem find_range_half {α : Type} {f : Nat → α} {P : α → Bool} {n h : Nat} (hn : h ≤ n) (hm : ∀ k, h ≤ k → k < n → P (f k) = true → ∃ j, j < h ∧ P (f j) = true) : ((List.range n).map f).find? P = ((List.range h).map f).find? P := by
  obtain ⟨m, rfl⟩ : ∃ m, n = h + m := ⟨n - h, by omega⟩
  rw [List.range_add, List.map_append, List.find?_append]
  cases e : ((List.range h).map f).find? P with
  | some x => rfl
  | none =>
    rw [Option.none_or, List.find?_eq_none]
    rw [List.find?_eq_none] at e
    intro x hx hp
    obtain ⟨y, hy, rfl⟩ := List.mem_map.1 hx
    obtain ⟨z, hz, rfl⟩ := List.mem_map.1 hy
    obtain ⟨j, hj, hj2⟩ := hm (h + z) (by omega) (by have := List.mem_range.1 hz; omega) hp
    exact e _ (List.mem_map.2 ⟨j, List.mem_range.2 hj, rfl⟩) hj2
theorem fcut_half (t : Nat → Nat → Int) (v : Int) {a b : Nat} : (halfL a b).find? (fun c => sumT t c == v) = fcut t v a b := by
  rw [fcut, cutsL, halfL, List.find?_append, List.find?_append]
  congr 1
  · refine (find_range_half (by omega) fun k h1 h2 h3 => ⟨a - 2 - k, by omega, ?_⟩).symm
    simp only [sumT, beq_iff_eq] at h3 ⊢
    rw [← h3, show a - 2 - k + 1 = a - (k + 1) by omega, show a - (a - (k + 1)) = k + 1 by omega]
    omega
  · refine (find_range_half (by omega) fun k h1 h2 h3 => ⟨b - 2 - k, by omega, ?_⟩).symm
    simp only [sumT, beq_iff_eq] at h3 ⊢
    rw [← h3, show b - 2 - k + 1 = b - (k + 1) by omega, show b - (b - (k + 1)) = k + 1 by omega]
    omega
theorem fcut_mem {t : Nat → Nat → Int} {v : Int} {a b : Nat} {c : (Nat × Nat) × (Nat × Nat)} (h : fcut t v a b = some c) : c ∈ cutsL a b ∧ sumT t c = v := by
  refine ⟨List.mem_of_find?_eq_some h, ?_⟩
  have := List.find?_some h
  simpa using this

/-- The sides of the squares by the first best cuts. -/
def sqR : Nat → Nat → Nat → List Int
  | 0, _, _ => []
  | n + 1, a, b => if a = b then [(a : Int)] else match fcut fewB (fewB a b) a b with
    | some c => sqR n c.1.1 c.1.2 ++ sqR n c.2.1 c.2.2
    | none => []
def sqL (a b : Nat) : List Int := sqR (a + b) a b
theorem sqR_same : ∀ n m a b, 1 ≤ a → 1 ≤ b → a + b ≤ n → a + b ≤ m → sqR n a b = sqR m a b := by
  intro n
  induction n with
  | zero => intro m a b ha _ h; omega
  | succ n ih =>
    intro m a b ha hb h1 h2
    cases m with
    | zero => omega
    | succ m =>
      simp only [sqR]
      split
      · rfl
      · cases e : fcut fewB (fewB a b) a b with
        | none => rfl
        | some c =>
          have hc := cut_less (fcut_mem e).1 ha hb
          simp only []
          rw [ih m c.1.1 c.1.2 hc.1.1 hc.1.2.1 (by omega) (by omega), ih m c.2.1 c.2.2 hc.2.1 hc.2.2.1 (by omega) (by omega)]
theorem sqL_square {a : Nat} (ha : 1 ≤ a) : sqL a a = [(a : Int)] := by
  rw [sqL, show a + a = (a + a - 1) + 1 by omega, sqR, if_pos rfl]
theorem sqL_cut {a b : Nat} (ha : 1 ≤ a) (hb : 1 ≤ b) (h : a ≠ b) {c : (Nat × Nat) × (Nat × Nat)} (hc : fcut fewB (fewB a b) a b = some c) : sqL a b = sqL c.1.1 c.1.2 ++ sqL c.2.1 c.2.2 := by
  have hl := cut_less (fcut_mem hc).1 ha hb
  rw [sqL, show a + b = (a + b - 1) + 1 by omega, sqR, if_neg h, hc]
  simp only [sqL]
  rw [sqR_same (a + b - 1) _ _ _ hl.1.1 hl.1.2.1 (by omega) (Nat.le_refl _), sqR_same (a + b - 1) _ _ _ hl.2.1 hl.2.2.1 (by omega) (Nat.le_refl _)]
theorem sqL_none {a b : Nat} (ha : 1 ≤ a) (hb : 1 ≤ b) (h : a ≠ b) (hc : fcut fewB (fewB a b) a b = none) : sqL a b = [] := by
  rw [sqL, show a + b = (a + b - 1) + 1 by omega, sqR, if_neg h, hc]
theorem sqL_len : ∀ n a b, a + b ≤ n → 1 ≤ a → 1 ≤ b → ((sqL a b).length : Int) ≤ fewB a b ∧ ∀ x ∈ sqL a b, 1 ≤ x ∧ x ≤ ((a + b : Nat) : Int) := by
  intro n
  induction n with
  | zero => intro a b h ha; omega
  | succ n ih =>
    intro a b h ha hb
    have h1 := fewB_one _ a b (Nat.le_refl _) ha hb
    by_cases e : a = b
    · subst e
      rw [sqL_square ha]
      refine ⟨by simp; omega, fun x hx => ?_⟩
      simp at hx; omega
    · cases hc : fcut fewB (fewB a b) a b with
      | none => rw [sqL_none ha hb e hc]; exact ⟨by simp; omega, fun x hx => by cases hx⟩
      | some c =>
        have hm := fcut_mem hc
        have hl := cut_less hm.1 ha hb
        obtain ⟨h3, h3'⟩ := ih c.1.1 c.1.2 (by omega) hl.1.1 hl.1.2.1
        obtain ⟨h4, h4'⟩ := ih c.2.1 c.2.2 (by omega) hl.2.1 hl.2.2.1
        rw [sqL_cut ha hb e hc, List.length_append]
        have hs := hm.2
        rw [sumT] at hs
        refine ⟨by push_cast; omega, fun x hx => ?_⟩
        rcases List.mem_append.1 hx with hx | hx
        · have := h3' x hx; omega
        · have := h4' x hx; omega
/-- No board needs more squares than its sides are together. -/
theorem fewB_sum : ∀ n a b, a + b ≤ n → 1 ≤ a → 1 ≤ b → fewB a b ≤ ((a + b : Nat) : Int) := by
  intro n
  induction n with
  | zero => intro a b h ha; omega
  | succ n ih =>
    intro a b h ha hb
    rw [fewB_eq ha hb, fewI]
    split
    · omega
    · rename_i e
      have hle := (leastL_le ((cutsL a b).map (sumT fewB)) ((a * b : Nat) : Int)).2
      by_cases h1 : b < a
      · have h2 := hle (sumT fewB ((b, b), (a - b, b))) (List.mem_map.2 ⟨_, mem_cutsL.2 (.inl ⟨b, hb, h1, rfl⟩), rfl⟩)
        have h3 := ih (a - b) b (by omega) (by omega) hb
        have h4 : fewB b b = 1 := by rw [fewB_eq hb hb, fewI, if_pos rfl]
        simp only [sumT] at h2
        omega
      · have h2 := hle (sumT fewB ((a, a), (a, b - a))) (List.mem_map.2 ⟨_, mem_cutsL.2 (.inr ⟨a, ha, by omega, rfl⟩), rfl⟩)
        have h3 := ih a (b - a) (by omega) ha (by omega)
        have h4 : fewB a a = 1 := by rw [fewB_eq ha ha, fewI, if_pos rfl]
        simp only [sumT] at h2
        omega
end Go.Proofs.Ytjpejhpilfjheaa
