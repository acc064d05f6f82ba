/-
  How many loadings there are with the same boxes; the stops for which there are boxes; no program is spoken of here.
  Conditions: none.
-/
import Derived.Test.YtgcljhgpihpfgaaLdM
import Derived.Lib.Bytealg
namespace Go.Proofs.Ytgcljhgpihpfgaa
set_option linter.unusedVariables false

def fac : Nat → Nat
  | 0 => 1
  | n + 1 => (n + 1) * fac n
theorem fac_pos (n : Nat) : 0 < fac n := by
  induction n with
  | zero => decide
  | succ n ih => exact Nat.mul_pos (by omega) ih
theorem fac_dvd {a b : Nat} (h : a ≤ b) : fac a ∣ fac b := by
  induction b with
  | zero => obtain rfl : a = 0 := by omega
            exact Nat.dvd_refl _
  | succ b ih =>
    rcases Nat.lt_or_ge a (b + 1) with hlt | hge
    · exact Nat.dvd_trans (ih (by omega)) ⟨b + 1, by rw [fac, Nat.mul_comm]⟩
    · obtain rfl : a = b + 1 := by omega
      exact Nat.dvd_refl _
/-- Pascal's numbers, told by both parts. -/
def cho : Nat → Nat → Nat
  | 0, _ => 1
  | _ + 1, 0 => 1
  | a + 1, b + 1 => cho a (b + 1) + cho (a + 1) b
termination_by a b => a + b
theorem cho_fac : ∀ n a b, a + b = n → cho a b * (fac a * fac b) = fac (a + b) := by
  intro n
  induction n with
  | zero =>
    intro a b h
    obtain rfl : a = 0 := by omega
    obtain rfl : b = 0 := by omega
    simp [cho, fac]
  | succ n ih =>
    intro a b h
    match a, b with
    | 0, b => simp [cho, fac]
    | a + 1, 0 => simp [cho, fac]
    | a + 1, b + 1 =>
      have h1 := ih a (b + 1) (by omega)
      have h2 := ih (a + 1) b (by omega)
      have e1 : a + (b + 1) = a + b + 1 := by omega
      have e2 : a + 1 + b = a + b + 1 := by omega
      have e3 : a + 1 + (b + 1) = a + b + 1 + 1 := by omega
      rw [e1] at h1
      rw [e2] at h2
      rw [cho, e3, Nat.add_mul, show fac (a + b + 1 + 1) = (a + b + 1 + 1) * fac (a + b + 1) from rfl]
      have k1 : cho a (b + 1) * (fac (a + 1) * fac (b + 1)) = (a + 1) * fac (a + b + 1) := by
        rw [← h1, show fac (a + 1) = (a + 1) * fac a from rfl]
        ac_rfl
      have k2 : cho (a + 1) b * (fac (a + 1) * fac (b + 1)) = (b + 1) * fac (a + b + 1) := by
        rw [← h2, show fac (b + 1) = (b + 1) * fac b from rfl]
        ac_rfl
      rw [k1, k2, ← Nat.add_mul, show a + 1 + (b + 1) = a + b + 1 + 1 by omega]
theorem fac_two (a b : Nat) : fac a * fac b ∣ fac (a + b) := ⟨cho a b, by rw [Nat.mul_comm]; exact (cho_fac _ a b rfl).symm⟩

/-- How many boxes there are for a stop. -/
def cntS (k : Nat) (l : List UInt8) : Nat := l.countP fun c => decide (c.toNat = k)
theorem cntS_snoc (k : Nat) (l : List UInt8) (c : UInt8) : cntS k (l ++ [c]) = cntS k l + (if c.toNat = k then 1 else 0) := by
  simp only [cntS, List.countP_append]
  by_cases h : c.toNat = k <;> simp [h]
def sumC : Nat → List UInt8 → Nat
  | 0, _ => 0
  | n + 1, l => sumC n l + cntS (49 + n) l
def facC : Nat → List UInt8 → Nat
  | 0, _ => 1
  | n + 1, l => facC n l * fac (cntS (49 + n) l)
theorem facC_dvd (n : Nat) (l : List UInt8) : facC n l ∣ fac (sumC n l) := by
  induction n with
  | zero => exact Nat.dvd_refl _
  | succ n ih => exact Nat.dvd_trans (Nat.mul_dvd_mul ih (Nat.dvd_refl _)) (fac_two _ _)
theorem facC_pos (n : Nat) (l : List UInt8) : 0 < facC n l := by
  induction n with
  | zero => exact Nat.one_pos
  | succ n ih => exact Nat.mul_pos ih (fac_pos _)
theorem sumC_snoc (n : Nat) (l : List UInt8) (c : UInt8) : sumC n (l ++ [c]) = sumC n l + (if 49 ≤ c.toNat ∧ c.toNat < 49 + n then 1 else 0) := by
  induction n with
  | zero => rw [if_neg (by omega)]; rfl
  | succ n ih =>
    rw [sumC, sumC, ih, cntS_snoc]
    by_cases h : c.toNat = 49 + n
    · rw [if_pos h, if_neg (by omega), if_pos (by omega)]; omega
    · rw [if_neg h]
      by_cases h2 : 49 ≤ c.toNat ∧ c.toNat < 49 + n
      · rw [if_pos h2, if_pos (by omega)]; omega
      · rw [if_neg h2, if_neg (by omega)]; omega
theorem sumC_le (n : Nat) (l : List UInt8) : sumC n l ≤ l.length := by
  have h : ∀ m, ∀ l : List UInt8, l.length = m → sumC n l ≤ l.length := by
    intro m
    induction m with
    | zero =>
      intro l hl
      obtain rfl := List.length_eq_zero_iff.1 hl
      have : sumC n [] = 0 := by
        induction n with
        | zero => rfl
        | succ n ih => rw [sumC, ih]; rfl
      omega
    | succ m ih =>
      intro l hl
      obtain ⟨p, c, rfl⟩ : ∃ p c, l = p ++ [c] := ⟨l.dropLast, l.getLast (by intro e; simp [e] at hl), (List.dropLast_concat_getLast _).symm⟩
      simp only [List.length_append, List.length_singleton] at hl ⊢
      have := ih p (by omega)
      rw [sumC_snoc]
      split <;> omega
  exact h _ l rfl
theorem facC_snoc (n : Nat) (l : List UInt8) (c : UInt8) (h : 49 ≤ c.toNat ∧ c.toNat < 49 + n) : facC n (l ++ [c]) = facC n l * (cntS c.toNat l + 1) := by
  induction n with
  | zero => omega
  | succ n ih =>
    rw [facC, facC, cntS_snoc]
    by_cases e : c.toNat = 49 + n
    · rw [if_pos e, e]
      have hs : ∀ m, m ≤ n → facC m (l ++ [c]) = facC m l := by
        intro m
        induction m with
        | zero => intro _; rfl
        | succ m ihm => intro hm; rw [facC, facC, ihm (by omega), cntS_snoc, if_neg (by omega), Nat.add_zero]
      rw [hs n (Nat.le_refl _), show fac (cntS (49 + n) l + 1) = (cntS (49 + n) l + 1) * fac (cntS (49 + n) l) from rfl]
      ac_rfl
    · rw [if_neg e, Nat.add_zero, ih (by omega)]
      ac_rfl
/-- The number of loadings. -/
def valC (l : List UInt8) : Nat := fac l.length / facC 9 l
theorem valC_eq (l : List UInt8) : valC l * facC 9 l = fac l.length := Nat.div_mul_cancel (Nat.dvd_trans (facC_dvd 9 l) (fac_dvd (sumC_le 9 l)))
theorem valC_step (l : List UInt8) (c : UInt8) (h : 49 ≤ c.toNat ∧ c.toNat ≤ 57) : valC l * (l.length + 1) / (cntS c.toNat l + 1) = valC (l ++ [c]) := by
  have h1 := valC_eq l
  have h2 := valC_eq (l ++ [c])
  rw [facC_snoc 9 l c (by omega), List.length_append, List.length_singleton, show fac (l.length + 1) = (l.length + 1) * fac l.length from rfl, ← h1] at h2
  have h3 : valC (l ++ [c]) * (cntS c.toNat l + 1) = valC l * (l.length + 1) := by
    refine Nat.eq_of_mul_eq_mul_right (facC_pos 9 l) ?_
    have e1 : valC (l ++ [c]) * (cntS c.toNat l + 1) * facC 9 l = valC (l ++ [c]) * (facC 9 l * (cntS c.toNat l + 1)) := by ac_rfl
    have e2 : valC l * (l.length + 1) * facC 9 l = (l.length + 1) * (valC l * facC 9 l) := by ac_rfl
    rw [e1, e2, h2]
  rw [← h3]
  exact Nat.mul_div_cancel _ (by omega)
theorem valC_perm {l m : List UInt8} (h : List.Perm l m) : valC l = valC m := by
  have hf : ∀ n, facC n l = facC n m := by
    intro n
    induction n with
    | zero => rfl
    | succ n ih => rw [facC, facC, ih, show cntS (49 + n) l = cntS (49 + n) m from h.countP_eq _]
  unfold valC
  rw [h.length_eq, hf 9]
theorem valC_bd {l : List UInt8} (h : l.length ≤ 12) : valC l ≤ 479001600 := by
  have h1 := Nat.div_le_self (fac l.length) (facC 9 l)
  have h2 := Nat.le_of_dvd (fac_pos 12) (fac_dvd h)
  have h3 : fac 12 = 479001600 := by decide
  unfold valC
  omega
/-- Those for the stops '1', '2', .., so many. -/
def ascN : Nat → List UInt8 → List UInt8
  | 0, _ => []
  | n + 1, l => ascN n l ++ ofS (49 + n) l
theorem ascN_count {n : Nat} (l : List UInt8) (c : UInt8) : (ascN n l).count c = if 49 ≤ c.toNat ∧ c.toNat < 49 + n then l.count c else 0 := by
  induction n with
  | zero => rw [if_neg (by omega)]; simp [ascN]
  | succ n ih =>
    rw [ascN, List.count_append, ih]
    have h2 : (ofS (49 + n) l).count c = if c.toNat = 49 + n then l.count c else 0 := by
      by_cases h : c.toNat = 49 + n
      · rw [if_pos h, ofS, List.count_filter (by simpa using h)]
      · rw [if_neg h]
        refine List.count_eq_zero.2 fun hm => ?_
        simp [ofS] at hm
        exact h hm.2
    rw [h2]
    by_cases h : c.toNat = 49 + n
    · rw [if_neg (by omega), if_pos h, if_pos (by omega)]; omega
    · rw [if_neg h]
      by_cases h3 : 49 ≤ c.toNat ∧ c.toNat < 49 + n
      · rw [if_pos h3, if_pos (by omega)]; omega
      · rw [if_neg h3, if_neg (by omega)]
theorem ascN_perm {l : List UInt8} (h : ∀ c ∈ l, 49 ≤ c.toNat ∧ c.toNat ≤ 57) : List.Perm (ascN 9 l) l := by
  rw [List.perm_iff_count]
  intro c
  rw [ascN_count]
  by_cases hc : c ∈ l
  · rw [if_pos (by have := h c hc; omega)]
  · rw [List.count_eq_zero.2 hc]; split <;> rfl
/-- What has been counted behind 'm' stops and 'k' boxes for the next one. -/
def midC (l : List UInt8) (m k : Nat) : List UInt8 := ascN m l ++ ofS (49 + m) (l.take k)
theorem midC_zero (l : List UInt8) (m : Nat) : midC l m 0 = ascN m l := by simp [midC, ofS]
theorem midC_end (l : List UInt8) (m k : Nat) (h : l.length ≤ k) : midC l m k = ascN (m + 1) l := by rw [midC, List.take_of_length_le h]; rfl
theorem midC_step {l : List UInt8} {m k : Nat} {c : UInt8} (h : l[k]? = some c) : midC l m (k + 1) = midC l m k ++ (if c.toNat = 49 + m then [c] else []) := by
  have e : l.take (k + 1) = l.take k ++ [c] := by rw [List.take_add_one, h]; rfl
  rw [midC, e, ofS_snoc, midC, List.append_assoc]
theorem ascN_none {l : List UInt8} {m k : Nat} (h : 49 + m ≤ k) : cntS k (ascN m l) = 0 := by
  induction m with
  | zero => rfl
  | succ m ih =>
    have h2 : cntS k (ofS (49 + m) l) = 0 := by
      rw [cntS, List.countP_eq_zero]
      intro c hc
      simp [ofS] at hc
      simp; omega
    have h1 := ih (by omega)
    unfold cntS at h1 h2 ⊢
    rw [ascN, List.countP_append, h1, h2]
theorem midC_cnt (l : List UInt8) (m k : Nat) : cntS (49 + m) (midC l m k) = cntS (49 + m) (l.take k) := by
  have h1 := ascN_none (l := l) (m := m) (k := 49 + m) (Nat.le_refl _)
  have h2 : cntS (49 + m) (ofS (49 + m) (l.take k)) = cntS (49 + m) (l.take k) := by
    simp only [cntS, ofS, List.countP_filter, Bool.and_self]
  unfold cntS at h1 h2 ⊢
  rw [midC, List.countP_append, h1, h2, Nat.zero_add]
theorem ascN_len (n : Nat) (l : List UInt8) : (ascN n l).length = sumC n l := by
  induction n with
  | zero => rfl
  | succ n ih => rw [ascN, List.length_append, ih, sumC, ofS, cntS, List.countP_eq_length_filter]
theorem midC_len (l : List UInt8) (m k : Nat) : (midC l m k).length ≤ l.length := by
  have h1 := sumC_le (m + 1) l
  have h2 : (ofS (49 + m) (l.take k)).length ≤ (ofS (49 + m) l).length := ((List.take_sublist k l).filter _).length_le
  have h3 : (ofS (49 + m) l).length = cntS (49 + m) l := by rw [ofS, cntS, List.countP_eq_length_filter]
  rw [midC, List.length_append, ascN_len]
  rw [sumC] at h1
  omega

/-- Is there a box for a stop? -/
def hasS (l : List UInt8) (k : Nat) : Bool := l.any fun c => decide (c.toNat = 48 + k)
/-- The first stops for which there are boxes. -/
def stopL (l : List UInt8) : Nat → List Int
  | 0 => []
  | m + 1 => stopL l m ++ (if hasS l (m + 1) = true then [((m : Int) + 1)] else [])
theorem stopL_len (l : List UInt8) (m : Nat) : (stopL l m).length ≤ m := by
  induction m with
  | zero => simp [stopL]
  | succ m ih => rw [stopL, List.length_append]; split <;> simp <;> omega
theorem indexByte_has (l : List UInt8) (c : UInt8) : decide (0 ≤ Lib.indexByte l c) = l.any fun x => decide (x.toNat = c.toNat) := by
  induction l with
  | nil => rfl
  | cons x l ih =>
    rw [Lib.indexByte]
    have hge := Lib.indexByte_ge l c
    by_cases h : x = c
    · subst h; simp
    · have hn : ¬ x.toNat = c.toNat := fun e => h (UInt8.toNat_inj.1 e)
      simp only [List.any_cons, decide_eq_false hn, Bool.false_or, ← ih]
      split
      · rename_i h2; exact absurd (by simpa using h2) h
      · split
        · rename_i h3; simp at h3; rw [h3] <;> rfl
        · rename_i h3
          simp at h3
          by_cases h4 : 0 ≤ Lib.indexByte l c
          · rw [decide_eq_true h4, decide_eq_true (by omega)]
          · omega
end Go.Proofs.Ytgcljhgpihpfgaa
