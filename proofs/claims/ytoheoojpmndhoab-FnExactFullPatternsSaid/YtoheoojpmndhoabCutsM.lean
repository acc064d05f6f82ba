/-
  The best cuts of a rod, as a table by lengths that grows by one piece after the other; no program is spoken of here.
  Conditions: none.
-/
import Derived.Test.YtoheoojpmndhoabMem
namespace Go.Proofs.Ytoheoojpmndhoab
set_option linter.unusedVariables false

/-- What is known of one length: the greatest worth (less than 0: there is no cut), how many cuts have it, the first one. -/
structure Ent where
  worth : Int
  count : Int
  first : List Int

def combE (p : Int) (q : Nat) (a b : Ent) : Ent :=
  if a.worth < 0 then b
  else if b.worth < a.worth + p then ⟨a.worth + p, a.count, (q : Int) :: a.first⟩
  else if b.worth = a.worth + p then ⟨b.worth, b.count + a.count, (q : Int) :: a.first⟩
  else b

/-- A table behind one piece more. -/
def cutE (p : Int) (q : Nat) (T : Nat → Ent) (n : Nat) : Ent :=
  if h : 0 < q ∧ q ≤ n then combE p q (cutE p q T (n - q)) (T n) else T n
termination_by n
decreasing_by omega

theorem cutE_less {p : Int} {q : Nat} {T : Nat → Ent} {n : Nat} (h : n < q) : cutE p q T n = T n := by
  rw [cutE, dif_neg (by omega)]

theorem cutE_at {p : Int} {q : Nat} {T : Nat → Ent} {n : Nat} (h0 : 0 < q) (h : q ≤ n) : cutE p q T n = combE p q (cutE p q T (n - q)) (T n) := by
  conv => lhs; rw [cutE]
  rw [dif_pos ⟨h0, h⟩]

/-- The table behind the 'j' greatest pieces. -/
def tabE (ps : List Int) : Nat → Nat → Ent
  | 0 => fun n => if n = 0 then ⟨0, 1, []⟩ else ⟨-1, 0, []⟩
  | j + 1 => cutE (ps.getD (ps.length - j - 1) 0) (ps.length - j) (tabE ps j)

/-- A table in the midst of one piece: the lengths below 'm' are done. -/
def partE (p : Int) (q : Nat) (T : Nat → Ent) (m n : Nat) : Ent := if n < m then cutE p q T n else T n

theorem partE_first (p : Int) (q : Nat) (T : Nat → Ent) : partE p q T q = T := by
  funext n
  unfold partE
  by_cases h : n < q
  · rw [if_pos h, cutE_less h]
  · rw [if_neg h]

theorem partE_less {p : Int} {q : Nat} {T : Nat → Ent} {m n : Nat} (h : n < m) : partE p q T m n = cutE p q T n := if_pos h
theorem partE_not {p : Int} {q : Nat} {T : Nat → Ent} {m n : Nat} (h : m ≤ n) : partE p q T m n = T n := if_neg (by omega)

theorem partE_step (p : Int) (q : Nat) (T : Nat → Ent) (m : Nat) : partE p q T (m + 1) = fun n => if n = m then cutE p q T m else partE p q T m n := by
  funext n
  by_cases h : n = m
  · subst h
    rw [partE_less (by omega), if_pos rfl]
  · rw [if_neg h]
    by_cases h2 : n < m
    · rw [partE_less h2, partE_less (by omega)]
    · rw [partE_not (by omega), partE_not (by omega)]

/-- If a length keeps what it has, the table stays. -/
theorem partE_same {p : Int} {q : Nat} {T : Nat → Ent} {m : Nat} (h : cutE p q T m = T m) : partE p q T (m + 1) = partE p q T m := by
  rw [partE_step]
  funext n
  by_cases h1 : n = m
  · subst h1
    rw [if_pos rfl, h, partE_not (Nat.le_refl _)]
  · rw [if_neg h1]

/-- The bound of a count: pieces of at least 'q'. -/
def cb (q n : Nat) : Int := if n = 0 then 1 else if n < q then 0 else 2 ^ (n + 1 - q)

theorem pow_le {a b : Nat} (h : a ≤ b) : (2 : Int) ^ a ≤ 2 ^ b := by
  have h1 : 2 ^ a ≤ 2 ^ b := Nat.pow_le_pow_right (by omega) h
  exact_mod_cast h1

theorem pow_ge (a : Nat) : (1 : Int) ≤ 2 ^ a := pow_le (a := 0) (Nat.zero_le a)

theorem cb_max {q n : Nat} (hq : 1 ≤ q) (hn : n ≤ 60) : cb q n ≤ 1152921504606846976 := by
  unfold cb
  split
  · omega
  · split
    · omega
    · have h := pow_le (a := n + 1 - q) (b := 60) (by omega)
      have e : (2 : Int) ^ 60 = 1152921504606846976 := by decide
      omega

theorem cb_less {q n : Nat} (h : n < q) : cb (q + 1) n = cb q n := by
  unfold cb
  by_cases h0 : n = 0
  · rw [if_pos h0, if_pos h0]
  · rw [if_neg h0, if_neg h0, if_pos h, if_pos (by omega)]

theorem cb_sum {q n : Nat} (h0 : 1 ≤ q) (h : q ≤ n) : cb (q + 1) n + cb q (n - q) ≤ cb q n := by
  unfold cb
  rw [if_neg (show ¬ n = 0 by omega), if_neg (show ¬ n = 0 by omega), if_neg (show ¬ n < q by omega)]
  by_cases e : n = q
  · subst e
    rw [if_pos (by omega), if_pos (by omega)]
    have := pow_ge (n + 1 - n)
    omega
  · rw [if_neg (show ¬ n < q + 1 by omega), if_neg (show ¬ n - q = 0 by omega)]
    have e1 : n + 1 - (q + 1) = n - q := by omega
    have e2 : n + 1 - q = n - q + 1 := by omega
    have e3 : (2 : Int) ^ (n - q + 1) = 2 * 2 ^ (n - q) := by rw [Int.pow_succ, Int.mul_comm]
    rw [e1, e2, e3]
    by_cases h2 : n - q < q
    · rw [if_pos h2]
      have := pow_ge (n - q)
      omega
    · rw [if_neg h2]
      have := pow_le (a := n - q + 1 - q) (b := n - q) (by omega)
      omega

theorem cb_up {q n : Nat} (h0 : 1 ≤ q) : cb (q + 1) n ≤ cb q n := by
  by_cases h : n < q
  · rw [cb_less h]; exact Int.le_refl _
  · have h1 := cb_sum h0 (by omega : q ≤ n)
    have h2 : 0 ≤ cb q (n - q) := by
      unfold cb
      split
      · omega
      · split
        · omega
        · have := pow_ge (n - q + 1 - q); omega
    omega

/-- What holds of an entry: there is no cut, or there are some. -/
def GoodE (q n : Nat) (e : Ent) : Prop :=
  ((e.worth = -1 ∧ e.count = 0 ∧ e.first = []) ∨ (0 ≤ e.worth ∧ e.worth ≤ 1000 * (n : Int) ∧ 1 ≤ e.count ∧ e.first.length ≤ n)) ∧ e.count ≤ cb q n

theorem GoodE.comb {p : Int} {q n : Nat} {a b : Ent} (hp : 0 ≤ p ∧ p ≤ 1000) (h0 : 1 ≤ q) (h : q ≤ n) (ha : GoodE q (n - q) a) (hb : GoodE (q + 1) n b) : GoodE q n (combE p q a b) := by
  obtain ⟨ha1, ha2⟩ := ha
  obtain ⟨hb1, hb2⟩ := hb
  have h1 := cb_sum h0 h
  have h2 := cb_up (n := n) h0
  unfold combE
  by_cases c1 : a.worth < 0
  · rw [if_pos c1]
    exact ⟨hb1, by omega⟩
  · rw [if_neg c1]
    rcases ha1 with ha1 | ⟨ha1, ha3, ha4, ha5⟩
    · omega
    have hbc : 0 ≤ b.count := by rcases hb1 with h | h <;> omega
    by_cases c2 : b.worth < a.worth + p
    · rw [if_pos c2]
      refine ⟨.inr ⟨by simp only; omega, by simp only; omega, ha4, by simp; omega⟩, ?_⟩
      simp only
      have h3 : 0 ≤ cb (q + 1) n := by omega
      omega
    · rw [if_neg c2]
      by_cases c3 : b.worth = a.worth + p
      · rw [if_pos c3]
        refine ⟨.inr ⟨by simp only; omega, by simp only; omega, by simp only; omega, by simp; omega⟩, ?_⟩
        simp only
        omega
      · rw [if_neg c3]
        exact ⟨hb1, by omega⟩

theorem GoodE.cut {p : Int} {q : Nat} {T : Nat → Ent} (hp : 0 ≤ p ∧ p ≤ 1000) (h0 : 1 ≤ q) (hT : ∀ n, GoodE (q + 1) n (T n)) (n : Nat) : GoodE q n (cutE p q T n) := by
  induction n using Nat.strongRecOn with
  | _ n ih =>
    by_cases h : n < q
    · rw [cutE_less h]
      have := hT n
      unfold GoodE at this ⊢
      rw [cb_less h] at this
      exact this
    · rw [cutE_at (by omega) (by omega)]
      exact GoodE.comb hp h0 (by omega) (ih _ (by omega)) (hT n)

theorem GoodE.tab {ps : List Int} (hp : ∀ (k : Nat) u, ps[k]? = some u → 0 ≤ u ∧ u ≤ 1000) (j : Nat) (hj : j ≤ ps.length) (n : Nat) : GoodE (ps.length + 1 - j) n (tabE ps j n) := by
  induction j generalizing n with
  | zero =>
    unfold tabE
    by_cases h : n = 0
    · subst h
      rw [if_pos rfl]
      exact ⟨.inr ⟨by simp, by simp, by simp, by simp⟩, by simp [cb]⟩
    · rw [if_neg h]
      refine ⟨.inl ⟨rfl, rfl, rfl⟩, ?_⟩
      unfold cb
      rw [if_neg h]
      split
      · exact Int.le_refl _
      · have := pow_ge (n + 1 - (ps.length + 1 - 0))
        show (0 : Int) ≤ _
        omega
  | succ j ih =>
    have e : ps.length + 1 - (j + 1) = ps.length - j := by omega
    have e2 : ps.length + 1 - j = ps.length - j + 1 := by omega
    rw [e]
    unfold tabE
    have hk : ps.length - j - 1 < ps.length := by omega
    have hu := hp (ps.length - j - 1) ps[ps.length - j - 1] (List.getElem?_eq_getElem hk)
    have eu : ps.getD (ps.length - j - 1) 0 = ps[ps.length - j - 1] := by simp [List.getD, hk]
    rw [eu]
    exact GoodE.cut hu (by omega) (fun m => by rw [← e2]; exact ih (by omega) m) n

/-- With the piece of length 1 there is a cut of every length. -/
theorem cutE_one {p : Int} {T : Nat → Ent} (hp : 0 ≤ p) (h0 : 0 ≤ (T 0).worth) (n : Nat) : 0 ≤ (cutE p 1 T n).worth := by
  induction n with
  | zero => rw [cutE_less (by omega)]; exact h0
  | succ n ih =>
    rw [cutE_at (by omega) (by omega)]
    rw [Nat.add_sub_cancel]
    unfold combE
    rw [if_neg (by omega)]
    split
    · simp only; omega
    · split
      · simp only; omega
      · omega

theorem tabE_zero (ps : List Int) (j : Nat) (hj : j ≤ ps.length) : tabE ps j 0 = ⟨0, 1, []⟩ := by
  induction j with
  | zero => rfl
  | succ j ih =>
    unfold tabE
    rw [cutE_less (by omega)]
    exact ih (by omega)

/-- Behind all pieces every length has a cut. -/
theorem tabE_some {ps : List Int} (hp : ∀ (k : Nat) u, ps[k]? = some u → 0 ≤ u ∧ u ≤ 1000) (h1 : 1 ≤ ps.length) (n : Nat) : 0 ≤ (tabE ps ps.length n).worth := by
  obtain ⟨m, hm⟩ : ∃ m, ps.length = m + 1 := ⟨ps.length - 1, by omega⟩
  rw [hm]
  unfold tabE
  have e : ps.length - m = 1 := by omega
  have hk : 0 < ps.length := by omega
  have hu := hp 0 ps[0] (List.getElem?_eq_getElem hk)
  have eu : ps.getD (1 - 1) 0 = ps[0] := by simp [List.getD, hk]
  rw [e, eu]
  refine cutE_one hu.1 ?_ n
  rw [tabE_zero ps m (by omega)]
  exact Int.le_refl _

/-- A row of numbers by lengths. -/
def rowOf (rod : Nat) (f : Nat → Int) : List Int := (List.range (rod + 1)).map f

theorem rowOf_length (rod : Nat) (f : Nat → Int) : (rowOf rod f).length = rod + 1 := by simp [rowOf]
theorem rowOf_get {rod : Nat} {f : Nat → Int} {k : Nat} (h : k ≤ rod) : (rowOf rod f)[k]? = some (f k) := by
  simp [rowOf, List.getElem?_range (by omega : k < rod + 1)]
theorem rowOf_set (rod : Nat) (f : Nat → Int) (k : Nat) (v : Int) : (rowOf rod f).set k v = rowOf rod (fun n => if n = k then v else f n) := by
  apply List.ext_getElem?
  intro i
  rw [List.getElem?_set]
  by_cases hi : i ≤ rod
  · rw [rowOf_get hi, rowOf_get hi, rowOf_length]
    by_cases e : k = i
    · subst e; rw [if_pos rfl, if_pos (by omega), if_pos rfl]
    · rw [if_neg e, if_neg (fun h => e h.symm)]
  · rw [List.getElem?_eq_none (by rw [rowOf_length]; omega), List.getElem?_eq_none (by rw [rowOf_length]; omega), rowOf_length]
    split
    · rw [if_neg (by omega)]
    · rfl
end Go.Proofs.Ytoheoojpmndhoab
