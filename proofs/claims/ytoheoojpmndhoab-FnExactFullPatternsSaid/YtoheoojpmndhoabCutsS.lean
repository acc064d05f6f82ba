/-
  The given program's table of the best cuts.
  Conditions: one to sixty prices from 0 to 1000, a rod of 1 to 60.
-/
import Derived.Test.YtoheoojpmndhoabCutsF
import Derived.Test.YtoheoojpmndhoabPrices
import Derived.Test.YtoheoojpmndhoabInfo
import Derived.Test.YtoheoojpmndhoabMem
import Derived.IntWalk
import Derived.Deep.QuietTactic
import Derived.BigQuiet
namespace Go.Proofs.Ytoheoojpmndhoab
set_option linter.unusedVariables false
open Go.RowKit

def initW (k m : Nat) : Int := if 0 < m ∧ m < k then -1 else 0

theorem initW_zero (r : Nat) : List.replicate (r + 1) (0 : Int) = rowOf r (initW 1) := by
  apply List.ext_getElem?
  intro i
  rw [List.getElem?_replicate]
  by_cases h : i < r + 1
  · rw [if_pos h, rowOf_get (by omega)]
    unfold initW
    rw [if_neg (by omega)]
  · rw [if_neg h, List.getElem?_eq_none (by rw [rowOf_length]; omega)]

theorem zeros_row (r : Nat) : List.replicate (r + 1) (0 : Int) = rowOf r (fun _ => 0) := by
  apply List.ext_getElem?
  intro i
  rw [List.getElem?_replicate]
  by_cases h : i < r + 1
  · rw [if_pos h, rowOf_get (by omega)]
  · rw [if_neg h, List.getElem?_eq_none (by rw [rowOf_length]; omega)]

theorem initW_step (r k : Nat) (h : 1 ≤ k) : (rowOf r (initW k)).set k (-1) = rowOf r (initW (k + 1)) := by
  rw [rowOf_set]
  apply rowOf_congr
  intro n _
  unfold initW
  by_cases e : n = k
  · rw [if_pos e, if_pos (by omega)]
  · rw [if_neg e]
    by_cases e2 : 0 < n ∧ n < k
    · rw [if_pos e2, if_pos (by omega)]
    · rw [if_neg e2, if_neg (by omega)]

theorem initW_last (ps : List Int) (r : Nat) : rowOf r (initW (r + 1)) = rowOf r (fun n => (fromE ps (ps.length + 1) n).worth) := by
  apply rowOf_congr
  intro n hn
  unfold initW
  by_cases e : n = 0
  · subst e
    rw [if_neg (by omega), fromE_zero ps (by omega)]
  · rw [if_pos (by omega), fromE_out (by omega) (by omega)]

theorem count_first (ps : List Int) (r : Nat) : (rowOf r (fun _ => 0)).set 0 1 = rowOf r (fun n => (fromE ps (ps.length + 1) n).count) := by
  rw [rowOf_set]
  apply rowOf_congr
  intro n hn
  by_cases e : n = 0
  · subst e
    rw [if_pos rfl, fromE_zero ps (by omega)]
  · rw [if_neg e]
    unfold fromE
    rw [Nat.sub_self]
    unfold tabE
    rw [if_neg e]

/-- The rows of a table. -/
def worthR (r : Nat) (T : Nat → Ent) : List Int := rowOf r (fun n => (T n).worth)
def countR (r : Nat) (T : Nat → Ent) : List Int := rowOf r (fun n => (T n).count)

theorem worthR_get {r k : Nat} {T : Nat → Ent} (h : k ≤ r) : (worthR r T)[k]? = some (T k).worth := rowOf_get h
theorem countR_get {r k : Nat} {T : Nat → Ent} (h : k ≤ r) : (countR r T)[k]? = some (T k).count := rowOf_get h
theorem worthR_set (p : Int) (q r m : Nat) (T : Nat → Ent) : (worthR r (partE p q T m)).set m (cutE p q T m).worth = worthR r (partE p q T (m + 1)) := by
  rw [worthR, rowOf_set, worthR, partE_step]
  apply rowOf_congr
  intro n _
  dsimp only
  by_cases e : n = m
  · rw [if_pos e, if_pos e]
  · rw [if_neg e, if_neg e]
theorem countR_set (p : Int) (q r m : Nat) (T : Nat → Ent) : (countR r (partE p q T m)).set m (cutE p q T m).count = countR r (partE p q T (m + 1)) := by
  rw [countR, rowOf_set, countR, partE_step]
  apply rowOf_congr
  intro n _
  dsimp only
  by_cases e : n = m
  · rw [if_pos e, if_pos e]
  · rw [if_neg e, if_neg e]
theorem worthR_done {p : Int} {q r m : Nat} {T : Nat → Ent} (h : r < m) : worthR r (partE p q T m) = worthR r (cutE p q T) := by
  apply rowOf_congr
  intro n hn
  rw [partE_less (by omega)]
theorem countR_done {p : Int} {q r m : Nat} {T : Nat → Ent} (h : r < m) : countR r (partE p q T m) = countR r (cutE p q T) := by
  apply rowOf_congr
  intro n hn
  rw [partE_less (by omega)]

/-- A row keeps a worth that it has. -/
theorem worthR_same {p : Int} {q r m : Nat} {T : Nat → Ent} (h : (cutE p q T m).worth = (T m).worth) : worthR r (partE p q T m) = worthR r (partE p q T (m + 1)) := by
  rw [worthR, worthR, partE_step]
  apply rowOf_congr
  intro n _
  dsimp only
  by_cases e : n = m
  · subst e
    rw [if_pos rfl, partE_not (Nat.le_refl _), h]
  · rw [if_neg e]

/-- Two rows are handed over. -/
def RetWC (r : Nat) (T : Nat → Ent) (w : World) (e : Ending) (w' : World) : Prop :=
  ∃ g1 g2, e = .returned (.tuple #[.slice (some ⟨g1, 0, none⟩) (r + 1) (r + 1), .slice (some ⟨g2, 0, none⟩) (r + 1) (r + 1)]) ∧ Arr w' g1 3 (worthR r T) ∧ Arr w' g2 3 (countR r T) ∧ Below w.heap.size w w'

/-- What a step looks at. -/
theorem cut_cases {p : Int} {q m : Nat} {T : Nat → Ent} {a b c d : Int} (h0 : 1 ≤ q) (h : q ≤ m) (ha : (cutE p q T (m - q)).worth = a) (hb : (T m).worth = b) (hc : (cutE p q T (m - q)).count = c) (hd : (T m).count = d) :
    (a < 0 → (cutE p q T m).worth = b ∧ (cutE p q T m).count = d) ∧ (¬ a < 0 → b < a + p → (cutE p q T m).worth = a + p ∧ (cutE p q T m).count = c) ∧
    (¬ a < 0 → ¬ b < a + p → a + p = b → (cutE p q T m).worth = b ∧ (cutE p q T m).count = d + c) ∧ (¬ a < 0 → ¬ b < a + p → ¬ a + p = b → (cutE p q T m).worth = b ∧ (cutE p q T m).count = d) := by
  rw [cutE_at (by omega) h]
  unfold combE
  rw [ha, hb]
  refine ⟨fun h1 => ?_, fun h1 h2 => ?_, fun h1 h2 h3 => ?_, fun h1 h2 h3 => ?_⟩
  · rw [if_pos h1]; exact ⟨hb, hd⟩
  · rw [if_neg h1, if_pos h2]; exact ⟨rfl, hc⟩
  · rw [if_neg h1, if_neg h2, if_pos h3.symm]; exact ⟨rfl, by simp only; rw [hc, hd]⟩
  · rw [if_neg h1, if_neg h2, if_neg (fun e => h3 e.symm)]; exact ⟨hb, hd⟩

/-- A count stays as well. -/
theorem countR_same {p : Int} {q r m : Nat} {T : Nat → Ent} (h : (cutE p q T m).count = (T m).count) : countR r (partE p q T m) = countR r (partE p q T (m + 1)) := by
  rw [countR, countR, partE_step]
  apply rowOf_congr
  intro n _
  dsimp only
  by_cases e : n = m
  · subst e
    rw [if_pos rfl, partE_not (Nat.le_refl _), h]
  · rw [if_neg e]

/-- What is known where prices and a rod are asked for. -/
theorem cutB_at {ps : List Int} {n : Nat} {rod : Int} (hn : ps.length = n) (h : cutB ps rod = true) : ∃ r : Nat, rod = (r : Int) ∧ n ≤ 60 ∧ 1 ≤ r ∧ r ≤ 60 ∧ ∀ (k : Nat) u, ps[k]? = some u → 0 ≤ u ∧ u ≤ 1000 := by
  simp only [cutB, Bool.and_eq_true] at h
  have h2 := inB_true.1 h.2
  have h1 := someB_at h.1
  have h3 := h.1
  simp only [someB, Bool.and_eq_true] at h3
  have h4 := inB_true.1 h3.1
  exact ⟨rod.toNat, by omega, by omega, by omega, by omega, h1⟩

theorem cutB_parts {ps : List Int} {rod : Int} {q : Bool} (h : cutB ps rod = q) : (q = true ∧ someB 60 1000 ps = true ∧ inB rod 1 60 = true) ∨ (q = false ∧ someB 60 1000 ps = false) ∨ (q = false ∧ someB 60 1000 ps = true ∧ inB rod 1 60 = false) := by
  subst h
  unfold cutB
  cases someB 60 1000 ps <;> cases inB rod 1 60 <;> simp

theorem some_one {ps : List Int} {n : Nat} (hn : ps.length = n) (h : someB 60 1000 ps = true) : 1 ≤ n := by
  simp only [someB, Bool.and_eq_true] at h
  have := inB_true.1 h.1
  omega
end Go.Proofs.Ytoheoojpmndhoab
