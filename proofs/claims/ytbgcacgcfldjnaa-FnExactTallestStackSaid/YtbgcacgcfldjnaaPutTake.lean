/-
  Both programs put a thing on a stack, and take its top.
  Conditions: the lists have at most 1048576 things and numbers.
-/
import Derived.Test.YtbgcacgcfldjnaaPileH
import Derived.Test.YtbgcacgcfldjnaaSomeN
namespace Go.Proofs.Ytbgcacgcfldjnaa
set_option linter.unusedVariables false
open Go.RowKit

def putB (ts : List (Int × Int × Int)) (ks : List Int) (k : Int) : Bool := bothT ts ks && canT ts.length ks k
def topB (ts : List (Int × Int × Int)) (ks : List Int) : Bool := bothT ts ks && decide (0 < ks.length)
def topI (q : Bool) (ks : List Int) : Int := if q = true then ks.getD (ks.length - 1) 0 else 0

/-- A list, a number and a bool are answered. -/
def RetLIB (b : Bool) (v : Int) (ys : List Int) (w : World) (e : Ending) (w' : World) : Prop :=
  ∃ A n c, e = .returned (.tuple #[.slice A n c, .int .i64 v, .bool b]) ∧ ys.length = n ∧ Own w' w.heap.size w'.heap.size A ys ∧ Below w.heap.size w w'

theorem putB_len {ts : List (Int × Int × Int)} {ks : List Int} {k : Int} (h : putB ts ks k = true) : ks.length ≤ 7 := by
  unfold putB at h
  rw [Bool.and_eq_true] at h
  exact bothT_len h.1

theorem put_cases {ts : List (Int × Int × Int)} {ks : List Int} {k : Int} {q : Bool} {n : Nat} (hn : ts.length = n) (h : putB ts ks k = q) :
    (q = false ∧ bothT ts ks = false) ∨ (q = false ∧ bothT ts ks = true ∧ canT n ks k = false) ∨ (q = true ∧ bothT ts ks = true ∧ canT n ks k = true) := by
  rw [← h, ← hn]; unfold putB
  cases bothT ts ks <;> cases canT ts.length ks k <;> simp
theorem can_cases {n : Nat} {ks : List Int} {k : Int} (h : canT n ks k = false) : inB k 0 ((n : Int) - 1) = false ∨ (inB k 0 ((n : Int) - 1) = true ∧ decide (k ∈ ks) = true) := by
  cases hi : inB k 0 ((n : Int) - 1)
  · exact .inl rfl
  · refine .inr ⟨rfl, decide_eq_true ?_⟩
    rw [inB_true] at hi
    rw [Bool.eq_false_iff] at h
    refine Classical.byContradiction fun hm => h (canT_true.2 ⟨by omega, hm⟩)
theorem can_yes {n : Nat} {ks : List Int} {k : Int} (h : canT n ks k = true) : inB k 0 ((n : Int) - 1) = true ∧ decide (k ∈ ks) = false := by
  obtain ⟨h1, h2⟩ := canT_true.1 h
  exact ⟨inB_true.2 (by omega), decide_eq_false h2⟩

theorem top_cases {ts : List (Int × Int × Int)} {ks : List Int} {q : Bool} {m : Nat} (hm : ks.length = m) (h : topB ts ks = q) :
    (q = false ∧ bothT ts ks = false) ∨ (q = false ∧ bothT ts ks = true ∧ m = 0) ∨ (q = true ∧ bothT ts ks = true ∧ 0 < m) := by
  subst hm
  rw [← h]; unfold topB
  cases bothT ts ks
  · exact .inl ⟨rfl, rfl⟩
  · rcases Nat.eq_zero_or_pos ks.length with e | e
    · exact .inr (.inl ⟨by simp [e], rfl, e⟩)
    · exact .inr (.inr ⟨by simp [e], rfl, e⟩)
theorem drop_last {ks : List Int} {m : Nat} (hm : ks.length = m + 1) : ∃ xs x, ks = xs ++ [x] ∧ xs.length = m := by
  have hne : ks ≠ [] := by intro h; subst h; simp at hm
  exact ⟨ks.dropLast, ks.getLast hne, (List.dropLast_concat_getLast hne).symm, by simp [hm]⟩

end Go.Proofs.Ytbgcacgcfldjnaa
