/-
  All safe stacks: how many have so many things, the first of the greatest size; no program is spoken of here.
  Conditions: the list has at most 1048576 things.
-/
import Derived.Test.YtbgcacgcfldjnaaVisit
namespace Go.Proofs.Ytbgcacgcfldjnaa
set_option linter.unusedVariables false
open Go.RowKit

/-- All safe stacks, in their order. -/
def fullT (ts : List (Int × Int × Int)) : List (List Int) := visF ts ts.length 7000 []
theorem fullT_all {ts : List (Int × Int × Int)} : allS ts ts.length [] = fullT ts := by rw [allS_yes (by rfl)]; rfl
theorem fullT_len {ts : List (Int × Int × Int)} (hg : goodT ts = true) : (fullT ts).length ≤ 960800 := visF_few (goodT_at hg).2.1 (goodT_at hg).2.1 _ _
theorem fullT_stack {ts : List (Int × Int × Int)} (hg : goodT ts = true) {xs : List Int} (h : xs ∈ fullT ts) : stackB ts.length xs = true := visF_stack hg _ _ _ (stackB_nil _) xs h
theorem fullT_le {ts : List (Int × Int × Int)} (hg : goodT ts = true) {xs : List Int} (h : xs ∈ fullT ts) : xs.length ≤ ts.length := stackB_len (fullT_stack hg h)

/-- Those of so many things. -/
def ordT (many : Int) (L : List (List Int)) : List (List Int) := L.filter fun xs => decide ((xs.length : Int) = many)
theorem ordT_len (many : Int) (L : List (List Int)) : (ordT many L).length = cntT many L := (List.countP_eq_length_filter).symm
theorem ordT_snoc (many : Int) (L : List (List Int)) (xs : List Int) : ordT many (L ++ [xs]) = if (xs.length : Int) = many then ordT many L ++ [xs] else ordT many L := by
  unfold ordT
  rw [List.filter_append]
  split
  · rename_i h; simp [h]
  · rename_i h; simp [h]
theorem take_next {α : Type} {L : List α} {k : Nat} {x : α} (h : L[k]? = some x) : L.take (k + 1) = L.take k ++ [x] := by
  obtain ⟨hk, rfl⟩ := List.getElem?_eq_some_iff.1 h
  exact List.take_succ_eq_append_getElem hk

theorem bestF_mem (g : List Int → Int) (L : List (List Int)) : (bestF g L).1 = [] ∨ (bestF g L).1 ∈ L := by
  have : ∀ (L : List (List Int)) (s : List Int × Int), (L.foldl (bestT g) s).1 = s.1 ∨ (L.foldl (bestT g) s).1 ∈ L := by
    intro L
    induction L with
    | nil => intro s; exact .inl rfl
    | cons x L ih =>
      intro s
      rw [List.foldl_cons]
      rcases ih (bestT g s x) with h | h
      · rw [h]
        unfold bestT
        split
        · exact .inr List.mem_cons_self
        · exact .inl rfl
      · exact .inr (List.mem_cons_of_mem _ h)
  rcases this L ([], 0) with h | h
  · exact .inl h
  · exact .inr h
theorem bestF_len {ts : List (Int × Int × Int)} (hg : goodT ts = true) (g : List Int → Int) : (bestF g (fullT ts)).1.length ≤ 7 := by
  rcases bestF_mem g (fullT ts) with h | h
  · rw [h]; simp
  · exact Nat.le_trans (fullT_le hg h) (goodT_at hg).2.1
theorem bestF_many (L : List (List Int)) : (bestF (fun xs => (xs.length : Int)) L).2 = ((bestF (fun xs => (xs.length : Int)) L).1.length : Int) := by
  have : ∀ (L : List (List Int)) (s : List Int × Int), s.2 = (s.1.length : Int) → (L.foldl (bestT (fun xs => (xs.length : Int))) s).2 = ((L.foldl (bestT (fun xs => (xs.length : Int))) s).1.length : Int) := by
    intro L
    induction L with
    | nil => intro s h; exact h
    | cons x L ih =>
      intro s h
      refine ih _ ?_
      unfold bestT
      split
      · rfl
      · exact h
  exact this L _ rfl

theorem best_head (N : Int) (L : List (List Int)) : ∀ s : List Int × Int, (∀ xs ∈ L, (xs.length : Int) ≤ N) → s.2 ≤ N →
    (s.2 = N → L.foldl (bestT (fun xs => (xs.length : Int))) s = s) ∧ (s.2 < N → (ordT N L = [] ∧ (L.foldl (bestT (fun xs => (xs.length : Int))) s).2 < N) ∨ ∃ x r, ordT N L = x :: r ∧ L.foldl (bestT (fun xs => (xs.length : Int))) s = (x, N)) := by
  induction L with
  | nil => intro s _ h; exact ⟨fun _ => rfl, fun h => .inl ⟨rfl, h⟩⟩
  | cons x L ih =>
    intro s hl hs
    have hx := hl x List.mem_cons_self
    have hl' : ∀ xs ∈ L, (xs.length : Int) ≤ N := fun xs h => hl xs (List.mem_cons_of_mem _ h)
    rw [List.foldl_cons]
    refine ⟨fun h => ?_, fun h => ?_⟩
    · rw [bestT_no (by omega)]
      exact (ih s hl' hs).1 h
    · by_cases he : (x.length : Int) = N
      · rw [bestT_yes (by omega)]
        refine .inr ⟨x, ordT N L, by simp [ordT, he], ?_⟩
        rw [(ih (x, (x.length : Int)) hl' hx).1 he, he]
      · have e : ordT N (x :: L) = ordT N L := by simp [ordT, he]
        rw [e]
        by_cases hb : s.2 < (x.length : Int)
        · rw [bestT_yes hb]
          exact (ih _ hl' hx).2 (by show (x.length : Int) < N; omega)
        · rw [bestT_no hb]
          exact (ih _ hl' hs).2 h
/-- The first safe order is the first stack of the greatest size, if that is all. -/
theorem best_order {ts : List (Int × Int × Int)} (hg : goodT ts = true) :
    (cntT (ts.length : Nat) (fullT ts) = 0 ∧ (bestF (fun xs => (xs.length : Int)) (fullT ts)).2 < (ts.length : Int)) ∨ ∃ x r, ordT (ts.length : Nat) (fullT ts) = x :: r ∧ bestF (fun xs => (xs.length : Int)) (fullT ts) = (x, (ts.length : Int)) := by
  have h1 := (goodT_at hg).1
  rcases (best_head (ts.length : Int) (fullT ts) ([], 0) (fun xs h => by have := fullT_le hg h; omega) (by simp)).2 (by show (0 : Int) < (ts.length : Int); omega) with ⟨h, h2⟩ | h
  · refine .inl ⟨?_, h2⟩
    have := ordT_len (ts.length : Int) (fullT ts)
    rw [h] at this
    exact this.symm
  · exact .inr h

def askC (ts : List (Int × Int × Int)) (many : Int) : Bool := goodT ts && inB many 0 (ts.length : Int)
def safeQ (ts : List (Int × Int × Int)) : Bool := goodT ts && decide (0 < cntT (ts.length : Nat) (fullT ts))
theorem safeQ_good {ts : List (Int × Int × Int)} (h : safeQ ts = true) : goodT ts = true := by unfold safeQ at h; rw [Bool.and_eq_true] at h; exact h.1
def firstS (ts : List (Int × Int × Int)) : List Int := (bestF (fun xs => (xs.length : Int)) (fullT ts)).1

/-- A list and a number are answered. -/
def RetLN (v : Int) (ys : List Int) (w : World) (e : Ending) (w' : World) : Prop :=
  ∃ A n c, e = .returned (.tuple #[.slice A n c, .int .i64 v]) ∧ ys.length = n ∧ Own w' w.heap.size w'.heap.size A ys ∧ Below w.heap.size w w'
def RetV (v : Int) (w : World) (e : Ending) (w' : World) : Prop := e = .returned (.int .i64 v) ∧ Below w.heap.size w w'
end Go.Proofs.Ytbgcacgcfldjnaa
