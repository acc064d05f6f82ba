/-
  What a loop over the cuts of a board keeps; no function is spoken of here.
  Conditions: none.
-/
import Derived.Test.YtjpejhpilfjheaaBdV
import Derived.Test.YtjpejhpilfjheaaBdG
import Derived.Test.YtjpejhpilfjheaaBdO
namespace Go.Proofs.Ytjpejhpilfjheaa
set_option linter.unusedVariables false
open Go.RowKit Go.Shelf

/-- One block alone may have turned since. -/
abbrev One (f : Nat) : Nat → Prop := fun k => k = f
theorem ownFrom_heap {β : Type} {B k : Nat} {cs : β → Array Value} {T : Nat} : OwnFrom B (fun (s : β) W => W.heap[k]? = some (.cells (cs s) T (0, 0))) := by
  intro s X Y row hs hg hr
  refine (hg.block k (heap_lt hs) (fun e => ?_)).trans hs
  obtain ⟨_, o, ho, hc⟩ := hr k e.symm
  rw [hs] at ho
  cases ho
  cases hc
theorem ownFrom_only {β : Type} {B f : Nat} {w : World} (hB : w.heap.size ≤ B) : OwnFrom B (fun (_ : β) W => Only (One f) w W) := by
  intro s X Y row hs hg hr
  refine ⟨hg.os.trans hs.os, hg.tape.trans hs.tape, hg.output.trans hs.output, Nat.le_trans hs.size hg.size, fun k hk hne => ?_⟩
  refine (hg.block k (Nat.lt_of_lt_of_le hk hs.size) (fun e => ?_)).trans (hs.block k hk hne)
  have := (hr k e.symm).1
  omega
theorem keeps_only {B f : Nat} {W W' : World} {cs : Array Value} {T : Nat} (h : Only (One f) W W') (hf : W.heap[f]? = some (.cells cs T (0, 0))) : KeepsFrom B W W' :=
  ⟨h.size, fun k o _ hk ho => (h.block k (heap_lt hk) (fun e => by
    rw [show k = f from e, hf] at hk
    cases hk
    cases ho)).trans hk⟩
theorem only_of_below {f : Nat} {w w' : World} (h : Below w.heap.size w w') : Only (One f) w w' := Only.of_below h (Nat.le_refl _)
theorem OwnFrom.both {β : Type} {B : Nat} {J K : β → World → Prop} (hJ : OwnFrom B J) (hK : OwnFrom B K) : OwnFrom B (fun s W => J s W ∧ K s W) := fun s X Y row hs hg hr => ⟨hJ s X Y row hs.1 hg hr, hK s X Y row hs.2 hg hr⟩
theorem pre_mem {α : Type} {pre xs : List α} {x : α} (h : x ∈ pre) (hp : pre <+: xs) : x ∈ xs := by
  obtain ⟨r, rfl⟩ := hp
  exact List.mem_append_left _ h
theorem heap_kept {A B : World} {B0 k T : Nat} {row : Option Nat} {cs : Array Value} (h : A.heap[k]? = some (.cells cs T (0, 0))) (hg : A.grownBy B row) (hr : ∀ r, row = some r → B0 ≤ r ∧ ∃ o : Obj, A.heap[r]? = some o ∧ o.isCells = false) : B.heap[k]? = some (.cells cs T (0, 0)) := by
  refine (hg.block k (heap_lt h) (fun e => ?_)).trans h
  obtain ⟨_, o, ho, hc⟩ := hr k e.symm
  rw [h] at ho
  cases ho
  cases hc
/-- What has come, as cuts. -/
abbrev vals {a b : Nat} (pre : List (CutOf a b)) : List Cut := pre.map Subtype.val
theorem vals_snoc {a b : Nat} (pre : List (CutOf a b)) (x : CutOf a b) : vals (pre ++ [x]) = vals pre ++ [x.1] := by simp [vals]
theorem leastL_snoc (s : Int) (xs : List Int) (y : Int) : leastL s (xs ++ [y]) = min (leastL s xs) y := by simp [leastL]
theorem mostL_snoc (s : Int) (xs : List Int) (y : Int) : mostL s (xs ++ [y]) = max (mostL s xs) y := by simp [mostL]
theorem wayF_snoc (cap : Int → Int → Int) (t : Nat → Nat → Int) (s : Int) (cs : List Cut) (c : Cut) : wayF cap t s (cs ++ [c]) = min (wayF cap t s cs + cap (t c.1.1 c.1.2) (t c.2.1 c.2.2)) 1000000000000001 := by simp [wayF]
/-- The two boards of a cut, as they lie side by side. -/
theorem two_cells {w : World} {g T : Nat} {x y z u : Nat} (h : w.heap[g]? = some (.cells #[.int .i64 (x : Int), .int .i64 (y : Int), .int .i64 (z : Int), .int .i64 (u : Int)] T (0, 0))) :
    ∀ (k : Nat) p, [(x, y), (z, u)][k]? = some p → w.cell? ⟨g, k * 2, none⟩ = some (.int .i64 (p.1 : Int)) ∧ w.cell? ⟨g, k * 2 + 1, none⟩ = some (.int .i64 (p.2 : Int)) := by
  intro k p hk
  match k, hk with
  | 0, hk => simp at hk; subst hk; exact ⟨cell_of h 0, cell_of h 1⟩
  | 1, hk => simp at hk; subst hk; exact ⟨cell_of h 2, cell_of h 3⟩
theorem one_cell {w : World} {g T : Nat} {x y : Nat} (h : w.heap[g]? = some (.cells #[.int .i64 (x : Int), .int .i64 (y : Int)] T (0, 0))) :
    ∀ (k : Nat) p, [(x, y)][k]? = some p → w.cell? ⟨g, k * 2, none⟩ = some (.int .i64 (p.1 : Int)) ∧ w.cell? ⟨g, k * 2 + 1, none⟩ = some (.int .i64 (p.2 : Int)) := by
  intro k p hk
  match k, hk with
  | 0, hk => simp at hk; subst hk; exact ⟨cell_of h 0, cell_of h 1⟩
theorem sumB_two (t : Nat → Nat → Int) (p q : Nat × Nat) : sumB t [p, q] = t p.1 p.2 + t q.1 q.2 := by simp [sumB]
theorem sumB_one (t : Nat → Nat → Int) (p : Nat × Nat) : sumB t [p] = t p.1 p.2 := by simp [sumB]
end Go.Proofs.Ytjpejhpilfjheaa
