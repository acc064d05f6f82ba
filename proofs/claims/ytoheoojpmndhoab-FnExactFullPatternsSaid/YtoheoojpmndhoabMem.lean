/-
  Blocks of memory that may turn and blocks that stay; what a call answers; no program is spoken of here.
  Conditions: none.
-/
import Derived.Test.YtoheoojpmndhoabArr
namespace Go.Proofs.Ytoheoojpmndhoab
set_option linter.unusedVariables false
open Go.RowKit

/-- Of what was there only blocks of 'S' may have turned. -/
structure Only (S : Nat → Prop) (w w' : World) : Prop where
  os : w'.os = w.os
  tape : w'.tape = w.tape
  output : w'.output = w.output
  size : w.heap.size ≤ w'.heap.size
  block : ∀ k, k < w.heap.size → ¬ S k → w'.heap[k]? = w.heap[k]?

section
variable {S : Nat → Prop} {w w' w2 : World}
theorem Only.refl (S : Nat → Prop) (w : World) : Only S w w := ⟨rfl, rfl, rfl, Nat.le_refl _, fun _ _ _ => rfl⟩
theorem Only.trans (h : Only S w w') (k : Only S w' w2) : Only S w w2 :=
  ⟨k.os.trans h.os, k.tape.trans h.tape, k.output.trans h.output, Nat.le_trans h.size k.size, fun i hi hs => (k.block i (Nat.lt_of_lt_of_le hi h.size) hs).trans (h.block i hi hs)⟩
theorem Only.drew (h : Only S w w') : Only S w w'.drew := ⟨h.os, h.tape, h.output, h.size, h.block⟩
theorem Only.drewN (h : Only S w w') (n : Nat) : Only S w (w'.drewN n) := ⟨h.os, h.tape, h.output, h.size, h.block⟩
theorem Only.alloc (h : Only S w w') (o : Obj) : Only S w (w'.alloc o) :=
  h.trans ⟨rfl, rfl, rfl, by simp, fun k hk _ => Below.heap_alloc _ _ _ hk⟩
theorem Only.setCell (h : Only S w w') {p : Addr} (hp : S p.block) (u : Value) : Only S w (w'.setCell p u) :=
  h.trans ⟨rfl, rfl, rfl, by simp [World.setCell], fun k _ hs => Below.heap_setCell _ _ _ _ (fun e => hs (e ▸ hp))⟩
theorem Only.of_below {B : Nat} (h : Below B w w') (hB : w.heap.size ≤ B) : Only S w w' := ⟨h.os, h.tape, h.output, h.size, fun k hk _ => h.block k (by omega)⟩
theorem Only.below (h : Only S w w') {B : Nat} (hB : B ≤ w.heap.size) (hS : ∀ k, S k → B ≤ k) : Below B w w' := ⟨h.os, h.tape, h.output, h.size, fun k hk => h.block k (by omega) (fun hs => by have := hS k hs; omega)⟩
theorem Only.mono {S' : Nat → Prop} (h : Only S w w') (hS : ∀ k, S k → S' k) : Only S' w w' := ⟨h.os, h.tape, h.output, h.size, fun k hk hs => h.block k hk (fun h' => hs (hS k h'))⟩
end

theorem Seg.only {S : Nat → Prop} {w w' : World} {lo hi : Nat} {A : Option Addr} {xs : List Int} (h : Seg w lo hi A xs) (ho : Only S w w') (hB : hi ≤ w.heap.size) (hr : ∀ g, S g → g < lo ∨ hi ≤ g) : Seg w' lo hi A xs :=
  h.keep fun p h1 h2 => World.cell?_of_block (ho.block p.block (by omega) (fun e => by have := hr _ e; omega))
theorem Own.only {S : Nat → Prop} {w w' : World} {lo hi : Nat} {A : Option Addr} {xs : List Int} (h : Own w lo hi A xs) (ho : Only S w w') (hB : hi ≤ w.heap.size) (hr : ∀ g, S g → g < lo ∨ hi ≤ g) : Own w' lo hi A xs :=
  h.keep fun b h1 h2 => ho.block b (by omega) (fun e => by have := hr _ e; omega)

theorem ops_at {l : List Oper} {i : Nat} {o : Oper} (h : l[i]? = some o) : l.toArray[i]? = some o := by simpa using h

theorem heap_lt {w : World} {g : Nat} {o : Obj} (h : w.heap[g]? = some o) : g < w.heap.size := by
  rcases Nat.lt_or_ge g w.heap.size with hlt | hge
  · exact hlt
  · rw [Array.getElem?_eq_none hge] at h; cases h

/-- A block that the call has made, behind whatever came since. -/
theorem new_cells {w w1 : World} {cs : Array Value} {T : Nat} (hb : Below (w.alloc (.cells cs T)).heap.size (w.alloc (.cells cs T)) w1) : w1.heap[w.heap.size]? = some (.cells cs T (0, 0)) := by
  rw [hb.block w.heap.size (by simp)]
  exact heap_alloc_new w _

theorem cell_of {w : World} {g : Nat} {cs : Array Value} {T : Nat} (h : w.heap[g]? = some (.cells cs T (0, 0))) (i : Nat) : w.cell? ⟨g, i, none⟩ = cs[i]? := cell_of_row w g i cs T (0, 0) h
theorem frozen_of {w : World} {g : Nat} {cs : Array Value} {T : Nat} (h : w.heap[g]? = some (.cells cs T (0, 0))) (i : Nat) : w.frozen? ⟨g, i, none⟩ = false := by simp [World.frozen?, h]

/-- Behind a call in a round that first made a block: what was there, the block of the result, the new block. -/
theorem after_call {w wr w1 : World} {o : Obj} {cs : Array Value} {T : Nat} (hb : Below w.heap.size w wr) (hn : wr.heap[w.heap.size]? = some o)
    (hb1 : Below (wr.alloc (.cells cs T)).heap.size (wr.alloc (.cells cs T)) w1) :
    Below w.heap.size w w1 ∧ w1.heap[w.heap.size]? = some o ∧ w1.heap[wr.heap.size]? = some (.cells cs T (0, 0)) ∧ wr.heap.size < w1.heap.size := by
  have hlt := heap_lt hn
  have hs := hb1.size
  simp at hs
  refine ⟨(hb.alloc (by omega) _).trans (hb1.mono (by simp; omega)), ?_, new_cells hb1, by omega⟩
  rw [hb1.block w.heap.size (by simp; omega), Below.heap_alloc _ _ _ hlt]
  exact hn

theorem undrew {B : Nat} {w w1 : World} (h : Below B w.drew w1) : Below B w w1 := ⟨h.os, h.tape, h.output, h.size, h.block⟩

theorem after_call2 {w wr w1 : World} {o o2 : Obj} {cs : Array Value} {T : Nat} (hb : Below w.heap.size w wr) (hn : wr.heap[w.heap.size]? = some o) (hn2 : wr.heap[w.heap.size + 1]? = some o2)
    (hb1 : Below (wr.alloc (.cells cs T)).heap.size (wr.alloc (.cells cs T)) w1) :
    Below w.heap.size w w1 ∧ w1.heap[w.heap.size]? = some o ∧ w1.heap[w.heap.size + 1]? = some o2 ∧ w1.heap[wr.heap.size]? = some (.cells cs T (0, 0)) ∧ wr.heap.size < w1.heap.size := by
  obtain ⟨a, b, c, d⟩ := after_call hb hn hb1
  have hlt := heap_lt hn2
  refine ⟨a, b, ?_, c, d⟩
  rw [hb1.block _ (by simp; omega), Below.heap_alloc _ _ _ hlt]
  exact hn2

theorem new_at (w : World) (o : Obj) {g : Nat} (h : g = w.heap.size) : (w.alloc o).heap[g]? = some o := by
  subst h
  exact heap_alloc_new w o
theorem alloc_old (w : World) {g : Nat} (h : g < w.heap.size) (o : Obj) : (w.alloc o).heap[g]? = w.heap[g]? := Below.heap_alloc w o g h

theorem set_self {w : World} {g : Nat} {cs : Array Value} {T : Nat} (h : w.heap[g]? = some (.cells cs T (0, 0))) (i : Nat) (u : Value) : (w.setCell ⟨g, i, none⟩ u).heap[g]? = some (.cells (cs.setIfInBounds i u) T (0, 0)) := by
  simp [World.setCell, Array.getElem?_modify, h]
theorem set_far (w : World) {g : Nat} {p : Addr} (hp : g ≠ p.block) (u : Value) : (w.setCell p u).heap[g]? = w.heap[g]? := Below.heap_setCell w p u g hp

/-- A list and a bool are answered; the list lies in new memory of its own. -/
def RetL (b : Bool) (ys : List Int) (w : World) (e : Ending) (w' : World) : Prop :=
  ∃ A n c, e = .returned (.tuple #[.slice A n c, .bool b]) ∧ ys.length = n ∧ Own w' w.heap.size w'.heap.size A ys ∧ Below w.heap.size w w'

/-- A number and a bool are answered. -/
def RetI (v : Int) (q : Bool) (w : World) (e : Ending) (w' : World) : Prop := e = .returned (.tuple #[.int .i64 v, .bool q]) ∧ Below w.heap.size w w'

/-- Two bools are answered. -/
def RetBB (p q : Bool) (w : World) (e : Ending) (w' : World) : Prop := e = .returned (.tuple #[.bool p, .bool q]) ∧ Below w.heap.size w w'

end Go.Proofs.Ytoheoojpmndhoab
