/-
  What may be cut out of a rod, in memory; four numbers of pieces.
  Conditions: none.
-/
import Derived.Test.YtoheoojpmndhoabRodS
namespace Go.Proofs.Ytoheoojpmndhoab
set_option linter.unusedVariables false
open Go.RowKit

/-- A block that holds a rod, lengths and four bounds. -/
def CutAt (w : World) (g T : Nat) (rod : Int) (A : Option Addr) (n c : Nat) (ms : List Int) : Prop :=
  ms.length = 4 ∧ ∃ cs, w.heap[g]? = some (.cells cs T (0, 0)) ∧ cs.toList = Value.int .i64 rod :: Value.slice A n c :: ms.map (Value.int .i64)

theorem CutAt.of {w : World} {g T : Nat} {rod : Int} {A : Option Addr} {n c : Nat} {m0 m1 m2 m3 : Int} (h : w.heap[g]? = some (.cells #[.int .i64 rod, .slice A n c, .int .i64 m0, .int .i64 m1, .int .i64 m2, .int .i64 m3] T (0, 0))) : CutAt w g T rod A n c [m0, m1, m2, m3] :=
  ⟨rfl, _, h, rfl⟩

section
variable {w : World} {g T : Nat} {rod : Int} {A : Option Addr} {n c : Nat} {ms : List Int}

theorem CutAt.lt (h : CutAt w g T rod A n c ms) : g < w.heap.size := by
  obtain ⟨_, cs, hb, _⟩ := h
  exact heap_lt hb

theorem CutAt.get {cs : Array Value} (h : cs.toList = Value.int .i64 rod :: Value.slice A n c :: ms.map (Value.int .i64)) (k : Nat) : cs[k]? = (Value.int .i64 rod :: Value.slice A n c :: ms.map (Value.int .i64))[k]? := by
  rw [← h, Array.getElem?_toList]

theorem CutAt.c0 (h : CutAt w g T rod A n c ms) : w.cell? ⟨g, 0, none⟩ = some (.int .i64 rod) := by
  obtain ⟨_, cs, hb, hc⟩ := h
  rw [cell_of hb, CutAt.get hc]; rfl

theorem CutAt.c1 (h : CutAt w g T rod A n c ms) : w.cell? ⟨g, 1, none⟩ = some (.slice A n c) := by
  obtain ⟨_, cs, hb, hc⟩ := h
  rw [cell_of hb, CutAt.get hc]; rfl

theorem CutAt.most (h : CutAt w g T rod A n c ms) {k : Nat} {u : Int} (hu : ms[k]? = some u) : w.cell? ⟨g, 2 + k, none⟩ = some (.int .i64 u) := by
  obtain ⟨_, cs, hb, hc⟩ := h
  rw [cell_of hb, CutAt.get hc, show 2 + k = k + 1 + 1 by omega]
  simp [hu]

theorem CutAt.frozen (h : CutAt w g T rod A n c ms) (k : Nat) : w.frozen? ⟨g, k, none⟩ = false := by
  obtain ⟨_, cs, hb, hc⟩ := h
  exact frozen_of hb k

theorem CutAt.set (h : CutAt w g T rod A n c ms) (k : Nat) (u : Int) : CutAt (w.setCell ⟨g, 2 + k, none⟩ (.int .i64 u)) g T rod A n c (ms.set k u) := by
  obtain ⟨h4, cs, hb, hc⟩ := h
  refine ⟨by rw [List.length_set]; exact h4, _, set_self hb _ _, ?_⟩
  rw [Array.toList_setIfInBounds, hc, show 2 + k = k + 1 + 1 by omega]
  simp [List.map_set]

theorem CutAt.keep {w' : World} (h : CutAt w g T rod A n c ms) (e : w'.heap[g]? = w.heap[g]?) : CutAt w' g T rod A n c ms := by
  obtain ⟨h4, cs, hb, hc⟩ := h
  exact ⟨h4, cs, e.trans hb, hc⟩

theorem CutAt.below {w' : World} (h : CutAt w g T rod A n c ms) {B : Nat} (hb : Below B w w') (hB : g < B) : CutAt w' g T rod A n c ms := h.keep (hb.block g hB)

theorem CutAt.alloc (h : CutAt w g T rod A n c ms) (o : Obj) : CutAt (w.alloc o) g T rod A n c ms := h.keep (Below.heap_alloc w o g h.lt)
end

/-- The first four numbers. -/
def pad4 (ps : List Int) : List Int := [ps.getD 0 0, ps.getD 1 0, ps.getD 2 0, ps.getD 3 0]

theorem pad4_get (ps : List Int) {k : Nat} (h : k < 4) : (pad4 ps)[k]? = some (ps.getD k 0) := by
  have : k = 0 ∨ k = 1 ∨ k = 2 ∨ k = 3 := by omega
  rcases this with rfl | rfl | rfl | rfl <;> rfl

theorem usedTo_pad (zs ps : List Int) {k : Nat} (h : k ≤ 4) : usedTo zs (pad4 ps) k = usedTo zs ps k := by
  induction k with
  | zero => rfl
  | succ k ih =>
    have e : (pad4 ps).getD k 0 = ps.getD k 0 := by rw [List.getD, pad4_get ps (by omega)]; rfl
    simp only [usedTo, ih (by omega), e]

/-- The bounds: as many pieces as the rod is long enough for. -/
def mostL (rod : Int) (zs : List Int) : List Int := zs.map fun z => rod / z

/-- The first k of them, then 0. -/
def padTo (ys : List Int) (k : Nat) : List Int := pad4 (ys.take k)

theorem padTo_zero (ys : List Int) : padTo ys 0 = [0, 0, 0, 0] := rfl

theorem padTo_len (ys : List Int) (k : Nat) : (padTo ys k).length = 4 := rfl

theorem padTo_step {ys : List Int} {k : Nat} {u : Int} (h : ys[k]? = some u) (h4 : k < 4) : (padTo ys k).set k u = padTo ys (k + 1) := by
  apply List.ext_getElem?
  intro j
  by_cases hj : j < 4
  · rw [padTo, padTo, pad4_get _ hj, List.getElem?_set]
    by_cases e : k = j
    · subst e
      rw [if_pos rfl, if_pos (by exact hj)]
      congr 1
      simp [List.getD, h]
    · rw [if_neg e, pad4_get _ hj]
      congr 1
      simp only [List.getD, List.getElem?_take]
      by_cases e2 : j < k
      · rw [if_pos e2, if_pos (by omega)]
      · rw [if_neg e2, if_neg (by omega)]
  · rw [List.getElem?_eq_none (by rw [List.length_set]; show 4 ≤ j; omega), List.getElem?_eq_none (by show 4 ≤ j; omega)]

theorem padTo_all {ys : List Int} {n : Nat} (h : ys.length = n) : padTo ys n = pad4 ys := by
  rw [padTo, ← h, List.take_length]
end Go.Proofs.Ytoheoojpmndhoab
