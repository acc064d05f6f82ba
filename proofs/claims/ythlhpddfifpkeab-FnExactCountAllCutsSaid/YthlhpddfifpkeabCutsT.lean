/-
  The written program's table of the best cuts in memory: a worth, a list and a count for each length; no function is spoken of here.
  Conditions: none.
-/
import Derived.Test.YthlhpddfifpkeabCutsS
import Derived.Test.YthlhpddfifpkeabAppend
namespace Go.Proofs.Ythlhpddfifpkeab
set_option linter.unusedVariables false
open Go.RowKit

/-- The worth that is kept where there may be no cut. -/
def wz (e : Ent) : Int := if e.worth < 0 then 0 else e.worth

/-- The table at the head of a block; its lists lie in later blocks. -/
def TabAt (w : World) (g T r : Nat) (E : Nat → Ent) : Prop :=
  ∃ cs : Array Value, w.heap[g]? = some (.cells cs T (0, 0)) ∧ ∀ n, n ≤ r → cs[n * 3]? = some (.int .i64 (wz (E n))) ∧ (∃ A c, cs[n * 3 + 1]? = some (.slice A (E n).first.length c) ∧ Own w (g + 1) w.heap.size A (E n).first) ∧ cs[n * 3 + 2]? = some (.int .i64 (E n).count)

section
variable {w w' : World} {g T r : Nat} {E : Nat → Ent}

theorem TabAt.lt (h : TabAt w g T r E) : g < w.heap.size := by
  obtain ⟨cs, hb, _⟩ := h
  exact heap_lt hb

theorem TabAt.at_ (h : TabAt w g T r E) {n : Nat} (hn : n ≤ r) : ∃ A c, w.cell? ⟨g, n * 3, none⟩ = some (.int .i64 (wz (E n))) ∧ w.cell? ⟨g, n * 3 + 1, none⟩ = some (.slice A (E n).first.length c) ∧ w.cell? ⟨g, n * 3 + 2, none⟩ = some (.int .i64 (E n).count) ∧ Own w (g + 1) w.heap.size A (E n).first := by
  obtain ⟨cs, hb, hc⟩ := h
  obtain ⟨h0, ⟨A, c, h1, hs⟩, h2⟩ := hc n hn
  exact ⟨A, c, (cell_of hb _).trans h0, (cell_of hb _).trans h1, (cell_of hb _).trans h2, hs⟩

theorem TabAt.frozen (h : TabAt w g T r E) (k : Nat) : w.frozen? ⟨g, k, none⟩ = false := by
  obtain ⟨cs, hb, hc⟩ := h
  exact frozen_of hb k

theorem TabAt.below {B : Nat} (h : TabAt w g T r E) (hb : Below B w w') (hB : w.heap.size ≤ B) : TabAt w' g T r E := by
  obtain ⟨cs, hb', hc⟩ := h
  refine ⟨cs, (hb.block g (Nat.lt_of_lt_of_le (heap_lt hb') hB)).trans hb', fun n hn => ?_⟩
  obtain ⟨h0, ⟨A, c, h1, hs⟩, h2⟩ := hc n hn
  exact ⟨h0, ⟨A, c, h1, (hs.below hb hB).more (Nat.le_refl _) hb.size⟩, h2⟩

theorem own_set {lo hi : Nat} {A : Option Addr} {xs : List Int} (h : Own w lo hi A xs) {p : Addr} (hp : p.block < lo) (u : Value) : Own (w.setCell p u) lo hi A xs :=
  h.keep fun b h1 _ => Below.heap_setCell w p u b (by omega)

theorem size_set (w : World) (p : Addr) (u : Value) : (w.setCell p u).heap.size = w.heap.size := by simp [World.setCell]

theorem TabAt.set (h : TabAt w g T r E) {n : Nat} (hn : n ≤ r) (e : Ent) {A : Option Addr} {c : Nat} (hA : Own w (g + 1) w.heap.size A e.first) {x y : Int} {l : Nat} (hx : wz e = x) (hl : e.first.length = l) (hy : e.count = y) :
    TabAt (((w.setCell ⟨g, n * 3, none⟩ (.int .i64 x)).setCell ⟨g, n * 3 + 1, none⟩ (.slice A l c)).setCell ⟨g, n * 3 + 2, none⟩ (.int .i64 y)) g T r (fun m => if m = n then e else E m) := by
  subst hx hl hy
  obtain ⟨cs, hb, hc⟩ := h
  obtain ⟨g0, ⟨_, _, g1, _⟩, g2⟩ := hc n hn
  have l0 := (Array.getElem?_eq_some_iff.1 g0).1
  have l1 := (Array.getElem?_eq_some_iff.1 g1).1
  have l2 := (Array.getElem?_eq_some_iff.1 g2).1
  refine ⟨((cs.setIfInBounds (n * 3) (.int .i64 (wz e))).setIfInBounds (n * 3 + 1) (.slice A e.first.length c)).setIfInBounds (n * 3 + 2) (.int .i64 e.count), set_self (set_self (set_self hb _ _) _ _) _ _, fun m hm => ?_⟩
  rw [size_set, size_set, size_set]
  dsimp only
  by_cases em : m = n
  · subst em
    rw [if_pos rfl]
    refine ⟨?_, ⟨A, c, ?_, own_set (own_set (own_set hA (Nat.lt_succ_self g) _) (Nat.lt_succ_self g) _) (Nat.lt_succ_self g) _⟩, ?_⟩
    · rw [Array.getElem?_setIfInBounds_ne (by omega), Array.getElem?_setIfInBounds_ne (by omega), Array.getElem?_setIfInBounds_self_of_lt l0]
    · rw [Array.getElem?_setIfInBounds_ne (by omega), Array.getElem?_setIfInBounds_self_of_lt (by simpa using l1)]
    · rw [Array.getElem?_setIfInBounds_self_of_lt (by simpa using l2)]
  · rw [if_neg em]
    obtain ⟨h0, ⟨A', c', h1, hs⟩, h2⟩ := hc m hm
    refine ⟨?_, ⟨A', c', ?_, own_set (own_set (own_set hs (Nat.lt_succ_self g) _) (Nat.lt_succ_self g) _) (Nat.lt_succ_self g) _⟩, ?_⟩
    · rw [Array.getElem?_setIfInBounds_ne (by omega), Array.getElem?_setIfInBounds_ne (by omega), Array.getElem?_setIfInBounds_ne (by omega)]
      exact h0
    · rw [Array.getElem?_setIfInBounds_ne (by omega), Array.getElem?_setIfInBounds_ne (by omega), Array.getElem?_setIfInBounds_ne (by omega)]
      exact h1
    · rw [Array.getElem?_setIfInBounds_ne (by omega), Array.getElem?_setIfInBounds_ne (by omega), Array.getElem?_setIfInBounds_ne (by omega)]
      exact h2
end

theorem tab_same {w : World} {g T r : Nat} {E F : Nat → Ent} (h : TabAt w g T r E) (hf : ∀ n, n ≤ r → E n = F n) : TabAt w g T r F := by
  obtain ⟨cs, hb, hc⟩ := h
  refine ⟨cs, hb, fun n hn => ?_⟩
  rw [← hf n hn]
  exact hc n hn

/-- A new table, its first count set. -/
theorem tab_new (w : World) (T r : Nat) (ps : List Int) : TabAt (w.alloc (.cells ((madeCells #[.int .i64 0, .slice none 0 0, .int .i64 0] ((r + 1) * 3)).setIfInBounds 2 (.int .i64 1)) T)) w.heap.size T r (tabE ps 0) := by
  refine ⟨_, heap_alloc_new w _, fun n hn => ?_⟩
  have m0 : ∀ n, n ≤ r → (madeCells #[.int .i64 0, .slice none 0 0, .int .i64 0] ((r + 1) * 3))[n * 3]? = some (.int .i64 0) := fun n hn => by
    simp [madeCells, show n * 3 < (r + 1) * 3 by omega]
  have m1 : ∀ n, n ≤ r → (madeCells #[.int .i64 0, .slice none 0 0, .int .i64 0] ((r + 1) * 3))[n * 3 + 1]? = some (.slice none 0 0) := fun n hn => by
    simp [madeCells, show n * 3 + 1 < (r + 1) * 3 by omega, show (n * 3 + 1) % 3 = 1 by omega]
  have m2 : ∀ n, n ≤ r → (madeCells #[.int .i64 0, .slice none 0 0, .int .i64 0] ((r + 1) * 3))[n * 3 + 2]? = some (.int .i64 0) := fun n hn => by
    simp [madeCells, show n * 3 + 2 < (r + 1) * 3 by omega, show (n * 3 + 2) % 3 = 2 by omega]
  by_cases e : n = 0
  · subst e
    have hl := (Array.getElem?_eq_some_iff.1 (m2 0 hn)).1
    refine ⟨?_, ⟨none, 0, ?_, Own.nil_⟩, ?_⟩
    · rw [Array.getElem?_setIfInBounds_ne (by omega)]; exact m0 0 hn
    · rw [Array.getElem?_setIfInBounds_ne (by omega)]; exact m1 0 hn
    · exact Array.getElem?_setIfInBounds_self_of_lt hl
  · have et : tabE ps 0 n = ⟨-1, 0, []⟩ := by unfold tabE; rw [if_neg e]
    rw [et]
    refine ⟨?_, ⟨none, 0, ?_, Own.nil_⟩, ?_⟩
    · rw [Array.getElem?_setIfInBounds_ne (by omega)]; exact m0 n hn
    · rw [Array.getElem?_setIfInBounds_ne (by omega)]; exact m1 n hn
    · rw [Array.getElem?_setIfInBounds_ne (by omega)]; exact m2 n hn
end Go.Proofs.Ythlhpddfifpkeab
