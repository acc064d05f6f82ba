/-
  What a slice of whole numbers holds in memory, as a list, and what keeps it; no program is spoken of here.
  Conditions: none.
-/
import Derived.Test.YtoheoojpmndhoabRows
import Derived.WalkKit
import Derived.ProofKit
import Derived.Below
import Derived.Lib.Hide
import Derived.Deep.QuietTactic
import Derived.BigQuiet
namespace Go.Proofs.Ytoheoojpmndhoab
set_option linter.unusedVariables false
open Go.RowKit

/-- The slice that begins at 'A' reads as 'xs', in a block from 'lo' on and below 'hi'. -/
def Seg (w : World) (lo hi : Nat) (A : Option Addr) (xs : List Int) : Prop :=
  xs = [] ∨ ∃ b off, A = some ⟨b, off, none⟩ ∧ lo ≤ b ∧ b < hi ∧ ∀ k, k < xs.length → w.cell? ⟨b, off + k, none⟩ = some (.int .i64 (xs.getD k 0))

/-- The same at the head of a block that may be written. -/
def Own (w : World) (lo hi : Nat) (A : Option Addr) (xs : List Int) : Prop :=
  xs = [] ∨ ∃ b cs T, A = some ⟨b, 0, none⟩ ∧ lo ≤ b ∧ b < hi ∧ w.heap[b]? = some (.cells cs T (0, 0)) ∧ ∀ k, k < xs.length → cs[k]? = some (.int .i64 (xs.getD k 0))

section
variable {w w' : World} {lo hi lo' hi' : Nat} {A : Option Addr} {xs : List Int}

theorem Seg.nil_ : Seg w lo hi A [] := .inl rfl

theorem Own.nil_ : Own w lo hi A [] := .inl rfl

theorem Seg.at_ {k : Nat} (h : Seg w lo hi A xs) (hk : k < xs.length) :
    ∃ b off u, A = some ⟨b, off, none⟩ ∧ lo ≤ b ∧ b < hi ∧ xs[k]? = some u ∧ w.cell? ⟨b, off + k, none⟩ = some (.int .i64 u) := by
  rcases h with rfl | ⟨b, off, e, h1, h2, hc⟩
  · simp at hk
  · exact ⟨b, off, xs[k], e, h1, h2, List.getElem?_eq_getElem hk, by rw [hc k hk]; simp [List.getD, hk]⟩

theorem Seg.keep (h : Seg w lo hi A xs) (hk : ∀ p : Addr, lo ≤ p.block → p.block < hi → w'.cell? p = w.cell? p) : Seg w' lo hi A xs := by
  rcases h with rfl | ⟨b, off, e, h1, h2, hc⟩
  · exact .inl rfl
  · exact .inr ⟨b, off, e, h1, h2, fun k hkl => (hk _ h1 h2).trans (hc k hkl)⟩

theorem Seg.more (h : Seg w lo hi A xs) (hl : lo' ≤ lo) (hh : hi ≤ hi') : Seg w lo' hi' A xs := by
  rcases h with rfl | ⟨b, off, e, h1, h2, hc⟩
  · exact .inl rfl
  · exact .inr ⟨b, off, e, by omega, by omega, hc⟩

theorem Seg.below {B : Nat} (h : Seg w lo hi A xs) (hb : Below B w w') (hB : hi ≤ B) : Seg w' lo hi A xs :=
  h.keep fun p _ h2 => hb.cell (by omega)

theorem Seg.grown {row : Option Nat} (h : Seg w lo hi A xs) (hg : w.grownBy w' row) (hB : hi ≤ w.heap.size) (hr : ∀ g, row = some g → g < lo ∨ hi ≤ g) : Seg w' lo hi A xs :=
  h.keep fun p h1 h2 => World.cell?_of_block (hg.block p.block (by omega) (fun e => by have := hr _ e.symm; omega))

theorem Own.seg (h : Own w lo hi A xs) : Seg w lo hi A xs := by
  rcases h with rfl | ⟨b, cs, T, e, h1, h2, hb, hc⟩
  · exact .inl rfl
  · refine .inr ⟨b, 0, e, h1, h2, fun k hk => ?_⟩
    rw [cell_of_row w b (0 + k) cs T (0, 0) hb, Nat.zero_add]
    exact hc k hk

theorem Own.keep (h : Own w lo hi A xs) (hk : ∀ b, lo ≤ b → b < hi → w'.heap[b]? = w.heap[b]?) : Own w' lo hi A xs := by
  rcases h with rfl | ⟨b, cs, T, e, h1, h2, hb, hc⟩
  · exact .inl rfl
  · exact .inr ⟨b, cs, T, e, h1, h2, (hk b h1 h2).trans hb, hc⟩

theorem Own.below {B : Nat} (h : Own w lo hi A xs) (hb : Below B w w') (hB : hi ≤ B) : Own w' lo hi A xs :=
  h.keep fun b _ h2 => hb.block b (by omega)

theorem Own.grown {row : Option Nat} (h : Own w lo hi A xs) (hg : w.grownBy w' row) (hB : hi ≤ w.heap.size) (hr : ∀ g, row = some g → g < lo ∨ hi ≤ g) : Own w' lo hi A xs :=
  h.keep fun b h1 h2 => hg.block b (by omega) (fun e => by have := hr _ e.symm; omega)

theorem Own.more (h : Own w lo hi A xs) (hl : lo' ≤ lo) (hh : hi ≤ hi') : Own w lo' hi' A xs := by
  rcases h with rfl | ⟨b, cs, T, e, h1, h2, hb, hc⟩
  · exact .inl rfl
  · exact .inr ⟨b, cs, T, e, by omega, by omega, hb, hc⟩
end

theorem cell_lt {w : World} {a : Addr} {v : Value} (h : w.cell? a = some v) : a.block < w.heap.size := by
  rcases Nat.lt_or_ge a.block w.heap.size with hlt | hge
  · exact hlt
  · unfold World.cell? at h
    rw [Array.getElem?_eq_none hge] at h
    cases h

/-- An argument that was read as numbers is such a slice. -/
theorem seg_of {w : World} {x : Addr} {len cap : Nat} {zs : List Int} (hl : len ≤ cap) (hz : zs.length = cap) (hcell : ∀ i, i < zs.length → w.cell? (x.add i) = some (.int .i64 (zs.getD i 0))) :
    Seg w 0 w.heap.size (some x) (zs.take len) := by
  rcases Nat.eq_zero_or_pos len with rfl | hpos
  · exact .inl (by simp)
  · obtain ⟨b, off, spot⟩ := x
    have h0 := hcell 0 (by omega)
    have hlt := cell_lt h0
    obtain rfl : spot = none := by simpa [Addr.add] using World.cell?_spot h0
    refine .inr ⟨b, off, rfl, Nat.zero_le _, by simpa [Addr.add] using hlt, fun k hk => ?_⟩
    rw [List.length_take] at hk
    have h := hcell k (by omega)
    rw [Addr.add_lit] at h
    rw [h]
    have e : (zs.take len).getD k 0 = zs.getD k 0 := by
      simp only [List.getD]
      rw [List.getElem?_take_of_lt (by omega)]
    rw [e]

theorem wf_bounds {a : Int} (h : (Lit.int .i64 a).wf = true) : -9223372036854775808 ≤ a ∧ a ≤ 9223372036854775807 := by
  have e1 : IntKind.i64.min = -9223372036854775808 := by decide
  have e2 : IntKind.i64.max = 9223372036854775807 := by decide
  simp [Lit.wf, e1] at h
  omega

theorem below_drewN {B : Nat} {a w : World} (h : Below B a w) (n : Nat) : Below B a (w.drewN n) := ⟨h.os, h.tape, h.output, h.size, h.block⟩

/-- 'n' cells, those below 'k' copied already. -/
def Part (w : World) (g T n : Nat) (k : Nat) (xs : List Int) : Prop :=
  ∃ cs : Array Value, w.heap[g]? = some (.cells cs T (0, 0)) ∧ cs.size = n ∧ ∀ j, j < k → cs[j]? = some (.int .i64 (xs.getD j 0))

theorem Part.step {w : World} {g T n k : Nat} {xs : List Int} {u : Int} (h : Part w g T n k xs) (hk : k < n) (hu : xs[k]? = some u) :
    Part (w.setCell ⟨g, k, none⟩ (.int .i64 u)) g T n (k + 1) xs := by
  obtain ⟨cs, hb, hs, hc⟩ := h
  refine ⟨cs.setIfInBounds k (.int .i64 u), ?_, by simpa using hs, fun j hj => ?_⟩
  · simp [World.setCell, Array.getElem?_modify, hb]
  · by_cases e : j = k
    · subst e
      rw [Array.getElem?_setIfInBounds_self_of_lt (by omega)]
      simp [List.getD, hu]
    · rw [Array.getElem?_setIfInBounds_ne (by omega)]
      exact hc j (by omega)

theorem Part.cell {w : World} {g T n k : Nat} {xs : List Int} (h : Part w g T n k xs) (j : Nat) (hj : j < n) : ∃ v, w.cell? ⟨g, j, none⟩ = some v := by
  obtain ⟨cs, hb, hs, hc⟩ := h
  exact ⟨cs[j]'(by omega), by rw [cell_of_row w g j cs T (0, 0) hb]; exact Array.getElem?_eq_getElem (by omega)⟩

theorem Part.frozen {w : World} {g T n k : Nat} {xs : List Int} (h : Part w g T n k xs) (j : Nat) : w.frozen? ⟨g, j, none⟩ = false := by
  obtain ⟨cs, hb, hs, hc⟩ := h
  simp [World.frozen?, hb]

theorem Part.own {w : World} {g T n lo hi : Nat} {xs : List Int} (h : Part w g T n xs.length xs) (h1 : lo ≤ g) (h2 : g < hi) : Own w lo hi (some ⟨g, 0, none⟩) xs := by
  obtain ⟨cs, hb, hs, hc⟩ := h
  exact .inr ⟨g, cs, T, rfl, h1, h2, hb, hc⟩

theorem Part.keep {w w' : World} {g T n k : Nat} {xs : List Int} (h : Part w g T n k xs) (e : w'.heap[g]? = w.heap[g]?) : Part w' g T n k xs := by
  obtain ⟨cs, hb, h2⟩ := h
  exact ⟨cs, e.trans hb, h2⟩

theorem Part.lt {w : World} {g T n k : Nat} {xs : List Int} (h : Part w g T n k xs) : g < w.heap.size := by
  obtain ⟨cs, hb, _⟩ := h
  rcases Nat.lt_or_ge g w.heap.size with hlt | hge
  · exact hlt
  · rw [Array.getElem?_eq_none hge] at hb; cases hb

theorem grown_set {a w : World} {g : Nat} (h : a.grownBy w (some g)) {p : Addr} (hp : p.block = g) (u : Value) : a.grownBy (w.setCell p u) (some g) :=
  ⟨h.os, h.tape, h.output, by simpa [World.setCell] using h.size, fun i hi hne => (Below.heap_setCell w p u i (by
    rintro rfl
    exact hne (by rw [hp]))).trans (h.block i hi hne)⟩

end Go.Proofs.Ytoheoojpmndhoab
