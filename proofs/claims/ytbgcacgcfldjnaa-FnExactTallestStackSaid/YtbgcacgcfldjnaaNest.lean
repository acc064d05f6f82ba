/-
  Lists of lists of numbers in memory; the law's own comparison of two, what it writes into them and its look at what it wrote.
  Conditions: at most 1048576 lists; together at most 1048576 numbers.
-/
import Derived.Test.YtbgcacgcfldjnaaArr
import Derived.Test.YtbgcacgcfldjnaaCopy
import Derived.Test.YtbgcacgcfldjnaaEq
import Derived.Test.YtbgcacgcfldjnaaMem
import Derived.Deep.RegionHeld3
namespace Go.Proofs.Ytbgcacgcfldjnaa
set_option linter.unusedVariables false
open Go.RowKit

/-- Lists of numbers in memory: the outer row at the head of a block, each list at the head of a block of its own. -/
def Nest (w : World) (lo hi : Nat) (A : Option Addr) (xss : List (List Int)) : Prop :=
  xss = [] ∨ ∃ (g : Nat) (cs : Array Value) (T : Nat) (bl : Nat → Nat), A = some ⟨g, 0, none⟩ ∧ lo ≤ g ∧ g < hi ∧ w.heap[g]? = some (.cells cs T (0, 0)) ∧
    (∀ (k : Nat) xs, xss[k]? = some xs → ∃ B c, cs[k]? = some (.slice B xs.length c) ∧ Own w lo hi B xs ∧ (xs ≠ [] → B = some ⟨bl k, 0, none⟩ ∧ bl k ≠ g)) ∧
    ∀ i j xs ys, xss[i]? = some xs → xss[j]? = some ys → xs ≠ [] → ys ≠ [] → i ≠ j → bl i ≠ bl j

section
variable {w w' : World} {lo hi lo' hi' : Nat} {A : Option Addr} {xss : List (List Int)}
theorem Nest.nil_ : Nest w lo hi A [] := .inl rfl
theorem Nest.keep (h : Nest w lo hi A xss) (hk : ∀ b, lo ≤ b → b < hi → w'.heap[b]? = w.heap[b]?) : Nest w' lo hi A xss := by
  rcases h with h | ⟨g, cs, T, bl, rfl, h1, h2, hb, hr, hd⟩
  · exact .inl h
  · exact .inr ⟨g, cs, T, bl, rfl, h1, h2, (hk g h1 h2).trans hb, fun k xs hx => by
      obtain ⟨B, c, e1, e2, e3⟩ := hr k xs hx
      exact ⟨B, c, e1, e2.keep hk, e3⟩, hd⟩
theorem Nest.below {B : Nat} (h : Nest w lo hi A xss) (hb : Below B w w') (hB : hi ≤ B) : Nest w' lo hi A xss := h.keep fun b _ h2 => hb.block b (by omega)
theorem Nest.only {S : Nat → Prop} (h : Nest w lo hi A xss) (ho : Only S w w') (hB : hi ≤ w.heap.size) (hr : ∀ g, S g → g < lo ∨ hi ≤ g) : Nest w' lo hi A xss :=
  h.keep fun b h1 h2 => ho.block b (by omega) (fun hs => by rcases hr b hs with h | h <;> omega)
theorem Nest.grown {row : Option Nat} (h : Nest w lo hi A xss) (hg : w.grownBy w' row) (hB : hi ≤ w.heap.size) (hr : ∀ g, row = some g → g < lo ∨ hi ≤ g) : Nest w' lo hi A xss :=
  h.keep fun b h1 h2 => hg.block b (by omega) (fun e => by rcases hr b e.symm with h | h <;> omega)
theorem Nest.more (h : Nest w lo hi A xss) (hl : lo' ≤ lo) (hh : hi ≤ hi') : Nest w lo' hi' A xss := by
  rcases h with h | ⟨g, cs, T, bl, rfl, h1, h2, hb, hr, hd⟩
  · exact .inl h
  · exact .inr ⟨g, cs, T, bl, rfl, by omega, by omega, hb, fun k xs hx => by
      obtain ⟨B, c, e1, e2, e3⟩ := hr k xs hx
      exact ⟨B, c, e1, e2.more hl hh, e3⟩, hd⟩
theorem Nest.at_ (h : Nest w lo hi A xss) {k : Nat} {xs : List Int} (hk : xss[k]? = some xs) :
    ∃ g B c, A = some ⟨g, 0, none⟩ ∧ lo ≤ g ∧ g < hi ∧ w.cell? ⟨g, k, none⟩ = some (.slice B xs.length c) ∧ Own w lo hi B xs := by
  rcases h with rfl | ⟨g, cs, T, bl, rfl, h1, h2, hb, hr, _⟩
  · cases hk
  · obtain ⟨B, c, e1, e2, _⟩ := hr k xs hk
    exact ⟨g, B, c, rfl, h1, h2, (cell_of hb k).trans e1, e2⟩
end

/-- How many numbers there are in the first 'k' lists. -/
def sums (xss : List (List Int)) (k : Nat) : Nat := ((xss.take k).map List.length).sum
theorem sums_next {xss : List (List Int)} {k : Nat} {xs : List Int} (h : xss[k]? = some xs) : sums xss (k + 1) = sums xss k + xs.length := by
  simp [sums, List.take_add_one, h]
theorem sums_mono (xss : List (List Int)) (k : Nat) : sums xss k ≤ sums xss xss.length := by
  have e : xss = xss.take k ++ xss.drop k := (List.take_append_drop k xss).symm
  have h : sums xss xss.length = (xss.map List.length).sum := by rw [sums, List.take_length]
  rw [h, sums]
  conv => rhs; rw [e]
  rw [List.map_append, List.sum_append]
  omega
theorem sums_one {xss : List (List Int)} {k : Nat} {xs : List Int} (h : xss[k]? = some xs) : sums xss k + xs.length ≤ sums xss xss.length := by
  rw [← sums_next h]
  exact sums_mono xss _

/-- What the marks are, list by list. -/
def marksN (k0 : Int) (xss : List (List Int)) : List (List Int) := (List.range xss.length).map fun i => marks (k0 + (sums xss i : Nat)) (xss.getD i []).length
theorem marksN_length (k0 : Int) (xss : List (List Int)) : (marksN k0 xss).length = xss.length := by simp [marksN]
theorem marksN_at (k0 : Int) {xss : List (List Int)} {k : Nat} {xs : List Int} (h : xss[k]? = some xs) : (marksN k0 xss)[k]? = some (marks (k0 + (sums xss k : Nat)) xs.length) := by
  have hk := (List.getElem?_eq_some_iff.1 h).1
  have e := (List.getElem?_eq_some_iff.1 h).2
  simp [marksN, hk, e]

theorem own_tight {w : World} {lo hi b : Nat} {xs : List Int} (h : Own w lo hi (some ⟨b, 0, none⟩) xs) (hx : xs ≠ []) : (lo ≤ b ∧ b < hi) ∧ Own w b (b + 1) (some ⟨b, 0, none⟩) xs := by
  rcases h with h | ⟨b', cs, T, e, h1, h2, h3, h4⟩
  · exact absurd h hx
  · injection e with e
    injection e with e
    subst e
    exact ⟨⟨h1, h2⟩, .inr ⟨b, cs, T, rfl, Nat.le_refl _, by omega, h3, h4⟩⟩

theorem only_of_grown {S : Nat → Prop} {w w' : World} {row : Option Nat} (h : w.grownBy w' row) (hS : ∀ g, row = some g → S g) : Only S w w' :=
  ⟨h.os, h.tape, h.output, h.size, fun k hk hs => h.block k hk (fun e => hs (hS k e.symm))⟩

theorem own_empty {w : World} {lo hi : Nat} {B : Option Addr} {xs : List Int} (h : xs = []) : Own w lo hi B xs := .inl h
theorem marks_nil (k0 : Int) : marks k0 0 = [] := rfl

end Go.Proofs.Ytbgcacgcfldjnaa
