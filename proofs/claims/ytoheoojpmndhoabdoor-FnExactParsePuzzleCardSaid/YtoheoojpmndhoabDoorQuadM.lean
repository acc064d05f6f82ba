/-
  Lists of quadruples of numbers (clues), as they lie in memory; no program is spoken of here.
  Conditions: none.
-/
import Derived.Test.YtoheoojpmndhoabDoorPzM
namespace Go.Proofs.YtoheoojpmndhoabDoor
set_option linter.unusedVariables false
open Go.RowKit

/-- Quadruples as the numbers that lie in memory. -/
def flat4 : List Clu → List Int
  | [] => []
  | c :: cs => c.1 :: c.2.1 :: c.2.2.1 :: c.2.2.2 :: flat4 cs

theorem flat4_length (cs : List Clu) : (flat4 cs).length = cs.length * 4 := by
  induction cs with
  | nil => rfl
  | cons b cs ih => simp only [flat4, List.length_cons, ih]; omega

theorem flat4_append (a b : List Clu) : flat4 (a ++ b) = flat4 a ++ flat4 b := by
  induction a with
  | nil => rfl
  | cons c a ih => simp [flat4, ih]

theorem flat4_at {cs : List Clu} {k : Nat} {c : Clu} (h : cs[k]? = some c) : (flat4 cs)[k * 4]? = some c.1 ∧ (flat4 cs)[k * 4 + 1]? = some c.2.1 ∧ (flat4 cs)[k * 4 + 2]? = some c.2.2.1 ∧ (flat4 cs)[k * 4 + 3]? = some c.2.2.2 := by
  induction cs generalizing k with
  | nil => simp at h
  | cons d cs ih =>
    cases k with
    | zero => simp at h; subst h; exact ⟨rfl, rfl, rfl, rfl⟩
    | succ k =>
      have h' : cs[k]? = some c := by simpa using h
      obtain ⟨h1, h2, h3, h4⟩ := ih h'
      rw [show (k + 1) * 4 = k * 4 + 1 + 1 + 1 + 1 by omega]
      exact ⟨h1, h2, h3, h4⟩

theorem flat4_nil {cs : List Clu} (h : flat4 cs = []) : cs = [] := by
  cases cs with
  | nil => rfl
  | cons b cs => simp [flat4] at h

theorem flat4_take (cs : List Clu) (k : Nat) : flat4 (cs.take k) = (flat4 cs).take (k * 4) := by
  induction cs generalizing k with
  | nil => simp [flat4]
  | cons c cs ih =>
    cases k with
    | zero => simp [flat4]
    | succ k => rw [show (k + 1) * 4 = k * 4 + 1 + 1 + 1 + 1 by omega]; simp [flat4, ih]
theorem flat4_drop (cs : List Clu) (k : Nat) : flat4 (cs.drop k) = (flat4 cs).drop (k * 4) := by
  induction cs generalizing k with
  | nil => simp [flat4]
  | cons c cs ih =>
    cases k with
    | zero => simp [flat4]
    | succ k => rw [show (k + 1) * 4 = k * 4 + 1 + 1 + 1 + 1 by omega]; simp [flat4, ih]

/-- A puzzle, as a value. -/
abbrev pzV (t : Int) (A : Option Addr) (n c : Nat) : Value := .agg #[.int .i64 t, .slice A n c]

/-- The slice at 'A' reads as the clues. -/
theorem Seg.quad {w : World} {lo hi : Nat} {A : Option Addr} {cs : List Clu} (h : Seg w lo hi A (flat4 cs)) {k : Nat} (hk : k < cs.length) :
    ∃ b off x y z u, A = some ⟨b, off, none⟩ ∧ lo ≤ b ∧ b < hi ∧ cs[k]? = some (x, y, z, u) ∧ w.cell? ⟨b, off + k * 4, none⟩ = some (.int .i64 x) ∧ w.cell? ⟨b, off + k * 4 + 1, none⟩ = some (.int .i64 y) ∧ w.cell? ⟨b, off + k * 4 + 2, none⟩ = some (.int .i64 z) ∧ w.cell? ⟨b, off + k * 4 + 3, none⟩ = some (.int .i64 u) := by
  have hx : cs[k]? = some cs[k] := List.getElem?_eq_getElem hk
  obtain ⟨h1, h2, h3, h4⟩ := flat4_at hx
  have hl := flat4_length cs
  rcases h with h | ⟨b, off, e, h5, h6, hc⟩
  · have := flat4_nil h; subst this; simp at hk
  · refine ⟨b, off, cs[k].1, cs[k].2.1, cs[k].2.2.1, cs[k].2.2.2, e, h5, h6, hx, ?_, ?_, ?_, ?_⟩
    · rw [hc (k * 4) (by omega)]; simp [List.getD, h1]
    · rw [Nat.add_assoc, hc (k * 4 + 1) (by omega)]; simp [List.getD, h2]
    · rw [Nat.add_assoc, hc (k * 4 + 2) (by omega)]; simp [List.getD, h3]
    · rw [Nat.add_assoc, hc (k * 4 + 3) (by omega)]; simp [List.getD, h4]

/-- An argument that was read as quadruples of numbers is such a slice. -/
theorem seg_of_quads {w : World} {x : Addr} {len : Nat} {cs : List Clu} (hz : cs.length = len)
    (hcell : ∀ i b, cs[i]? = some b → w.cell? (x.add (i * 4)) = some (.int .i64 b.1) ∧ w.cell? (x.add (i * 4 + 1)) = some (.int .i64 b.2.1) ∧ w.cell? (x.add (i * 4 + 2)) = some (.int .i64 b.2.2.1) ∧ w.cell? (x.add (i * 4 + 3)) = some (.int .i64 b.2.2.2)) : Seg w 0 w.heap.size (some x) (flat4 cs) := by
  rcases Nat.eq_zero_or_pos len with rfl | hpos
  · have := List.eq_nil_of_length_eq_zero hz
    subst this
    exact .inl rfl
  · obtain ⟨b, off, spot⟩ := x
    have h0 := (hcell 0 _ (List.getElem?_eq_getElem (by omega))).1
    have hlt := cell_lt h0
    obtain rfl : spot = none := by simpa [Addr.add] using World.cell?_spot h0
    refine .inr ⟨b, off, rfl, Nat.zero_le _, by simpa [Addr.add] using hlt, fun k hk => ?_⟩
    rw [flat4_length] at hk
    obtain ⟨h1, h2, h3, h4⟩ := flat4_at (List.getElem?_eq_getElem (show k / 4 < cs.length by omega))
    obtain ⟨c1, c2, c3, c4⟩ := hcell (k / 4) _ (List.getElem?_eq_getElem (show k / 4 < cs.length by omega))
    rw [Addr.add_lit] at c1 c2 c3 c4
    have hm : k % 4 = 0 ∨ k % 4 = 1 ∨ k % 4 = 2 ∨ k % 4 = 3 := by omega
    rcases hm with hm | hm | hm | hm
    · have e : k / 4 * 4 = k := by omega
      rw [e] at h1 c1
      rw [c1]; simp [List.getD, h1]
    · have e : k / 4 * 4 + 1 = k := by omega
      rw [e] at h2 c2
      rw [c2]; simp [List.getD, h2]
    · have e : k / 4 * 4 + 2 = k := by omega
      rw [e] at h3 c3
      rw [c3]; simp [List.getD, h3]
    · have e : k / 4 * 4 + 3 = k := by omega
      rw [e] at h4 c4
      rw [c4]; simp [List.getD, h4]
end Go.Proofs.YtoheoojpmndhoabDoor
