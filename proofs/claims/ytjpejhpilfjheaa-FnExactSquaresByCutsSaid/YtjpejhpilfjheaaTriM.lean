/-
  Lists of triples of numbers (boxes), as they lie in memory; what is asked of them; no program is spoken of here.
  Conditions: none.
-/
import Derived.Test.YtjpejhpilfjheaaNum
namespace Go.Proofs.Ytjpejhpilfjheaa
set_option linter.unusedVariables false
open Go.RowKit

/-- Triples as the numbers that lie in memory. -/
def flat3 : List (Int × Int × Int) → List Int
  | [] => []
  | b :: bs => b.1 :: b.2.1 :: b.2.2 :: flat3 bs

theorem flat3_length (bs : List (Int × Int × Int)) : (flat3 bs).length = bs.length * 3 := by
  induction bs with
  | nil => rfl
  | cons b bs ih => simp only [flat3, List.length_cons, ih]; omega

theorem flat3_at {bs : List (Int × Int × Int)} {k : Nat} {b : Int × Int × Int} (h : bs[k]? = some b) : (flat3 bs)[k * 3]? = some b.1 ∧ (flat3 bs)[k * 3 + 1]? = some b.2.1 ∧ (flat3 bs)[k * 3 + 2]? = some b.2.2 := by
  induction bs generalizing k with
  | nil => simp at h
  | cons c bs ih =>
    cases k with
    | zero => simp at h; subst h; exact ⟨rfl, rfl, rfl⟩
    | succ k =>
      have h' : bs[k]? = some b := by simpa using h
      obtain ⟨h1, h2, h3⟩ := ih h'
      rw [show (k + 1) * 3 = k * 3 + 1 + 1 + 1 by omega]
      exact ⟨h1, h2, h3⟩

theorem flat3_nil {bs : List (Int × Int × Int)} (h : flat3 bs = []) : bs = [] := by
  cases bs with
  | nil => rfl
  | cons b bs => simp [flat3] at h

/-- The slice at 'A' reads as the triples. -/
theorem Seg.tri {w : World} {lo hi : Nat} {A : Option Addr} {bs : List (Int × Int × Int)} (h : Seg w lo hi A (flat3 bs)) {k : Nat} (hk : k < bs.length) :
    ∃ b off x y z, A = some ⟨b, off, none⟩ ∧ lo ≤ b ∧ b < hi ∧ bs[k]? = some (x, y, z) ∧ w.cell? ⟨b, off + k * 3, none⟩ = some (.int .i64 x) ∧ w.cell? ⟨b, off + k * 3 + 1, none⟩ = some (.int .i64 y) ∧ w.cell? ⟨b, off + k * 3 + 2, none⟩ = some (.int .i64 z) := by
  have hx : bs[k]? = some bs[k] := List.getElem?_eq_getElem hk
  obtain ⟨h1, h2, h3⟩ := flat3_at hx
  have hl := flat3_length bs
  rcases h with h | ⟨b, off, e, h4, h5, hc⟩
  · have := flat3_nil h; subst this; simp at hk
  · refine ⟨b, off, bs[k].1, bs[k].2.1, bs[k].2.2, e, h4, h5, hx, ?_, ?_, ?_⟩
    · rw [hc (k * 3) (by omega)]; simp [List.getD, h1]
    · rw [Nat.add_assoc, hc (k * 3 + 1) (by omega)]; simp [List.getD, h2]
    · rw [Nat.add_assoc, hc (k * 3 + 2) (by omega)]; simp [List.getD, h3]

/-- An argument that was read as triples of numbers is such a slice. -/
theorem seg_of_triples {w : World} {x : Addr} {len : Nat} {bs : List (Int × Int × Int)} (hz : bs.length = len)
    (hcell : ∀ i b, bs[i]? = some b → w.cell? (x.add (i * 3)) = some (.int .i64 b.1) ∧ w.cell? (x.add (i * 3 + 1)) = some (.int .i64 b.2.1) ∧ w.cell? (x.add (i * 3 + 2)) = some (.int .i64 b.2.2)) : Seg w 0 w.heap.size (some x) (flat3 bs) := by
  rcases Nat.eq_zero_or_pos len with rfl | hpos
  · have := List.eq_nil_of_length_eq_zero hz
    subst this
    exact .inl rfl
  · obtain ⟨b, off, spot⟩ := x
    have h0 := (hcell 0 _ (List.getElem?_eq_getElem (by omega))).1
    have hlt := cell_lt h0
    obtain rfl : spot = none := by simpa [Addr.add] using World.cell?_spot h0
    refine .inr ⟨b, off, rfl, Nat.zero_le _, by simpa [Addr.add] using hlt, fun k hk => ?_⟩
    rw [flat3_length] at hk
    obtain ⟨h1, h2, h3⟩ := flat3_at (List.getElem?_eq_getElem (show k / 3 < bs.length by omega))
    obtain ⟨c1, c2, c3⟩ := hcell (k / 3) _ (List.getElem?_eq_getElem (show k / 3 < bs.length by omega))
    rw [Addr.add_lit] at c1 c2 c3
    have hm : k % 3 = 0 ∨ k % 3 = 1 ∨ k % 3 = 2 := by omega
    rcases hm with hm | hm | hm
    · have e : k / 3 * 3 = k := by omega
      rw [e] at h1 c1
      rw [c1]; simp [List.getD, h1]
    · have e : k / 3 * 3 + 1 = k := by omega
      rw [e] at h2 c2
      rw [c2]; simp [List.getD, h2]
    · have e : k / 3 * 3 + 2 = k := by omega
      rw [e] at h3 c3
      rw [c3]; simp [List.getD, h3]

def boxB (b : Int × Int × Int) : Bool := inB b.1 1 50 && inB b.2.1 1 50 && inB b.2.2 1 50
theorem boxB_true {b : Int × Int × Int} : boxB b = true ↔ (1 ≤ b.1 ∧ b.1 ≤ 50) ∧ (1 ≤ b.2.1 ∧ b.2.1 ≤ 50) ∧ 1 ≤ b.2.2 ∧ b.2.2 ≤ 50 := by simp [boxB, inB_true, and_assoc]

/-- These are boxes. -/
def goodN (bs : List (Int × Int × Int)) : Bool := inB (bs.length : Int) 1 7 && bs.all boxB

theorem allN_of {bs : List (Int × Int × Int)} (h : ∀ (k : Nat) b, bs[k]? = some b → boxB b = true) : bs.all boxB = true := by
  rw [List.all_eq_true]
  intro x hx
  obtain ⟨k, hk⟩ := List.getElem?_of_mem hx
  exact h k x hk

theorem allN_not {bs : List (Int × Int × Int)} {k : Nat} {b : Int × Int × Int} (h : bs[k]? = some b) (hu : boxB b = false) : bs.all boxB = false := by
  rw [List.all_eq_false]
  exact ⟨b, List.mem_of_getElem? h, by simp [hu]⟩

theorem goodN_at {bs : List (Int × Int × Int)} (h : goodN bs = true) : 1 ≤ bs.length ∧ bs.length ≤ 7 ∧ ∀ b ∈ bs, boxB b = true := by
  simp only [goodN, Bool.and_eq_true, inB_true, List.all_eq_true] at h
  exact ⟨by omega, by omega, h.2⟩
end Go.Proofs.Ytjpejhpilfjheaa
