/-
  Books as lists of pairs of numbers (thick, tall), as they lie in memory; what is asked of them; no program is spoken of here.
  Conditions: none.
-/
import Derived.Test.YtbaofgbkcolmmabDoorNum
namespace Go.Proofs.YtbaofgbkcolmmabDoor
set_option linter.unusedVariables false
open Go.RowKit

/-- Books as the numbers that lie in memory. -/
def flat : List (Int × Int) → List Int
  | [] => []
  | b :: bs => b.1 :: b.2 :: flat bs

theorem flat_length (bs : List (Int × Int)) : (flat bs).length = bs.length * 2 := by
  induction bs with
  | nil => rfl
  | cons b bs ih => simp only [flat, List.length_cons, ih]; omega

theorem flat_at {bs : List (Int × Int)} {k : Nat} {b : Int × Int} (h : bs[k]? = some b) : (flat bs)[k * 2]? = some b.1 ∧ (flat bs)[k * 2 + 1]? = some b.2 := by
  induction bs generalizing k with
  | nil => simp at h
  | cons c bs ih =>
    cases k with
    | zero => simp at h; subst h; exact ⟨rfl, rfl⟩
    | succ k =>
      have h' : bs[k]? = some b := by simpa using h
      obtain ⟨h1, h2⟩ := ih h'
      rw [show (k + 1) * 2 = k * 2 + 1 + 1 by omega]
      exact ⟨h1, h2⟩

theorem flat_drop (bs : List (Int × Int)) (k : Nat) : (flat bs).drop (k * 2) = flat (bs.drop k) := by
  induction k generalizing bs with
  | zero => simp
  | succ k ih =>
    cases bs with
    | nil => simp [flat]
    | cons b bs =>
      rw [show (k + 1) * 2 = k * 2 + 1 + 1 by omega]
      simpa [flat] using ih bs

theorem flat_take (bs : List (Int × Int)) (k : Nat) : (flat bs).take (k * 2) = flat (bs.take k) := by
  induction k generalizing bs with
  | zero => simp [flat]
  | succ k ih =>
    cases bs with
    | nil => simp [flat]
    | cons b bs =>
      rw [show (k + 1) * 2 = k * 2 + 1 + 1 by omega]
      simpa [flat] using ih bs

theorem flat_nil {bs : List (Int × Int)} (h : flat bs = []) : bs = [] := by
  cases bs with
  | nil => rfl
  | cons b bs => simp [flat] at h

theorem flat_append (xs ys : List (Int × Int)) : flat (xs ++ ys) = flat xs ++ flat ys := by
  induction xs with
  | nil => rfl
  | cons a xs ih => simp [flat, ih]

/-- The slice at 'A' reads as the books. -/
theorem Seg.book {w : World} {lo hi : Nat} {A : Option Addr} {bs : List (Int × Int)} (h : Seg w lo hi A (flat bs)) {k : Nat} (hk : k < bs.length) :
    ∃ b off t u, A = some ⟨b, off, none⟩ ∧ lo ≤ b ∧ b < hi ∧ bs[k]? = some (t, u) ∧ w.cell? ⟨b, off + k * 2, none⟩ = some (.int .i64 t) ∧ w.cell? ⟨b, off + k * 2 + 1, none⟩ = some (.int .i64 u) := by
  have hx : bs[k]? = some bs[k] := List.getElem?_eq_getElem hk
  obtain ⟨h1, h2⟩ := flat_at hx
  have hl := flat_length bs
  rcases h with h | ⟨b, off, e, h3, h4, hc⟩
  · have := flat_nil h; subst this; simp at hk
  · refine ⟨b, off, bs[k].1, bs[k].2, e, h3, h4, hx, ?_, ?_⟩
    · rw [hc (k * 2) (by omega)]; simp [List.getD, h1]
    · rw [Nat.add_assoc, hc (k * 2 + 1) (by omega)]; simp [List.getD, h2]

/-- A part of them. -/
theorem Seg.cut {w : World} {lo hi b off : Nat} {bs : List (Int × Int)} (h : Seg w lo hi (some ⟨b, off, none⟩) (flat bs)) (f e : Nat) :
    Seg w lo hi (some ⟨b, off + f * 2, none⟩) (flat ((bs.take e).drop f)) := by
  rcases h with h | ⟨b', off', e', h3, h4, hc⟩
  · have := flat_nil h; subst this; simp [flat]; exact .inl rfl
  · injection e' with e'; injection e' with e1 e2; subst e1 e2
    refine .inr ⟨b, off + f * 2, rfl, h3, h4, fun k hk => ?_⟩
    have e1 : flat ((bs.take e).drop f) = ((flat bs).take (e * 2)).drop (f * 2) := by rw [flat_take, flat_drop]
    rw [e1] at hk ⊢
    rw [List.length_drop, List.length_take] at hk
    rw [Nat.add_assoc, hc (f * 2 + k) (by omega)]
    simp only [List.getD]
    rw [List.getElem?_drop, List.getElem?_take_of_lt (by omega)]

/-- An argument that was read as pairs of numbers is such a slice. -/
theorem seg_of_pairs {w : World} {x : Addr} {len : Nat} {bs : List (Int × Int)} (hz : bs.length = len)
    (hcell : ∀ i b, bs[i]? = some b → w.cell? (x.add (i * 2)) = some (.int .i64 b.1) ∧ w.cell? (x.add (i * 2 + 1)) = some (.int .i64 b.2)) : Seg w 0 w.heap.size (some x) (flat bs) := by
  rcases Nat.eq_zero_or_pos len with rfl | hpos
  · have := List.eq_nil_of_length_eq_zero hz
    subst this
    exact .inl rfl
  · obtain ⟨b, off, spot⟩ := x
    have h0 := (hcell 0 _ (List.getElem?_eq_getElem (by omega))).1
    have hlt := cell_lt h0
    obtain rfl : spot = none := by simpa [Addr.add] using World.cell?_spot h0
    refine .inr ⟨b, off, rfl, Nat.zero_le _, by simpa [Addr.add] using hlt, fun k hk => ?_⟩
    rw [flat_length] at hk
    obtain ⟨h1, h2⟩ := flat_at (List.getElem?_eq_getElem (show k / 2 < bs.length by omega))
    obtain ⟨c1, c2⟩ := hcell (k / 2) _ (List.getElem?_eq_getElem (show k / 2 < bs.length by omega))
    rw [Addr.add_lit] at c1 c2
    rcases Nat.mod_two_eq_zero_or_one k with hm | hm
    · have e : k / 2 * 2 = k := by omega
      rw [e] at h1 c1
      rw [c1]; simp [List.getD, h1]
    · have e : k / 2 * 2 + 1 = k := by omega
      rw [e] at h2 c2
      rw [c2]; simp [List.getD, h2]

/-- The numbers of a book are told by a value. -/
def bookV (b : Int × Int) : Value := .agg #[.int .i64 b.1, .int .i64 b.2]

def bookB (b : Int × Int) : Bool := inB b.1 1 100 && inB b.2 1 100
theorem bookB_true {b : Int × Int} : bookB b = true ↔ (1 ≤ b.1 ∧ b.1 ≤ 100) ∧ 1 ≤ b.2 ∧ b.2 ≤ 100 := by simp [bookB, inB_true]

/-- These are books. -/
def goodK (bs : List (Int × Int)) : Bool := inB (bs.length : Int) 1 12 && bs.all bookB

theorem allK_of {bs : List (Int × Int)} (h : ∀ (k : Nat) b, bs[k]? = some b → bookB b = true) : bs.all bookB = true := by
  rw [List.all_eq_true]
  intro x hx
  obtain ⟨k, hk⟩ := List.getElem?_of_mem hx
  exact h k x hk

theorem allK_not {bs : List (Int × Int)} {k : Nat} {b : Int × Int} (h : bs[k]? = some b) (hu : bookB b = false) : bs.all bookB = false := by
  rw [List.all_eq_false]
  exact ⟨b, List.mem_of_getElem? h, by simp [hu]⟩

theorem goodK_at {bs : List (Int × Int)} (h : goodK bs = true) : 1 ≤ bs.length ∧ bs.length ≤ 12 ∧ ∀ b ∈ bs, 1 ≤ b.1 ∧ b.1 ≤ 100 ∧ 1 ≤ b.2 ∧ b.2 ≤ 100 := by
  simp only [goodK, Bool.and_eq_true, inB_true, List.all_eq_true, bookB_true] at h
  exact ⟨by omega, by omega, fun b hb => by have := h.2 b hb; omega⟩

/-- How thick, how tall. -/
def ths (bs : List (Int × Int)) : List Int := bs.map (·.1)
def tls (bs : List (Int × Int)) : List Int := bs.map (·.2)

theorem ths_at {bs : List (Int × Int)} {k : Nat} {b : Int × Int} (h : bs[k]? = some b) : (ths bs)[k]? = some b.1 := by simp [ths, h]
theorem tls_at {bs : List (Int × Int)} {k : Nat} {b : Int × Int} (h : bs[k]? = some b) : (tls bs)[k]? = some b.2 := by simp [tls, h]
theorem ths_length (bs : List (Int × Int)) : (ths bs).length = bs.length := by simp [ths]
theorem tls_length (bs : List (Int × Int)) : (tls bs).length = bs.length := by simp [tls]

/-- There are books, and a width that holds the thickest one. -/
def askedK (bs : List (Int × Int)) (width : Int) : Bool := goodK bs && inB width (mostOf (ths bs)) 1000

theorem askedK_at {bs : List (Int × Int)} {width : Int} (h : askedK bs width = true) :
    1 ≤ bs.length ∧ bs.length ≤ 12 ∧ (∀ b ∈ bs, 1 ≤ b.1 ∧ b.1 ≤ 100 ∧ 1 ≤ b.2 ∧ b.2 ≤ 100 ∧ b.1 ≤ width) ∧ 1 ≤ width ∧ width ≤ 1000 := by
  simp only [askedK, Bool.and_eq_true, inB_true] at h
  obtain ⟨h1, h2, h3⟩ := h
  obtain ⟨a, b, c⟩ := goodK_at h1
  have hx : ∀ x ∈ bs, 1 ≤ x.1 ∧ x.1 ≤ 100 ∧ 1 ≤ x.2 ∧ x.2 ≤ 100 ∧ x.1 ≤ width := fun x hx => by
    have := c x hx
    have hm : x.1 ≤ mostOf (ths bs) := le_foldl_max (List.mem_map.2 ⟨x, hx, rfl⟩)
    omega
  have hm := hx bs[0] (List.getElem_mem _)
  exact ⟨a, b, hx, by omega, h3⟩
end Go.Proofs.YtbaofgbkcolmmabDoor
