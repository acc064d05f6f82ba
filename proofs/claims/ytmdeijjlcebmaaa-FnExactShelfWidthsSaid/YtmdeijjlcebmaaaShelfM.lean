/-
  Shelvings as lists of the first book of each shelf, and what is told of shelves, as functions on lists; no program is spoken of here.
  Conditions: none.
-/
import Derived.Test.YtmdeijjlcebmaaaBookAsk
namespace Go.Proofs.Ytmdeijjlcebmaaa
set_option linter.unusedVariables false
open Go.RowKit

/-- Up to which book a shelf goes. -/
def endOf (n : Nat) (qs : List Nat) (k : Nat) : Nat := if k + 1 < qs.length then qs.getD (k + 1) 0 else n
/-- The books of a shelf. -/
def partK (bs : List (Int × Int)) (qs : List Nat) (k : Nat) : List (Int × Int) := (bs.take (endOf bs.length qs k)).drop (qs.getD k 0)
def widthsK (bs : List (Int × Int)) (qs : List Nat) : List Int := (List.range qs.length).map fun k => (ths (partK bs qs k)).sum
def heightsK (bs : List (Int × Int)) (qs : List Nat) : List Int := (List.range qs.length).map fun k => mostOf (tls (partK bs qs k))

/-- A first book stands behind the one before, and is one of 'n'. -/
def stepB (n : Nat) (fs : List Int) (k : Nat) : Bool := decide (fs.getD k 0 < (n : Int)) && (decide (k = 0) || decide (fs.getD (k - 1) 0 < fs.getD k 0))
def firstB (fs : List Int) : Bool := decide (fs[0]? = some 0)
def riseB (n : Nat) (fs : List Int) : Bool := firstB fs && (List.range fs.length).all (stepB n fs)
def natsOf (fs : List Int) : List Nat := fs.map Int.toNat

structure Rise (n : Nat) (qs : List Nat) : Prop where
  one : 1 ≤ qs.length
  zero : qs.getD 0 0 = 0
  at_ : ∀ k, k < qs.length → k ≤ qs.getD k 0 ∧ qs.getD k 0 < n
  up : ∀ k, k + 1 < qs.length → qs.getD k 0 < qs.getD (k + 1) 0

theorem stepB_true {n : Nat} {fs : List Int} {k : Nat} : stepB n fs k = true ↔ fs.getD k 0 < (n : Int) ∧ (k = 0 ∨ fs.getD (k - 1) 0 < fs.getD k 0) := by
  simp [stepB]

theorem firstB_true {fs : List Int} : firstB fs = true ↔ fs[0]? = some 0 := by simp [firstB]

theorem step_ge {n : Nat} {fs : List Int} (h0 : fs.getD 0 0 = 0) {k : Nat} (h : ∀ j, j ≤ k → stepB n fs j = true) : (k : Int) ≤ fs.getD k 0 ∧ fs.getD k 0 < (n : Int) := by
  induction k with
  | zero =>
    have := (stepB_true.1 (h 0 (Nat.le_refl _))).1
    omega
  | succ k ih =>
    have h1 := ih (fun j hj => h j (by omega))
    obtain ⟨h2, h3⟩ := stepB_true.1 (h (k + 1) (Nat.le_refl _))
    rw [show k + 1 - 1 = k by omega] at h3
    omega

theorem first_getD {fs : List Int} (h : fs[0]? = some 0) : fs.getD 0 0 = 0 := by simp [List.getD, h]

theorem riseB_true {n : Nat} {fs : List Int} : riseB n fs = true ↔ fs[0]? = some 0 ∧ ∀ k, k < fs.length → stepB n fs k = true := by
  simp [riseB, firstB_true, List.all_eq_true]

theorem natsOf_length (fs : List Int) : (natsOf fs).length = fs.length := by simp [natsOf]
theorem natsOf_at {fs : List Int} {k : Nat} {u : Int} (h : fs[k]? = some u) : (natsOf fs)[k]? = some u.toNat := by simp [natsOf, h]

theorem natsOf_getD {fs : List Int} {k : Nat} (hk : k < fs.length) : (natsOf fs).getD k 0 = (fs.getD k 0).toNat := by
  have h := List.getElem?_eq_getElem hk
  have h' := natsOf_at h
  simp [List.getD, h, h']

theorem rise_at {n : Nat} {fs : List Int} (h : riseB n fs = true) {k : Nat} (hk : k < fs.length) : (k : Int) ≤ fs.getD k 0 ∧ fs.getD k 0 < (n : Int) := by
  obtain ⟨h0, h1⟩ := riseB_true.1 h
  exact step_ge (first_getD h0) (fun j hj => h1 j (by omega))

theorem rise_of {n : Nat} {fs : List Int} (h : riseB n fs = true) : Rise n (natsOf fs) := by
  obtain ⟨h0, h1⟩ := riseB_true.1 h
  have hl : 0 < fs.length := (List.getElem?_eq_some_iff.1 h0).1
  refine ⟨by rw [natsOf_length]; omega, by rw [natsOf_getD hl, first_getD h0]; rfl, fun k hk => ?_, fun k hk => ?_⟩
  · rw [natsOf_length] at hk
    have := rise_at h hk
    rw [natsOf_getD hk]
    omega
  · rw [natsOf_length] at hk
    have h2 := rise_at h (k := k) (by omega)
    have h3 := rise_at h hk
    obtain ⟨h4, h5⟩ := stepB_true.1 (h1 (k + 1) hk)
    rw [show k + 1 - 1 = k by omega] at h5
    rw [natsOf_getD hk, natsOf_getD (show k < fs.length by omega)]
    omega

theorem rise_cell {n : Nat} {fs : List Int} (h : riseB n fs = true) {k : Nat} (hk : k < fs.length) : fs[k]? = some (((natsOf fs).getD k 0 : Nat) : Int) := by
  have h1 := rise_at h hk
  have h2 := List.getElem?_eq_getElem hk
  have h3 : fs.getD k 0 = fs[k] := by simp [List.getD, h2]
  rw [natsOf_getD hk, h2]
  congr 1
  omega

theorem Rise.len {n : Nat} {qs : List Nat} (h : Rise n qs) : qs.length ≤ n := by
  have h1 := h.one
  have := h.at_ (qs.length - 1) (by omega)
  omega

theorem Rise.ends {n : Nat} {qs : List Nat} (h : Rise n qs) {k : Nat} (hk : k < qs.length) : qs.getD k 0 < endOf n qs k ∧ endOf n qs k ≤ n := by
  unfold endOf
  split
  · next h1 => exact ⟨h.up k h1, by have := (h.at_ (k + 1) h1).2; omega⟩
  · exact ⟨(h.at_ k hk).2, Nat.le_refl _⟩

theorem Rise.part_len {bs : List (Int × Int)} {qs : List Nat} (h : Rise bs.length qs) {k : Nat} (hk : k < qs.length) :
    (partK bs qs k).length = endOf bs.length qs k - qs.getD k 0 ∧ 1 ≤ (partK bs qs k).length := by
  have h1 := h.ends hk
  have : (partK bs qs k).length = endOf bs.length qs k - qs.getD k 0 := by
    unfold partK
    rw [List.length_drop, List.length_take]
    omega
  omega

theorem part_mem {bs : List (Int × Int)} {qs : List Nat} {k : Nat} {b : Int × Int} (h : b ∈ partK bs qs k) : b ∈ bs := List.mem_of_mem_take (List.mem_of_mem_drop h)

theorem part_at {bs : List (Int × Int)} {qs : List Nat} {k j : Nat} (hj : j < endOf bs.length qs k - qs.getD k 0) : (partK bs qs k)[j]? = bs[qs.getD k 0 + j]? := by
  unfold partK
  rw [List.getElem?_drop, List.getElem?_take_of_lt (by omega)]

theorem widths_length (bs : List (Int × Int)) (qs : List Nat) : (widthsK bs qs).length = qs.length := by simp [widthsK]
theorem heights_length (bs : List (Int × Int)) (qs : List Nat) : (heightsK bs qs).length = qs.length := by simp [heightsK]
theorem widths_at (bs : List (Int × Int)) {qs : List Nat} {k : Nat} (hk : k < qs.length) : (widthsK bs qs)[k]? = some (ths (partK bs qs k)).sum := by simp [widthsK, hk]
theorem heights_at (bs : List (Int × Int)) {qs : List Nat} {k : Nat} (hk : k < qs.length) : (heightsK bs qs)[k]? = some (mostOf (tls (partK bs qs k))) := by simp [heightsK, hk]

theorem width_bd {bs : List (Int × Int)} {qs : List Nat} (hr : Rise bs.length qs) (h : goodK bs = true) {k : Nat} (hk : k < qs.length) :
    1 ≤ (ths (partK bs qs k)).sum ∧ (ths (partK bs qs k)).sum ≤ 1200 := by
  obtain ⟨h1, h2, h3⟩ := goodK_at h
  obtain ⟨l1, l2⟩ := hr.part_len hk
  have he := hr.ends hk
  have := sum_bds (ths (partK bs qs k)) (fun x hx => by
    obtain ⟨b, hb, rfl⟩ := List.mem_map.1 hx
    have := h3 b (part_mem hb)
    omega)
  rw [ths_length] at this
  omega

/-- No shelf is too full. -/
def fullB (bs : List (Int × Int)) (width : Int) (qs : List Nat) : Bool := (widthsK bs qs).all fun x => decide (x ≤ width)

theorem fullB_of {bs : List (Int × Int)} {width : Int} {qs : List Nat} (h : ∀ k, k < qs.length → (ths (partK bs qs k)).sum ≤ width) : fullB bs width qs = true := by
  unfold fullB
  rw [List.all_eq_true]
  intro x hx
  obtain ⟨k, hk⟩ := List.getElem?_of_mem hx
  have hl := (List.getElem?_eq_some_iff.1 hk).1
  rw [widths_length] at hl
  rw [widths_at bs hl] at hk
  injection hk with hk
  subst hk
  simpa using h k hl

theorem fullB_not {bs : List (Int × Int)} {width : Int} {qs : List Nat} {k : Nat} (hk : k < qs.length) (h : width < (ths (partK bs qs k)).sum) : fullB bs width qs = false := by
  unfold fullB
  rw [List.all_eq_false]
  exact ⟨_, List.mem_of_getElem? (widths_at bs hk), by simp; omega⟩

theorem fullB_most {bs : List (Int × Int)} {width : Int} {qs : List Nat} (h0 : 0 ≤ width) : fullB bs width qs = decide (mostOf (widthsK bs qs) ≤ width) := by
  unfold fullB
  by_cases h : mostOf (widthsK bs qs) ≤ width
  · rw [decide_eq_true h, List.all_eq_true]
    intro x hx
    have : x ≤ mostOf (widthsK bs qs) := le_foldl_max hx
    simp; omega
  · rw [decide_eq_false h]
    by_cases h1 : (widthsK bs qs).all (fun x => decide (x ≤ width)) = true
    · exfalso
      rw [List.all_eq_true] at h1
      exact h (foldl_max_le (fun x hx => by simpa using h1 x hx) h0)
    · simpa using h1

/-- A list of numbers is a shelving. -/
def shelfB (bs : List (Int × Int)) (width : Int) (fs : List Int) : Bool := riseB bs.length fs && fullB bs width (natsOf fs)

/-- There are books, a width and a shelving. -/
def bothB (bs : List (Int × Int)) (width : Int) (fs : List Int) : Bool := askedK bs width && shelfB bs width fs

theorem bothB_at {bs : List (Int × Int)} {width : Int} {fs : List Int} (h : bothB bs width fs = true) : askedK bs width = true ∧ riseB bs.length fs = true ∧ fullB bs width (natsOf fs) = true := by
  simp only [bothB, shelfB, Bool.and_eq_true] at h
  exact ⟨h.1, h.2.1, h.2.2⟩
end Go.Proofs.Ytmdeijjlcebmaaa
