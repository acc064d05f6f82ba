/-
  All nestings that go on from one, in their order, and the ones of least cost; no program is spoken of here.
  Conditions: none.
-/
import Derived.Test.YtbaofgbkcolmmabNestM
namespace Go.Proofs.Ytbaofgbkcolmmab
set_option linter.unusedVariables false
open Go.RowKit

/-- All nestings that go on from one by so many boxes. -/
def nesF (bs : List (Int × Int × Int)) : Nat → List Int → List (List Int)
  | 0, beg => [beg]
  | f + 1, beg => (List.range (bs.length + 1)).flatMap fun (k : Nat) => if freeB bs beg beg.length ((k : Int) - 1) = true then nesF bs f (beg ++ [(k : Int) - 1]) else []
/-- Those whose next box is put into none or into one of the first ones. -/
def nesK (bs : List (Int × Int × Int)) (f : Nat) (beg : List Int) (j : Nat) : List (List Int) :=
  (List.range j).flatMap fun (k : Nat) => if freeB bs beg beg.length ((k : Int) - 1) = true then nesF bs f (beg ++ [(k : Int) - 1]) else []
theorem nesK_zero (bs : List (Int × Int × Int)) (f : Nat) (beg : List Int) : nesK bs f beg 0 = [] := rfl
theorem nesK_yes {bs : List (Int × Int × Int)} {f : Nat} {beg : List Int} {j : Nat} (h : freeB bs beg beg.length ((j : Int) - 1) = true) : nesK bs f beg (j + 1) = nesK bs f beg j ++ nesF bs f (beg ++ [(j : Int) - 1]) := by
  simp [nesK, List.range_succ, h]
theorem nesK_no {bs : List (Int × Int × Int)} {f : Nat} {beg : List Int} {j : Nat} (h : freeB bs beg beg.length ((j : Int) - 1) = false) : nesK bs f beg (j + 1) = nesK bs f beg j := by
  simp [nesK, List.range_succ, h]
theorem nesF_succ (bs : List (Int × Int × Int)) (f : Nat) (beg : List Int) : nesF bs (f + 1) beg = nesK bs f beg (bs.length + 1) := rfl

theorem flat_lenN {α : Type} (g : Nat → List α) (m : Nat) (h : ∀ k, (g k).length ≤ m) : ∀ j, ((List.range j).flatMap g).length ≤ j * m := by
  intro j
  induction j with
  | zero => simp
  | succ j ih =>
    rw [List.range_succ, List.flatMap_append, List.length_append, Nat.succ_mul]
    have := h j
    have e : List.flatMap g [j] = g j := by simp
    rw [e]
    omega
theorem nesF_len {bs : List (Int × Int × Int)} (h7 : bs.length ≤ 7) (f : Nat) : ∀ beg, (nesF bs f beg).length ≤ 8 ^ f := by
  induction f with
  | zero => intro beg; exact Nat.le_refl _
  | succ f ih =>
    intro beg
    rw [nesF]
    have := flat_lenN (fun (k : Nat) => if freeB bs beg beg.length ((k : Int) - 1) = true then nesF bs f (beg ++ [(k : Int) - 1]) else []) (8 ^ f) (fun k => by split; exact ih _; simp) (bs.length + 1)
    have h2 : (bs.length + 1) * 8 ^ f ≤ 8 * 8 ^ f := Nat.mul_le_mul_right _ (by omega)
    rw [Nat.pow_succ, Nat.mul_comm (8 ^ f) 8]
    omega
theorem nesF_few {bs : List (Int × Int × Int)} (h7 : bs.length ≤ 7) {f : Nat} (hf : f ≤ 7) (beg : List Int) : (nesF bs f beg).length ≤ 2097152 :=
  Nat.le_trans (nesF_len h7 f beg) (by have h := Nat.pow_le_pow_right (n := 8) (by omega) hf; have e : (8 : Nat) ^ 7 = 2097152 := (by decide); omega)
theorem nesK_mono {bs : List (Int × Int × Int)} {f : Nat} {beg : List Int} {a b : Nat} (h : a ≤ b) : (nesK bs f beg a).length ≤ (nesK bs f beg b).length := by
  induction h with
  | refl => exact Nat.le_refl _
  | @step m _ ih =>
    refine Nat.le_trans ih ?_
    cases e : freeB bs beg beg.length ((m : Int) - 1)
    · rw [nesK_no e]; exact Nat.le_refl _
    · rw [nesK_yes e, List.length_append]; omega

/-- Each number of a nesting is -1 or a box. -/
def inN (n : Nat) (plan : List Int) : Prop := ∀ u ∈ plan, -1 ≤ u ∧ u < (n : Int)
theorem inN_nil (n : Nat) : inN n [] := fun u hu => by cases hu
theorem inN_snoc {n : Nat} {plan : List Int} {u : Int} (h : inN n plan) (hu : -1 ≤ u ∧ u < (n : Int)) : inN n (plan ++ [u]) := by
  intro x hx
  rcases List.mem_append.1 hx with hx | hx
  · exact h x hx
  · rw [List.mem_singleton.1 hx]; exact hu
theorem nesF_in {bs : List (Int × Int × Int)} (f : Nat) : ∀ beg, inN bs.length beg → ∀ xs ∈ nesF bs f beg, inN bs.length xs ∧ xs.length = beg.length + f := by
  induction f with
  | zero => intro beg h xs hx; rw [nesF, List.mem_singleton] at hx; subst hx; exact ⟨h, rfl⟩
  | succ f ih =>
    intro beg h xs hx
    rw [nesF] at hx
    obtain ⟨k, hk, hx⟩ := List.mem_flatMap.1 hx
    have hk' := List.mem_range.1 hk
    split at hx
    · have := ih _ (inN_snoc h (by omega)) xs hx
      exact ⟨this.1, by rw [this.2]; simp; omega⟩
    · cases hx
theorem nesF_ne {bs : List (Int × Int × Int)} (f : Nat) : ∀ beg, nesF bs f beg ≠ [] := by
  induction f with
  | zero => intro beg h; cases h
  | succ f ih =>
    intro beg h
    rw [nesF] at h
    have h0 := List.flatMap_eq_nil_iff.1 h 0 (List.mem_range.2 (by omega))
    have hfr : freeB bs beg beg.length (((0 : Nat) : Int) - 1) = true := by simp [freeB]
    rw [if_pos hfr] at h0
    exact ih _ h0

/-- Those of least cost so far, in their order. -/
def stepB (g : List Int → Int) (B : List (List Int)) (xs : List Int) : List (List Int) :=
  match B with
  | [] => [xs]
  | b :: r => if g xs < g b then [xs] else if g xs = g b then b :: r ++ [xs] else b :: r
def nesB (g : List Int → Int) (L : List (List Int)) : List (List Int) := L.foldl (stepB g) []
theorem nesB_snoc (g : List Int → Int) (L : List (List Int)) (xs : List Int) : nesB g (L ++ [xs]) = stepB g (nesB g L) xs := by simp [nesB]
theorem stepB_nil (g : List Int → Int) (xs : List Int) : stepB g [] xs = [xs] := rfl
theorem stepB_less {g : List Int → Int} {b xs : List Int} {r : List (List Int)} (h : g xs < g b) : stepB g (b :: r) xs = [xs] := by simp [stepB, h]
theorem stepB_same {g : List Int → Int} {b xs : List Int} {r : List (List Int)} (h : g xs = g b) : stepB g (b :: r) xs = b :: r ++ [xs] := by simp [stepB, h]
theorem stepB_more {g : List Int → Int} {b xs : List Int} {r : List (List Int)} (h : g b < g xs) : stepB g (b :: r) xs = b :: r := by
  have h1 : ¬ g xs < g b := by omega
  have h2 : ¬ g xs = g b := by omega
  simp [stepB, h1, h2]
theorem stepB_cons (g : List Int → Int) (B : List (List Int)) (xs : List Int) : ∃ b r, stepB g B xs = b :: r := by
  cases B with
  | nil => exact ⟨_, _, rfl⟩
  | cons b r =>
    unfold stepB
    dsimp only
    split
    · exact ⟨_, _, rfl⟩
    · split
      · exact ⟨_, _, rfl⟩
      · exact ⟨_, _, rfl⟩
theorem nesB_len (g : List Int → Int) (L : List (List Int)) : (nesB g L).length ≤ L.length := by
  have : ∀ (L B : List (List Int)), (L.foldl (stepB g) B).length ≤ B.length + L.length := by
    intro L
    induction L with
    | nil => intro B; simp
    | cons x L ih =>
      intro B
      refine Nat.le_trans (ih _) ?_
      have : (stepB g B x).length ≤ B.length + 1 := by
        cases B with
        | nil => simp [stepB]
        | cons b r =>
          unfold stepB
          dsimp only
          split
          · simp
          · split <;> simp
      simp
      omega
  have := this L []
  simpa [nesB] using this
theorem nesB_mem {g : List Int → Int} {L : List (List Int)} {P : List Int → Prop} (h : ∀ xs ∈ L, P xs) : ∀ xs ∈ nesB g L, P xs := by
  have : ∀ (L B : List (List Int)), (∀ xs ∈ L, P xs) → (∀ xs ∈ B, P xs) → ∀ xs ∈ L.foldl (stepB g) B, P xs := by
    intro L
    induction L with
    | nil => intro B _ hB; exact hB
    | cons x L ih =>
      intro B hL hB
      refine ih _ (fun xs hx => hL xs (List.mem_cons_of_mem _ hx)) ?_
      have hx := hL x List.mem_cons_self
      cases B with
      | nil => intro xs h; rw [stepB, List.mem_singleton] at h; subst h; exact hx
      | cons b r =>
        intro xs hm
        unfold stepB at hm
        dsimp only at hm
        split at hm
        · rw [List.mem_singleton] at hm; subst hm; exact hx
        · split at hm
          · rcases List.mem_append.1 hm with hm | hm
            · exact hB xs hm
            · rw [List.mem_singleton] at hm; subst hm; exact hx
          · exact hB xs hm
  exact this L [] h (fun xs hx => by cases hx)
theorem nesB_cons {g : List Int → Int} {L : List (List Int)} (h : L ≠ []) : ∃ b r, nesB g L = b :: r := by
  rcases List.eq_nil_or_concat L with rfl | ⟨M, x, rfl⟩
  · exact absurd rfl h
  · rw [List.concat_eq_append, nesB_snoc]
    exact stepB_cons _ _ _
/-- All nestings. -/
def nesAll (bs : List (Int × Int × Int)) : List (List Int) := nesF bs bs.length []

/-- Told by the number that the next box is put into. -/
def nesU (bs : List (Int × Int × Int)) (f : Nat) (beg : List Int) (u : Int) : List (List Int) := nesK bs f beg (u + 1).toNat
theorem nesU_zero (bs : List (Int × Int × Int)) (f : Nat) (beg : List Int) : nesU bs f beg (-1) = [] := rfl
theorem nesU_yes {bs : List (Int × Int × Int)} {f : Nat} {beg : List Int} {u : Int} (hu : -1 ≤ u) (h : freeB bs beg beg.length u = true) : nesU bs f beg (u + 1) = nesU bs f beg u ++ nesF bs f (beg ++ [u]) := by
  obtain ⟨j, rfl⟩ : ∃ j : Nat, u = (j : Int) - 1 := ⟨(u + 1).toNat, by omega⟩
  have e1 : ((j : Int) - 1 + 1 + 1).toNat = j + 1 := by omega
  have e2 : ((j : Int) - 1 + 1).toNat = j := by omega
  rw [nesU, nesU, e1, e2, nesK_yes h]
theorem nesU_no {bs : List (Int × Int × Int)} {f : Nat} {beg : List Int} {u : Int} (hu : -1 ≤ u) (h : freeB bs beg beg.length u = false) : nesU bs f beg (u + 1) = nesU bs f beg u := by
  obtain ⟨j, rfl⟩ : ∃ j : Nat, u = (j : Int) - 1 := ⟨(u + 1).toNat, by omega⟩
  have e1 : ((j : Int) - 1 + 1 + 1).toNat = j + 1 := by omega
  have e2 : ((j : Int) - 1 + 1).toNat = j := by omega
  rw [nesU, nesU, e1, e2, nesK_no h]
theorem nesU_all {bs : List (Int × Int × Int)} {f : Nat} {beg : List Int} {n : Nat} (hn : bs.length = n) : nesF bs (f + 1) beg = nesU bs f beg (n : Int) := by
  rw [nesF_succ, nesU, hn]
  rfl
theorem nesU_few {bs : List (Int × Int × Int)} {f : Nat} {beg : List Int} {n : Nat} (hn : bs.length = n) (h7 : n ≤ 7) (hf : f + 1 ≤ 7) {u : Int} (hu : u ≤ (n : Int)) : (nesU bs f beg u).length ≤ 2097152 := by
  have h1 := nesF_few (bs := bs) (by omega) hf beg
  rw [nesF_succ] at h1
  exact Nat.le_trans (nesK_mono (by omega)) h1
end Go.Proofs.Ytbaofgbkcolmmab
