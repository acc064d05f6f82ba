/-
  All full patterns that go on from one, in their order; no program is spoken of here.
  Conditions: none.
-/
import Derived.Test.YtoheoojpmndhoabInfo
namespace Go.Proofs.Ytoheoojpmndhoab
set_option linter.unusedVariables false

/-- All full patterns that go on from one by pieces of the lengths that are left, with so much left of the rod. -/
def lookF (z0 : Int) : List Int → List Int → Int → List (List Int)
  | [], beg, L => if L < z0 then [beg] else []
  | q :: r, beg, L => (List.range ((L / q).toNat + 1)).flatMap fun (x : Nat) => lookF z0 r (beg ++ [(x : Int)]) (L - x * q)
/-- Those that have less than 'j' pieces of the next length. -/
def lookK (z0 q : Int) (r beg : List Int) (L : Int) (j : Nat) : List (List Int) := (List.range j).flatMap fun (x : Nat) => lookF z0 r (beg ++ [(x : Int)]) (L - x * q)
theorem lookF_cons (z0 q : Int) (r beg : List Int) (L : Int) : lookF z0 (q :: r) beg L = lookK z0 q r beg L ((L / q).toNat + 1) := rfl
theorem lookF_full {z0 : Int} {beg : List Int} {L : Int} (h : L < z0) : lookF z0 [] beg L = [beg] := if_pos h
theorem lookF_not {z0 : Int} {beg : List Int} {L : Int} (h : ¬ L < z0) : lookF z0 [] beg L = [] := if_neg h
theorem lookK_zero (z0 q : Int) (r beg : List Int) (L : Int) : lookK z0 q r beg L 0 = [] := rfl
theorem lookK_succ (z0 q : Int) (r beg : List Int) (L : Int) (j : Nat) : lookK z0 q r beg L (j + 1) = lookK z0 q r beg L j ++ lookF z0 r (beg ++ [(j : Int)]) (L - j * q) := by
  simp [lookK, List.range_succ]
/-- The loop goes on just as long as the pieces can be cut out. -/
theorem look_on {L q : Int} (hq : 1 ≤ q) (hL : 0 ≤ L) (x : Nat) : (x : Int) * q ≤ L ↔ x < (L / q).toNat + 1 := by
  have h := Int.le_ediv_iff_mul_le (a := (x : Int)) (b := L) (c := q) (by omega)
  have h0 : 0 ≤ L / q := Int.ediv_nonneg hL (by omega)
  constructor
  · intro h1
    have := h.2 h1
    omega
  · intro h1
    exact h.1 (by omega)
theorem flat_lenF {α : Type} (g : Nat → List α) (m : Nat) : ∀ j, (∀ k, k < j → (g k).length ≤ m) → ((List.range j).flatMap g).length ≤ j * m := by
  intro j
  induction j with
  | zero => intro _; simp
  | succ j ih =>
    intro h
    rw [List.range_succ, List.flatMap_append, List.length_append, Nat.succ_mul]
    have h1 := h j (by omega)
    have h2 := ih (fun k hk => h k (by omega))
    have e : List.flatMap g [j] = g j := by simp
    rw [e]
    omega
theorem lookF_len {z0 : Int} : ∀ (r beg : List Int) (L : Int), 0 ≤ L → (∀ q ∈ r, 1 ≤ q ∧ L ≤ 10 * q) → (lookF z0 r beg L).length ≤ 11 ^ r.length := by
  intro r
  induction r with
  | nil => intro beg L _ _; unfold lookF; split <;> simp
  | cons q r ih =>
    intro beg L hL h
    obtain ⟨hq1, hq2⟩ := h q List.mem_cons_self
    have h10 : (L / q).toNat + 1 ≤ 11 := by
      have : L / q ≤ 10 := by
        have := Int.ediv_le_ediv (c := q) (by omega) hq2
        rwa [Int.mul_ediv_cancel _ (by omega)] at this
      omega
    rw [lookF_cons]
    unfold lookK
    refine Nat.le_trans (flat_lenF _ (11 ^ r.length) _ (fun x hx => ?_)) ?_
    · have hx2 := (look_on hq1 hL x).2 hx
      have hx0 : 0 ≤ (x : Int) * q := Int.mul_nonneg (by omega) (by omega)
      exact ih _ _ (by omega) (fun q' hq' => by
        have := h q' (List.mem_cons_of_mem _ hq')
        omega)
    · rw [List.length_cons, Nat.pow_succ, Nat.mul_comm (11 ^ r.length) 11]
      exact Nat.mul_le_mul_right _ h10
theorem lookF_mem {z0 : Int} : ∀ (r beg : List Int) (L : Int) (xs : List Int), xs ∈ lookF z0 r beg L → xs.length = beg.length + r.length := by
  intro r
  induction r with
  | nil =>
    intro beg L xs hx
    unfold lookF at hx
    split at hx
    · rw [List.mem_singleton.1 hx]; rfl
    · cases hx
  | cons q r ih =>
    intro beg L xs hx
    unfold lookF at hx
    obtain ⟨k, _, hx⟩ := List.mem_flatMap.1 hx
    rw [ih _ _ _ hx]
    simp
    omega
end Go.Proofs.Ytoheoojpmndhoab
