/-
  What is left of counts behind patterns, as both programs reckon it; a list of lists in memory; no program is spoken of here.
  Conditions: none.
-/
import Derived.Test.YtjpejhpilfjheabMinMax
import Derived.Test.YtjpejhpilfjheabArr
import Derived.Test.YtjpejhpilfjheabMem
namespace Go.Proofs.Ytjpejhpilfjheab
set_option linter.unusedVariables false
open Go.RowKit

/-- A list of lists that came in. -/
def RowsIn (w : World) (hi : Nat) (A : Option Addr) (xss : List (List Int)) : Prop :=
  xss = [] ∨ ∃ b off, A = some ⟨b, off, none⟩ ∧ b < hi ∧ ∀ (k : Nat) xs, xss[k]? = some xs → ∃ B c, w.cell? ⟨b, off + k, none⟩ = some (.slice B xs.length c) ∧ Seg w 0 hi B xs
theorem RowsIn.below {w w' : World} {hi B : Nat} {A : Option Addr} {xss : List (List Int)} (h : RowsIn w hi A xss) (hb : Below B w w') (hB : hi ≤ B) : RowsIn w' hi A xss := by
  rcases h with h | ⟨b, off, e, h1, h2⟩
  · exact .inl h
  · refine .inr ⟨b, off, e, h1, fun k xs hk => ?_⟩
    obtain ⟨D, c, h3, h4⟩ := h2 k xs hk
    exact ⟨D, c, (hb.cell (p := ⟨b, off + k, none⟩) (by show b < B; omega)).trans h3, h4.below hb hB⟩
theorem RowsIn.at_ {w : World} {hi : Nat} {A : Option Addr} {xss : List (List Int)} (h : RowsIn w hi A xss) {k : Nat} {xs : List Int} (hk : xss[k]? = some xs) :
    ∃ b off B c, A = some ⟨b, off, none⟩ ∧ b < hi ∧ w.cell? ⟨b, off + k, none⟩ = some (.slice B xs.length c) ∧ Seg w 0 hi B xs := by
  rcases h with h | ⟨b, off, e, h1, h2⟩
  · subst h; simp at hk
  · obtain ⟨D, c, h3, h4⟩ := h2 k xs hk
    exact ⟨b, off, D, c, e, h1, h3, h4⟩

/-- One pattern is taken away. -/
def subK (acc p : List Int) : Nat → List Int
  | 0 => acc
  | i + 1 => (subK acc p i).set i (acc.getD i 0 - p.getD i 0)
theorem subK_len (acc p : List Int) (i : Nat) : (subK acc p i).length = acc.length := by
  induction i with
  | zero => rfl
  | succ i ih => rw [subK, List.length_set, ih]
theorem subK_at (acc p : List Int) (i : Nat) : ∀ j, i ≤ j → (subK acc p i)[j]? = acc[j]? := by
  induction i with
  | zero => intro j _; rfl
  | succ i ih =>
    intro j hj
    rw [subK, List.getElem?_set_ne (by omega)]
    exact ih j (by omega)
theorem subK_mem {acc p : List Int} {lo hi : Int} (h1 : ∀ x ∈ acc, lo ≤ x ∧ x ≤ hi) (h2 : ∀ y ∈ p, 0 ≤ y ∧ y ≤ 6) (i : Nat) (hi' : i ≤ acc.length) : ∀ x ∈ subK acc p i, lo - 6 ≤ x ∧ x ≤ hi := by
  induction i with
  | zero => intro x hx; have := h1 x hx; omega
  | succ i ih =>
    intro x hx
    rw [subK] at hx
    rcases List.mem_or_eq_of_mem_set hx with hx | rfl
    · exact ih (by omega) x hx
    · have ha : acc.getD i 0 ∈ acc := by
        rw [List.getD_eq_getElem?_getD, List.getElem?_eq_getElem (by omega)]; exact List.getElem_mem _
      have hp : 0 ≤ p.getD i 0 ∧ p.getD i 0 ≤ 6 := by
        by_cases h : i < p.length
        · rw [List.getD_eq_getElem?_getD, List.getElem?_eq_getElem h]; exact h2 _ (List.getElem_mem _)
        · rw [List.getD_eq_getElem?_getD, List.getElem?_eq_none (by omega)]; simp
      have := h1 _ ha
      omega
def subL (acc p : List Int) : List Int := subK acc p p.length
def leftK (cs : List Int) (pss : List (List Int)) : Nat → List Int
  | 0 => cs
  | k + 1 => subL (leftK cs pss k) (pss.getD k [])
theorem leftK_next (cs : List Int) {pss : List (List Int)} {k : Nat} {p : List Int} (h : pss[k]? = some p) : leftK cs pss (k + 1) = subL (leftK cs pss k) p := by simp [leftK, List.getD, h]
theorem leftK_len (cs : List Int) (pss : List (List Int)) (k : Nat) : (leftK cs pss k).length = cs.length := by
  induction k with
  | zero => rfl
  | succ k ih => rw [leftK, subL, subK_len, ih]
/-- A pattern of as many numbers. -/
def okP (cs p : List Int) : Bool := decide (p.length = cs.length) && allB p 0 6
theorem okP_mem {cs p : List Int} (h : okP cs p = true) : p.length = cs.length ∧ ∀ y ∈ p, 0 ≤ y ∧ y ≤ 6 := by
  simp only [okP, Bool.and_eq_true, decide_eq_true_eq, allB, List.all_eq_true, inB_true] at h
  exact h
theorem leftK_bd {cs : List Int} {pss : List (List Int)} (hc : someB 4 6 cs = true) (k : Nat) (hk : k ≤ pss.length) (hok : ∀ j p, j < k → pss[j]? = some p → okP cs p = true) : ∀ x ∈ leftK cs pss k, -6 * (k : Int) ≤ x ∧ x ≤ 6 := by
  induction k with
  | zero =>
    intro x hx
    obtain ⟨j, hj⟩ := List.getElem?_of_mem hx
    have := someB_at hc j x hj
    omega
  | succ k ih =>
    have e : pss[k]? = some pss[k] := List.getElem?_eq_getElem (by omega)
    have hp := okP_mem (hok k _ (by omega) e)
    rw [leftK_next cs e, subL]
    intro x hx
    have := subK_mem (ih (by omega) (fun j p hj hp => hok j p (by omega) hp)) hp.2 _ (by rw [leftK_len]; omega) x hx
    omega
/-- Whether it is answered. -/
def leftB (cs : List Int) (pss : List (List Int)) : Bool := someB 4 6 cs && decide (pss.length ≤ 20) && pss.all (okP cs) && allB (leftK cs pss pss.length) 0 6
theorem leftB_bad {cs : List Int} {pss : List (List Int)} {k : Nat} {p : List Int} (h : pss[k]? = some p) (hp : okP cs p = false) : leftB cs pss = false := by
  have : pss.all (okP cs) = false := by
    rw [Bool.eq_false_iff]
    intro ha
    rw [List.all_eq_true] at ha
    rw [ha p (List.mem_of_getElem? h)] at hp
    cases hp
  rw [leftB, this]
  simp
theorem leftB_end {cs : List Int} {pss : List (List Int)} (hc : someB 4 6 cs = true) (hl : pss.length ≤ 20) (hok : ∀ j p, j < pss.length → pss[j]? = some p → okP cs p = true) : leftB cs pss = allB (leftK cs pss pss.length) 0 6 := by
  have : pss.all (okP cs) = true := by
    rw [List.all_eq_true]
    intro p hp
    obtain ⟨j, hj⟩ := List.getElem?_of_mem hp
    exact hok j p (List.getElem?_eq_some_iff.1 hj).1 hj
  rw [leftB, hc, this, decide_eq_true hl]
  rfl
end Go.Proofs.Ytjpejhpilfjheab
