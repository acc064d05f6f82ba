/-
  Numbers of solutions of puzzles with fewer clues; no program is spoken of here.
  Conditions: none.
-/
import Derived.Test.YtoheoojpmndhoaaPzSo
import Derived.Test.YtoheoojpmndhoaaPzW
import Derived.Test.YtoheoojpmndhoaaSomeN
namespace Go.Proofs.Ytoheoojpmndhoaa
set_option linter.unusedVariables false
open Go.RowKit

theorem only_of_grown {S : Nat → Prop} {w w' : World} {row : Option Nat} (h : w.grownBy w' row) (hS : ∀ g, row = some g → S g) : Only S w w' :=
  ⟨h.os, h.tape, h.output, h.size, fun k hk hs => h.block k hk (fun e => hs (hS k e.symm))⟩

/-- How many hidden things fit some clues. -/
noncomputable def cntC (N : Nat) (cs : List Clu) : Nat := (solF toldV N cs).length
theorem cntC_le {N : Nat} (hN : N = 2 ∨ N = 3 ∨ N = 4) (cs : List Clu) : cntC N cs ≤ 1296 := by
  have hle := solF_length toldV N cs
  rcases hN with rfl | rfl | rfl <;> exact Nat.le_trans hle (by decide)

/-- How many fit the first 0, 1, 2, .. clues, so many times. -/
noncomputable def leftL (N : Nat) (cs : List Clu) (k : Nat) : List Int := (List.range k).map (fun j => (cntC N (cs.take j) : Int))
theorem leftL_length (N : Nat) (cs : List Clu) (k : Nat) : (leftL N cs k).length = k := by simp [leftL]
theorem leftL_succ (N : Nat) (cs : List Clu) (k : Nat) : leftL N cs (k + 1) = leftL N cs k ++ [(cntC N (cs.take k) : Int)] := by simp [leftL, List.range_succ]
theorem leftL_at {N : Nat} {cs : List Clu} {m k : Nat} (h : k < m) : (leftL N cs m).getD k 0 = (cntC N (cs.take k) : Int) := by
  simp [leftL, List.getD, h]

/-- How many fit one clue alone. -/
noncomputable def oneC (N : Nat) (cs : List Clu) (k : Nat) : Nat := cntC N ((cs.take (k + 1)).drop k)
/-- The first one of the clues so far that the fewest fit, and how many these are. -/
noncomputable def bestC (N : Nat) (cs : List Clu) : Nat → Nat × Nat
  | 0 => (0, oneC N cs 0)
  | k + 1 => if oneC N cs k < (bestC N cs k).2 then (k, oneC N cs k) else bestC N cs k
theorem bestC_one (N : Nat) (cs : List Clu) : bestC N cs 1 = (0, oneC N cs 0) := by simp [bestC]
theorem bestC_yes {N : Nat} {cs : List Clu} {k : Nat} (h : oneC N cs k < (bestC N cs k).2) : bestC N cs (k + 1) = (k, oneC N cs k) := by simp [bestC, h]
theorem bestC_no {N : Nat} {cs : List Clu} {k : Nat} (h : ¬ oneC N cs k < (bestC N cs k).2) : bestC N cs (k + 1) = bestC N cs k := by simp [bestC, h]
theorem bestC_fst (N : Nat) (cs : List Clu) : ∀ k, (bestC N cs k).1 ≤ k
  | 0 => Nat.le_refl _
  | k + 1 => by
    unfold bestC
    split
    · exact Nat.le_succ _
    · exact Nat.le_succ_of_le (bestC_fst N cs k)
noncomputable def bestB (t : Int) (cs : List Clu) : Bool := puzB t cs && decide (cs.length ≠ 0)
noncomputable def bestV (t : Int) (cs : List Clu) : Int := if bestB t cs = true then ((bestC t.toNat cs cs.length).1 : Int) else 0

/-- The clues so far without each of which, one alone, there are as many solutions. -/
noncomputable def needL (N : Nat) (cs : List Clu) (k : Nat) : List Int := ((List.range k).filter (fun j => decide (cntC N (dropC cs j) = cntC N cs))).map Int.ofNat
theorem needL_yes {N : Nat} {cs : List Clu} {k : Nat} (h : cntC N (dropC cs k) = cntC N cs) : needL N cs (k + 1) = needL N cs k ++ [(k : Int)] := by simp [needL, List.range_succ, List.filter_append, h]
theorem needL_no {N : Nat} {cs : List Clu} {k : Nat} (h : ¬ cntC N (dropC cs k) = cntC N cs) : needL N cs (k + 1) = needL N cs k := by simp [needL, List.range_succ, List.filter_append, h]
theorem needL_len (N : Nat) (cs : List Clu) (k : Nat) : (needL N cs k).length ≤ k := by
  rw [needL, List.length_map]
  exact Nat.le_trans (List.length_filter_le _ _) (by simp)

/-- Clues of a puzzle without one. -/
theorem dropC_clues {t : Int} {cs : List Clu} {k : Nat} (h : ∀ c ∈ cs, clueB t c = true) : ∀ c ∈ dropC cs k, clueB t c = true := fun c hc => by
  rcases List.mem_append.1 hc with hc | hc
  · exact h c (List.mem_of_mem_take hc)
  · exact h c (List.mem_of_mem_drop hc)
theorem cutC_clues {t : Int} {cs : List Clu} {l m : Nat} (h : ∀ c ∈ cs, clueB t c = true) : ∀ c ∈ (cs.take m).drop l, clueB t c = true := fun c hc => h c (List.mem_of_mem_take (List.mem_of_mem_drop hc))

/-- The clues that are left when each is taken out that is not wanted for the puzzle to be solved, from one on. -/
noncomputable def hardC (N : Nat) : Nat → List Clu → Nat → List Clu
  | 0, cs, _ => cs
  | f + 1, cs, k => if oneS N (dropC cs k) = true then hardC N f (dropC cs k) k else hardC N f cs (k + 1)
noncomputable def hardF (N : Nat) (cs : List Clu) (k : Nat) : List Clu := hardC N (cs.length - k) cs k
theorem hardF_end {N : Nat} {cs : List Clu} {k : Nat} (h : cs.length ≤ k) : hardF N cs k = cs := by rw [hardF, Nat.sub_eq_zero_of_le h]; rfl
theorem hardF_yes {N : Nat} {cs : List Clu} {k : Nat} (h : k < cs.length) (ho : oneS N (dropC cs k) = true) : hardF N cs k = hardF N (dropC cs k) k := by
  have h1 := dropC_length h
  rw [hardF, hardF, show cs.length - k = ((dropC cs k).length - k) + 1 by omega, hardC, if_pos ho]
theorem hardF_no {N : Nat} {cs : List Clu} {k : Nat} (h : k < cs.length) (ho : oneS N (dropC cs k) = false) : hardF N cs k = hardF N cs (k + 1) := by
  rw [hardF, hardF, show cs.length - k = (cs.length - (k + 1)) + 1 by omega, hardC, if_neg (by rw [ho]; exact Bool.false_ne_true)]
theorem hardC_len (N : Nat) : ∀ (f : Nat) (cs : List Clu) (k : Nat), k + f ≤ cs.length → (hardC N f cs k).length ≤ cs.length
  | 0, cs, k, _ => Nat.le_refl _
  | f + 1, cs, k, h => by
    rw [hardC]
    split
    · have h1 := dropC_length (cs := cs) (k := k) (by omega)
      have h2 := hardC_len N f (dropC cs k) k (by omega)
      omega
    · exact hardC_len N f cs (k + 1) (by omega)
theorem hardF_len (N : Nat) (cs : List Clu) : (hardF N cs 0).length ≤ cs.length := hardC_len N _ cs 0 (by omega)
/-- How long a list in a puzzle's block is. -/
def lenAt (w : World) (g : Nat) : Nat := match w.cell? ⟨g, 1, none⟩ with
  | some (.slice _ n _) => n
  | _ => 0
def lenS : Value → Nat
  | .slice _ n _ => n
  | _ => 0
end Go.Proofs.Ytoheoojpmndhoaa
