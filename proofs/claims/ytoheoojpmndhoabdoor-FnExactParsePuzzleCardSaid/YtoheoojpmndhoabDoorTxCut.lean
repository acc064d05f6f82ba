/-
  Numbers that a text is cut into.
  Conditions: none.
-/
import Derived.Test.YtoheoojpmndhoabDoorTxSplit
namespace Go.Proofs.YtoheoojpmndhoabDoor
set_option linter.unusedVariables false
open Go.RowKit

/-- The numbers of a text's words. -/
def numsOf (b : UInt8) (s : ByteArray) : List Int := (splitW b s).map fun x => readL x.data.toList

/-- Numbers, if there are. -/
def someL (b : Bool) (xs : List Int) : List Int := if b = true then xs else []

theorem splitW_length (b : UInt8) (s : ByteArray) : (splitW b s).length ≤ s.size + 1 := by
  have := (runSt_bd b s s.size).2
  rw [splitW, List.length_append]
  simp
  omega

theorem ownsRow_words {w : World} {base T : Nat} {v : Value} {n : Nat} {ws : List ByteArray} (h : w.ownsRow base T 1 v n (ws.map Value.string)) (hn : 0 < n) :
    ∃ g cap, v = .slice (some ⟨g, 0, none⟩) n cap ∧ base ≤ g ∧ g < w.heap.size ∧ (∀ (k : Nat) u, ws[k]? = some u → w.cell? ⟨g, k, none⟩ = some (.string u)) := by
  have hl := h.1
  have hlt := h.lt
  obtain ⟨_, h0 | ⟨g, cap, cur, rfl, hg, _⟩⟩ := id h
  · omega
  · have hown : (Value.slice (some ⟨g, 0, none⟩) n cap).ownBlock = some g := rfl
    refine ⟨g, cap, rfl, hg, (hlt g hown).2, fun k u hu => ?_⟩
    have hk := (List.getElem?_eq_some_iff.1 hu).1
    rw [h.cellAt k (by simp at hl; omega), List.getElem?_map, hu]
    rfl

theorem int_one (x : Int) : ∀ u ∈ [Value.int .i64 x], u.oneCell' = true := by
  intro u hu
  obtain rfl := List.mem_singleton.1 hu
  rfl

theorem cut_size (b : UInt8) (s : ByteArray) : ∀ x ∈ splitW b s, x.size ≤ s.size := by
  have hgen : ∀ k, k ≤ s.size → ∀ x ∈ (runSt b s k).1, x.size ≤ s.size := by
    intro k
    induction k with
    | zero => intro _ x hx; cases hx
    | succ k ih =>
      intro hk x hx
      rw [runSt, stepSt] at hx
      split at hx
      · rcases List.mem_append.1 hx with hx | hx
        · exact ih (by omega) x hx
        · obtain rfl := List.mem_singleton.1 hx
          rw [ByteArray.size_extract]
          omega
      · exact ih (by omega) x hx
  intro x hx
  rcases List.mem_append.1 hx with hx | hx
  · exact hgen _ (Nat.le_refl _) x hx
  · obtain rfl := List.mem_singleton.1 hx
    rw [ByteArray.size_extract]
    omega
end Go.Proofs.YtoheoojpmndhoabDoor
