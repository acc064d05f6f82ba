/-
  The library's deletion of one number from a list that a call has made.
  Conditions: lists of at most 1048576 numbers.
-/
import Derived.Test.YtjpejhpilfjheabShelfDel
import Derived.Test.YtjpejhpilfjheabArr
import Derived.Test.YtjpejhpilfjheabSuQ
import Derived.Lib.OwnBridge
namespace Go.Proofs.Ytjpejhpilfjheab
set_option linter.unusedVariables false
open Go.RowKit Go.Sort

theorem only_putRow (w : World) (g q : Nat) (d : Array Int) : Only (fun b => b = g) w (putRow (Value.int .i64) (Sort.ahead w q) g 0 d) :=
  ⟨rfl, rfl, rfl, by simp [putRow, mapBlock, Sort.ahead], fun k _ hk => by simp [putRow, mapBlock, Sort.ahead, Array.getElem?_modify, show g ≠ k from fun e => hk e.symm]⟩

theorem delete_any (g n c base i : Nat) (xs : List Int) (w : World) (hown : w.ownsRow base 3 1 (.slice (some ⟨g, 0, none⟩) n c) n (xs.map (Value.int .i64))) (hi : i < n) :
    Calls Try.prog 51 #[.slice (some ⟨g, 0, none⟩) n c, .int .i64 (i : Int), .int .i64 ((i : Int) + 1)] w fun e w' => e = .returned (.slice (some ⟨g, 0, none⟩) (n - 1) c) ∧
      w'.ownsRow base 3 1 (.slice (some ⟨g, 0, none⟩) (n - 1) c) (n - 1) ((restX xs i).map (Value.int .i64)) ∧ Only (fun b => b = g) w w' := by
  obtain ⟨g', cap, e0, hg, hlt, hnc, hmx, hl, hH⟩ := Lib.holds_of_ownsRow (enc := Value.int .i64) hown (by intro e; cases e)
  obtain ⟨rfl, rfl⟩ : g = g' ∧ c = cap := by injection e0 with a _ b; injection a with a; injection a with a; exact ⟨a, b⟩
  have hm : maxLen ≤ 9223372036854775807 := by decide
  have h := Any.slices_Delete_int laysDelete g 0 c i (i + 1) xs w hH (by omega) (by omega) (by omega) (by omega)
  rw [hl, show n - (i + 1 - i) = n - 1 by omega, show i + 1 - i = 1 by omega, Int.natCast_add] at h
  refine Calls.mono (show Calls Try.prog 51 #[.slice (some ⟨g, 0, none⟩) n c, .int .i64 (i : Int), .int .i64 ((i : Int) + 1)] w _ from h) ?_
  rintro e w' ⟨rfl, q, rfl⟩
  have hr := Lib.ownsRow_putRow (q := q) (k := n - 1) (ys := xs.take i ++ xs.drop (i + 1) ++ List.replicate 1 0) hown (by simp; omega) (by omega)
  have ht : (xs.take i ++ xs.drop (i + 1) ++ List.replicate 1 0).take (n - 1) = restX xs i := by
    rw [List.take_append_of_le_length (by simp; omega), List.take_of_length_le (by simp; omega), restX]
  rw [ht] at hr
  exact ⟨rfl, hr, only_putRow _ _ _ _⟩
end Go.Proofs.Ytjpejhpilfjheab
