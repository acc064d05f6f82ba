/-
  Rows of clues that a call has built; a part of a list of clues.
  Conditions: none.
-/
import Derived.Test.YtoheoojpmndhoabDoorQuadM
import Derived.Test.YtoheoojpmndhoabDoorMem
import Derived.Test.YtoheoojpmndhoabDoorRowI
namespace Go.Proofs.YtoheoojpmndhoabDoor
set_option linter.unusedVariables false
set_option linter.unusedSimpArgs false
open Go.RowKit

theorem clue_infoI : (Tryd.prog.info? 44).map (fun i => (i.zero, i.size, i.bytes)) = some (some (.agg #[.int .i64 0, .int .i64 0, .int .i64 0, .int .i64 0]), 4, 32) := by kernel_rfl

/-- A row that a call has built begins so. -/
theorem row_of_owns4 {w : World} {base T n : Nat} {v : Value} {ys : List Int} (h : w.ownsRow base T 4 v n (ys.map (Value.int .i64))) (hn : 0 < n) :
    ∃ g cap N, v = .slice (some ⟨g, 0, none⟩) n cap ∧ base ≤ g ∧ n ≤ cap ∧ Row w g T N ys := by
  obtain ⟨hl, h0 | ⟨g, cap, cur, hv, hg, hb, hnc, _, hs, ht⟩⟩ := h
  · omega
  · refine ⟨g, cap, _, hv, hg, hnc, cur, hb, rfl, fun j u hu => ?_⟩
    have hj := (List.getElem?_eq_some_iff.1 hu).1
    simp at hl
    rw [← Array.getElem?_toList]
    have e : (cur.toList.take (n * 4))[j]? = cur.toList[j]? := List.getElem?_take_of_lt (by omega)
    rw [← e, ht, List.getElem?_map, hu]
    rfl

/-- The values of clues in memory. -/
def vals4 (bs : List Clu) : List Value := (flat4 bs).map (Value.int .i64)
theorem vals4_append (xs ys : List Clu) : vals4 (xs ++ ys) = vals4 xs ++ vals4 ys := by simp [vals4, flat4_append]
theorem vals4_length (bs : List Clu) : (vals4 bs).length = bs.length * 4 := by simp [vals4, flat4_length]

/-- A row of clues reads as them. -/
theorem seg_of_row4 {w : World} {base T n : Nat} {v : Value} {bs : List Clu} (h : w.ownsRow base T 4 v n (vals4 bs)) :
    ∃ A c, v = .slice A n c ∧ bs.length = n ∧ n ≤ c ∧ Own w base w.heap.size A (flat4 bs) := by
  have hl := h.1
  rw [vals4_length] at hl
  rcases Nat.eq_zero_or_pos n with hn | hn
  · subst hn
    have hb : bs = [] := List.eq_nil_of_length_eq_zero (by omega)
    subst hb
    obtain ⟨_, ⟨hv, _⟩ | ⟨g, cap, cur, hv, _⟩⟩ := h
    · exact ⟨none, 0, hv, rfl, Nat.le_refl _, .inl rfl⟩
    · exact ⟨_, cap, hv, rfl, Nat.zero_le _, .inl rfl⟩
  · obtain ⟨g, cap, N, hv, hg, hc, hrow⟩ := row_of_owns4 h hn
    exact ⟨_, cap, hv, by omega, hc, hrow.own hg hrow.lt⟩

/-- A puzzle and a bool are answered; its clues lie in new memory of their own. -/
def RetU (b : Bool) (t : Int) (bs : List Clu) (w : World) (e : Ending) (w' : World) : Prop :=
  ∃ A n c, e = .returned (.tuple #[pzV t A n c, .bool b]) ∧ bs.length = n ∧ Own w' w.heap.size w'.heap.size A (flat4 bs) ∧ Below w.heap.size w w'

/-- Clues, if there are. -/
def listU (p : Bool) (bs : List Clu) : List Clu := if p = true then bs else []
theorem listU_no (bs : List Clu) : (listU false bs).length ≤ 1048576 := by simp [listU]
theorem listU_yes {bs : List Clu} (h : bs.length ≤ 1048576) : (listU true bs).length ≤ 1048576 := by simpa [listU] using h
def intU (p : Bool) (t : Int) : Int := if p = true then t else 0

/-- A slice of clues from one on up to another one. -/
def cutV (A : Option Addr) (c lo : Nat) : Option Addr := if c = lo then A else A.map (·.add (lo * 4))

theorem cut_seg {w : World} {l h : Nat} {A : Option Addr} {cs : List Clu} (hs : Seg w l h A (flat4 cs)) (c lo hi : Nat) (h1 : lo ≤ hi) (h2 : hi ≤ cs.length) (h3 : hi ≤ c) : Seg w l h (cutV A c lo) (flat4 ((cs.take hi).drop lo)) := by
  by_cases he : lo = hi
  · subst he
    have : (cs.take lo).drop lo = [] := by rw [List.drop_eq_nil_iff]; simp; omega
    rw [this]
    exact .inl rfl
  · rcases hs with hs | ⟨b, off, rfl, h4, h5, hc⟩
    · have := flat4_nil hs; subst this; simp at h2; omega
    · refine .inr ⟨b, off + lo * 4, by unfold cutV; rw [if_neg (by omega)]; simp [Addr.add], h4, h5, fun k hk => ?_⟩
      have hlen : (flat4 ((cs.take hi).drop lo)).length = (hi - lo) * 4 := by rw [flat4_length]; simp; omega
      rw [hlen] at hk
      rw [Nat.add_assoc, hc (lo * 4 + k) (by rw [flat4_length]; omega)]
      have e : (flat4 ((cs.take hi).drop lo)).getD k 0 = (flat4 cs).getD (lo * 4 + k) 0 := by
        rw [flat4_drop, flat4_take]
        simp only [List.getD, List.getElem?_drop]
        rw [List.getElem?_take_of_lt (by omega)]
      rw [e]

theorem cut_to (A : Option Addr) (n c hi : Nat) (h1 : hi ≤ c) (W : World) : (Instr.sliceAt 28 (.slice A n c) none (some (.int .i64 (hi : Int))) none).run Tryd.prog W = .ok (.slice A hi c) W := by
  have ht : Tryd.prog.underlying 28 = some (.slice (Tryd.prog.elem 28)) := by kernel_rfl
  have hs : (sizeOf (Tryd.prog.elem 28)).run Tryd.prog W = .ok 4 W := by kernel_rfl
  rw [run_sliceAt_slice _ _ _ _ _ _ ht, run_slice_h _ _ _ _ _ ht .i64 _ (by omega) (by omega), hs]
  cases A <;> simp [Result.andThen, sliced, Addr.add]

theorem cut_from (A : Option Addr) (n c lo : Nat) (h1 : lo ≤ n) (W : World) : (Instr.sliceAt 28 (.slice A n c) (some (.int .i64 (lo : Int))) none none).run Tryd.prog W = .ok (.slice (cutV A c lo) (n - lo) (c - lo)) W := by
  have ht : Tryd.prog.underlying 28 = some (.slice (Tryd.prog.elem 28)) := by kernel_rfl
  have hs : (sizeOf (Tryd.prog.elem 28)).run Tryd.prog W = .ok 4 W := by kernel_rfl
  rw [run_sliceAt_slice _ _ _ _ _ _ ht, run_slice_l _ _ _ _ _ ht .i64 _ (by omega) (by omega), hs]
  simp [Result.andThen, sliced, cutV]

theorem cut_max (A : Option Addr) (n c lo hi : Nat) (h1 : lo ≤ hi) (h2 : hi ≤ c) (W : World) : (Instr.sliceAt 28 (.slice A n c) (some (.int .i64 (lo : Int))) (some (.int .i64 (hi : Int))) (some (.int .i64 (hi : Int)))).run Tryd.prog W = .ok (.slice (cutV A hi lo) (hi - lo) (hi - lo)) W := by
  have ht : Tryd.prog.underlying 28 = some (.slice (Tryd.prog.elem 28)) := by kernel_rfl
  have hs : (sizeOf (Tryd.prog.elem 28)).run Tryd.prog W = .ok 4 W := by kernel_rfl
  rw [run_sliceAt_slice _ _ _ _ _ _ ht, run_slice_lhm _ _ _ _ _ ht .i64 .i64 .i64 _ _ _ (by omega) (by omega) (by omega) (by omega), hs]
  simp [Result.andThen, sliced, cutV]
end Go.Proofs.YtoheoojpmndhoabDoor
