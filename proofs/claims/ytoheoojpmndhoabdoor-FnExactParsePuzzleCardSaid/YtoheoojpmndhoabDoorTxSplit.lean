/-
  The checking program's words of a text: cut at each of a sign.
  Conditions: the text has at most 1048576 bytes.
-/
import Derived.Test.YtoheoojpmndhoabDoorTxRead
import Derived.Test.YtoheoojpmndhoabDoorTxJoin
namespace Go.Proofs.YtoheoojpmndhoabDoor
set_option linter.unusedVariables false
open Go.RowKit

/-- One byte of the way: the words so far, and where the next begins. -/
def stepSt (b : UInt8) (s : ByteArray) (k : Nat) (st : List ByteArray × Nat) : List ByteArray × Nat :=
  if s.data.toList[k]? = some b then (st.1 ++ [s.extract st.2 k], k + 1) else st
def runSt (b : UInt8) (s : ByteArray) : Nat → List ByteArray × Nat
  | 0 => ([], 0)
  | k + 1 => stepSt b s k (runSt b s k)
/-- The words. -/
def splitW (b : UInt8) (s : ByteArray) : List ByteArray := (runSt b s s.size).1 ++ [s.extract (runSt b s s.size).2 s.size]

theorem runSt_bd (b : UInt8) (s : ByteArray) (k : Nat) : (runSt b s k).2 ≤ k ∧ (runSt b s k).1.length ≤ k := by
  induction k with
  | zero => exact ⟨Nat.le_refl _, Nat.le_refl _⟩
  | succ k ih =>
    rw [runSt, stepSt]
    split
    · exact ⟨Nat.le_refl _, by simp; omega⟩
    · exact ⟨by omega, by omega⟩

/-- Words in new memory of their own. -/
def RetW (ws : List ByteArray) (w : World) (e : Ending) (w' : World) : Prop :=
  ∃ v, e = .returned v ∧ w'.ownsRow w.heap.size 9 1 v ws.length (ws.map Value.string) ∧ Below w.heap.size w w'

theorem str_one (x : ByteArray) : ∀ u ∈ [Value.string x], u.oneCell' = true := by
  intro u hu
  obtain rfl := List.mem_singleton.1 hu
  rfl

set_option maxRecDepth 100000 in
set_option maxHeartbeats 2000000 in
theorem l1Split_any (b : UInt8) (s : ByteArray) (w : World) (hmax : s.size ≤ 1048576) :
    Calls Tryd.prog 38 #[.string s, .int .u8 (b.toNat : Int)] w (RetW (splitW b s) w) := by
  obtain ⟨i0, hi0, hz0, hz1, hz2⟩ := info_parts str_info
  have hsl : s.data.toList.length = s.size := by rw [Array.length_toList]; rfl
  go_enter Tryd.func38, Tryd.ntmps38
  go_wp2
  go_loopw [5, 6, 7] (fun v f i wr => ∃ k : Nat, k ≤ s.size ∧ i = .int .i64 k ∧ f = .int .i64 ((runSt b s k).2 : Nat) ∧ Below w.heap.size w wr ∧ wr.ownsRow w.heap.size 9 1 v (runSt b s k).1.length ((runSt b s k).1.map Value.string)) (fun _ _ i _ => s.size - (intOf i).toNat)
  case atStart => exact ⟨0, Nat.zero_le _, rfl, rfl, Below.refl _ _, World.ownsRow_nil _ _ _ _⟩
  case round =>
    obtain ⟨k, hk, rfl, rfl, hb, hown⟩ := hrel
    have hbd := runSt_bd b s k
    have hz := hb.size
    by_cases hlt : k < s.size
    · obtain ⟨c, hc⟩ : ∃ c, s.data.toList[k]? = some c := ⟨_, List.getElem?_eq_getElem (by omega)⟩
      have hik := idx_at s hc
      by_cases he : c = b
      · subst he
        have hst : runSt c s (k + 1) = ((runSt c s k).1 ++ [s.extract (runSt c s k).2 k], k + 1) := by rw [runSt, stepSt, if_pos hc]
        have HST := Lib.hid hst
        generalize hR : runSt c s k = R at *
        obtain ⟨ws, f⟩ := R
        dsimp only at hbd hown HST ⊢
        have hf := hbd.1
        have hl := hbd.2
        have HR := Lib.hid hR
        clear hst hR hc hbd
        go_wp2_with (at_builtin; refine wpList_append_own _ rfl _ _ 62 rfl w.heap.size 9 i0 (.string ⟨#[]⟩) 1 16 Tryd.underlying62 hi0 hz0 hz1 hz2 rfl (by decide) _ _ _ rfl (hown.alloc _) ⟨wr.heap.size, 0, none⟩ 1 1 [.string (s.extract f k)] rfl rfl (one_new _ _ _) (str_one _) (by unfold maxLen; omega) (by omega) (by simp; omega) ?_; intro v' w2 hown2 hgrow2 _)
        have HOW := Lib.hid (show w2.ownsRow w.heap.size 9 1 v' (runSt c s (k + 1)).1.length ((runSt c s (k + 1)).1.map Value.string) by rw [HST.out]; simpa using hown2)
        have HF := Lib.hid (show (runSt c s (k + 1)).2 = k + 1 by rw [HST.out])
        have HBB := Lib.hid ((hb.alloc hz (.cells #[.string (s.extract f k)] 9)).grown hgrow2 (by simp; omega) (fun g hg => (hown.lt g hg).1))
        clear hown2 hgrow2
        go_roundw
        case rel => exact ⟨k + 1, by omega, by go_num, by rw [HF.out]; (try go_num), HBB.out, HOW.out⟩
        case measure => simp [intOf]; omega
      · have hst : runSt b s (k + 1) = runSt b s k := by
          rw [runSt, stepSt, if_neg]
          rw [hc]
          intro h
          injection h with h
          exact he h
        have hne : ¬ ((c.toNat : Int) = (b.toNat : Int)) := fun h => he (UInt8.toNat_inj.1 (by omega))
        have HOW := Lib.hid (show wr.ownsRow w.heap.size 9 1 u5 (runSt b s (k + 1)).1.length ((runSt b s (k + 1)).1.map Value.string) by rw [hst]; exact hown)
        have HF := Lib.hid (show (runSt b s (k + 1)).2 = (runSt b s k).2 by rw [hst])
        clear hst hown hc
        go_wp2
        go_roundw
        case rel => exact ⟨k + 1, by omega, by go_num, by rw [HF.out], hb, HOW.out⟩
        case measure => simp [intOf]; omega
    · obtain rfl : k = s.size := by omega
      have HW := Lib.hid (show splitW b s = (runSt b s s.size).1 ++ [s.extract (runSt b s s.size).2 s.size] from rfl)
      generalize hR : runSt b s s.size = R at *
      obtain ⟨ws, f⟩ := R
      dsimp only at hbd hown HW ⊢
      have hf := hbd.1
      have hl := hbd.2
      have HR := Lib.hid hR
      clear hR hbd
      go_wp2_with (at_builtin; refine wpList_append_own _ rfl _ _ 62 rfl w.heap.size 9 i0 (.string ⟨#[]⟩) 1 16 Tryd.underlying62 hi0 hz0 hz1 hz2 rfl (by decide) _ _ _ rfl (hown.alloc _) ⟨wr.heap.size, 0, none⟩ 1 1 [.string (s.extract f s.size)] rfl rfl (one_new _ _ _) (str_one _) (by unfold maxLen; omega) (by omega) (by simp; omega) ?_; intro v' w2 hown2 hgrow2 _)
      have HOW := Lib.hid (show w2.ownsRow w.heap.size 9 1 v' (splitW b s).length ((splitW b s).map Value.string) by rw [HW.out]; simpa using hown2)
      have HBB := Lib.hid ((hb.alloc hz (.cells #[.string (s.extract f s.size)] 9)).grown hgrow2 (by simp; omega) (fun g hg => (hown.lt g hg).1))
      clear hown2 hgrow2
      go_ret
      exact ⟨_, rfl, HOW.out, HBB.out⟩
end Go.Proofs.YtoheoojpmndhoabDoor
