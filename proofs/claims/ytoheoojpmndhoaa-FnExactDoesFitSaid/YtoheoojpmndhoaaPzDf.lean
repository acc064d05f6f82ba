/-
  Whether hidden things fit a clue, by both programs.
  Conditions: none.
-/
import Derived.Test.YtoheoojpmndhoaaPzF
namespace Go.Proofs.Ytoheoojpmndhoaa
set_option linter.unusedVariables false
set_option linter.unusedSimpArgs false
open Go.RowKit

/-- Hidden things, and a clue of so many. -/
def dfB (k a b c' : Int) (xs : List Int) : Bool := hidB xs && clK k (xs.length : Int) a b c'
noncomputable def dfV (k a b c' : Int) (xs : List Int) : Bool := dfB k a b c' xs && decide (toldK k a b xs = c')

set_option maxHeartbeats 1000000 in
theorem spec_DoesFit (A : Option Addr) (n c : Nat) (k a b c' : Int) (xs : List Int) (lo hi : Nat) (w : World) (hn : xs.length = n) (hlen : n ≤ 1048576) (hs : Seg w lo hi A xs) (hB : hi ≤ w.heap.size) (q : Bool) (hq : dfB k a b c' xs = q) (p : Bool) (hp : dfV k a b c' xs = p) :
    Calls Try.prog 26 #[clV (k, a, b, c'), .slice A n c] w (RetBB p q w) := by
  obtain ⟨u, hu⟩ : ∃ u, hidB xs = u := ⟨_, rfl⟩
  obtain ⟨v, hv⟩ : ∃ v, clK k (n : Int) a b c' = v := ⟨_, rfl⟩
  have hqq : q = (u && v) := by rw [← hq, dfB, hu, hn, hv]
  obtain ⟨r, hr⟩ : ∃ r, decide (toldK k a b xs = c') = r := ⟨_, rfl⟩
  have hpp : p = ((u && v) && r) := by rw [← hp, dfV, hq, hqq, hr]
  have hvo : v = true → ValOk (n : Int) k a b := fun h => ValOk.of_clue (c := (k, a, b, c')) (by rw [← h, ← hv]; rfl)
  obtain ⟨W, hW⟩ : ∃ W, w.alloc (.cells #[.int .i64 k, .int .i64 a, .int .i64 b, .int .i64 c'] 25) = W := ⟨_, rfl⟩
  have z0 : Below w.heap.size w W := by rw [← hW]; exact (Below.refl _ _).alloc (Nat.le_refl _) _
  have p0 : W.heap[w.heap.size]? = some (.cells #[.int .i64 k, .int .i64 a, .int .i64 b, .int .i64 c'] 25 (0, 0)) := by rw [← hW]; exact new_at _ _ rfl
  have hsz := heap_lt p0
  have sW := hs.below z0 hB
  have HW := Lib.hid hW
  have HN := Lib.hid hn
  have HU := Lib.hid hu
  have HV := Lib.hid hv
  have HR := Lib.hid hr
  have HO := Lib.hid hvo
  clear hW hn hu hv hr hq hp hvo
  subst hqq hpp
  go_enter Try.func26, Try.ntmps26
  go_wp2_with fail
  rw [HW.out]
  refine (pzHidden_any _ _ _ xs lo hi _ HN.out hlen sW u HU.out).mono ?_
  rintro e v1 ⟨rfl, rfl⟩
  have y1 := z0
  have p1 := p0
  have q0 := cell_of p1 0
  have q1 := cell_of p1 1
  have q2 := cell_of p1 2
  have q3 := cell_of p1 3
  simp only [List.getElem?_toArray, List.getElem?_cons_zero, List.getElem?_cons_succ] at q0 q1 q2 q3
  cases u
  · go_wp2
    go_ret2
    exact ⟨by simp, y1⟩
  · go_wp2_with fail
    refine (pzClue_any (n : Int) k a b c' (by omega) _).mono ?_
    rintro e v2 ⟨he, hb2⟩
    rw [HV.out] at he
    have hz2 := hb2.size
    have y2 := y1.trans (hb2.mono y1.size)
    have p2 := (hb2.block _ (by omega)).trans p1
    clear q0 q1 q2 q3
    have q0 := cell_of p2 0
    have q1 := cell_of p2 1
    have q2 := cell_of p2 2
    have q3 := cell_of p2 3
    simp only [List.getElem?_toArray, List.getElem?_cons_zero, List.getElem?_cons_succ] at q0 q1 q2 q3
    subst he
    cases v
    · go_wp2
      go_ret2
      exact ⟨by simp, y2⟩
    · go_wp2_with fail
      refine (pzFits_any A n c k a b c' xs lo hi _ HN.out HU.out (by first | exact HO.out trivial | exact HO.out rfl) (hs.below y2 hB) (by omega) r HR.out).mono ?_
      rintro e v3 ⟨rfl, hb3⟩
      go_wp2
      go_ret2
      exact ⟨by simp, y2.trans (hb3.mono y2.size)⟩

set_option maxHeartbeats 1000000 in
theorem impl_DoesFit (A : Option Addr) (n c : Nat) (k a b c' : Int) (xs : List Int) (lo hi : Nat) (w : World) (hn : xs.length = n) (hlen : n ≤ 1048576) (hs : Seg w lo hi A xs) (hB : hi ≤ w.heap.size) (q : Bool) (hq : dfB k a b c' xs = q) (p : Bool) (hp : dfV k a b c' xs = p) :
    Calls Try.prog 28 #[clV (k, a, b, c'), .slice A n c] w (RetBB p q w) := by
  obtain ⟨u, hu⟩ : ∃ u, hidB xs = u := ⟨_, rfl⟩
  obtain ⟨v, hv⟩ : ∃ v, clK k (n : Int) a b c' = v := ⟨_, rfl⟩
  have hqq : q = (u && v) := by rw [← hq, dfB, hu, hn, hv]
  obtain ⟨r, hr⟩ : ∃ r, decide (toldK k a b xs = c') = r := ⟨_, rfl⟩
  have hpp : p = ((u && v) && r) := by rw [← hp, dfV, hq, hqq, hr]
  have hvo : v = true → ValOk (n : Int) k a b := fun h => ValOk.of_clue (c := (k, a, b, c')) (by rw [← h, ← hv]; rfl)
  obtain ⟨W, hW⟩ : ∃ W, w.alloc (.cells #[.int .i64 k, .int .i64 a, .int .i64 b, .int .i64 c'] 25) = W := ⟨_, rfl⟩
  have z0 : Below w.heap.size w W := by rw [← hW]; exact (Below.refl _ _).alloc (Nat.le_refl _) _
  have p0 : W.heap[w.heap.size]? = some (.cells #[.int .i64 k, .int .i64 a, .int .i64 b, .int .i64 c'] 25 (0, 0)) := by rw [← hW]; exact new_at _ _ rfl
  have hsz := heap_lt p0
  have sW := hs.below z0 hB
  have HW := Lib.hid hW
  have HN := Lib.hid hn
  have HU := Lib.hid hu
  have HV := Lib.hid hv
  have HR := Lib.hid hr
  have HO := Lib.hid hvo
  clear hW hn hu hv hr hq hp hvo
  subst hqq hpp
  go_enter Try.func28, Try.ntmps28
  go_wp2_with fail
  rw [HW.out]
  refine (areHidden_any _ _ _ xs lo hi _ HN.out hlen sW (by omega) u HU.out).mono ?_
  rintro e v1 ⟨rfl, hb1⟩
  have hz1 := hb1.size
  have y1 := z0.trans (hb1.mono z0.size)
  have p1 := (hb1.block _ hsz).trans p0
  have q0 := cell_of p1 0
  have q1 := cell_of p1 1
  have q2 := cell_of p1 2
  have q3 := cell_of p1 3
  simp only [List.getElem?_toArray, List.getElem?_cons_zero, List.getElem?_cons_succ] at q0 q1 q2 q3
  cases u
  · go_wp2
    go_ret2
    exact ⟨by simp, y1⟩
  · go_wp2_with fail
    refine (isNoneOf_any (n : Int) k a b c' (by have h := hidB_at HU.out; rw [HN.out] at h; omega) _).mono ?_
    rintro e v2 ⟨he, hb2⟩
    rw [HV.out] at he
    have hz2 := hb2.size
    have y2 := y1.trans (hb2.mono y1.size)
    have p2 := (hb2.block _ (by omega)).trans p1
    clear q0 q1 q2 q3
    have q0 := cell_of p2 0
    have q1 := cell_of p2 1
    have q2 := cell_of p2 2
    have q3 := cell_of p2 3
    simp only [List.getElem?_toArray, List.getElem?_cons_zero, List.getElem?_cons_succ] at q0 q1 q2 q3
    subst he
    cases v
    · go_wp2
      go_ret2
      exact ⟨by simp, y2⟩
    · go_wp2_with fail
      refine (clueFits_any A n c k a b c' xs lo hi _ HN.out HU.out (by first | exact HO.out trivial | exact HO.out rfl) (hs.below y2 hB) (by omega) r HR.out).mono ?_
      rintro e v3 ⟨rfl, hb3⟩
      go_wp2
      go_ret2
      exact ⟨by simp, y2.trans (hb3.mono y2.size)⟩
end Go.Proofs.Ytoheoojpmndhoaa
