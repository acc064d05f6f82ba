/-
  How many solutions a puzzle has, by both programs.
  Conditions: none.
-/
import Derived.Test.YtoheoojpmndhoaaPzQ
import Derived.Test.YtoheoojpmndhoaaItS2
import Derived.Test.YtoheoojpmndhoaaPzP2
namespace Go.Proofs.Ytoheoojpmndhoaa
set_option linter.unusedVariables false
set_option linter.unusedSimpArgs false
open Go.RowKit

noncomputable def cntN (t : Int) (cs : List Clu) : Int := if puzB t cs = true then ((solF toldV t.toNat cs).length : Int) else 0

set_option maxHeartbeats 1000000 in
theorem spec_CountSolutions (t : Int) (A : Option Addr) (n c : Nat) (cs : List Clu) (lo hi : Nat) (w : World) (hn : cs.length = n) (hlen : n ≤ 1048576) (hs : Seg w lo hi A (flat4 cs)) (hB : hi ≤ w.heap.size) (q : Bool) (hq : puzB t cs = q) (d : Int) (hd : cntN t cs = d) :
    Calls Try.prog 36 #[pzV t A n c] w fun e w' => e = .returned (.tuple #[.int .i64 d, .bool q]) ∧ Below w.heap.size w w' := by
  obtain ⟨W, hW⟩ : ∃ W, w.alloc (.cells #[.int .i64 t, .slice A n c] 35) = W := ⟨_, rfl⟩
  have z0 : Below w.heap.size w W := by rw [← hW]; exact (Below.refl _ _).alloc (Nat.le_refl _) _
  have p0 : W.heap[w.heap.size]? = some (.cells #[.int .i64 t, .slice A n c] 35 (0, 0)) := by rw [← hW]; exact new_at _ _ rfl
  have hsz := heap_lt p0
  have sW := hs.below z0 hB
  have HW := Lib.hid hW
  have HN := Lib.hid hn
  have HQ := Lib.hid hq
  have HD := Lib.hid hd
  clear hW hn hq hd
  have q0 := cell_of p0 0
  have q1 := cell_of p0 1
  simp only [List.getElem?_toArray, List.getElem?_cons_zero, List.getElem?_cons_succ] at q0 q1
  go_enter Try.func36, Try.ntmps36
  go_wp2_with fail
  rw [HW.out]
  refine (pzGood_Q t A n c cs lo hi _ HN.out hlen sW (by omega) q HQ.out).mono ?_
  rintro e v1 ⟨rfl, hb1⟩
  have hz1 := hb1.size
  have y1 := z0.trans (hb1.mono (by omega))
  have p1 := (hb1.block _ hsz).trans p0
  have s1 := sW.below hb1 (by omega)
  clear q0 q1
  have q0 := cell_of p1 0
  have q1 := cell_of p1 1
  simp only [List.getElem?_toArray, List.getElem?_cons_zero, List.getElem?_cons_succ] at q0 q1
  cases q
  · obtain rfl : d = 0 := by rw [← HD.out, cntN, HQ.out]; rfl
    go_wp2
    go_ret2
    exact ⟨by simp, y1⟩
  · obtain ⟨⟨t1, t2⟩, h6, hcl⟩ := puzB_true.1 HQ.out
    obtain ⟨N, rfl⟩ : ∃ N : Nat, t = (N : Int) := ⟨t.toNat, by omega⟩
    have hd2 : d = ((solF toldV N cs).length : Int) := by rw [← HD.out, cntN, if_pos HQ.out]; rfl
    subst hd2
    go_wp2_with fail
    refine (pzAll_any A n c cs N lo hi _ (by omega) HN.out hlen hcl s1 (by omega)).mono ?_
    rintro e v2 ⟨v, vs, rfl, hr, hb2⟩
    obtain ⟨A', c', rfl⟩ := hr.form
    have y2 := y1.trans (hb2.mono y1.size)
    go_wp2
    go_ret2
    exact ⟨by simp, y2⟩

set_option maxHeartbeats 1000000 in
theorem impl_CountSolutions (t : Int) (A : Option Addr) (n c : Nat) (cs : List Clu) (lo hi : Nat) (w : World) (hn : cs.length = n) (hlen : n ≤ 1048576) (hs : Seg w lo hi A (flat4 cs)) (hB : hi ≤ w.heap.size) (q : Bool) (hq : puzB t cs = q) (d : Int) (hd : cntN t cs = d) :
    Calls Try.prog 37 #[pzV t A n c] w fun e w' => e = .returned (.tuple #[.int .i64 d, .bool q]) ∧ Below w.heap.size w w' := by
  obtain ⟨W, hW⟩ : ∃ W, w.alloc (.cells #[.int .i64 t, .slice A n c] 35) = W := ⟨_, rfl⟩
  have z0 : Below w.heap.size w W := by rw [← hW]; exact (Below.refl _ _).alloc (Nat.le_refl _) _
  have p0 : W.heap[w.heap.size]? = some (.cells #[.int .i64 t, .slice A n c] 35 (0, 0)) := by rw [← hW]; exact new_at _ _ rfl
  have hsz := heap_lt p0
  have sW := hs.below z0 hB
  have HW := Lib.hid hW
  have HN := Lib.hid hn
  have HQ := Lib.hid hq
  have HD := Lib.hid hd
  clear hW hn hq hd
  have q0 := cell_of p0 0
  have q1 := cell_of p0 1
  simp only [List.getElem?_toArray, List.getElem?_cons_zero, List.getElem?_cons_succ] at q0 q1
  go_enter Try.func37, Try.ntmps37
  go_wp2_with fail
  rw [HW.out]
  refine (impl_IsPuzzleQ t A n c cs lo hi _ HN.out hlen sW (by omega) q HQ.out).mono ?_
  rintro e v1 ⟨rfl, hb1⟩
  have hz1 := hb1.size
  have y1 := z0.trans (hb1.mono (by omega))
  have p1 := (hb1.block _ hsz).trans p0
  have s1 := sW.below hb1 (by omega)
  clear q0 q1
  have q0 := cell_of p1 0
  have q1 := cell_of p1 1
  simp only [List.getElem?_toArray, List.getElem?_cons_zero, List.getElem?_cons_succ] at q0 q1
  cases q
  · obtain rfl : d = 0 := by rw [← HD.out, cntN, HQ.out]; rfl
    go_wp2
    go_ret2
    exact ⟨by simp, y1⟩
  · obtain ⟨⟨t1, t2⟩, h6, hcl⟩ := puzB_true.1 HQ.out
    obtain ⟨N, rfl⟩ : ∃ N : Nat, t = (N : Int) := ⟨t.toNat, by omega⟩
    have hd2 : d = ((solF toldV N cs).length : Int) := by rw [← HD.out, cntN, if_pos HQ.out]; rfl
    subst hd2
    go_wp2_with fail
    refine (countSolutions_any N A n c cs lo hi _ (by omega) HN.out hlen hcl s1 (by omega)).mono ?_
    rintro e v2 ⟨rfl, hb2⟩
    have y2 := y1.trans (hb2.mono y1.size)
    go_wp2
    go_ret2
    exact ⟨by simp, y2⟩
end Go.Proofs.Ytoheoojpmndhoaa
