/-
  Whether a puzzle is solved by one list alone, by both programs.
  Conditions: none.
-/
import Derived.Test.YtoheoojpmndhoaaPzCs
namespace Go.Proofs.Ytoheoojpmndhoaa
set_option linter.unusedVariables false
set_option linter.unusedSimpArgs false
open Go.RowKit

noncomputable def oneS (N : Nat) (cs : List Clu) : Bool := decide ((solF toldV N cs).length = 1)
noncomputable def slvB (t : Int) (cs : List Clu) : Bool := puzB t cs && oneS t.toNat cs

set_option maxHeartbeats 400000 in
theorem pzSolved_any (A : Option Addr) (n c : Nat) (cs : List Clu) (N : Nat) (lo hi : Nat) (w : World) (hN : N = 2 ∨ N = 3 ∨ N = 4) (hn : cs.length = n) (hlen : n ≤ 1048576) (hcl : ∀ c ∈ cs, clueB (N : Int) c = true) (hs : Seg w lo hi A (flat4 cs)) (hB : hi ≤ w.heap.size) (b : Bool) (hb : oneS N cs = b) :
    Calls Try.prog 79 #[.int .i64 (N : Int), .slice A n c] w fun e w' => e = .returned (.bool b) ∧ Below w.heap.size w w' := by
  go_enter Try.func79, Try.ntmps79
  go_wp2_with fail
  refine (pzAll_any A n c cs N lo hi _ hN hn hlen hcl hs hB).mono ?_
  rintro e v2 ⟨v, vs, rfl, hr, hb2⟩
  obtain ⟨A', c', rfl⟩ := hr.form
  obtain ⟨m, hm⟩ : ∃ m, (solF toldV N cs).length = m := ⟨_, rfl⟩
  rw [oneS, hm] at hb
  rw [hm]
  have he : ((m : Int) == 1) = b := by rw [← hb]; by_cases h : m = 1 <;> simp [h]; omega
  clear hr hm hb
  go_wp2
  go_ret
  exact ⟨rfl, hb2⟩

set_option maxHeartbeats 400000 in
theorem isSolved_any (A : Option Addr) (n c : Nat) (cs : List Clu) (N : Nat) (lo hi : Nat) (w : World) (hN : N = 2 ∨ N = 3 ∨ N = 4) (hn : cs.length = n) (hlen : n ≤ 1048576) (hcl : ∀ c ∈ cs, clueB (N : Int) c = true) (hs : Seg w lo hi A (flat4 cs)) (hB : hi ≤ w.heap.size) (b : Bool) (hb : oneS N cs = b) :
    Calls Try.prog 80 #[pzV (N : Int) A n c] w fun e w' => e = .returned (.bool b) ∧ Below w.heap.size w w' := by
  obtain ⟨W, hW⟩ : ∃ W, w.alloc (.cells #[.int .i64 (N : Int), .slice A n c] 35) = W := ⟨_, rfl⟩
  have z0 : Below w.heap.size w W := by rw [← hW]; exact (Below.refl _ _).alloc (Nat.le_refl _) _
  have hz := z0.size
  have HW := Lib.hid hW
  clear hW
  go_enter Try.func80, Try.ntmps80
  go_wp2_with fail
  rw [HW.out]
  refine (countSolutions_any N A n c cs lo hi _ hN hn hlen hcl (hs.below z0 hB) (by omega)).mono ?_
  rintro e v2 ⟨rfl, hb2⟩
  obtain ⟨m, hm⟩ : ∃ m, (solF toldV N cs).length = m := ⟨_, rfl⟩
  rw [oneS, hm] at hb
  rw [hm]
  have he : ((m : Int) == 1) = b := by rw [← hb]; by_cases h : m = 1 <;> simp [h]; omega
  clear hm hb
  go_wp2
  go_ret
  exact ⟨rfl, z0.trans (hb2.mono z0.size)⟩

set_option maxHeartbeats 1000000 in
theorem spec_IsSolved (t : Int) (A : Option Addr) (n c : Nat) (cs : List Clu) (lo hi : Nat) (w : World) (hn : cs.length = n) (hlen : n ≤ 1048576) (hs : Seg w lo hi A (flat4 cs)) (hB : hi ≤ w.heap.size) (q : Bool) (hq : puzB t cs = q) (d : Bool) (hd : slvB t cs = d) :
    Calls Try.prog 44 #[pzV t A n c] w fun e w' => e = .returned (.tuple #[.bool d, .bool q]) ∧ Below w.heap.size w w' := by
  obtain ⟨W, hW⟩ : ∃ W, w.alloc (.cells #[.int .i64 t, .slice A n c] 35) = W := ⟨_, rfl⟩
  have z0 : Below w.heap.size w W := by rw [← hW]; exact (Below.refl _ _).alloc (Nat.le_refl _) _
  have p0 : W.heap[w.heap.size]? = some (.cells #[.int .i64 t, .slice A n c] 35 (0, 0)) := by rw [← hW]; exact new_at _ _ rfl
  have hsz := heap_lt p0
  have sW := hs.below z0 hB
  have HW := Lib.hid hW
  have HN := Lib.hid hn
  have HQ := Lib.hid hq
  have HD := Lib.hid hd
  clear hW hn hq hd
  have q0 := cell_of p0 0
  have q1 := cell_of p0 1
  simp only [List.getElem?_toArray, List.getElem?_cons_zero, List.getElem?_cons_succ] at q0 q1
  go_enter Try.func44, Try.ntmps44
  go_wp2_with fail
  rw [HW.out]
  refine (pzGood_Q t A n c cs lo hi _ HN.out hlen sW (by omega) q HQ.out).mono ?_
  rintro e v1 ⟨rfl, hb1⟩
  have hz1 := hb1.size
  have y1 := z0.trans (hb1.mono (by omega))
  have p1 := (hb1.block _ hsz).trans p0
  have s1 := sW.below hb1 (by omega)
  clear q0 q1
  have q0 := cell_of p1 0
  have q1 := cell_of p1 1
  simp only [List.getElem?_toArray, List.getElem?_cons_zero, List.getElem?_cons_succ] at q0 q1
  cases q
  · obtain rfl : d = false := by rw [← HD.out, slvB, HQ.out]; rfl
    go_wp2
    go_ret2
    exact ⟨by simp, y1⟩
  · obtain ⟨⟨t1, t2⟩, h6, hcl⟩ := puzB_true.1 HQ.out
    obtain ⟨N, rfl⟩ : ∃ N : Nat, t = (N : Int) := ⟨t.toNat, by omega⟩
    have hd2 : oneS N cs = d := by rw [← HD.out, slvB, HQ.out]; rfl
    have HD2 := Lib.hid hd2
    clear hd2
    go_wp2_with fail
    refine (pzSolved_any A n c cs N lo hi _ (by omega) HN.out hlen hcl s1 (by omega) d HD2.out).mono ?_
    rintro e v2 ⟨rfl, hb2⟩
    have y2 := y1.trans (hb2.mono y1.size)
    go_wp2
    go_ret2
    exact ⟨by simp, y2⟩

set_option maxHeartbeats 1000000 in
theorem impl_IsSolved (t : Int) (A : Option Addr) (n c : Nat) (cs : List Clu) (lo hi : Nat) (w : World) (hn : cs.length = n) (hlen : n ≤ 1048576) (hs : Seg w lo hi A (flat4 cs)) (hB : hi ≤ w.heap.size) (q : Bool) (hq : puzB t cs = q) (d : Bool) (hd : slvB t cs = d) :
    Calls Try.prog 45 #[pzV t A n c] w fun e w' => e = .returned (.tuple #[.bool d, .bool q]) ∧ Below w.heap.size w w' := by
  obtain ⟨W, hW⟩ : ∃ W, w.alloc (.cells #[.int .i64 t, .slice A n c] 35) = W := ⟨_, rfl⟩
  have z0 : Below w.heap.size w W := by rw [← hW]; exact (Below.refl _ _).alloc (Nat.le_refl _) _
  have p0 : W.heap[w.heap.size]? = some (.cells #[.int .i64 t, .slice A n c] 35 (0, 0)) := by rw [← hW]; exact new_at _ _ rfl
  have hsz := heap_lt p0
  have sW := hs.below z0 hB
  have HW := Lib.hid hW
  have HN := Lib.hid hn
  have HQ := Lib.hid hq
  have HD := Lib.hid hd
  clear hW hn hq hd
  have q0 := cell_of p0 0
  have q1 := cell_of p0 1
  simp only [List.getElem?_toArray, List.getElem?_cons_zero, List.getElem?_cons_succ] at q0 q1
  go_enter Try.func45, Try.ntmps45
  go_wp2_with fail
  rw [HW.out]
  refine (impl_IsPuzzleQ t A n c cs lo hi _ HN.out hlen sW (by omega) q HQ.out).mono ?_
  rintro e v1 ⟨rfl, hb1⟩
  have hz1 := hb1.size
  have y1 := z0.trans (hb1.mono (by omega))
  have p1 := (hb1.block _ hsz).trans p0
  have s1 := sW.below hb1 (by omega)
  clear q0 q1
  have q0 := cell_of p1 0
  have q1 := cell_of p1 1
  simp only [List.getElem?_toArray, List.getElem?_cons_zero, List.getElem?_cons_succ] at q0 q1
  cases q
  · obtain rfl : d = false := by rw [← HD.out, slvB, HQ.out]; rfl
    go_wp2
    go_ret2
    exact ⟨by simp, y1⟩
  · obtain ⟨⟨t1, t2⟩, h6, hcl⟩ := puzB_true.1 HQ.out
    obtain ⟨N, rfl⟩ : ∃ N : Nat, t = (N : Int) := ⟨t.toNat, by omega⟩
    have hd2 : oneS N cs = d := by rw [← HD.out, slvB, HQ.out]; rfl
    have HD2 := Lib.hid hd2
    clear hd2
    go_wp2_with fail
    refine (isSolved_any A n c cs N lo hi _ (by omega) HN.out hlen hcl s1 (by omega) d HD2.out).mono ?_
    rintro e v2 ⟨rfl, hb2⟩
    have y2 := y1.trans (hb2.mono y1.size)
    go_wp2
    go_ret2
    exact ⟨by simp, y2⟩
end Go.Proofs.Ytoheoojpmndhoaa
