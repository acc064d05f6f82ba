/-
  The clues of a made puzzle: the numbers they are made of, and one clue, by both programs.
  Conditions: hidden things.
-/
import Derived.Test.YtoheoojpmndhoaaPzF
namespace Go.Proofs.Ytoheoojpmndhoaa
set_option linter.unusedVariables false
set_option linter.unusedSimpArgs false
open Go.RowKit

def nxtZ (z : Int) : Int := (z * 241 + 1693) % 10007
theorem nxtZ_in (z : Int) : 0 ≤ nxtZ z ∧ nxtZ z ≤ 10006 := by unfold nxtZ; omega
def mkA (n k y : Int) : Int := if k = 1 ∨ k = 4 then y % n else if k = 2 then y % 19 + 6 else if k = 3 then y % 24 + 1 else 0
def mkB (n k y : Int) : Int := if k = 1 ∨ k = 4 then (y + 1) % n else 0
theorem mk_ok {n k y : Int} (hn : 2 ≤ n) : ValOk n k (mkA n k y) (mkB n k y) := by
  refine ⟨fun h => ?_, fun h => ?_, fun h => ?_⟩
  · rw [mkA, mkB, if_pos h, if_pos h]
    exact ⟨⟨Int.emod_nonneg _ (by omega), Int.emod_lt_of_pos _ (by omega)⟩, Int.emod_nonneg _ (by omega), Int.emod_lt_of_pos _ (by omega)⟩
  · subst h; simp [mkA]; omega
  · subst h; simp [mkA]; omega
/-- A clue that is made of two numbers. -/
noncomputable def mkC (xs : List Int) (k y : Int) : Clu := (k, mkA (xs.length : Int) k y, mkB (xs.length : Int) k y, toldK k (mkA (xs.length : Int) k y) (mkB (xs.length : Int) k y) xs)
/-- So many clues, made from a number on. -/
noncomputable def mkL (xs : List Int) : Nat → Int → List Clu
  | 0, _ => []
  | j + 1, z => mkC xs (nxtZ z % 6) (nxtZ (nxtZ z)) :: mkL xs j (nxtZ (nxtZ z))
/-- The number after so many clues. -/
def mkZ : Nat → Int → Int
  | 0, z => z
  | j + 1, z => mkZ j (nxtZ (nxtZ z))
theorem mkL_length (xs : List Int) (j : Nat) : ∀ z, (mkL xs j z).length = j := by
  induction j with
  | zero => intro z; rfl
  | succ j ih => intro z; simp [mkL, ih]
theorem mkZ_succ (j : Nat) : ∀ z, mkZ (j + 1) z = nxtZ (nxtZ (mkZ j z)) := by
  induction j with
  | zero => intro z; rfl
  | succ j ih => intro z; rw [mkZ, ih, mkZ]
theorem mkL_succ (xs : List Int) (j : Nat) : ∀ z, mkL xs (j + 1) z = mkL xs j z ++ [mkC xs (nxtZ (mkZ j z) % 6) (nxtZ (nxtZ (mkZ j z)))] := by
  induction j with
  | zero => intro z; rfl
  | succ j ih => intro z; rw [mkL, ih]; simp [mkL, mkZ]
theorem mkZ_in {z : Int} (h : 0 ≤ z ∧ z ≤ 10006) (j : Nat) : 0 ≤ mkZ j z ∧ mkZ j z ≤ 10006 := by
  cases j with
  | zero => exact h
  | succ j => rw [mkZ_succ]; exact nxtZ_in _
theorem tmod6 {z : Int} (h : 0 ≤ z) : Int.tmod z 6 = z % 6 := Int.tmod_eq_emod_of_nonneg h

theorem pzNext_any (z : Int) (h : 0 ≤ z ∧ z ≤ 10006) (w : World) : Calls Try.prog 88 #[.int .i64 z] w fun e w' => e = .returned (.int .i64 (nxtZ z)) ∧ w = w' := by
  have h1 : IntKind.i64.wrap (241 * z) = 241 * z := IntWalk.i64_in _ (by omega)
  have h2 : IntKind.i64.wrap (241 * z + 1693) = 241 * z + 1693 := IntWalk.i64_in _ (by omega)
  have h3 : Int.tmod (241 * z + 1693) 10007 = nxtZ z := by rw [Int.tmod_eq_emod_of_nonneg (by omega), nxtZ]; congr 1; omega
  have h5 := nxtZ_in z
  have h4 : IntKind.i64.wrap (nxtZ z) = nxtZ z := IntWalk.i64_in _ (by omega)
  go_enter Try.func88, Try.ntmps88
  go_wp2
  go_ret
  exact ⟨rfl, rfl⟩

theorem nextNumber_any (z : Int) (h : 0 ≤ z ∧ z ≤ 10006) (w : World) : Calls Try.prog 90 #[.int .i64 z] w fun e w' => e = .returned (.int .i64 (nxtZ z)) ∧ w = w' := by
  have h1 : IntKind.i64.wrap (z * 241) = z * 241 := IntWalk.i64_in _ (by omega)
  have h2 : IntKind.i64.wrap (z * 241 + 1693) = z * 241 + 1693 := IntWalk.i64_in _ (by omega)
  have h3 : Int.tmod (z * 241 + 1693) 10007 = nxtZ z := by rw [Int.tmod_eq_emod_of_nonneg (by omega), nxtZ]
  have h5 := nxtZ_in z
  have h4 : IntKind.i64.wrap (nxtZ z) = nxtZ z := IntWalk.i64_in _ (by omega)
  go_enter Try.func90, Try.ntmps90
  go_wp2
  go_ret
  exact ⟨rfl, rfl⟩

set_option maxHeartbeats 2000000 in
set_option maxRecDepth 100000 in
theorem pzOf_any (A : Option Addr) (n c : Nat) (k y : Int) (xs : List Int) (lo hi : Nat) (w : World) (hn : xs.length = n) (hh : hidB xs = true) (hk : 0 ≤ k ∧ k ≤ 5) (hy : 0 ≤ y ∧ y ≤ 10006) (hs : Seg w lo hi A xs) (hB : hi ≤ w.heap.size) :
    Calls Try.prog 89 #[.int .i64 k, .int .i64 y, .slice A n c] w fun e w' => e = .returned (clV (k, mkA (n : Int) k y, mkB (n : Int) k y, toldK k (mkA (n : Int) k y) (mkB (n : Int) k y) xs)) ∧ Below w.heap.size w w' := by
  obtain ⟨h2, h4, hx⟩ := hidB_at hh
  rw [hn] at h2 h4
  have HN := Lib.hid hn
  clear hx hn
  have hok : ValOk (n : Int) k (mkA (n : Int) k y) (mkB (n : Int) k y) := mk_ok (by omega)
  have m1 : 0 ≤ y % (n : Int) ∧ y % (n : Int) < n := ⟨Int.emod_nonneg _ (by omega), Int.emod_lt_of_pos _ (by omega)⟩
  have m2 : 0 ≤ (y + 1) % (n : Int) ∧ (y + 1) % (n : Int) < n := ⟨Int.emod_nonneg _ (by omega), Int.emod_lt_of_pos _ (by omega)⟩
  have t1 : Int.tmod y (n : Int) = y % (n : Int) := Int.tmod_eq_emod_of_nonneg (by omega)
  have t2 : Int.tmod (y % (n : Int) + 1) (n : Int) = (y + 1) % (n : Int) := by rw [Int.tmod_eq_emod_of_nonneg (by omega), Int.emod_add_emod]
  have t3 : Int.tmod y 19 = y % 19 := Int.tmod_eq_emod_of_nonneg (by omega)
  have t4 : Int.tmod y 24 = y % 24 := Int.tmod_eq_emod_of_nonneg (by omega)
  have r1 : IntKind.i64.wrap (y % (n : Int)) = y % (n : Int) := IntWalk.i64_in _ (by omega)
  have r2 : IntKind.i64.wrap (y % (n : Int) + 1) = y % (n : Int) + 1 := IntWalk.i64_in _ (by omega)
  have r3 : IntKind.i64.wrap ((y + 1) % (n : Int)) = (y + 1) % (n : Int) := IntWalk.i64_in _ (by omega)
  have r4 : IntKind.i64.wrap (y % 19) = y % 19 := IntWalk.i64_in _ (by omega)
  have r5 : IntKind.i64.wrap (y % 19 + 6) = y % 19 + 6 := IntWalk.i64_in _ (by omega)
  have r6 : IntKind.i64.wrap (y % 24) = y % 24 := IntWalk.i64_in _ (by omega)
  have r7 : IntKind.i64.wrap (y % 24 + 1) = y % 24 + 1 := IntWalk.i64_in _ (by omega)
  have n0 : ((n : Int) == 0) = false := by simp; omega
  go_enter Try.func89, Try.ntmps89
  rcases (show k = 0 ∨ k = 1 ∨ k = 2 ∨ k = 3 ∨ k = 4 ∨ k = 5 by omega) with rfl | rfl | rfl | rfl | rfl | rfl
  · have ea : mkA (n : Int) 0 y = 0 := by simp [mkA]
    have eb : mkB (n : Int) 0 y = 0 := by simp [mkB]
    rw [ea, eb] at hok ⊢
    clear ea eb
    have HOK := Lib.hid hok
    clear hok
    go_wp2_with fail
    obtain ⟨W, hW⟩ : ∃ W, (w.alloc (.cells #[.int .i64 0, .int .i64 0, .int .i64 0, .int .i64 0] 25)).alloc (.cells #[.int .i64 0, .int .i64 (0), .int .i64 (0), .int .i64 0] 25) = W := ⟨_, rfl⟩
    have z0 : Below w.heap.size w W := by rw [← hW]; exact ((Below.refl _ _).alloc (Nat.le_refl _) _).alloc (by simp) _
    have R0 : W.heap[w.heap.size]? = some (.cells #[.int .i64 0, .int .i64 0, .int .i64 0, .int .i64 0] 25 (0, 0)) := by rw [← hW]; exact (alloc_old _ (by simp) _).trans (new_at _ _ rfl)
    have C0 : W.heap[w.heap.size + 1]? = some (.cells #[.int .i64 0, .int .i64 (0), .int .i64 (0), .int .i64 0] 25 (0, 0)) := by rw [← hW]; exact new_at _ _ (by simp)
    have hsz : w.heap.size + 1 < W.heap.size := heap_lt C0
    rw [hW]
    clear hW
    refine (pzValue_any A n c 0 (0) (0) xs lo hi _ HN.out hh HOK.out (hs.below z0 hB) (by omega)).mono ?_
    rintro e v1 ⟨rfl, hb1⟩
    have hz1 := hb1.size
    have y1 := z0.trans (hb1.mono (by omega))
    have R1 := (hb1.block _ (by omega)).trans R0
    have C1 := (hb1.block _ (by omega)).trans C0
    have q0 := cell_of C1 0
    have q1 := cell_of C1 1
    have q2 := cell_of C1 2
    have q3 := cell_of C1 3
    have f3 := frozen_of C1 3
    have u0 := cell_of R1 0
    have u1 := cell_of R1 1
    have u2 := cell_of R1 2
    have u3 := cell_of R1 3
    have g0 := frozen_of R1 0
    have g1 := frozen_of R1 1
    have g2 := frozen_of R1 2
    have g3 := frozen_of R1 3
    simp only [List.getElem?_toArray, List.getElem?_cons_zero, List.getElem?_cons_succ] at q0 q1 q2 q3 u0 u1 u2 u3
    have ne : w.heap.size ≠ w.heap.size + 1 := by omega
    have ne2 : w.heap.size + 1 ≠ w.heap.size := by omega
    go_wp2
    refine bodyPost_ret (v := clV (0, 0, 0, toldK 0 (0) (0) xs)) (by simp [clV, results, Try.results89, go_sem, q0, q1, q2, q3, u0, u1, u2, u3, ne, ne2]) rfl ⟨rfl, ?_⟩
    exact ((((y1.setCell (by simp) _).setCell (by simp) _).setCell (by simp) _).setCell (by simp) _).setCell (by simp) _
  · have ea : mkA (n : Int) 1 y = y % (n : Int) := by simp [mkA]
    have eb : mkB (n : Int) 1 y = (y + 1) % (n : Int) := by simp [mkB]
    rw [ea, eb] at hok ⊢
    clear ea eb
    have HOK := Lib.hid hok
    clear hok
    go_wp2_with fail
    obtain ⟨W, hW⟩ : ∃ W, (w.alloc (.cells #[.int .i64 0, .int .i64 0, .int .i64 0, .int .i64 0] 25)).alloc (.cells #[.int .i64 1, .int .i64 (y % (n : Int)), .int .i64 ((y + 1) % (n : Int)), .int .i64 0] 25) = W := ⟨_, rfl⟩
    have z0 : Below w.heap.size w W := by rw [← hW]; exact ((Below.refl _ _).alloc (Nat.le_refl _) _).alloc (by simp) _
    have R0 : W.heap[w.heap.size]? = some (.cells #[.int .i64 0, .int .i64 0, .int .i64 0, .int .i64 0] 25 (0, 0)) := by rw [← hW]; exact (alloc_old _ (by simp) _).trans (new_at _ _ rfl)
    have C0 : W.heap[w.heap.size + 1]? = some (.cells #[.int .i64 1, .int .i64 (y % (n : Int)), .int .i64 ((y + 1) % (n : Int)), .int .i64 0] 25 (0, 0)) := by rw [← hW]; exact new_at _ _ (by simp)
    have hsz : w.heap.size + 1 < W.heap.size := heap_lt C0
    rw [hW]
    clear hW
    refine (pzValue_any A n c 1 (y % (n : Int)) ((y + 1) % (n : Int)) xs lo hi _ HN.out hh HOK.out (hs.below z0 hB) (by omega)).mono ?_
    rintro e v1 ⟨rfl, hb1⟩
    have hz1 := hb1.size
    have y1 := z0.trans (hb1.mono (by omega))
    have R1 := (hb1.block _ (by omega)).trans R0
    have C1 := (hb1.block _ (by omega)).trans C0
    have q0 := cell_of C1 0
    have q1 := cell_of C1 1
    have q2 := cell_of C1 2
    have q3 := cell_of C1 3
    have f3 := frozen_of C1 3
    have u0 := cell_of R1 0
    have u1 := cell_of R1 1
    have u2 := cell_of R1 2
    have u3 := cell_of R1 3
    have g0 := frozen_of R1 0
    have g1 := frozen_of R1 1
    have g2 := frozen_of R1 2
    have g3 := frozen_of R1 3
    simp only [List.getElem?_toArray, List.getElem?_cons_zero, List.getElem?_cons_succ] at q0 q1 q2 q3 u0 u1 u2 u3
    have ne : w.heap.size ≠ w.heap.size + 1 := by omega
    have ne2 : w.heap.size + 1 ≠ w.heap.size := by omega
    go_wp2
    refine bodyPost_ret (v := clV (1, y % (n : Int), (y + 1) % (n : Int), toldK 1 (y % (n : Int)) ((y + 1) % (n : Int)) xs)) (by simp [clV, results, Try.results89, go_sem, q0, q1, q2, q3, u0, u1, u2, u3, ne, ne2]) rfl ⟨rfl, ?_⟩
    exact ((((y1.setCell (by simp) _).setCell (by simp) _).setCell (by simp) _).setCell (by simp) _).setCell (by simp) _
  · have ea : mkA (n : Int) 2 y = y % 19 + 6 := by simp [mkA]
    have eb : mkB (n : Int) 2 y = 0 := by simp [mkB]
    rw [ea, eb] at hok ⊢
    clear ea eb
    have HOK := Lib.hid hok
    clear hok
    go_wp2_with fail
    obtain ⟨W, hW⟩ : ∃ W, (w.alloc (.cells #[.int .i64 0, .int .i64 0, .int .i64 0, .int .i64 0] 25)).alloc (.cells #[.int .i64 2, .int .i64 (y % 19 + 6), .int .i64 (0), .int .i64 0] 25) = W := ⟨_, rfl⟩
    have z0 : Below w.heap.size w W := by rw [← hW]; exact ((Below.refl _ _).alloc (Nat.le_refl _) _).alloc (by simp) _
    have R0 : W.heap[w.heap.size]? = some (.cells #[.int .i64 0, .int .i64 0, .int .i64 0, .int .i64 0] 25 (0, 0)) := by rw [← hW]; exact (alloc_old _ (by simp) _).trans (new_at _ _ rfl)
    have C0 : W.heap[w.heap.size + 1]? = some (.cells #[.int .i64 2, .int .i64 (y % 19 + 6), .int .i64 (0), .int .i64 0] 25 (0, 0)) := by rw [← hW]; exact new_at _ _ (by simp)
    have hsz : w.heap.size + 1 < W.heap.size := heap_lt C0
    rw [hW]
    clear hW
    refine (pzValue_any A n c 2 (y % 19 + 6) (0) xs lo hi _ HN.out hh HOK.out (hs.below z0 hB) (by omega)).mono ?_
    rintro e v1 ⟨rfl, hb1⟩
    have hz1 := hb1.size
    have y1 := z0.trans (hb1.mono (by omega))
    have R1 := (hb1.block _ (by omega)).trans R0
    have C1 := (hb1.block _ (by omega)).trans C0
    have q0 := cell_of C1 0
    have q1 := cell_of C1 1
    have q2 := cell_of C1 2
    have q3 := cell_of C1 3
    have f3 := frozen_of C1 3
    have u0 := cell_of R1 0
    have u1 := cell_of R1 1
    have u2 := cell_of R1 2
    have u3 := cell_of R1 3
    have g0 := frozen_of R1 0
    have g1 := frozen_of R1 1
    have g2 := frozen_of R1 2
    have g3 := frozen_of R1 3
    simp only [List.getElem?_toArray, List.getElem?_cons_zero, List.getElem?_cons_succ] at q0 q1 q2 q3 u0 u1 u2 u3
    have ne : w.heap.size ≠ w.heap.size + 1 := by omega
    have ne2 : w.heap.size + 1 ≠ w.heap.size := by omega
    go_wp2
    refine bodyPost_ret (v := clV (2, y % 19 + 6, 0, toldK 2 (y % 19 + 6) (0) xs)) (by simp [clV, results, Try.results89, go_sem, q0, q1, q2, q3, u0, u1, u2, u3, ne, ne2]) rfl ⟨rfl, ?_⟩
    exact ((((y1.setCell (by simp) _).setCell (by simp) _).setCell (by simp) _).setCell (by simp) _).setCell (by simp) _
  · have ea : mkA (n : Int) 3 y = y % 24 + 1 := by simp [mkA]
    have eb : mkB (n : Int) 3 y = 0 := by simp [mkB]
    rw [ea, eb] at hok ⊢
    clear ea eb
    have HOK := Lib.hid hok
    clear hok
    go_wp2_with fail
    obtain ⟨W, hW⟩ : ∃ W, (w.alloc (.cells #[.int .i64 0, .int .i64 0, .int .i64 0, .int .i64 0] 25)).alloc (.cells #[.int .i64 3, .int .i64 (y % 24 + 1), .int .i64 (0), .int .i64 0] 25) = W := ⟨_, rfl⟩
    have z0 : Below w.heap.size w W := by rw [← hW]; exact ((Below.refl _ _).alloc (Nat.le_refl _) _).alloc (by simp) _
    have R0 : W.heap[w.heap.size]? = some (.cells #[.int .i64 0, .int .i64 0, .int .i64 0, .int .i64 0] 25 (0, 0)) := by rw [← hW]; exact (alloc_old _ (by simp) _).trans (new_at _ _ rfl)
    have C0 : W.heap[w.heap.size + 1]? = some (.cells #[.int .i64 3, .int .i64 (y % 24 + 1), .int .i64 (0), .int .i64 0] 25 (0, 0)) := by rw [← hW]; exact new_at _ _ (by simp)
    have hsz : w.heap.size + 1 < W.heap.size := heap_lt C0
    rw [hW]
    clear hW
    refine (pzValue_any A n c 3 (y % 24 + 1) (0) xs lo hi _ HN.out hh HOK.out (hs.below z0 hB) (by omega)).mono ?_
    rintro e v1 ⟨rfl, hb1⟩
    have hz1 := hb1.size
    have y1 := z0.trans (hb1.mono (by omega))
    have R1 := (hb1.block _ (by omega)).trans R0
    have C1 := (hb1.block _ (by omega)).trans C0
    have q0 := cell_of C1 0
    have q1 := cell_of C1 1
    have q2 := cell_of C1 2
    have q3 := cell_of C1 3
    have f3 := frozen_of C1 3
    have u0 := cell_of R1 0
    have u1 := cell_of R1 1
    have u2 := cell_of R1 2
    have u3 := cell_of R1 3
    have g0 := frozen_of R1 0
    have g1 := frozen_of R1 1
    have g2 := frozen_of R1 2
    have g3 := frozen_of R1 3
    simp only [List.getElem?_toArray, List.getElem?_cons_zero, List.getElem?_cons_succ] at q0 q1 q2 q3 u0 u1 u2 u3
    have ne : w.heap.size ≠ w.heap.size + 1 := by omega
    have ne2 : w.heap.size + 1 ≠ w.heap.size := by omega
    go_wp2
    refine bodyPost_ret (v := clV (3, y % 24 + 1, 0, toldK 3 (y % 24 + 1) (0) xs)) (by simp [clV, results, Try.results89, go_sem, q0, q1, q2, q3, u0, u1, u2, u3, ne, ne2]) rfl ⟨rfl, ?_⟩
    exact ((((y1.setCell (by simp) _).setCell (by simp) _).setCell (by simp) _).setCell (by simp) _).setCell (by simp) _
  · have ea : mkA (n : Int) 4 y = y % (n : Int) := by simp [mkA]
    have eb : mkB (n : Int) 4 y = (y + 1) % (n : Int) := by simp [mkB]
    rw [ea, eb] at hok ⊢
    clear ea eb
    have HOK := Lib.hid hok
    clear hok
    go_wp2_with fail
    obtain ⟨W, hW⟩ : ∃ W, (w.alloc (.cells #[.int .i64 0, .int .i64 0, .int .i64 0, .int .i64 0] 25)).alloc (.cells #[.int .i64 4, .int .i64 (y % (n : Int)), .int .i64 ((y + 1) % (n : Int)), .int .i64 0] 25) = W := ⟨_, rfl⟩
    have z0 : Below w.heap.size w W := by rw [← hW]; exact ((Below.refl _ _).alloc (Nat.le_refl _) _).alloc (by simp) _
    have R0 : W.heap[w.heap.size]? = some (.cells #[.int .i64 0, .int .i64 0, .int .i64 0, .int .i64 0] 25 (0, 0)) := by rw [← hW]; exact (alloc_old _ (by simp) _).trans (new_at _ _ rfl)
    have C0 : W.heap[w.heap.size + 1]? = some (.cells #[.int .i64 4, .int .i64 (y % (n : Int)), .int .i64 ((y + 1) % (n : Int)), .int .i64 0] 25 (0, 0)) := by rw [← hW]; exact new_at _ _ (by simp)
    have hsz : w.heap.size + 1 < W.heap.size := heap_lt C0
    rw [hW]
    clear hW
    refine (pzValue_any A n c 4 (y % (n : Int)) ((y + 1) % (n : Int)) xs lo hi _ HN.out hh HOK.out (hs.below z0 hB) (by omega)).mono ?_
    rintro e v1 ⟨rfl, hb1⟩
    have hz1 := hb1.size
    have y1 := z0.trans (hb1.mono (by omega))
    have R1 := (hb1.block _ (by omega)).trans R0
    have C1 := (hb1.block _ (by omega)).trans C0
    have q0 := cell_of C1 0
    have q1 := cell_of C1 1
    have q2 := cell_of C1 2
    have q3 := cell_of C1 3
    have f3 := frozen_of C1 3
    have u0 := cell_of R1 0
    have u1 := cell_of R1 1
    have u2 := cell_of R1 2
    have u3 := cell_of R1 3
    have g0 := frozen_of R1 0
    have g1 := frozen_of R1 1
    have g2 := frozen_of R1 2
    have g3 := frozen_of R1 3
    simp only [List.getElem?_toArray, List.getElem?_cons_zero, List.getElem?_cons_succ] at q0 q1 q2 q3 u0 u1 u2 u3
    have ne : w.heap.size ≠ w.heap.size + 1 := by omega
    have ne2 : w.heap.size + 1 ≠ w.heap.size := by omega
    go_wp2
    refine bodyPost_ret (v := clV (4, y % (n : Int), (y + 1) % (n : Int), toldK 4 (y % (n : Int)) ((y + 1) % (n : Int)) xs)) (by simp [clV, results, Try.results89, go_sem, q0, q1, q2, q3, u0, u1, u2, u3, ne, ne2]) rfl ⟨rfl, ?_⟩
    exact ((((y1.setCell (by simp) _).setCell (by simp) _).setCell (by simp) _).setCell (by simp) _).setCell (by simp) _
  · have ea : mkA (n : Int) 5 y = 0 := by simp [mkA]
    have eb : mkB (n : Int) 5 y = 0 := by simp [mkB]
    rw [ea, eb] at hok ⊢
    clear ea eb
    have HOK := Lib.hid hok
    clear hok
    go_wp2_with fail
    obtain ⟨W, hW⟩ : ∃ W, (w.alloc (.cells #[.int .i64 0, .int .i64 0, .int .i64 0, .int .i64 0] 25)).alloc (.cells #[.int .i64 5, .int .i64 (0), .int .i64 (0), .int .i64 0] 25) = W := ⟨_, rfl⟩
    have z0 : Below w.heap.size w W := by rw [← hW]; exact ((Below.refl _ _).alloc (Nat.le_refl _) _).alloc (by simp) _
    have R0 : W.heap[w.heap.size]? = some (.cells #[.int .i64 0, .int .i64 0, .int .i64 0, .int .i64 0] 25 (0, 0)) := by rw [← hW]; exact (alloc_old _ (by simp) _).trans (new_at _ _ rfl)
    have C0 : W.heap[w.heap.size + 1]? = some (.cells #[.int .i64 5, .int .i64 (0), .int .i64 (0), .int .i64 0] 25 (0, 0)) := by rw [← hW]; exact new_at _ _ (by simp)
    have hsz : w.heap.size + 1 < W.heap.size := heap_lt C0
    rw [hW]
    clear hW
    refine (pzValue_any A n c 5 (0) (0) xs lo hi _ HN.out hh HOK.out (hs.below z0 hB) (by omega)).mono ?_
    rintro e v1 ⟨rfl, hb1⟩
    have hz1 := hb1.size
    have y1 := z0.trans (hb1.mono (by omega))
    have R1 := (hb1.block _ (by omega)).trans R0
    have C1 := (hb1.block _ (by omega)).trans C0
    have q0 := cell_of C1 0
    have q1 := cell_of C1 1
    have q2 := cell_of C1 2
    have q3 := cell_of C1 3
    have f3 := frozen_of C1 3
    have u0 := cell_of R1 0
    have u1 := cell_of R1 1
    have u2 := cell_of R1 2
    have u3 := cell_of R1 3
    have g0 := frozen_of R1 0
    have g1 := frozen_of R1 1
    have g2 := frozen_of R1 2
    have g3 := frozen_of R1 3
    simp only [List.getElem?_toArray, List.getElem?_cons_zero, List.getElem?_cons_succ] at q0 q1 q2 q3 u0 u1 u2 u3
    have ne : w.heap.size ≠ w.heap.size + 1 := by omega
    have ne2 : w.heap.size + 1 ≠ w.heap.size := by omega
    go_wp2
    refine bodyPost_ret (v := clV (5, 0, 0, toldK 5 (0) (0) xs)) (by simp [clV, results, Try.results89, go_sem, q0, q1, q2, q3, u0, u1, u2, u3, ne, ne2]) rfl ⟨rfl, ?_⟩
    exact ((((y1.setCell (by simp) _).setCell (by simp) _).setCell (by simp) _).setCell (by simp) _).setCell (by simp) _

set_option maxHeartbeats 2000000 in
set_option maxRecDepth 100000 in
theorem clueToMake_any (n : Nat) (k y : Int) (w : World) (h2 : 2 ≤ n) (h4 : n ≤ 4) (hk : 0 ≤ k ∧ k ≤ 5) (hy : 0 ≤ y ∧ y ≤ 10006) :
    Calls Try.prog 91 #[.int .i64 k, .int .i64 y, .int .i64 (n : Int)] w fun e w' => e = .returned (clV (k, mkA (n : Int) k y, mkB (n : Int) k y, 0)) ∧ Below w.heap.size w w' := by
  have hok : ValOk (n : Int) k (mkA (n : Int) k y) (mkB (n : Int) k y) := mk_ok (by omega)
  have m1 : 0 ≤ y % (n : Int) ∧ y % (n : Int) < n := ⟨Int.emod_nonneg _ (by omega), Int.emod_lt_of_pos _ (by omega)⟩
  have m2 : 0 ≤ (y + 1) % (n : Int) ∧ (y + 1) % (n : Int) < n := ⟨Int.emod_nonneg _ (by omega), Int.emod_lt_of_pos _ (by omega)⟩
  have t1 : Int.tmod y (n : Int) = y % (n : Int) := Int.tmod_eq_emod_of_nonneg (by omega)
  have t2 : Int.tmod (y % (n : Int) + 1) (n : Int) = (y + 1) % (n : Int) := by rw [Int.tmod_eq_emod_of_nonneg (by omega), Int.emod_add_emod]
  have t3 : Int.tmod y 19 = y % 19 := Int.tmod_eq_emod_of_nonneg (by omega)
  have t4 : Int.tmod y 24 = y % 24 := Int.tmod_eq_emod_of_nonneg (by omega)
  have r1 : IntKind.i64.wrap (y % (n : Int)) = y % (n : Int) := IntWalk.i64_in _ (by omega)
  have r2 : IntKind.i64.wrap (y % (n : Int) + 1) = y % (n : Int) + 1 := IntWalk.i64_in _ (by omega)
  have r3 : IntKind.i64.wrap ((y + 1) % (n : Int)) = (y + 1) % (n : Int) := IntWalk.i64_in _ (by omega)
  have r4 : IntKind.i64.wrap (y % 19) = y % 19 := IntWalk.i64_in _ (by omega)
  have r5 : IntKind.i64.wrap (y % 19 + 6) = y % 19 + 6 := IntWalk.i64_in _ (by omega)
  have r6 : IntKind.i64.wrap (y % 24) = y % 24 := IntWalk.i64_in _ (by omega)
  have r7 : IntKind.i64.wrap (y % 24 + 1) = y % 24 + 1 := IntWalk.i64_in _ (by omega)
  have n0 : ((n : Int) == 0) = false := by simp; omega
  go_enter Try.func91, Try.ntmps91
  rcases (show k = 0 ∨ k = 1 ∨ k = 2 ∨ k = 3 ∨ k = 4 ∨ k = 5 by omega) with rfl | rfl | rfl | rfl | rfl | rfl
  · have ea : mkA (n : Int) 0 y = 0 := by simp [mkA]
    have eb : mkB (n : Int) 0 y = 0 := by simp [mkB]
    rw [ea, eb] at hok ⊢
    clear ea eb
    have HOK := Lib.hid hok
    clear hok
    go_wp2_with fail
    refine bodyPost_ret (v := clV (0, 0, 0, 0)) (by simp [clV, results, Try.results91, go_sem]) rfl ⟨rfl, ?_⟩
    exact ((Below.refl _ _).alloc (Nat.le_refl _) _).alloc (by simp) _
  · have ea : mkA (n : Int) 1 y = y % (n : Int) := by simp [mkA]
    have eb : mkB (n : Int) 1 y = (y + 1) % (n : Int) := by simp [mkB]
    rw [ea, eb] at hok ⊢
    clear ea eb
    have HOK := Lib.hid hok
    clear hok
    go_wp2_with fail
    refine bodyPost_ret (v := clV (1, y % (n : Int), (y + 1) % (n : Int), 0)) (by simp [clV, results, Try.results91, go_sem]) rfl ⟨rfl, ?_⟩
    exact ((Below.refl _ _).alloc (Nat.le_refl _) _).alloc (by simp) _
  · have ea : mkA (n : Int) 2 y = y % 19 + 6 := by simp [mkA]
    have eb : mkB (n : Int) 2 y = 0 := by simp [mkB]
    rw [ea, eb] at hok ⊢
    clear ea eb
    have HOK := Lib.hid hok
    clear hok
    go_wp2_with fail
    refine bodyPost_ret (v := clV (2, y % 19 + 6, 0, 0)) (by simp [clV, results, Try.results91, go_sem]) rfl ⟨rfl, ?_⟩
    exact ((Below.refl _ _).alloc (Nat.le_refl _) _).alloc (by simp) _
  · have ea : mkA (n : Int) 3 y = y % 24 + 1 := by simp [mkA]
    have eb : mkB (n : Int) 3 y = 0 := by simp [mkB]
    rw [ea, eb] at hok ⊢
    clear ea eb
    have HOK := Lib.hid hok
    clear hok
    go_wp2_with fail
    refine bodyPost_ret (v := clV (3, y % 24 + 1, 0, 0)) (by simp [clV, results, Try.results91, go_sem]) rfl ⟨rfl, ?_⟩
    exact ((Below.refl _ _).alloc (Nat.le_refl _) _).alloc (by simp) _
  · have ea : mkA (n : Int) 4 y = y % (n : Int) := by simp [mkA]
    have eb : mkB (n : Int) 4 y = (y + 1) % (n : Int) := by simp [mkB]
    rw [ea, eb] at hok ⊢
    clear ea eb
    have HOK := Lib.hid hok
    clear hok
    go_wp2_with fail
    refine bodyPost_ret (v := clV (4, y % (n : Int), (y + 1) % (n : Int), 0)) (by simp [clV, results, Try.results91, go_sem]) rfl ⟨rfl, ?_⟩
    exact ((Below.refl _ _).alloc (Nat.le_refl _) _).alloc (by simp) _
  · have ea : mkA (n : Int) 5 y = 0 := by simp [mkA]
    have eb : mkB (n : Int) 5 y = 0 := by simp [mkB]
    rw [ea, eb] at hok ⊢
    clear ea eb
    have HOK := Lib.hid hok
    clear hok
    go_wp2_with fail
    refine bodyPost_ret (v := clV (5, 0, 0, 0)) (by simp [clV, results, Try.results91, go_sem]) rfl ⟨rfl, ?_⟩
    exact ((Below.refl _ _).alloc (Nat.le_refl _) _).alloc (by simp) _
end Go.Proofs.Ytoheoojpmndhoaa
