/-
  Both programs' tests for a box and for boxes.
  Conditions: the list has at most 1048576 boxes.
-/
import Derived.Test.YtbaofgbkcolmmabTris
import Derived.Test.YtbaofgbkcolmmabAllB
namespace Go.Proofs.Ytbaofgbkcolmmab
set_option linter.unusedVariables false
open Go.RowKit

theorem boxB_all (x y z : Int) : boxB (x, y, z) = allB [x, y, z] 1 50 := by simp [boxB, allB, Bool.and_assoc]

theorem seg3_of {w : World} {g : Nat} {x y z : Int} {T : Nat} (h : w.heap[g]? = some (.cells #[.int .i64 x, .int .i64 y, .int .i64 z] T (0, 0))) : Seg w g w.heap.size (some ⟨g, 0, none⟩) [x, y, z] := by
  refine .inr ⟨g, 0, rfl, Nat.le_refl _, heap_lt h, fun k hk => ?_⟩
  have hk3 : k = 0 ∨ k = 1 ∨ k = 2 := by simp at hk; omega
  rw [cell_of h]
  rcases hk3 with rfl | rfl | rfl <;> rfl

theorem neGood_any (x y z : Int) (w : World) (q : Bool) (hq : boxB (x, y, z) = q) :
    Calls Try.prog 83 #[.agg #[.int .i64 x, .int .i64 y, .int .i64 z]] w fun e w' => e = .returned (.bool q) ∧ Below w.heap.size w w' := by
  have HQ : Hid (allB [x, y, z] 1 50 = q) := by rw [← boxB_all]; exact hq
  clear hq
  go_enter Try.func83, Try.ntmps83
  go_wp2_with fail
  refine (l1All_any _ 3 _ [x, y, z] _ _ _ _ _ rfl (by omega) (seg3_of (new_at _ _ (by simp))) _ HQ.out).mono ?_
  rintro e w1 ⟨rfl, rfl⟩
  go_wp2
  go_ret
  exact ⟨rfl, ((Below.refl _ _).alloc (Nat.le_refl _) _).alloc (by simp) _⟩

/-- The least and the greatest number, from a first one on. -/
theorem fold_take (f : Int → Int → Int) (a : Int) (xs : List Int) {k : Nat} {u : Int} (h : xs[k]? = some u) : f ((xs.take k).foldl f a) u = (xs.take (k + 1)).foldl f a := by
  rw [take_snoc h, List.foldl_append]; rfl

theorem slicesMin_any (A : Option Addr) (n c : Nat) (xs : List Int) (u0 : Int) (lo hi : Nat) (w : World) (hn : xs.length = n) (hlen : n ≤ 1048576) (hs : Seg w lo hi A xs) (h1 : 1 ≤ n) (hu : xs[0]? = some u0) :
    Calls Try.prog 117 #[.slice A n c] w fun e w' => e = .returned (.int .i64 (xs.foldl min u0)) ∧ w = w' := by
  have HN := Lib.hid hn
  clear hn
  obtain ⟨b, off, u1, rfl, _, _, hx0, hc0⟩ := hs.at_ (k := 0) (by rw [HN.out]; exact h1)
  obtain rfl : u0 = u1 := by rw [hu] at hx0; injection hx0
  have HX : Hid (u0 = (xs.take 1).foldl min u0) := by
    rw [take_snoc (k := 0) hx0]
    show u0 = min u0 u0
    omega
  clear hx0 hu
  have hc0' : w.cell? ⟨b, off, none⟩ = some (.int .i64 u0) := hc0
  clear hc0
  have hlt1 : (0 : Int) < (n : Int) := by omega
  go_enter Try.func117, Try.ntmps117
  go_wp2
  go_loop [3, 4] (fun m i => ∃ k : Nat, 1 ≤ k ∧ k ≤ n ∧ i = .int .i64 k ∧ m = .int .i64 ((xs.take k).foldl min u0)) (fun _ i => n - (intOf i).toNat)
  case atStart => exact ⟨1, Nat.le_refl _, h1, rfl, by rw [← HX.out]⟩
  case round =>
    obtain ⟨k, hk1, hk, rfl, rfl⟩ := hrel
    by_cases hlt : k < n
    · obtain ⟨b', off', u, hA, _, _, hx, hc⟩ := hs.at_ (k := k) (by rw [HN.out]; exact hlt)
      obtain ⟨rfl, rfl⟩ : b = b' ∧ off = off' := by injection hA with hA; injection hA with h1 h2; exact ⟨h1, h2⟩
      clear hA
      have HM := Lib.hid (fold_take min u0 xs hx)
      clear hx
      obtain ⟨q, hq⟩ : ∃ q, q = (xs.take k).foldl min u0 := ⟨_, rfl⟩
      rw [← hq] at HM
      rw [← hq]
      clear hq
      go_wp2
      go_round
      case rel => exact ⟨k + 1, by omega, by omega, by go_num, by rw [← HM.out]; congr 1; split <;> omega⟩
      case measure => simp [intOf]; omega
    · obtain rfl : k = n := by omega
      go_wp2
      go_ret
      exact ⟨by rw [← HN.out, List.take_length]; rfl, rfl⟩

theorem slicesMaxA_any (A : Option Addr) (n c : Nat) (xs : List Int) (u0 : Int) (lo hi : Nat) (w : World) (hn : xs.length = n) (hlen : n ≤ 1048576) (hs : Seg w lo hi A xs) (h1 : 1 ≤ n) (hu : xs[0]? = some u0) :
    Calls Try.prog 118 #[.slice A n c] w fun e w' => e = .returned (.int .i64 (xs.foldl max u0)) ∧ w = w' := by
  have HN := Lib.hid hn
  clear hn
  obtain ⟨b, off, u1, rfl, _, _, hx0, hc0⟩ := hs.at_ (k := 0) (by rw [HN.out]; exact h1)
  obtain rfl : u0 = u1 := by rw [hu] at hx0; injection hx0
  have HX : Hid (u0 = (xs.take 1).foldl max u0) := by
    rw [take_snoc (k := 0) hx0]
    show u0 = max u0 u0
    omega
  clear hx0 hu
  have hc0' : w.cell? ⟨b, off, none⟩ = some (.int .i64 u0) := hc0
  clear hc0
  have hlt1 : (0 : Int) < (n : Int) := by omega
  go_enter Try.func118, Try.ntmps118
  go_wp2
  go_loop [3, 4] (fun m i => ∃ k : Nat, 1 ≤ k ∧ k ≤ n ∧ i = .int .i64 k ∧ m = .int .i64 ((xs.take k).foldl max u0)) (fun _ i => n - (intOf i).toNat)
  case atStart => exact ⟨1, Nat.le_refl _, h1, rfl, by rw [← HX.out]⟩
  case round =>
    obtain ⟨k, hk1, hk, rfl, rfl⟩ := hrel
    by_cases hlt : k < n
    · obtain ⟨b', off', u, hA, _, _, hx, hc⟩ := hs.at_ (k := k) (by rw [HN.out]; exact hlt)
      obtain ⟨rfl, rfl⟩ : b = b' ∧ off = off' := by injection hA with hA; injection hA with h1 h2; exact ⟨h1, h2⟩
      clear hA
      have HM := Lib.hid (fold_take max u0 xs hx)
      clear hx
      obtain ⟨q, hq⟩ : ∃ q, q = (xs.take k).foldl max u0 := ⟨_, rfl⟩
      rw [← hq] at HM
      rw [← hq]
      clear hq
      go_wp2
      go_round
      case rel => exact ⟨k + 1, by omega, by omega, by go_num, by rw [← HM.out]; congr 1; split <;> omega⟩
      case measure => simp [intOf]; omega
    · obtain rfl : k = n := by omega
      go_wp2
      go_ret
      exact ⟨by rw [← HN.out, List.take_length]; rfl, rfl⟩

/-- The sides of a box in a new block. -/
theorem sides_any (x y z : Int) (w : World) :
    Calls Try.prog 116 #[.agg #[.int .i64 x, .int .i64 y, .int .i64 z]] w fun e w' => ∃ g, e = .returned (.slice (some ⟨g, 0, none⟩) 3 3) ∧ w.heap.size ≤ g ∧ w'.heap[g]? = some (.cells #[.int .i64 x, .int .i64 y, .int .i64 z] 3 (0, 0)) ∧ Below w.heap.size w w' := by
  go_enter Try.func116, Try.ntmps116
  go_wp2
  go_ret
  exact ⟨_, rfl, by simp, new_at _ _ (by simp), ((Below.refl _ _).alloc (Nat.le_refl _) _).alloc (by simp) _⟩

theorem boxB_min (x y z : Int) : boxB (x, y, z) = (decide (1 ≤ [x, y, z].foldl min x) && decide ([x, y, z].foldl max x ≤ 50)) := by
  rw [Bool.eq_iff_iff, boxB_true, Bool.and_eq_true, decide_eq_true_iff, decide_eq_true_iff]
  show _ ↔ 1 ≤ min (min (min x x) y) z ∧ max (max (max x x) y) z ≤ 50
  dsimp only
  omega

theorem isBox_any (x y z : Int) (w : World) (q : Bool) (hq : boxB (x, y, z) = q) :
    Calls Try.prog 84 #[.agg #[.int .i64 x, .int .i64 y, .int .i64 z]] w fun e w' => e = .returned (.bool q) ∧ Below w.heap.size w w' := by
  rw [boxB_min] at hq
  obtain ⟨m, hm⟩ : ∃ m, [x, y, z].foldl min x = m := ⟨_, rfl⟩
  obtain ⟨M, hM⟩ : ∃ M, [x, y, z].foldl max x = M := ⟨_, rfl⟩
  have HM1 := Lib.hid hm
  have HM2 := Lib.hid hM
  rw [hm, hM] at hq
  clear hm hM
  by_cases h1 : 1 ≤ m
  · have h2 : decide (M ≤ 50) = q := by simpa [h1] using hq
    clear hq
    go_enter Try.func84, Try.ntmps84
    go_wp2_with fail
    refine (sides_any x y z _).mono ?_
    rintro e w1 ⟨g, rfl, hg, hc, hb⟩
    have hs := seg3_of hc
    go_wp2_with fail
    refine (slicesMin_any _ 3 _ [x, y, z] x _ _ _ rfl (by omega) hs (by omega) rfl).mono ?_
    rintro e w2 ⟨rfl, rfl⟩
    rw [HM1.out]
    go_wp2_with fail
    refine (slicesMaxA_any _ 3 _ [x, y, z] x _ _ _ rfl (by omega) hs (by omega) rfl).mono ?_
    rintro e w2 ⟨rfl, rfl⟩
    rw [HM2.out]
    go_wp2
    go_ret
    exact ⟨rfl, ((Below.refl _ _).alloc (Nat.le_refl _) _).trans (hb.mono (by simp))⟩
  · obtain rfl : q = false := by rw [← hq]; simp [h1]
    have h2 : decide (1 ≤ m) = false := by simpa using h1
    clear hq h1
    go_enter Try.func84, Try.ntmps84
    go_wp2_with fail
    refine (sides_any x y z _).mono ?_
    rintro e w1 ⟨g, rfl, hg, hc, hb⟩
    have hs := seg3_of hc
    go_wp2_with fail
    refine (slicesMin_any _ 3 _ [x, y, z] x _ _ _ rfl (by omega) hs (by omega) rfl).mono ?_
    rintro e w2 ⟨rfl, rfl⟩
    rw [HM1.out]
    go_wp2
    go_ret
    exact ⟨rfl, ((Below.refl _ _).alloc (Nat.le_refl _) _).trans (hb.mono (by simp))⟩

theorem goodN_out {bs : List (Int × Int × Int)} (h : inB (bs.length : Int) 1 7 = false) : goodN bs = false := by rw [goodN, h, Bool.false_and]
theorem goodN_in {bs : List (Int × Int × Int)} (h : inB (bs.length : Int) 1 7 = true) : goodN bs = bs.all boxB := by rw [goodN, h, Bool.true_and]

def RetN (bs : List (Int × Int × Int)) (w : World) (e : Ending) (w' : World) : Prop := e = .returned (.bool (goodN bs)) ∧ Below w.heap.size w w'

set_option maxRecDepth 100000 in
set_option maxHeartbeats 1000000 in
theorem neAll_ret (A : Option Addr) (n c : Nat) (bs : List (Int × Int × Int)) (lo hi : Nat) (w : World) (hn : bs.length = n) (hlen : n ≤ 1048576) (hs : Seg w lo hi A (flat3 bs)) (hB : hi ≤ w.heap.size) :
    Calls Try.prog 43 #[.slice A n c] w (RetN bs w) := by
  have HN := Lib.hid hn
  by_cases h1 : inB (n : Int) 1 7 = true
  · have H2 : Hid (goodN bs = bs.all boxB) := goodN_in (by rw [hn]; exact h1)
    clear hn
    go_enter Try.func43, Try.ntmps43
    go_wp2_with (go_at_call 82; refine (l1In_any _ _ _ true h1 _).mono ?_; rintro e w' ⟨rfl, rfl⟩)
    go_loopw [4, 11] (fun _ i wr => ∃ k : Nat, k ≤ n ∧ i = .int .i64 k ∧ Below w.heap.size w wr ∧ ∀ j b, j < k → bs[j]? = some b → boxB b = true) (fun _ i _ => n - (intOf i).toNat)
    case atStart => exact ⟨0, Nat.zero_le _, rfl, Below.refl _ _, fun j u hj => by omega⟩
    case round =>
      obtain ⟨k, hk, rfl, hb, hall⟩ := hrel
      have HA := Lib.hid hall
      clear hall
      by_cases hlt : k < n
      · obtain ⟨b, off, x, y, z, rfl, _, _, hx, hc0, hc1, hc2⟩ := (hs.below hb hB).tri (k := k) (by rw [HN.out]; exact hlt)
        have HX := Lib.hid hx
        clear hx
        by_cases ht : boxB (x, y, z) = true
        · go_wp2_with fail
          refine (neGood_any _ _ _ _ true ht).mono ?_
          rintro e w' ⟨rfl, hb2⟩
          have hb3 := (hb.alloc hb.size (.cells #[.int .i64 x, .int .i64 y, .int .i64 z] 61)).trans (hb2.mono (by have := hb.size; simp; omega))
          go_wp2
          go_roundw
          case rel =>
            refine ⟨k + 1, by omega, by go_num, hb3, fun j v hj hv => ?_⟩
            by_cases e : j = k
            · subst e; rw [HX.out] at hv; injection hv with hv; subst hv; exact ht
            · exact HA.out j v (by omega) hv
          case measure => simp [intOf]; omega
        · have ht' : boxB (x, y, z) = false := by simpa using ht
          clear ht
          go_wp2_with fail
          refine (neGood_any _ _ _ _ false ht').mono ?_
          rintro e w' ⟨rfl, hb2⟩
          have hb3 := (hb.alloc hb.size (.cells #[.int .i64 x, .int .i64 y, .int .i64 z] 61)).trans (hb2.mono (by have := hb.size; simp; omega))
          go_wp2
          go_ret
          exact ⟨by rw [H2.out, allN_not HX.out ht']; rfl, hb3⟩
      · obtain rfl : k = n := by omega
        go_wp2
        go_ret
        refine ⟨?_, hb⟩
        rw [H2.out, allN_of fun j u hj => HA.out j u (by rw [← HN.out]; exact (List.getElem?_eq_some_iff.1 hj).1) hj]
        rfl
  · have h1' : inB (n : Int) 1 7 = false := by simpa using h1
    have H2 : Hid (goodN bs = false) := goodN_out (by rw [hn]; exact h1')
    clear hn h1
    go_enter Try.func43, Try.ntmps43
    go_wp2_with (go_at_call 82; refine (l1In_any _ _ _ false h1' _).mono ?_; rintro e w' ⟨rfl, rfl⟩)
    go_ret
    exact ⟨by rw [H2.out]; rfl, Below.refl _ _⟩

theorem neAll_any (A : Option Addr) (n c : Nat) (bs : List (Int × Int × Int)) (lo hi : Nat) (w : World) (hn : bs.length = n) (hlen : n ≤ 1048576) (hs : Seg w lo hi A (flat3 bs)) (hB : hi ≤ w.heap.size) (b : Bool) (hb : goodN bs = b) :
    Calls Try.prog 43 #[.slice A n c] w fun e w' => e = .returned (.bool b) ∧ Below w.heap.size w w' :=
  (neAll_ret A n c bs lo hi w hn hlen hs hB).mono fun _ _ ⟨he, hw⟩ => ⟨by rw [he, hb], hw⟩

set_option maxHeartbeats 1000000 in
theorem areBoxes_ret (A : Option Addr) (n c : Nat) (bs : List (Int × Int × Int)) (lo hi : Nat) (w : World) (hn : bs.length = n) (hlen : n ≤ 1048576) (hs : Seg w lo hi A (flat3 bs)) (hB : hi ≤ w.heap.size) :
    Calls Try.prog 47 #[.slice A n c] w (RetN bs w) := by
  have HN := Lib.hid hn
  by_cases h1 : inB (n : Int) 1 7 = true
  · have H2 : Hid (goodN bs = bs.all boxB) := goodN_in (by rw [hn]; exact h1)
    rw [inB_true] at h1
    obtain ⟨h1, h2⟩ := h1
    clear hn
    go_enter Try.func47, Try.ntmps47
    go_wp2
    go_loopw [4, 15] (fun _ i wr => ∃ k : Nat, k ≤ n ∧ i = .int .i64 k ∧ Below w.heap.size w wr ∧ ∀ j b, j < k → bs[j]? = some b → boxB b = true) (fun _ i _ => n - (intOf i).toNat)
    case atStart => exact ⟨0, Nat.zero_le _, rfl, Below.refl _ _, fun j u hj => by omega⟩
    case round =>
      obtain ⟨k, hk, rfl, hb, hall⟩ := hrel
      have HA := Lib.hid hall
      clear hall
      by_cases hlt : k < n
      · obtain ⟨b, off, x, y, z, rfl, _, _, hx, hc0, hc1, hc2⟩ := (hs.below hb hB).tri (k := k) (by rw [HN.out]; exact hlt)
        have HX := Lib.hid hx
        clear hx
        by_cases ht : boxB (x, y, z) = true
        · go_wp2_with fail
          refine (isBox_any _ _ _ _ true ht).mono ?_
          rintro e w' ⟨rfl, hb2⟩
          have hb3 := (hb.alloc hb.size (.cells #[.int .i64 x, .int .i64 y, .int .i64 z] 61)).trans (hb2.mono (by have := hb.size; simp; omega))
          go_wp2
          go_roundw
          case rel =>
            refine ⟨k + 1, by omega, by go_num, hb3, fun j v hj hv => ?_⟩
            by_cases e : j = k
            · subst e; rw [HX.out] at hv; injection hv with hv; subst hv; exact ht
            · exact HA.out j v (by omega) hv
          case measure => simp [intOf]; omega
        · have ht' : boxB (x, y, z) = false := by simpa using ht
          clear ht
          go_wp2_with fail
          refine (isBox_any _ _ _ _ false ht').mono ?_
          rintro e w' ⟨rfl, hb2⟩
          have hb3 := (hb.alloc hb.size (.cells #[.int .i64 x, .int .i64 y, .int .i64 z] 61)).trans (hb2.mono (by have := hb.size; simp; omega))
          go_wp2
          go_ret
          exact ⟨by rw [H2.out, allN_not HX.out ht']; rfl, hb3⟩
      · obtain rfl : k = n := by omega
        go_wp2
        go_ret
        refine ⟨?_, hb⟩
        rw [H2.out, allN_of fun j u hj => HA.out j u (by rw [← HN.out]; exact (List.getElem?_eq_some_iff.1 hj).1) hj]
        rfl
  · have h1' : inB (n : Int) 1 7 = false := by simpa using h1
    have H2 : Hid (goodN bs = false) := goodN_out (by rw [hn]; exact h1')
    rw [inB_false] at h1'
    clear hn h1
    by_cases hz : n = 0
    · subst hz
      go_enter Try.func47, Try.ntmps47
      go_wp2
      go_ret
      exact ⟨by rw [H2.out]; rfl, Below.refl _ _⟩
    · have h3 : 7 < n := by omega
      clear h1' hz
      go_enter Try.func47, Try.ntmps47
      go_wp2
      go_ret
      exact ⟨by rw [H2.out]; rfl, Below.refl _ _⟩

theorem areBoxes_any (A : Option Addr) (n c : Nat) (bs : List (Int × Int × Int)) (lo hi : Nat) (w : World) (hn : bs.length = n) (hlen : n ≤ 1048576) (hs : Seg w lo hi A (flat3 bs)) (hB : hi ≤ w.heap.size) (b : Bool) (hb : goodN bs = b) :
    Calls Try.prog 47 #[.slice A n c] w fun e w' => e = .returned (.bool b) ∧ Below w.heap.size w w' :=
  (areBoxes_ret A n c bs lo hi w hn hlen hs hB).mono fun _ _ ⟨he, hw⟩ => ⟨by rw [he, hb], hw⟩

end Go.Proofs.Ytbaofgbkcolmmab
