/-
  Both programs' tests for pieces.
  Conditions: the list has at most 1048576 pieces.
-/
import Derived.Test.YtjpejhpilfjheaaPcs
import Derived.Test.YtjpejhpilfjheaaBdG
namespace Go.Proofs.Ytjpejhpilfjheaa
set_option linter.unusedVariables false
open Go.RowKit

theorem bdGood_p (x y : Int) (w : World) (q : Bool) (hq : bdB x y = q) : Calls Try.prog 42 #[.int .i64 x, .int .i64 y] w fun e w' => e = .returned (.bool q) ∧ w = w' := by
  cases h1 : inB x 1 24
  · obtain rfl : q = false := by rw [← hq]; simp [bdB, h1]
    clear hq
    go_enter Try.func42, Try.ntmps42
    go_wp2_with fail
    refine (l1In_any _ _ _ false h1 _).mono ?_
    rintro e w' ⟨rfl, rfl⟩
    go_wp2
    go_ret
    exact ⟨rfl, rfl⟩
  · have h2 : inB y 1 24 = q := by rw [← hq]; simp [bdB, h1]
    clear hq
    go_enter Try.func42, Try.ntmps42
    go_wp2_with fail
    refine (l1In_any _ _ _ true h1 _).mono ?_
    rintro e w' ⟨rfl, rfl⟩
    go_wp2_with fail
    refine (l1In_any _ _ _ q h2 _).mono ?_
    rintro e w' ⟨rfl, rfl⟩
    go_wp2
    go_ret
    exact ⟨rfl, rfl⟩

theorem goodPc_out {bs : List (Int × Int × Int)} (h : inB (bs.length : Int) 1 4 = false) : goodPc bs = false := by rw [goodPc, h, Bool.false_and]
theorem goodPc_in {bs : List (Int × Int × Int)} (h : inB (bs.length : Int) 1 4 = true) : goodPc bs = bs.all pcB := by rw [goodPc, h, Bool.true_and]
theorem allPc_of {bs : List (Int × Int × Int)} (h : ∀ (k : Nat) b, bs[k]? = some b → pcB b = true) : bs.all pcB = true := by
  rw [List.all_eq_true]
  intro x hx
  obtain ⟨k, hk⟩ := List.getElem?_of_mem hx
  exact h k x hk
theorem allPc_not {bs : List (Int × Int × Int)} {k : Nat} {b : Int × Int × Int} (h : bs[k]? = some b) (hu : pcB b = false) : bs.all pcB = false := by
  rw [List.all_eq_false]
  exact ⟨b, List.mem_of_getElem? h, by simp [hu]⟩
def RetPc_ (bs : List (Int × Int × Int)) (w : World) (e : Ending) (w' : World) : Prop := e = .returned (.bool (goodPc bs)) ∧ Below w.heap.size w w'

set_option maxRecDepth 100000 in
set_option maxHeartbeats 1000000 in
theorem bdPieces_ret (A : Option Addr) (n c : Nat) (bs : List (Int × Int × Int)) (lo hi : Nat) (w : World) (hn : bs.length = n) (hlen : n ≤ 1048576) (hs : Seg w lo hi A (flat3 bs)) (hB : hi ≤ w.heap.size) :
    Calls Try.prog 59 #[.slice A n c] w (RetPc_ bs w) := by
  have HN := Lib.hid hn
  by_cases h1 : inB (n : Int) 1 4 = true
  · have H2 : Hid (goodPc bs = bs.all pcB) := goodPc_in (by rw [hn]; exact h1)
    have h1' := inB_true.1 h1
    obtain ⟨h3, h4⟩ := h1'
    clear hn
    go_enter Try.func59, Try.ntmps59
    go_wp2_with fail
    refine (l1In_any _ _ _ true h1 _).mono ?_
    rintro e w' ⟨rfl, rfl⟩
    go_wp2
    go_loopw [4, 11] (fun _ i wr => ∃ k : Nat, k ≤ n ∧ i = .int .i64 k ∧ Below w.heap.size w wr ∧ ∀ j b, j < k → bs[j]? = some b → pcB b = true) (fun _ i _ => n - (intOf i).toNat)
    case atStart => exact ⟨0, Nat.zero_le _, rfl, Below.refl _ _, fun j u hj => by omega⟩
    case round =>
      obtain ⟨k, hk, rfl, hb, hall⟩ := hrel
      have HA := Lib.hid hall
      clear hall
      by_cases hlt : k < n
      · obtain ⟨b, off, x, y, z, rfl, _, _, hxx, hc0, hc1, hc2⟩ := (hs.below hb hB).tri (k := k) (by rw [HN.out]; exact hlt)
        have HX := Lib.hid hxx
        have HB := Lib.hid hb
        clear hxx
        cases hit : pcB (x, y, z)
        · have hb3 := HB.out.alloc HB.out.size (.cells #[.int .i64 x, .int .i64 y, .int .i64 z] 26)
          cases hbd : bdB x y
          · go_wp2_with fail
            refine (bdGood_p x y _ false hbd).mono ?_
            rintro e w' ⟨rfl, rfl⟩
            go_wp2
            go_ret
            exact ⟨by rw [H2.out, allPc_not HX.out hit]; rfl, hb3⟩
          · have hz : inB z 0 1000 = false := by simpa [pcB, hbd] using hit
            go_wp2_with fail
            refine (bdGood_p x y _ true hbd).mono ?_
            rintro e w' ⟨rfl, rfl⟩
            go_wp2_with fail
            refine (l1In_any _ _ _ false hz _).mono ?_
            rintro e w' ⟨rfl, rfl⟩
            go_wp2
            go_ret
            exact ⟨by rw [H2.out, allPc_not HX.out hit]; rfl, hb3⟩
        · skip
          have hb3 := HB.out.alloc HB.out.size (.cells #[.int .i64 x, .int .i64 y, .int .i64 z] 26)
          have hbd : bdB x y = true := by simp [pcB] at hit; exact hit.1
          have hz : inB z 0 1000 = true := by simp [pcB] at hit; exact hit.2
          go_wp2_with fail
          refine (bdGood_p x y _ true hbd).mono ?_
          rintro e w' ⟨rfl, rfl⟩
          go_wp2_with fail
          refine (l1In_any _ _ _ true hz _).mono ?_
          rintro e w' ⟨rfl, rfl⟩
          go_wp2
          go_roundw
          case rel =>
            refine ⟨k + 1, by omega, by go_num, hb3, fun j v hj hv => ?_⟩
            by_cases e : j = k
            · subst e; rw [HX.out] at hv; injection hv with hv; subst hv; exact hit
            · exact HA.out j v (by omega) hv
          case measure => simp [intOf]; omega
      · obtain rfl : k = n := by omega
        go_wp2
        go_ret
        refine ⟨?_, hb⟩
        rw [H2.out, allPc_of fun j u hj => HA.out j u (by rw [← HN.out]; exact (List.getElem?_eq_some_iff.1 hj).1) hj]
        rfl
  · have h1' : inB (n : Int) 1 4 = false := by simpa using h1
    have H2 : Hid (goodPc bs = false) := goodPc_out (by rw [hn]; exact h1')
    clear hn h1
    go_enter Try.func59, Try.ntmps59
    go_wp2_with fail
    refine (l1In_any _ _ _ false h1' _).mono ?_
    rintro e w' ⟨rfl, rfl⟩
    go_wp2
    go_ret
    exact ⟨by rw [H2.out]; rfl, Below.refl _ _⟩

theorem bdPieces_any (A : Option Addr) (n c : Nat) (bs : List (Int × Int × Int)) (lo hi : Nat) (w : World) (hn : bs.length = n) (hlen : n ≤ 1048576) (hs : Seg w lo hi A (flat3 bs)) (hB : hi ≤ w.heap.size) (b : Bool) (hb : goodPc bs = b) :
    Calls Try.prog 59 #[.slice A n c] w fun e w' => e = .returned (.bool b) ∧ Below w.heap.size w w' :=
  (bdPieces_ret A n c bs lo hi w hn hlen hs hB).mono fun _ _ ⟨he, hw⟩ => ⟨by rw [he, hb], hw⟩

set_option maxRecDepth 100000 in
set_option maxHeartbeats 1000000 in
theorem arePieces_ret (A : Option Addr) (n c : Nat) (bs : List (Int × Int × Int)) (lo hi : Nat) (w : World) (hn : bs.length = n) (hlen : n ≤ 1048576) (hs : Seg w lo hi A (flat3 bs)) (hB : hi ≤ w.heap.size) :
    Calls Try.prog 56 #[.slice A n c] w (RetPc_ bs w) := by
  have HN := Lib.hid hn
  by_cases h1 : inB (n : Int) 1 4 = true
  · have H2 : Hid (goodPc bs = bs.all pcB) := goodPc_in (by rw [hn]; exact h1)
    have h1' := inB_true.1 h1
    obtain ⟨h3, h4⟩ := h1'
    clear hn
    go_enter Try.func56, Try.ntmps56
    go_wp2
    go_loopw [4, 15] (fun _ i wr => ∃ k : Nat, k ≤ n ∧ i = .int .i64 k ∧ Below w.heap.size w wr ∧ ∀ j b, j < k → bs[j]? = some b → pcB b = true) (fun _ i _ => n - (intOf i).toNat)
    case atStart => exact ⟨0, Nat.zero_le _, rfl, Below.refl _ _, fun j u hj => by omega⟩
    case round =>
      obtain ⟨k, hk, rfl, hb, hall⟩ := hrel
      have HA := Lib.hid hall
      clear hall
      by_cases hlt : k < n
      · obtain ⟨b, off, x, y, z, rfl, _, _, hxx, hc0, hc1, hc2⟩ := (hs.below hb hB).tri (k := k) (by rw [HN.out]; exact hlt)
        have HX := Lib.hid hxx
        have HB := Lib.hid hb
        clear hxx
        cases hit : pcB (x, y, z)
        · go_wp2_with fail
          refine (isPiece_any x y z _ false hit).mono ?_
          rintro e w' ⟨rfl, hb2⟩
          have hb3 := (HB.out.alloc HB.out.size (.cells #[.int .i64 x, .int .i64 y, .int .i64 z] 26)).trans (hb2.mono (by have := HB.out.size; simp; omega))
          go_wp2
          go_ret
          exact ⟨by rw [H2.out, allPc_not HX.out hit]; rfl, hb3⟩
        · skip
          go_wp2_with fail
          refine (isPiece_any x y z _ true hit).mono ?_
          rintro e w' ⟨rfl, hb2⟩
          have hb3 := (HB.out.alloc HB.out.size (.cells #[.int .i64 x, .int .i64 y, .int .i64 z] 26)).trans (hb2.mono (by have := HB.out.size; simp; omega))
          go_wp2
          go_roundw
          case rel =>
            refine ⟨k + 1, by omega, by go_num, hb3, fun j v hj hv => ?_⟩
            by_cases e : j = k
            · subst e; rw [HX.out] at hv; injection hv with hv; subst hv; exact hit
            · exact HA.out j v (by omega) hv
          case measure => simp [intOf]; omega
      · obtain rfl : k = n := by omega
        go_wp2
        go_ret
        refine ⟨?_, hb⟩
        rw [H2.out, allPc_of fun j u hj => HA.out j u (by rw [← HN.out]; exact (List.getElem?_eq_some_iff.1 hj).1) hj]
        rfl
  · have h1' : inB (n : Int) 1 4 = false := by simpa using h1
    have H2 : Hid (goodPc bs = false) := goodPc_out (by rw [hn]; exact h1')
    clear hn h1
    rw [inB_false] at h1'
    by_cases hz : n = 0
    · subst hz
      go_enter Try.func56, Try.ntmps56
      go_wp2
      go_ret
      exact ⟨by rw [H2.out]; rfl, Below.refl _ _⟩
    · have h3 : 4 < n := by omega
      clear h1' hz
      go_enter Try.func56, Try.ntmps56
      go_wp2
      go_ret
      exact ⟨by rw [H2.out]; rfl, Below.refl _ _⟩

theorem arePieces_any (A : Option Addr) (n c : Nat) (bs : List (Int × Int × Int)) (lo hi : Nat) (w : World) (hn : bs.length = n) (hlen : n ≤ 1048576) (hs : Seg w lo hi A (flat3 bs)) (hB : hi ≤ w.heap.size) (b : Bool) (hb : goodPc bs = b) :
    Calls Try.prog 56 #[.slice A n c] w fun e w' => e = .returned (.bool b) ∧ Below w.heap.size w w' :=
  (arePieces_ret A n c bs lo hi w hn hlen hs hB).mono fun _ _ ⟨he, hw⟩ => ⟨by rw [he, hb], hw⟩

end Go.Proofs.Ytjpejhpilfjheaa
