/-
  Both programs' test for books.
  Conditions: the list has at most 1048576 books.
-/
import Derived.Test.YtbaofgbkcolmmabDoorBooks
namespace Go.Proofs.YtbaofgbkcolmmabDoor
set_option linter.unusedVariables false
open Go.RowKit

theorem goodK_out {bs : List (Int × Int)} (h : inB (bs.length : Int) 1 12 = false) : goodK bs = false := by rw [goodK, h, Bool.false_and]
theorem goodK_in {bs : List (Int × Int)} (h : inB (bs.length : Int) 1 12 = true) : goodK bs = bs.all bookB := by rw [goodK, h, Bool.true_and]

def RetK (bs : List (Int × Int)) (w : World) (e : Ending) (w' : World) : Prop := e = .returned (.bool (goodK bs)) ∧ Below w.heap.size w w'

set_option maxRecDepth 100000 in
set_option maxHeartbeats 1000000 in
theorem shGood_ret (A : Option Addr) (n c : Nat) (bs : List (Int × Int)) (lo hi : Nat) (w : World) (hn : bs.length = n) (hlen : n ≤ 1048576) (hs : Seg w lo hi A (flat bs)) (hB : hi ≤ w.heap.size) :
    Calls Tryd.prog 59 #[.slice A n c] w (RetK bs w) := by
  have HN := Lib.hid hn
  by_cases h1 : inB (n : Int) 1 12 = true
  · have H2 : Hid (goodK bs = bs.all bookB) := goodK_in (by rw [hn]; exact h1)
    clear hn
    go_enter Tryd.func59, Tryd.ntmps59
    go_wp2_with (go_at_call 75; refine (l1In_any _ _ _ true h1 _).mono ?_; rintro e w' ⟨rfl, rfl⟩)
    go_loopw [4, 11] (fun _ i wr => ∃ k : Nat, k ≤ n ∧ i = .int .i64 k ∧ Below w.heap.size w wr ∧ ∀ j b, j < k → bs[j]? = some b → bookB b = true) (fun _ i _ => n - (intOf i).toNat)
    case atStart => exact ⟨0, Nat.zero_le _, rfl, Below.refl _ _, fun j u hj => by omega⟩
    case round =>
      obtain ⟨k, hk, rfl, hb, hall⟩ := hrel
      have HA := Lib.hid hall
      clear hall
      by_cases hlt : k < n
      · obtain ⟨b, off, t, u, rfl, _, _, hx, hc0, hc1⟩ := (hs.below hb hB).book (k := k) (by rw [HN.out]; exact hlt)
        have HX := Lib.hid hx
        have hb1 := hb.alloc hb.size (.cells #[.int .i64 t, .int .i64 u] 83)
        clear hx
        by_cases ht : inB t 1 100 = true
        · by_cases hu : inB u 1 100 = true
          · go_wp2_with fail
            refine (l1In_any _ _ _ true ht _).mono ?_
            rintro e w' ⟨rfl, rfl⟩
            go_wp2_with fail
            refine (l1In_any _ _ _ true hu _).mono ?_
            rintro e w' ⟨rfl, rfl⟩
            go_wp2
            go_roundw
            case rel =>
              refine ⟨k + 1, by omega, by go_num, hb1, fun j v hj hv => ?_⟩
              by_cases e : j = k
              · subst e; rw [HX.out] at hv; injection hv with hv; subst hv; simp [bookB, ht, hu]
              · exact HA.out j v (by omega) hv
            case measure => simp [intOf]; omega
          · have hu' : inB u 1 100 = false := by simpa using hu
            clear hu
            go_wp2_with fail
            refine (l1In_any _ _ _ true ht _).mono ?_
            rintro e w' ⟨rfl, rfl⟩
            go_wp2_with fail
            refine (l1In_any _ _ _ false hu' _).mono ?_
            rintro e w' ⟨rfl, rfl⟩
            go_wp2
            go_ret
            exact ⟨by rw [H2.out, allK_not HX.out (by simp [bookB, hu'])]; rfl, hb1⟩
        · have ht' : inB t 1 100 = false := by simpa using ht
          clear ht
          go_wp2_with (go_at_call 75; refine (l1In_any _ _ _ false ht' _).mono ?_; rintro e w' ⟨rfl, rfl⟩)
          go_ret
          exact ⟨by rw [H2.out, allK_not HX.out (by simp [bookB, ht'])]; rfl, hb1⟩
      · obtain rfl : k = n := by omega
        go_wp2
        go_ret
        refine ⟨?_, hb⟩
        rw [H2.out, allK_of fun j u hj => HA.out j u (by rw [← HN.out]; exact (List.getElem?_eq_some_iff.1 hj).1) hj]
        rfl
  · have h1' : inB (n : Int) 1 12 = false := by simpa using h1
    have H2 : Hid (goodK bs = false) := goodK_out (by rw [hn]; exact h1')
    clear hn h1
    go_enter Tryd.func59, Tryd.ntmps59
    go_wp2_with (go_at_call 75; refine (l1In_any _ _ _ false h1' _).mono ?_; rintro e w' ⟨rfl, rfl⟩)
    go_ret
    exact ⟨by rw [H2.out]; rfl, Below.refl _ _⟩

theorem shGood_any (A : Option Addr) (n c : Nat) (bs : List (Int × Int)) (lo hi : Nat) (w : World) (hn : bs.length = n) (hlen : n ≤ 1048576) (hs : Seg w lo hi A (flat bs)) (hB : hi ≤ w.heap.size) (b : Bool) (hb : goodK bs = b) :
    Calls Tryd.prog 59 #[.slice A n c] w fun e w' => e = .returned (.bool b) ∧ Below w.heap.size w w' :=
  (shGood_ret A n c bs lo hi w hn hlen hs hB).mono fun _ _ ⟨he, hw⟩ => ⟨by rw [he, hb], hw⟩

set_option maxHeartbeats 1000000 in
theorem areBooks_ret (A : Option Addr) (n c : Nat) (bs : List (Int × Int)) (lo hi : Nat) (w : World) (hn : bs.length = n) (hlen : n ≤ 1048576) (hs : Seg w lo hi A (flat bs)) (hB : hi ≤ w.heap.size) :
    Calls Tryd.prog 91 #[.slice A n c] w (RetK bs w) := by
  have HN := Lib.hid hn
  by_cases h1 : inB (n : Int) 1 12 = true
  · have H2 : Hid (goodK bs = bs.all bookB) := goodK_in (by rw [hn]; exact h1)
    rw [inB_true] at h1
    obtain ⟨h1, h2⟩ := h1
    clear hn
    go_enter Tryd.func91, Tryd.ntmps91
    go_wp2
    go_loopw [4, 15] (fun _ i wr => ∃ k : Nat, k ≤ n ∧ i = .int .i64 k ∧ Below w.heap.size w wr ∧ ∀ j b, j < k → bs[j]? = some b → bookB b = true) (fun _ i _ => n - (intOf i).toNat)
    case atStart => exact ⟨0, Nat.zero_le _, rfl, Below.refl _ _, fun j u hj => by omega⟩
    case round =>
      obtain ⟨k, hk, rfl, hb, hall⟩ := hrel
      have HA := Lib.hid hall
      clear hall
      by_cases hlt : k < n
      · obtain ⟨b, off, t, u, rfl, _, _, hx, hc0, hc1⟩ := (hs.below hb hB).book (k := k) (by rw [HN.out]; exact hlt)
        have HX := Lib.hid hx
        have hb1 := hb.alloc hb.size (.cells #[.int .i64 t, .int .i64 u] 83)
        clear hx
        have no : ∀ q : Bool, bookB (t, u) = q → Hid (bookB (t, u) = q) := fun _ h => h
        by_cases t1 : t < 1
        · have HQ := no false (by simp [bookB, inB]; omega)
          go_wp2
          go_ret
          exact ⟨by rw [H2.out, allK_not HX.out HQ.out]; rfl, hb1⟩
        by_cases t2 : 100 < t
        · have HQ := no false (by simp [bookB, inB]; omega)
          go_wp2
          go_ret
          exact ⟨by rw [H2.out, allK_not HX.out HQ.out]; rfl, hb1⟩
        by_cases u1 : u < 1
        · have HQ := no false (by simp [bookB, inB]; omega)
          go_wp2
          go_ret
          exact ⟨by rw [H2.out, allK_not HX.out HQ.out]; rfl, hb1⟩
        by_cases u2 : 100 < u
        · have HQ := no false (by simp [bookB, inB]; omega)
          go_wp2
          go_ret
          exact ⟨by rw [H2.out, allK_not HX.out HQ.out]; rfl, hb1⟩
        have HQ := no true (by simp [bookB, inB]; omega)
        go_wp2
        go_roundw
        case rel =>
          refine ⟨k + 1, by omega, by go_num, hb1, fun j v hj hv => ?_⟩
          by_cases e : j = k
          · subst e; rw [HX.out] at hv; injection hv with hv; subst hv; exact HQ.out
          · exact HA.out j v (by omega) hv
        case measure => simp [intOf]; omega
      · obtain rfl : k = n := by omega
        go_wp2
        go_ret
        refine ⟨?_, hb⟩
        rw [H2.out, allK_of fun j u hj => HA.out j u (by rw [← HN.out]; exact (List.getElem?_eq_some_iff.1 hj).1) hj]
        rfl
  · have h1' : inB (n : Int) 1 12 = false := by simpa using h1
    have H2 : Hid (goodK bs = false) := goodK_out (by rw [hn]; exact h1')
    rw [inB_false] at h1'
    clear hn h1
    by_cases hz : n = 0
    · subst hz
      go_enter Tryd.func91, Tryd.ntmps91
      go_wp2
      go_ret
      exact ⟨by rw [H2.out]; rfl, Below.refl _ _⟩
    · have h3 : 12 < n := by omega
      clear h1' hz
      go_enter Tryd.func91, Tryd.ntmps91
      go_wp2
      go_ret
      exact ⟨by rw [H2.out]; rfl, Below.refl _ _⟩

theorem areBooks_any (A : Option Addr) (n c : Nat) (bs : List (Int × Int)) (lo hi : Nat) (w : World) (hn : bs.length = n) (hlen : n ≤ 1048576) (hs : Seg w lo hi A (flat bs)) (hB : hi ≤ w.heap.size) (b : Bool) (hb : goodK bs = b) :
    Calls Tryd.prog 91 #[.slice A n c] w fun e w' => e = .returned (.bool b) ∧ Below w.heap.size w w' :=
  (areBooks_ret A n c bs lo hi w hn hlen hs hB).mono fun _ _ ⟨he, hw⟩ => ⟨by rw [he, hb], hw⟩
end Go.Proofs.YtbaofgbkcolmmabDoor
