/-
  Both programs' tests for an item, for items and for a suitcase.
  Conditions: the list has at most 1048576 items.
-/
import Derived.Test.YtjpejhpilfjheabItms
import Derived.Test.YtjpejhpilfjheabSuM
namespace Go.Proofs.Ytjpejhpilfjheab
set_option linter.unusedVariables false
open Go.RowKit

theorem goodI_out {bs : List (Int × Int × Int)} (h : inB (bs.length : Int) 1 10 = false) : goodI bs = false := by rw [goodI, h, Bool.false_and]
theorem goodI_in {bs : List (Int × Int × Int)} (h : inB (bs.length : Int) 1 10 = true) : goodI bs = bs.all itB := by rw [goodI, h, Bool.true_and]
def RetT_ (bs : List (Int × Int × Int)) (w : World) (e : Ending) (w' : World) : Prop := e = .returned (.bool (goodI bs)) ∧ Below w.heap.size w w'

theorem toCase_any (x y : Int) (w : World) :
    Calls Try.prog 22 #[.agg #[.int .i64 x, .int .i64 y]] w fun e w' => e = .returned (.agg #[.int .i64 x, .int .i64 y]) ∧ Below w.heap.size w w' := by
  go_enter Try.func22, Try.ntmps22
  go_wp2
  refine bodyPost_ret (v := .agg #[.int .i64 x, .int .i64 y]) (by simp [results, Try.results22, go_sem]) rfl ⟨rfl, ?_⟩
  exact (((Below.refl _ _).alloc (Nat.le_refl _) _).alloc (by simp) _).alloc (by simp; omega) _

theorem isLimit_any (a : Int) (w : World) (q : Bool) (hq : inB a 0 200 = q) :
    Calls Try.prog 109 #[.int .i64 a] w fun e w' => e = .returned (.bool q) ∧ w = w' := by
  go_enter Try.func109, Try.ntmps109
  by_cases h1 : 0 ≤ a
  · by_cases h2 : a ≤ 200
    · obtain rfl : q = true := by rw [← hq]; exact inB_true.2 ⟨h1, h2⟩
      go_wp2
      go_ret
      exact ⟨rfl, rfl⟩
    · obtain rfl : q = false := by rw [← hq]; exact inB_false.2 (fun h => h2 h.2)
      have h3 : decide (a ≤ 200) = false := decide_eq_false h2
      go_wp2
      go_ret
      exact ⟨rfl, rfl⟩
  · obtain rfl : q = false := by rw [← hq]; exact inB_false.2 (fun h => h1 h.1)
    have h3 : decide (0 ≤ a) = false := decide_eq_false h1
    go_wp2
    go_ret
    exact ⟨rfl, rfl⟩

theorem inL_any (a : Int) (w : World) (q : Bool) (hq : inB a 0 200 = q) :
    Calls Try.prog 74 #[.int .i64 a, .int .i64 0, .int .i64 200] w fun e w' => e = .returned (.bool q) ∧ w = w' := l1In_any a 0 200 q hq w

/-- A suitcase. -/
def caseB (W B : Int) : Bool := inB W 0 200 && inB B 0 200

set_option maxHeartbeats 1000000 in
theorem suItem_any (x y z : Int) (w : World) (q : Bool) (hq : itB (x, y, z) = q) :
    Calls Try.prog 105 #[.agg #[.int .i64 x, .int .i64 y, .int .i64 z]] w fun e w' => e = .returned (.bool q) ∧ Below w.heap.size w w' := by
  have hb0 := (Below.refl w.heap.size w).alloc (Nat.le_refl _) (.cells #[.int .i64 x, .int .i64 y, .int .i64 z] 63)
  cases hx : inB x 0 200
  · obtain rfl : q = false := by rw [← hq]; simp [itB, hx]
    clear hq
    go_enter Try.func105, Try.ntmps105
    go_wp2_with fail
    refine (inL_any _ _ false hx).mono ?_
    rintro e w' ⟨rfl, rfl⟩
    go_wp2
    go_ret
    exact ⟨rfl, hb0⟩
  · skip
    cases hy : inB y 0 200
    · obtain rfl : q = false := by rw [← hq]; simp [itB, hx, hy]
      clear hq
      go_enter Try.func105, Try.ntmps105
      go_wp2_with fail
      refine (inL_any _ _ true hx).mono ?_
      rintro e w' ⟨rfl, rfl⟩
      go_wp2_with fail
      refine (inL_any _ _ false hy).mono ?_
      rintro e w' ⟨rfl, rfl⟩
      go_wp2
      go_ret
      exact ⟨rfl, hb0⟩
    · skip
      cases hz : inB z 0 200
      · obtain rfl : q = false := by rw [← hq]; simp [itB, hx, hy, hz]
        clear hq
        go_enter Try.func105, Try.ntmps105
        go_wp2_with fail
        refine (inL_any _ _ true hx).mono ?_
        rintro e w' ⟨rfl, rfl⟩
        go_wp2_with fail
        refine (inL_any _ _ true hy).mono ?_
        rintro e w' ⟨rfl, rfl⟩
        go_wp2_with fail
        refine (inL_any _ _ false hz).mono ?_
        rintro e w' ⟨rfl, rfl⟩
        go_wp2
        go_ret
        exact ⟨rfl, hb0⟩
      · obtain rfl : q = true := by rw [← hq]; simp [itB, hx, hy, hz]
        clear hq
        go_enter Try.func105, Try.ntmps105
        go_wp2_with fail
        refine (inL_any _ _ true hx).mono ?_
        rintro e w' ⟨rfl, rfl⟩
        go_wp2_with fail
        refine (inL_any _ _ true hy).mono ?_
        rintro e w' ⟨rfl, rfl⟩
        go_wp2_with fail
        refine (inL_any _ _ true hz).mono ?_
        rintro e w' ⟨rfl, rfl⟩
        go_wp2
        go_ret
        exact ⟨rfl, hb0⟩

set_option maxHeartbeats 1000000 in
theorem isItem_any (x y z : Int) (w : World) (q : Bool) (hq : itB (x, y, z) = q) :
    Calls Try.prog 108 #[.agg #[.int .i64 x, .int .i64 y, .int .i64 z]] w fun e w' => e = .returned (.bool q) ∧ Below w.heap.size w w' := by
  have hb0 := (Below.refl w.heap.size w).alloc (Nat.le_refl _) (.cells #[.int .i64 x, .int .i64 y, .int .i64 z] 63)
  cases hx : inB x 0 200
  · obtain rfl : q = false := by rw [← hq]; simp [itB, hx]
    clear hq
    go_enter Try.func108, Try.ntmps108
    go_wp2_with fail
    refine (isLimit_any _ _ false hx).mono ?_
    rintro e w' ⟨rfl, rfl⟩
    go_wp2
    go_ret
    exact ⟨rfl, hb0⟩
  · skip
    cases hy : inB y 0 200
    · obtain rfl : q = false := by rw [← hq]; simp [itB, hx, hy]
      clear hq
      go_enter Try.func108, Try.ntmps108
      go_wp2_with fail
      refine (isLimit_any _ _ true hx).mono ?_
      rintro e w' ⟨rfl, rfl⟩
      go_wp2_with fail
      refine (isLimit_any _ _ false hy).mono ?_
      rintro e w' ⟨rfl, rfl⟩
      go_wp2
      go_ret
      exact ⟨rfl, hb0⟩
    · skip
      cases hz : inB z 0 200
      · obtain rfl : q = false := by rw [← hq]; simp [itB, hx, hy, hz]
        clear hq
        go_enter Try.func108, Try.ntmps108
        go_wp2_with fail
        refine (isLimit_any _ _ true hx).mono ?_
        rintro e w' ⟨rfl, rfl⟩
        go_wp2_with fail
        refine (isLimit_any _ _ true hy).mono ?_
        rintro e w' ⟨rfl, rfl⟩
        go_wp2_with fail
        refine (isLimit_any _ _ false hz).mono ?_
        rintro e w' ⟨rfl, rfl⟩
        go_wp2
        go_ret
        exact ⟨rfl, hb0⟩
      · obtain rfl : q = true := by rw [← hq]; simp [itB, hx, hy, hz]
        clear hq
        go_enter Try.func108, Try.ntmps108
        go_wp2_with fail
        refine (isLimit_any _ _ true hx).mono ?_
        rintro e w' ⟨rfl, rfl⟩
        go_wp2_with fail
        refine (isLimit_any _ _ true hy).mono ?_
        rintro e w' ⟨rfl, rfl⟩
        go_wp2_with fail
        refine (isLimit_any _ _ true hz).mono ?_
        rintro e w' ⟨rfl, rfl⟩
        go_wp2
        go_ret
        exact ⟨rfl, hb0⟩

set_option maxHeartbeats 1000000 in
theorem isCase_any (x y : Int) (w : World) (q : Bool) (hq : caseB x y = q) :
    Calls Try.prog 86 #[.agg #[.int .i64 x, .int .i64 y]] w fun e w' => e = .returned (.bool q) ∧ Below w.heap.size w w' := by
  have hb0 := (Below.refl w.heap.size w).alloc (Nat.le_refl _) (.cells #[.int .i64 x, .int .i64 y] 41)
  cases hx : inB x 0 200
  · obtain rfl : q = false := by rw [← hq]; simp [caseB, hx]
    clear hq
    go_enter Try.func86, Try.ntmps86
    go_wp2_with fail
    refine (isLimit_any _ _ false hx).mono ?_
    rintro e w' ⟨rfl, rfl⟩
    go_wp2
    go_ret
    exact ⟨rfl, hb0⟩
  · skip
    cases hy : inB y 0 200
    · obtain rfl : q = false := by rw [← hq]; simp [caseB, hx, hy]
      clear hq
      go_enter Try.func86, Try.ntmps86
      go_wp2_with fail
      refine (isLimit_any _ _ true hx).mono ?_
      rintro e w' ⟨rfl, rfl⟩
      go_wp2_with fail
      refine (isLimit_any _ _ false hy).mono ?_
      rintro e w' ⟨rfl, rfl⟩
      go_wp2
      go_ret
      exact ⟨rfl, hb0⟩
    · obtain rfl : q = true := by rw [← hq]; simp [caseB, hx, hy]
      clear hq
      go_enter Try.func86, Try.ntmps86
      go_wp2_with fail
      refine (isLimit_any _ _ true hx).mono ?_
      rintro e w' ⟨rfl, rfl⟩
      go_wp2_with fail
      refine (isLimit_any _ _ true hy).mono ?_
      rintro e w' ⟨rfl, rfl⟩
      go_wp2
      go_ret
      exact ⟨rfl, hb0⟩

set_option maxRecDepth 100000 in
set_option maxHeartbeats 1000000 in
theorem suGood_ret (A : Option Addr) (n c : Nat) (bs : List (Int × Int × Int)) (lo hi : Nat) (w : World) (hn : bs.length = n) (hlen : n ≤ 1048576) (hs : Seg w lo hi A (flat3 bs)) (hB : hi ≤ w.heap.size) :
    Calls Try.prog 76 #[.slice A n c] w (RetT_ bs w) := by
  have HN := Lib.hid hn
  by_cases h1 : inB (n : Int) 1 10 = true
  · have H2 : Hid (goodI bs = bs.all itB) := goodI_in (by rw [hn]; exact h1)
    have h1' := inB_true.1 h1
    obtain ⟨h3, h4⟩ := h1'
    clear hn
    go_enter Try.func76, Try.ntmps76
    go_wp2_with fail
    refine (l1In_any _ _ _ true h1 _).mono ?_
    rintro e w' ⟨rfl, rfl⟩
    go_wp2
    go_loopw [4, 11] (fun _ i wr => ∃ k : Nat, k ≤ n ∧ i = .int .i64 k ∧ Below w.heap.size w wr ∧ ∀ j b, j < k → bs[j]? = some b → itB b = true) (fun _ i _ => n - (intOf i).toNat)
    case atStart => exact ⟨0, Nat.zero_le _, rfl, Below.refl _ _, fun j u hj => by omega⟩
    case round =>
      obtain ⟨k, hk, rfl, hb, hall⟩ := hrel
      have HA := Lib.hid hall
      clear hall
      by_cases hlt : k < n
      · obtain ⟨b, off, x, y, z, rfl, _, _, hxx, hc0, hc1, hc2⟩ := (hs.below hb hB).tri (k := k) (by rw [HN.out]; exact hlt)
        have HX := Lib.hid hxx
        clear hxx
        cases hit : itB (x, y, z)
        · go_wp2_with fail
          refine (suItem_any x y z _ false hit).mono ?_
          rintro e w' ⟨rfl, hb2⟩
          have hb3 := (hb.alloc hb.size (.cells #[.int .i64 x, .int .i64 y, .int .i64 z] 63)).trans (hb2.mono (by have := hb.size; simp; omega))
          go_wp2
          go_ret
          exact ⟨by rw [H2.out, allI_not HX.out hit]; rfl, hb3⟩
        · go_wp2_with fail
          refine (suItem_any x y z _ true hit).mono ?_
          rintro e w' ⟨rfl, hb2⟩
          have hb3 := (hb.alloc hb.size (.cells #[.int .i64 x, .int .i64 y, .int .i64 z] 63)).trans (hb2.mono (by have := hb.size; simp; omega))
          go_wp2
          go_roundw
          case rel =>
            refine ⟨k + 1, by omega, by go_num, hb3, fun j v hj hv => ?_⟩
            by_cases e : j = k
            · subst e; rw [HX.out] at hv; injection hv with hv; subst hv; exact hit
            · exact HA.out j v (by omega) hv
          case measure => simp [intOf]; omega
      · obtain rfl : k = n := by omega
        go_wp2
        go_ret
        refine ⟨?_, hb⟩
        rw [H2.out, allI_of fun j u hj => HA.out j u (by rw [← HN.out]; exact (List.getElem?_eq_some_iff.1 hj).1) hj]
        rfl
  · have h1' : inB (n : Int) 1 10 = false := by simpa using h1
    have H2 : Hid (goodI bs = false) := goodI_out (by rw [hn]; exact h1')
    clear hn h1
    go_enter Try.func76, Try.ntmps76
    go_wp2_with fail
    refine (l1In_any _ _ _ false h1' _).mono ?_
    rintro e w' ⟨rfl, rfl⟩
    go_wp2
    go_ret
    exact ⟨by rw [H2.out]; rfl, Below.refl _ _⟩

theorem suGood_any (A : Option Addr) (n c : Nat) (bs : List (Int × Int × Int)) (lo hi : Nat) (w : World) (hn : bs.length = n) (hlen : n ≤ 1048576) (hs : Seg w lo hi A (flat3 bs)) (hB : hi ≤ w.heap.size) (b : Bool) (hb : goodI bs = b) :
    Calls Try.prog 76 #[.slice A n c] w fun e w' => e = .returned (.bool b) ∧ Below w.heap.size w w' :=
  (suGood_ret A n c bs lo hi w hn hlen hs hB).mono fun _ _ ⟨he, hw⟩ => ⟨by rw [he, hb], hw⟩

set_option maxRecDepth 100000 in
set_option maxHeartbeats 1000000 in
theorem areItems_ret (A : Option Addr) (n c : Nat) (bs : List (Int × Int × Int)) (lo hi : Nat) (w : World) (hn : bs.length = n) (hlen : n ≤ 1048576) (hs : Seg w lo hi A (flat3 bs)) (hB : hi ≤ w.heap.size) :
    Calls Try.prog 85 #[.slice A n c] w (RetT_ bs w) := by
  have HN := Lib.hid hn
  by_cases h1 : inB (n : Int) 1 10 = true
  · have H2 : Hid (goodI bs = bs.all itB) := goodI_in (by rw [hn]; exact h1)
    have h1' := inB_true.1 h1
    obtain ⟨h3, h4⟩ := h1'
    clear hn
    go_enter Try.func85, Try.ntmps85
    go_wp2
    go_loopw [4, 15] (fun _ i wr => ∃ k : Nat, k ≤ n ∧ i = .int .i64 k ∧ Below w.heap.size w wr ∧ ∀ j b, j < k → bs[j]? = some b → itB b = true) (fun _ i _ => n - (intOf i).toNat)
    case atStart => exact ⟨0, Nat.zero_le _, rfl, Below.refl _ _, fun j u hj => by omega⟩
    case round =>
      obtain ⟨k, hk, rfl, hb, hall⟩ := hrel
      have HA := Lib.hid hall
      clear hall
      by_cases hlt : k < n
      · obtain ⟨b, off, x, y, z, rfl, _, _, hxx, hc0, hc1, hc2⟩ := (hs.below hb hB).tri (k := k) (by rw [HN.out]; exact hlt)
        have HX := Lib.hid hxx
        clear hxx
        cases hit : itB (x, y, z)
        · go_wp2_with fail
          refine (isItem_any x y z _ false hit).mono ?_
          rintro e w' ⟨rfl, hb2⟩
          have hb3 := (hb.alloc hb.size (.cells #[.int .i64 x, .int .i64 y, .int .i64 z] 63)).trans (hb2.mono (by have := hb.size; simp; omega))
          go_wp2
          go_ret
          exact ⟨by rw [H2.out, allI_not HX.out hit]; rfl, hb3⟩
        · go_wp2_with fail
          refine (isItem_any x y z _ true hit).mono ?_
          rintro e w' ⟨rfl, hb2⟩
          have hb3 := (hb.alloc hb.size (.cells #[.int .i64 x, .int .i64 y, .int .i64 z] 63)).trans (hb2.mono (by have := hb.size; simp; omega))
          go_wp2
          go_roundw
          case rel =>
            refine ⟨k + 1, by omega, by go_num, hb3, fun j v hj hv => ?_⟩
            by_cases e : j = k
            · subst e; rw [HX.out] at hv; injection hv with hv; subst hv; exact hit
            · exact HA.out j v (by omega) hv
          case measure => simp [intOf]; omega
      · obtain rfl : k = n := by omega
        go_wp2
        go_ret
        refine ⟨?_, hb⟩
        rw [H2.out, allI_of fun j u hj => HA.out j u (by rw [← HN.out]; exact (List.getElem?_eq_some_iff.1 hj).1) hj]
        rfl
  · have h1' : inB (n : Int) 1 10 = false := by simpa using h1
    have H2 : Hid (goodI bs = false) := goodI_out (by rw [hn]; exact h1')
    clear hn h1
    rw [inB_false] at h1'
    by_cases hz : n = 0
    · subst hz
      go_enter Try.func85, Try.ntmps85
      go_wp2
      go_ret
      exact ⟨by rw [H2.out]; rfl, Below.refl _ _⟩
    · have h3 : 10 < n := by omega
      clear h1' hz
      go_enter Try.func85, Try.ntmps85
      go_wp2
      go_ret
      exact ⟨by rw [H2.out]; rfl, Below.refl _ _⟩

theorem areItems_any (A : Option Addr) (n c : Nat) (bs : List (Int × Int × Int)) (lo hi : Nat) (w : World) (hn : bs.length = n) (hlen : n ≤ 1048576) (hs : Seg w lo hi A (flat3 bs)) (hB : hi ≤ w.heap.size) (b : Bool) (hb : goodI bs = b) :
    Calls Try.prog 85 #[.slice A n c] w fun e w' => e = .returned (.bool b) ∧ Below w.heap.size w w' :=
  (areItems_ret A n c bs lo hi w hn hlen hs hB).mono fun _ _ ⟨he, hw⟩ => ⟨by rw [he, hb], hw⟩

end Go.Proofs.Ytjpejhpilfjheab
