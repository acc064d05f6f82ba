/-
  Both programs' tests for books, and for a width that holds them; sums and greatest numbers of books; nothing that was there is written.
  Conditions: the list has at most 1048576 books.
-/
import Derived.Test.YtmdeijjlcebmaaaBookGood
namespace Go.Proofs.Ytmdeijjlcebmaaa
set_option linter.unusedVariables false
open Go.RowKit


/-- The three numbers of books: how thick they are together, how thick and how tall the greatest ones are. -/
def RetThick (bs : List (Int × Int)) (w : World) (e : Ending) (w' : World) : Prop :=
  e = .returned (.tuple #[.int .i64 (ths bs).sum, .int .i64 (mostOf (ths bs)), .int .i64 (mostOf (tls bs))]) ∧ Below w.heap.size w w'

theorem l1Most_any (a b : Int) (w : World) :
    Calls Try.prog 61 #[.int .i64 a, .int .i64 b] w fun e w' => e = .returned (.int .i64 (max a b)) ∧ w = w' := by
  by_cases h : b < a
  · have hm : max a b = a := by omega
    have HM := Lib.hid hm
    clear hm
    go_enter Try.func61, Try.ntmps61
    go_wp2
    go_ret
    exact ⟨by rw [HM.out]; rfl, rfl⟩
  · have hm : max a b = b := by omega
    have HM := Lib.hid hm
    clear hm
    go_enter Try.func61, Try.ntmps61
    go_wp2
    go_ret
    exact ⟨by rw [HM.out]; rfl, rfl⟩

theorem most_take (xs : List Int) {k : Nat} {u : Int} (h : xs[k]? = some u) : max (mostOf (xs.take k)) u = mostOf (xs.take (k + 1)) := by
  rw [take_snoc h, mostOf_snoc]

theorem sums_take (xs : List Int) {k : Nat} {u : Int} (h : xs[k]? = some u) : (xs.take k).sum + u = (xs.take (k + 1)).sum := by
  rw [take_snoc h]; simp

theorem sum_bds (xs : List Int) (h : ∀ x ∈ xs, 1 ≤ x ∧ x ≤ 100) : (xs.length : Int) ≤ xs.sum ∧ xs.sum ≤ 100 * (xs.length : Int) := by
  induction xs with
  | nil => simp
  | cons x xs ih =>
    have h1 := h x List.mem_cons_self
    have h2 := ih (fun y hy => h y (List.mem_cons_of_mem _ hy))
    simp only [List.sum_cons, List.length_cons]
    omega

/-- Good books, or a part of them. -/
def partB (bs : List (Int × Int)) : Prop := bs.length ≤ 12 ∧ ∀ b ∈ bs, 1 ≤ b.1 ∧ b.1 ≤ 100 ∧ 1 ≤ b.2 ∧ b.2 ≤ 100

theorem partB.take_bd {bs : List (Int × Int)} (h : partB bs) (k : Nat) : 0 ≤ ((ths bs).take k).sum ∧ ((ths bs).take k).sum ≤ 1200 := by
  obtain ⟨h1, h2⟩ := h
  have hl := sum_bds ((ths bs).take k) (fun x hx => by
    obtain ⟨b, hb, rfl⟩ := List.mem_map.1 (List.mem_of_mem_take hx)
    have := h2 b hb
    omega)
  have : ((ths bs).take k).length ≤ 12 := by rw [List.length_take, ths_length]; omega
  omega

theorem goodK_part {bs : List (Int × Int)} (h : goodK bs = true) : partB bs := ⟨(goodK_at h).2.1, (goodK_at h).2.2⟩

set_option maxHeartbeats 1000000 in
theorem shThick_any (A : Option Addr) (n c : Nat) (bs : List (Int × Int)) (lo hi : Nat) (w : World) (hn : bs.length = n) (hs : Seg w lo hi A (flat bs)) (hB : hi ≤ w.heap.size) (hg : partB bs) :
    Calls Try.prog 40 #[.slice A n c] w (RetThick bs w) := by
  have HN := Lib.hid hn
  have HG := Lib.hid hg
  have hlen : n ≤ 12 := by have := hg.1; omega
  clear hn hg
  go_enter Try.func40, Try.ntmps40
  go_wp2
  go_loopw [5, 6, 7, 12] (fun a m u i wr => ∃ k : Nat, k ≤ n ∧ i = .int .i64 k ∧ a = .int .i64 ((ths bs).take k).sum ∧ m = .int .i64 (mostOf ((ths bs).take k)) ∧ u = .int .i64 (mostOf ((tls bs).take k)) ∧ Below w.heap.size w wr) (fun _ _ _ i _ => n - (intOf i).toNat)
  case atStart => exact ⟨0, Nat.zero_le _, rfl, rfl, rfl, rfl, Below.refl _ _⟩
  case round =>
    obtain ⟨k, hk, rfl, rfl, rfl, rfl, hb⟩ := hrel
    have hsb := HG.out.take_bd k
    by_cases hlt : k < n
    · obtain ⟨b, off, t, u, rfl, _, _, hx, hc0, hc1⟩ := (hs.below hb hB).book (k := k) (by rw [HN.out]; exact hlt)
      have hu := HG.out.2 (t, u) (List.mem_of_getElem? hx)
      simp only at hu
      have M1 := Lib.hid (sums_take _ (ths_at hx))
      have M2 := Lib.hid (most_take _ (ths_at hx))
      have M3 := Lib.hid (most_take _ (tls_at hx))
      have hb1 := hb.alloc hb.size (.cells #[.int .i64 t, .int .i64 u] 46)
      clear hx
      obtain ⟨q1, hq1⟩ : ∃ q, q = ((ths bs).take k).sum := ⟨_, rfl⟩
      obtain ⟨q2, hq2⟩ : ∃ q, q = mostOf ((ths bs).take k) := ⟨_, rfl⟩
      obtain ⟨q3, hq3⟩ : ∃ q, q = mostOf ((tls bs).take k) := ⟨_, rfl⟩
      rw [← hq1] at M1 hsb ⊢
      rw [← hq2] at M2 ⊢
      rw [← hq3] at M3 ⊢
      clear hq1 hq2 hq3
      go_wp2_with (go_at_call 61; refine (l1Most_any _ _ _).mono ?_; rintro e w' ⟨rfl, rfl⟩)
      go_roundw
      case rel => exact ⟨k + 1, by omega, by go_num, by rw [← M1.out], by rw [← M2.out], by rw [← M3.out], hb1⟩
      case measure => simp [intOf]; omega
    · obtain rfl : k = n := by omega
      go_wp2
      go_ret3
      refine ⟨?_, hb⟩
      rw [List.take_of_length_le (by rw [ths_length, HN.out]; exact Nat.le_refl _), List.take_of_length_le (by rw [tls_length, HN.out]; exact Nat.le_refl _)]
      rfl

set_option maxHeartbeats 1000000 in
theorem thickestOf_any (A : Option Addr) (n c : Nat) (bs : List (Int × Int)) (lo hi : Nat) (w : World) (hn : bs.length = n) (hs : Seg w lo hi A (flat bs)) (hB : hi ≤ w.heap.size) (hg : partB bs) :
    Calls Try.prog 52 #[.slice A n c] w fun e w' => e = .returned (.int .i64 (mostOf (ths bs))) ∧ Below w.heap.size w w' := by
  have HN := Lib.hid hn
  have HG := Lib.hid hg
  have hlen : n ≤ 12 := by have := hg.1; omega
  clear hn hg
  go_enter Try.func52, Try.ntmps52
  go_wp2
  go_loopw [3, 8] (fun m i wr => ∃ k : Nat, k ≤ n ∧ i = .int .i64 k ∧ m = .int .i64 (mostOf ((ths bs).take k)) ∧ Below w.heap.size w wr) (fun _ i _ => n - (intOf i).toNat)
  case atStart => exact ⟨0, Nat.zero_le _, rfl, rfl, Below.refl _ _⟩
  case round =>
    obtain ⟨k, hk, rfl, rfl, hb⟩ := hrel
    by_cases hlt : k < n
    · obtain ⟨b, off, t, u, rfl, _, _, hx, hc0, hc1⟩ := (hs.below hb hB).book (k := k) (by rw [HN.out]; exact hlt)
      have M2 := Lib.hid (most_take _ (ths_at hx))
      have hb1 := hb.alloc hb.size (.cells #[.int .i64 t, .int .i64 u] 46)
      clear hx
      obtain ⟨q2, hq2⟩ : ∃ q, q = mostOf ((ths bs).take k) := ⟨_, rfl⟩
      rw [← hq2] at M2 ⊢
      clear hq2
      go_wp2
      go_roundw
      case rel => exact ⟨k + 1, by omega, by go_num, by rw [← M2.out]; congr 1; simp only []; omega, hb1⟩
      case measure => simp [intOf]; omega
    · obtain rfl : k = n := by omega
      go_wp2
      go_ret
      refine ⟨?_, hb⟩
      rw [List.take_of_length_le (by rw [ths_length, HN.out]; exact Nat.le_refl _)]
      rfl

theorem thick1_any (t u : Int) (w : World) :
    Calls Try.prog 63 #[.agg #[.int .i64 t, .int .i64 u]] w fun e w' => e = .returned (.int .i64 t) ∧ Below w.heap.size w w' := by
  go_enter Try.func63, Try.ntmps63
  go_wp2
  go_ret
  exact ⟨rfl, (Below.refl _ _).alloc (Nat.le_refl _) _⟩

set_option maxHeartbeats 1000000 in
theorem sumT_any (A : Option Addr) (n c : Nat) (bs : List (Int × Int)) (lo hi : Nat) (w : World) (hn : bs.length = n) (hs : Seg w lo hi A (flat bs)) (hB : hi ≤ w.heap.size) (hg : partB bs) :
    Calls Try.prog 62 #[.slice A n c, .func (.func 63) #[] #[]] w fun e w' => e = .returned (.int .i64 (ths bs).sum) ∧ Below w.heap.size w w' := by
  have HN := Lib.hid hn
  have HG := Lib.hid hg
  have hlen : n ≤ 12 := by have := hg.1; omega
  clear hn hg
  go_enter Try.func62, Try.ntmps62
  go_wp2
  go_loopw [5, 7, 10] (fun a _ i wr => ∃ k : Nat, k ≤ n ∧ i = .int .i64 k ∧ a = .int .i64 ((ths bs).take k).sum ∧ Below w.heap.size w wr) (fun _ _ i _ => n - (intOf i).toNat)
  case atStart => exact ⟨0, Nat.zero_le _, rfl, rfl, Below.refl _ _⟩
  case round =>
    obtain ⟨k, hk, rfl, rfl, hb⟩ := hrel
    have hsb := HG.out.take_bd k
    by_cases hlt : k < n
    · obtain ⟨b, off, t, u, rfl, _, _, hx, hc0, hc1⟩ := (hs.below hb hB).book (k := k) (by rw [HN.out]; exact hlt)
      have hu := HG.out.2 (t, u) (List.mem_of_getElem? hx)
      simp only at hu
      have M1 := Lib.hid (sums_take _ (ths_at hx))
      clear hx
      obtain ⟨q1, hq1⟩ : ∃ q, q = ((ths bs).take k).sum := ⟨_, rfl⟩
      rw [← hq1] at M1 hsb ⊢
      clear hq1
      go_wp2_with fail
      refine (thick1_any t u _).mono ?_
      rintro e w' ⟨rfl, hb2⟩
      have hb3 := (hb.alloc hb.size (.cells #[.int .i64 t, .int .i64 u] 46)).trans (hb2.mono (by have := hb.size; simp; omega))
      go_wp2
      go_roundw
      case rel => exact ⟨k + 1, by omega, by go_num, by rw [← M1.out], hb3⟩
      case measure => simp [intOf]; omega
    · obtain rfl : k = n := by omega
      go_wp2
      go_ret
      refine ⟨?_, hb⟩
      rw [List.take_of_length_le (by rw [ths_length, HN.out]; exact Nat.le_refl _)]
      rfl

theorem thicknessOf_any (A : Option Addr) (n c : Nat) (bs : List (Int × Int)) (lo hi : Nat) (w : World) (hn : bs.length = n) (hs : Seg w lo hi A (flat bs)) (hB : hi ≤ w.heap.size) (hg : partB bs) :
    Calls Try.prog 54 #[.slice A n c] w fun e w' => e = .returned (.int .i64 (ths bs).sum) ∧ Below w.heap.size w w' := by
  go_enter Try.func54, Try.ntmps54
  go_wp2_with fail
  refine (sumT_any A n c bs lo hi _ hn hs hB hg).mono ?_
  rintro e w' ⟨rfl, hb⟩
  go_wp2
  go_ret
  exact ⟨rfl, hb⟩

theorem askedK_no {bs : List (Int × Int)} {width : Int} (h : goodK bs = false) : askedK bs width = false := by rw [askedK, h, Bool.false_and]
theorem askedK_yes {bs : List (Int × Int)} {width : Int} (h : goodK bs = true) : askedK bs width = inB width (mostOf (ths bs)) 1000 := by rw [askedK, h, Bool.true_and]

set_option maxHeartbeats 1000000 in
theorem shAsked_any (A : Option Addr) (n c : Nat) (bs : List (Int × Int)) (width : Int) (lo hi : Nat) (w : World) (hn : bs.length = n) (hlen : n ≤ 1048576) (hs : Seg w lo hi A (flat bs)) (hB : hi ≤ w.heap.size) (b : Bool) (hb : askedK bs width = b) :
    Calls Try.prog 32 #[.slice A n c, .int .i64 width] w fun e w' => e = .returned (.bool b) ∧ Below w.heap.size w w' := by
  have HN := Lib.hid hn
  obtain ⟨q, hq⟩ : ∃ q, goodK bs = q := ⟨_, rfl⟩
  have HQ := Lib.hid hq
  cases q
  · obtain rfl : b = false := by rw [← hb, askedK_no hq]
    clear hq hb hn
    go_enter Try.func32, Try.ntmps32
    go_wp2_with fail
    refine (shGood_any _ _ _ bs lo hi _ HN.out hlen hs hB _ HQ.out).mono ?_
    rintro e w1 ⟨rfl, hb1⟩
    go_wp2
    go_ret
    exact ⟨rfl, hb1⟩
  · have h2 : inB width (mostOf (ths bs)) 1000 = b := by rw [← hb, askedK_yes hq]
    have hp := goodK_part hq
    have HP := Lib.hid hp
    have H2 := Lib.hid h2
    clear hq hb h2 hp hn
    cases b
    all_goals
      go_enter Try.func32, Try.ntmps32
      go_wp2_with fail
      refine (shGood_any _ _ _ bs lo hi _ HN.out hlen hs hB _ HQ.out).mono ?_
      rintro e w1 ⟨rfl, hb1⟩
      go_wp2_with fail
      refine (shThick_any _ _ _ bs lo hi _ HN.out (hs.below hb1 hB) (Nat.le_trans hB hb1.size) HP.out).mono ?_
      rintro e w2 ⟨rfl, hb2⟩
      go_wp2_with fail
      refine (l1In_any _ _ _ _ H2.out _).mono ?_
      rintro e w3 ⟨rfl, rfl⟩
      go_wp2
      go_ret
      exact ⟨rfl, hb1.trans (hb2.mono hb1.size)⟩

set_option maxHeartbeats 1000000 in
theorem canBeShelved_any (A : Option Addr) (n c : Nat) (bs : List (Int × Int)) (width : Int) (lo hi : Nat) (w : World) (hn : bs.length = n) (hlen : n ≤ 1048576) (hs : Seg w lo hi A (flat bs)) (hB : hi ≤ w.heap.size) (b : Bool) (hb : askedK bs width = b) :
    Calls Try.prog 35 #[.slice A n c, .int .i64 width] w fun e w' => e = .returned (.bool b) ∧ Below w.heap.size w w' := by
  have HN := Lib.hid hn
  obtain ⟨q, hq⟩ : ∃ q, goodK bs = q := ⟨_, rfl⟩
  have HQ := Lib.hid hq
  cases q
  · obtain rfl : b = false := by rw [← hb, askedK_no hq]
    clear hq hb hn
    go_enter Try.func35, Try.ntmps35
    go_wp2_with fail
    refine (areBooks_any _ _ _ bs lo hi _ HN.out hlen hs hB _ HQ.out).mono ?_
    rintro e w1 ⟨rfl, hb1⟩
    go_wp2
    go_ret
    exact ⟨rfl, hb1⟩
  · have h2 : inB width (mostOf (ths bs)) 1000 = b := by rw [← hb, askedK_yes hq]
    have hp := goodK_part hq
    have HP := Lib.hid hp
    obtain ⟨m, hm⟩ : ∃ m, mostOf (ths bs) = m := ⟨_, rfl⟩
    have HM := Lib.hid hm
    rw [hm] at h2
    clear hq hb hp hn hm
    by_cases hlow : m ≤ width
    · have h3 : decide (width ≤ 1000) = b := by
        rw [← h2, inB, decide_eq_decide]
        omega
      clear h2
      go_enter Try.func35, Try.ntmps35
      go_wp2_with fail
      refine (areBooks_any _ _ _ bs lo hi _ HN.out hlen hs hB _ HQ.out).mono ?_
      rintro e w1 ⟨rfl, hb1⟩
      go_wp2_with fail
      refine (thickestOf_any _ _ _ bs lo hi _ HN.out (hs.below hb1 hB) (Nat.le_trans hB hb1.size) HP.out).mono ?_
      rintro e w2 ⟨rfl, hb2⟩
      rw [HM.out]
      go_wp2
      go_ret
      exact ⟨rfl, hb1.trans (hb2.mono hb1.size)⟩
    · obtain rfl : b = false := by
        rw [← h2, inB_false]
        omega
      have h3 : decide (m ≤ width) = false := by rw [decide_eq_false_iff_not]; exact hlow
      clear h2 hlow
      go_enter Try.func35, Try.ntmps35
      go_wp2_with fail
      refine (areBooks_any _ _ _ bs lo hi _ HN.out hlen hs hB _ HQ.out).mono ?_
      rintro e w1 ⟨rfl, hb1⟩
      go_wp2_with fail
      refine (thickestOf_any _ _ _ bs lo hi _ HN.out (hs.below hb1 hB) (Nat.le_trans hB hb1.size) HP.out).mono ?_
      rintro e w2 ⟨rfl, hb2⟩
      rw [HM.out]
      go_wp2
      go_ret
      exact ⟨rfl, hb1.trans (hb2.mono hb1.size)⟩
end Go.Proofs.Ytmdeijjlcebmaaa
