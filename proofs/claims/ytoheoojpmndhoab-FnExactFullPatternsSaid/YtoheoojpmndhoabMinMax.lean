/-
  The least and the greatest of a list of numbers; lists of some numbers within bounds, told by them.
  Conditions: the list has at least one and at most 1048576 numbers.
-/
import Derived.Test.YtoheoojpmndhoabAllB
namespace Go.Proofs.Ytoheoojpmndhoab
set_option linter.unusedVariables false
open Go.RowKit

/-- The least and the greatest number, from a first one on. -/
theorem fold_take (f : Int → Int → Int) (a : Int) (xs : List Int) {k : Nat} {u : Int} (h : xs[k]? = some u) : f ((xs.take k).foldl f a) u = (xs.take (k + 1)).foldl f a := by
  rw [take_snoc h, List.foldl_append]; rfl

theorem slicesMin_any (A : Option Addr) (n c : Nat) (xs : List Int) (u0 : Int) (lo hi : Nat) (w : World) (hn : xs.length = n) (hlen : n ≤ 1048576) (hs : Seg w lo hi A xs) (h1 : 1 ≤ n) (hu : xs[0]? = some u0) :
    Calls Try.prog 57 #[.slice A n c] w fun e w' => e = .returned (.int .i64 (xs.foldl min u0)) ∧ w = w' := by
  have HN := Lib.hid hn
  clear hn
  obtain ⟨b, off, u1, rfl, _, _, hx0, hc0⟩ := hs.at_ (k := 0) (by rw [HN.out]; exact h1)
  obtain rfl : u0 = u1 := by rw [hu] at hx0; injection hx0
  have HX : Hid (u0 = (xs.take 1).foldl min u0) := by
    rw [take_snoc (k := 0) hx0]
    show u0 = min u0 u0
    omega
  clear hx0 hu
  have hc0' : w.cell? ⟨b, off, none⟩ = some (.int .i64 u0) := hc0
  clear hc0
  have hlt1 : (0 : Int) < (n : Int) := by omega
  go_enter Try.func57, Try.ntmps57
  go_wp2
  go_loop [3, 4] (fun m i => ∃ k : Nat, 1 ≤ k ∧ k ≤ n ∧ i = .int .i64 k ∧ m = .int .i64 ((xs.take k).foldl min u0)) (fun _ i => n - (intOf i).toNat)
  case atStart => exact ⟨1, Nat.le_refl _, h1, rfl, by rw [← HX.out]⟩
  case round =>
    obtain ⟨k, hk1, hk, rfl, rfl⟩ := hrel
    by_cases hlt : k < n
    · obtain ⟨b', off', u, hA, _, _, hx, hc⟩ := hs.at_ (k := k) (by rw [HN.out]; exact hlt)
      obtain ⟨rfl, rfl⟩ : b = b' ∧ off = off' := by injection hA with hA; injection hA with h1 h2; exact ⟨h1, h2⟩
      clear hA
      have HM := Lib.hid (fold_take min u0 xs hx)
      clear hx
      obtain ⟨q, hq⟩ : ∃ q, q = (xs.take k).foldl min u0 := ⟨_, rfl⟩
      rw [← hq] at HM
      rw [← hq]
      clear hq
      go_wp2
      go_round
      case rel => exact ⟨k + 1, by omega, by omega, by go_num, by rw [← HM.out]; congr 1; split <;> omega⟩
      case measure => simp [intOf]; omega
    · obtain rfl : k = n := by omega
      go_wp2
      go_ret
      exact ⟨by rw [← HN.out, List.take_length]; rfl, rfl⟩

theorem slicesMaxA_any (A : Option Addr) (n c : Nat) (xs : List Int) (u0 : Int) (lo hi : Nat) (w : World) (hn : xs.length = n) (hlen : n ≤ 1048576) (hs : Seg w lo hi A xs) (h1 : 1 ≤ n) (hu : xs[0]? = some u0) :
    Calls Try.prog 58 #[.slice A n c] w fun e w' => e = .returned (.int .i64 (xs.foldl max u0)) ∧ w = w' := by
  have HN := Lib.hid hn
  clear hn
  obtain ⟨b, off, u1, rfl, _, _, hx0, hc0⟩ := hs.at_ (k := 0) (by rw [HN.out]; exact h1)
  obtain rfl : u0 = u1 := by rw [hu] at hx0; injection hx0
  have HX : Hid (u0 = (xs.take 1).foldl max u0) := by
    rw [take_snoc (k := 0) hx0]
    show u0 = max u0 u0
    omega
  clear hx0 hu
  have hc0' : w.cell? ⟨b, off, none⟩ = some (.int .i64 u0) := hc0
  clear hc0
  have hlt1 : (0 : Int) < (n : Int) := by omega
  go_enter Try.func58, Try.ntmps58
  go_wp2
  go_loop [3, 4] (fun m i => ∃ k : Nat, 1 ≤ k ∧ k ≤ n ∧ i = .int .i64 k ∧ m = .int .i64 ((xs.take k).foldl max u0)) (fun _ i => n - (intOf i).toNat)
  case atStart => exact ⟨1, Nat.le_refl _, h1, rfl, by rw [← HX.out]⟩
  case round =>
    obtain ⟨k, hk1, hk, rfl, rfl⟩ := hrel
    by_cases hlt : k < n
    · obtain ⟨b', off', u, hA, _, _, hx, hc⟩ := hs.at_ (k := k) (by rw [HN.out]; exact hlt)
      obtain ⟨rfl, rfl⟩ : b = b' ∧ off = off' := by injection hA with hA; injection hA with h1 h2; exact ⟨h1, h2⟩
      clear hA
      have HM := Lib.hid (fold_take max u0 xs hx)
      clear hx
      obtain ⟨q, hq⟩ : ∃ q, q = (xs.take k).foldl max u0 := ⟨_, rfl⟩
      rw [← hq] at HM
      rw [← hq]
      clear hq
      go_wp2
      go_round
      case rel => exact ⟨k + 1, by omega, by omega, by go_num, by rw [← HM.out]; congr 1; split <;> omega⟩
      case measure => simp [intOf]; omega
    · obtain rfl : k = n := by omega
      go_wp2
      go_ret
      exact ⟨by rw [← HN.out, List.take_length]; rfl, rfl⟩

theorem foldl_min_ge' (xs : List Int) (a l : Int) : l ≤ xs.foldl min a ↔ l ≤ a ∧ ∀ x ∈ xs, l ≤ x := by
  induction xs generalizing a with
  | nil => simp
  | cons x xs ih => rw [List.foldl_cons, ih]; simp only [List.mem_cons, forall_eq_or_imp]; constructor <;> (intro h; refine ⟨?_, ?_⟩ <;> first | omega | (refine ⟨?_, ?_⟩ <;> first | omega | exact h.2.2 | exact h.2) | exact h.2.2)

theorem foldl_max_le' (xs : List Int) (a h : Int) : xs.foldl max a ≤ h ↔ a ≤ h ∧ ∀ x ∈ xs, x ≤ h := by
  induction xs generalizing a with
  | nil => simp
  | cons x xs ih => rw [List.foldl_cons, ih]; simp only [List.mem_cons, forall_eq_or_imp]; constructor <;> (intro h; refine ⟨?_, ?_⟩ <;> first | omega | (refine ⟨?_, ?_⟩ <;> first | omega | exact h.2.2 | exact h.2) | exact h.2.2)

theorem allB_fold {xs : List Int} {u0 l h : Int} (hu : xs[0]? = some u0) : allB xs l h = (decide (l ≤ xs.foldl min u0) && decide (xs.foldl max u0 ≤ h)) := by
  have hm := List.mem_of_getElem? hu
  rw [Bool.eq_iff_iff, Bool.and_eq_true, decide_eq_true_iff, decide_eq_true_iff, foldl_min_ge', foldl_max_le']
  simp only [allB, List.all_eq_true, inB_true]
  constructor
  · intro hh
    exact ⟨⟨(hh _ hm).1, fun x hx => (hh x hx).1⟩, (hh _ hm).2, fun x hx => (hh x hx).2⟩
  · rintro ⟨⟨_, h1⟩, _, h2⟩ x hx
    exact ⟨h1 x hx, h2 x hx⟩

/-- One to so many numbers, none negative, none above a bound. -/
def someB (m h : Int) (xs : List Int) : Bool := inB (xs.length : Int) 1 m && allB xs 0 h

theorem someB_true {m h : Int} {xs : List Int} : someB m h xs = true ↔ (1 ≤ (xs.length : Int) ∧ (xs.length : Int) ≤ m) ∧ allB xs 0 h = true := by simp [someB, inB_true]

theorem someB_at {m h : Int} {xs : List Int} (hb : someB m h xs = true) (k : Nat) (u : Int) (hu : xs[k]? = some u) : 0 ≤ u ∧ u ≤ h := by
  obtain ⟨_, h2⟩ := someB_true.1 hb
  by_cases h1 : inB u 0 h = true
  · exact inB_true.1 h1
  · rw [allB_not hu (by simpa using h1)] at h2; cases h2
end Go.Proofs.Ytoheoojpmndhoab
