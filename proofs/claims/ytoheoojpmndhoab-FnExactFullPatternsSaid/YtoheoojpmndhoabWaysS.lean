/-
  The given program's CountPatterns.
  Conditions: the list has at most 1048576 numbers.
-/
import Derived.Test.YtoheoojpmndhoabWaysM
import Derived.Test.YtoheoojpmndhoabAllCutsM
import Derived.Test.YtoheoojpmndhoabRodS
import Derived.Test.YtoheoojpmndhoabCutsS
namespace Go.Proofs.Ytoheoojpmndhoab
set_option linter.unusedVariables false
open Go.RowKit

theorem sumR_60 {q : Nat} {T : Nat → Int} {B : Int} (hq : 0 < q) (hT : ∀ m, m ≤ 60 → 0 ≤ T m ∧ T m ≤ B) (n : Nat) (hn : n ≤ 60) : 0 ≤ sumR q T n ∧ sumR q T n ≤ B * ((n : Int) + 1) := by
  induction n using Nat.strongRecOn with
  | _ n ih =>
    have h0 := hT n hn
    have hB : 0 ≤ B := by omega
    by_cases h : q ≤ n
    · rw [sumR_at hq h]
      have h1 := ih (n - q) (by omega) (by omega)
      have h2 : B * (((n - q : Nat) : Int) + 1) ≤ B * (n : Int) := Int.mul_le_mul_of_nonneg_left (by omega) hB
      have h3 : B * ((n : Int) + 1) = B * (n : Int) + B := by rw [Int.mul_add, Int.mul_one]
      omega
    · rw [sumR_less (by omega)]
      have h3 : B * ((n : Int) + 1) = B * (n : Int) + B := by rw [Int.mul_add, Int.mul_one]
      have h4 : 0 ≤ B * (n : Int) := Int.mul_nonneg hB (by omega)
      omega

/-- The table behind the first 'k' lengths. -/
def tabK (zs : List Int) : Nat → Nat → Int
  | 0 => wayA 0
  | k + 1 => sumR (zs.getD k 0).toNat (tabK zs k)

theorem tabK_bd {zs : List Int} (hz : ∀ (k : Nat) u, zs[k]? = some u → 1 ≤ u ∧ u ≤ 60) (k : Nat) (hk : k ≤ zs.length) (n : Nat) (hn : n ≤ 60) : 0 ≤ tabK zs k n ∧ tabK zs k n ≤ 61 ^ k := by
  induction k generalizing n with
  | zero =>
    unfold tabK wayA
    split <;> simp
  | succ k ih =>
    unfold tabK
    have hu := hz k zs[k] (List.getElem?_eq_getElem (by omega))
    have e : zs.getD k 0 = zs[k] := by simp [List.getD, show k < zs.length by omega]
    have h := sumR_60 (q := (zs.getD k 0).toNat) (T := tabK zs k) (B := 61 ^ k) (by rw [e]; omega) (fun m hm => ih (by omega) m hm) n hn
    refine ⟨h.1, Int.le_trans h.2 ?_⟩
    have h5 : (0 : Int) ≤ 61 ^ k := Int.le_trans (ih (by omega) 0 (by omega)).1 (ih (by omega) 0 (by omega)).2
    rw [Int.pow_succ]
    exact Int.mul_le_mul_of_nonneg_left (by omega) h5

theorem tabK_max {zs : List Int} (hz : ∀ (k : Nat) u, zs[k]? = some u → 1 ≤ u ∧ u ≤ 60) (h4 : zs.length ≤ 4) (k : Nat) (hk : k ≤ zs.length) (n : Nat) (hn : n ≤ 60) : 0 ≤ tabK zs k n ∧ tabK zs k n ≤ 13845841 := by
  have h := tabK_bd hz k hk n hn
  refine ⟨h.1, Int.le_trans h.2 ?_⟩
  have h1 : 61 ^ k ≤ 61 ^ 4 := Nat.pow_le_pow_right (by omega) (by omega)
  have h2 : (61 : Int) ^ k ≤ 61 ^ 4 := by exact_mod_cast h1
  have e : (61 : Int) ^ 4 = 13845841 := by decide
  omega

theorem tabG_snoc (T : Nat → Int) (ls : List Nat) (l : Nat) : tabG T (ls ++ [l]) = sumR l (tabG T ls) := by
  induction ls generalizing T with
  | nil => rfl
  | cons a ls ih => exact ih (sumR a T)

theorem tabK_G (zs : List Int) (k : Nat) (hk : k ≤ zs.length) : tabK zs k = tabG (wayA 0) ((zs.take k).map Int.toNat) := by
  induction k with
  | zero => rfl
  | succ k ih =>
    have e : zs.getD k 0 = zs[k] := by simp [List.getD, show k < zs.length by omega]
    rw [List.take_succ_eq_append_getElem (by omega), List.map_append]
    show sumR (zs.getD k 0).toNat (tabK zs k) = tabG (wayA 0) ((zs.take k).map Int.toNat ++ [zs[k].toNat])
    rw [tabG_snoc, ih (by omega), e]

/-- How many patterns there are of a rod. -/
def manyP (zs : List Int) (rod : Int) : Int := cntG (fun _ => 1) (zs.map Int.toNat) rod.toNat

theorem row_many {zs : List Int} (hz : ∀ (k : Nat) u, zs[k]? = some u → 1 ≤ u ∧ u ≤ 60) (r : Nat) : (rowOf r (tabK zs zs.length)).foldl (· + ·) 0 = manyP zs (r : Int) := by
  rw [rowOf, row_sum, tabK_G zs _ (Nat.le_refl _), List.take_length, manyP, Int.toNat_natCast]
  refine count_same _ ?_ r
  intro l hl
  obtain ⟨u, hu, rfl⟩ := List.mem_map.1 hl
  obtain ⟨k, hk⟩ := List.getElem?_of_mem hu
  have := hz k u hk
  omega

theorem fold_bd (xs : List Int) (B : Int) (h : ∀ x ∈ xs, 0 ≤ x ∧ x ≤ B) (a : Int) (ha : 0 ≤ a) : 0 ≤ xs.foldl (· + ·) a ∧ xs.foldl (· + ·) a ≤ a + B * (xs.length : Int) := by
  induction xs generalizing a with
  | nil => simp; exact ha
  | cons x xs ih =>
    have hx := h x (List.mem_cons_self ..)
    have := ih (fun y hy => h y (List.mem_cons_of_mem _ hy)) (a + x) (by omega)
    have e : B * ((xs.length + 1 : Nat) : Int) = B * (xs.length : Int) + B := by rw [Int.natCast_add, Int.mul_add]; simp
    simp only [List.foldl_cons, List.length_cons]
    omega

set_option maxHeartbeats 400000 in
theorem bxSumR_any (A : Option Addr) (n c : Nat) (xs : List Int) (lo hi : Nat) (w : World) (hn : xs.length = n) (h61 : n ≤ 61) (hs : Seg w lo hi A xs) (hg : ∀ x ∈ xs, 0 ≤ x ∧ x ≤ 13845841) (s : Int) (hsum : xs.foldl (· + ·) 0 = s) :
    Calls Try.prog 35 #[.slice A n c] w fun e w' => e = .returned (.int .i64 s) ∧ w = w' := by
  have HN := Lib.hid hn
  have HG := Lib.hid hg
  have HS := Lib.hid hsum
  clear hn hg hsum
  go_enter Try.func35, Try.ntmps35
  go_wp2
  go_loop [3, 5, 8] (fun m _ i => ∃ k : Nat, k ≤ n ∧ i = .int .i64 k ∧ m = .int .i64 ((xs.take k).foldl (· + ·) 0)) (fun _ _ i => n - (intOf i).toNat)
  case atStart => exact ⟨0, Nat.zero_le _, rfl, rfl⟩
  case round =>
    obtain ⟨k, hk, rfl, rfl⟩ := hrel
    have hsb := fold_bd (xs.take k) 13845841 (fun x hx => HG.out x (List.mem_of_mem_take hx)) 0 (Int.le_refl 0)
    have hlk : (xs.take k).length ≤ 61 := by rw [List.length_take]; omega
    by_cases hlt : k < n
    · obtain ⟨b, off, u, rfl, _, _, hx, hc⟩ := hs.at_ (k := k) (by rw [HN.out]; exact hlt)
      have HM := Lib.hid (fold_take (· + ·) 0 xs hx)
      have hu := HG.out u (List.mem_of_getElem? hx)
      clear hx
      obtain ⟨q, hq⟩ : ∃ q, q = (xs.take k).foldl (· + ·) 0 := ⟨_, rfl⟩
      rw [← hq] at HM hsb ⊢
      have hq2 : 0 ≤ q ∧ q ≤ 1000000000 := by omega
      obtain ⟨hq3, hq4⟩ := hq2
      clear hq hsb
      go_wp2
      go_round
      case rel => exact ⟨k + 1, by omega, by go_num, by rw [← HM.out]⟩
      case measure => simp [intOf]; omega
    · obtain rfl : k = n := by omega
      go_wp2
      go_ret
      exact ⟨by rw [← HS.out, ← HN.out, List.take_length]; rfl, rfl⟩

def RetRow (r : Nat) (f : Nat → Int) (w : World) (e : Ending) (w' : World) : Prop :=
  ∃ g, e = .returned (.slice (some ⟨g, 0, none⟩) (r + 1) (r + 1)) ∧ Arr w' g 3 (rowOf r f) ∧ Below w.heap.size w w'

theorem row_mem {r : Nat} {f : Nat → Int} {B : Int} (h : ∀ n, n ≤ r → 0 ≤ f n ∧ f n ≤ B) : ∀ x ∈ rowOf r f, 0 ≤ x ∧ x ≤ B := by
  intro x hx
  obtain ⟨n, hn, rfl⟩ := List.mem_map.1 hx
  exact h n (by have := List.mem_range.1 hn; omega)

def numP (q : Bool) (v : Int) : Int := if q = true then v else 0

end Go.Proofs.Ytoheoojpmndhoab
