/-
  The library's place of a number in a list, and whether it is there.
  Conditions: the list has at most 1048576 numbers.
-/
import Derived.Test.YtjpejhpilfjheabMem
namespace Go.Proofs.Ytjpejhpilfjheab
set_option linter.unusedVariables false
open Go.RowKit

/-- The place of a number, or -1. -/
def placeI (xs : List Int) (v : Int) : Int := if v ∈ xs then (xs.idxOf v : Int) else -1

theorem idx_le {v : Int} {xs : List Int} : ∀ {k : Nat}, xs[k]? = some v → xs.idxOf v ≤ k := by
  induction xs with
  | nil => intro k h; simp at h
  | cons y ys ih =>
    intro k h
    rw [List.idxOf_cons]
    cases k with
    | zero =>
      injection h with h
      subst h
      simp
    | succ k =>
      have := ih (k := k) (by simpa using h)
      cases y == v <;> simp
      omega

theorem placeI_hit {xs : List Int} {v : Int} {k : Nat} (h : xs[k]? = some v) (hno : ∀ j, j < k → xs[j]? ≠ some v) : placeI xs v = (k : Int) := by
  have hm : v ∈ xs := List.mem_of_getElem? h
  have hl : xs.idxOf v < xs.length := List.idxOf_lt_length_of_mem hm
  have hat : xs[xs.idxOf v]? = some v := by
    rw [List.getElem?_eq_getElem hl, List.getElem_idxOf hl]
  obtain ⟨hk, he⟩ := List.getElem?_eq_some_iff.1 h
  have h1 : ¬ xs.idxOf v < k := fun hlt => hno _ hlt hat
  have h2 : xs.idxOf v ≤ k := idx_le h
  unfold placeI
  rw [if_pos hm]
  omega

theorem placeI_no {xs : List Int} {v : Int} (hno : ∀ j, j < xs.length → xs[j]? ≠ some v) : placeI xs v = -1 := by
  unfold placeI
  rw [if_neg]
  intro hm
  obtain ⟨j, hj, he⟩ := List.mem_iff_getElem.1 hm
  exact hno j hj (by rw [List.getElem?_eq_getElem hj, he])

theorem slicesIndex_any (A : Option Addr) (n c : Nat) (xs : List Int) (v : Int) (lo hi : Nat) (w : World) (hn : xs.length = n) (hlen : n ≤ 1048576) (hs : Seg w lo hi A xs) :
    Calls Try.prog 83 #[.slice A n c, .int .i64 v] w fun e w' => e = .returned (.int .i64 (placeI xs v)) ∧ w = w' := by
  have HN := Lib.hid hn
  clear hn
  go_enter Try.func83, Try.ntmps83
  go_wp2
  go_loop [5, 8] (fun _ i => ∃ k : Nat, k ≤ n ∧ i = .int .i64 k ∧ ∀ j, j < k → xs[j]? ≠ some v) (fun _ i => n - (intOf i).toNat)
  case atStart => exact ⟨0, Nat.zero_le _, rfl, fun j hj => by omega⟩
  case round =>
    obtain ⟨k, hk, rfl, hno⟩ := hrel
    have HO := Lib.hid hno
    clear hno
    by_cases hlt : k < n
    · obtain ⟨b, off, u, rfl, _, _, hx, hc⟩ := hs.at_ (k := k) (by rw [HN.out]; exact hlt)
      have HX := Lib.hid hx
      clear hx
      by_cases hv : v = u
      · subst hv
        go_wp2
        go_ret
        exact ⟨by rw [placeI_hit HX.out HO.out]; rfl, rfl⟩
      · go_wp2
        go_round
        case rel => exact ⟨k + 1, by omega, by go_num, fun j hj => by
          by_cases e : j = k
          · subst e
            rw [HX.out]
            intro h
            injection h with h
            exact hv h.symm
          · exact HO.out j (by omega)⟩
        case measure => simp [intOf]; omega
    · obtain rfl : k = n := by omega
      go_wp2
      go_ret
      exact ⟨by rw [placeI_no (by rw [HN.out]; exact HO.out)]; rfl, rfl⟩

theorem placeI_mem (xs : List Int) (v : Int) : decide (0 ≤ placeI xs v) = decide (v ∈ xs) := by
  unfold placeI
  by_cases h : v ∈ xs
  · rw [if_pos h]
    simp [h]
  · rw [if_neg h]
    simp [h]

theorem slicesContains_any (A : Option Addr) (n c : Nat) (xs : List Int) (v : Int) (lo hi : Nat) (w : World) (hn : xs.length = n) (hlen : n ≤ 1048576) (hs : Seg w lo hi A xs) :
    Calls Try.prog 53 #[.slice A n c, .int .i64 v] w fun e w' => e = .returned (.bool (decide (v ∈ xs))) ∧ w = w' := by
  have HN := Lib.hid hn
  have HP := Lib.hid (placeI_mem xs v)
  clear hn
  go_enter Try.func53, Try.ntmps53
  go_wp2_with fail
  refine (slicesIndex_any _ _ _ xs v lo hi _ HN.out hlen hs).mono ?_
  rintro e w' ⟨rfl, rfl⟩
  obtain ⟨p, hp⟩ : ∃ p, placeI xs v = p := ⟨_, rfl⟩
  have HPP := Lib.hid hp
  rw [hp]
  clear hp
  go_wp2
  go_ret
  exact ⟨by rw [← HP.out, HPP.out]; rfl, rfl⟩
end Go.Proofs.Ytjpejhpilfjheab
