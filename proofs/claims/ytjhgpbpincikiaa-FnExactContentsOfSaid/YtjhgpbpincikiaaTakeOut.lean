/-
  Both programs' nesting with a box taken out.
  Conditions: the lists have at most 1048576 elements.
-/
import Derived.Test.YtjhgpbpincikiaaOuter
import Derived.Test.YtjhgpbpincikiaaCloneI
namespace Go.Proofs.Ytjhgpbpincikiaa
set_option linter.unusedVariables false
open Go.RowKit

/-- There is a box to take out. -/
def takeB (bs : List (Int × Int × Int)) (plan : List Int) (k : Int) : Bool := bothN bs plan && (inB k 0 ((bs.length : Int) - 1) && decide (k ∈ plan))
def takeN (plan : List Int) (k : Int) : List Int := plan.set (plan.idxOf k) (-1)
theorem takeN_length (plan : List Int) (k : Int) : (takeN plan k).length = plan.length := by simp [takeN]

theorem neInside_any (B : Option Addr) (m d : Nat) (plan : List Int) (v : Int) (lo hi : Nat) (w : World) (hm : plan.length = m) (hm2 : m ≤ 1048576) (hp : Seg w lo hi B plan) :
    Calls Try.prog 54 #[.slice B m d, .int .i64 v] w fun e w' => e = .returned (.int .i64 (placeI plan v)) ∧ w = w' := by
  have HN := Lib.hid hm
  clear hm
  go_enter Try.func54, Try.ntmps54
  go_wp2
  go_loop [9] (fun i => ∃ k : Nat, k ≤ m ∧ i = .int .i64 k ∧ ∀ j, j < k → plan[j]? ≠ some v) (fun i => m - (intOf i).toNat)
  case atStart => exact ⟨0, Nat.zero_le _, rfl, fun j hj => by omega⟩
  case round =>
    obtain ⟨k, hk, rfl, hno⟩ := hrel
    have HO := Lib.hid hno
    clear hno
    by_cases hlt : k < m
    · obtain ⟨b, off, u, rfl, _, _, hx, hc⟩ := hp.at_ (k := k) (by rw [HN.out]; exact hlt)
      have HX := Lib.hid hx
      clear hx
      by_cases hv : u = v
      · subst hv
        go_wp2
        go_ret
        exact ⟨by rw [placeI_hit HX.out HO.out]; rfl, rfl⟩
      · go_wp2
        go_round
        case rel => exact ⟨k + 1, by omega, by go_num, fun j hj => by
          by_cases e : j = k
          · subst e
            rw [HX.out]
            intro h
            injection h with h
            exact hv h
          · exact HO.out j (by omega)⟩
        case measure => simp [intOf]; omega
    · obtain rfl : k = m := by omega
      go_wp2
      go_ret
      exact ⟨by rw [placeI_no (by rw [HN.out]; exact HO.out)]; rfl, rfl⟩

theorem isBoxNumber_any (A : Option Addr) (n c : Nat) (k : Int) (w : World) (q : Bool) (hq : inB k 0 ((n : Int) - 1) = q) :
    Calls Try.prog 56 #[.slice A n c, .int .i64 k] w fun e w' => e = .returned (.bool q) ∧ w = w' := by
  by_cases h1 : 0 ≤ k
  · have h2 : decide (k < (n : Int)) = q := by rw [← hq, inB, decide_eq_decide]; omega
    clear hq
    go_enter Try.func56, Try.ntmps56
    go_wp2
    go_ret
    exact ⟨rfl, rfl⟩
  · obtain rfl : q = false := by rw [← hq, inB_false]; omega
    have h2 : decide (0 ≤ k) = false := by simpa using h1
    clear hq h1
    go_enter Try.func56, Try.ntmps56
    go_wp2
    go_ret
    exact ⟨rfl, rfl⟩

theorem place_yes {plan : List Int} {k : Int} (h : decide (k ∈ plan) = true) : placeI plan k = ((plan.idxOf k : Nat) : Int) ∧ plan.idxOf k < plan.length := by
  have hm := of_decide_eq_true h
  exact ⟨by rw [placeI, if_pos hm], List.idxOf_lt_length_of_mem hm⟩
theorem place_none {plan : List Int} {k : Int} (h : decide (k ∈ plan) = false) : placeI plan k = -1 := by
  rw [placeI, if_neg (of_decide_eq_false h)]

end Go.Proofs.Ytjhgpbpincikiaa
