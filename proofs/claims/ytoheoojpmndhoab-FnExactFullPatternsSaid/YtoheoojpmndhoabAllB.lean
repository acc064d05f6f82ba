/-
  The checking program's test for numbers that all lie between two others.
  Conditions: none.
-/
import Derived.Test.YtoheoojpmndhoabNum
namespace Go.Proofs.Ytoheoojpmndhoab
set_option linter.unusedVariables false
open Go.RowKit

def allB (xs : List Int) (lo hi : Int) : Bool := xs.all fun x => inB x lo hi

theorem allB_of {xs : List Int} {lo hi : Int} (h : ∀ (k : Nat) u, xs[k]? = some u → inB u lo hi = true) : allB xs lo hi = true := by
  unfold allB
  rw [List.all_eq_true]
  intro x hx
  obtain ⟨k, hk⟩ := List.getElem?_of_mem hx
  exact h k x hk

theorem allB_not {xs : List Int} {lo hi : Int} {k : Nat} {u : Int} (h : xs[k]? = some u) (hu : inB u lo hi = false) : allB xs lo hi = false := by
  unfold allB
  rw [List.all_eq_false]
  exact ⟨u, List.mem_of_getElem? h, by simp [hu]⟩

def RetB (xs : List Int) (lo hi : Int) (w : World) (e : Ending) (w' : World) : Prop := e = .returned (.bool (allB xs lo hi)) ∧ w = w'

set_option maxHeartbeats 400000 in
theorem l1All_ret (A : Option Addr) (n c : Nat) (xs : List Int) (l h : Int) (lo hi : Nat) (w : World) (hn : xs.length = n) (hlen : n ≤ 1048576) (hs : Seg w lo hi A xs) :
    Calls Try.prog 56 #[.slice A n c, .int .i64 l, .int .i64 h] w (RetB xs l h w) := by
  have HN := Lib.hid hn
  clear hn
  go_enter Try.func56, Try.ntmps56
  go_wp2
  go_loop [8, 11] (fun _ i => ∃ k : Nat, k ≤ n ∧ i = .int .i64 k ∧ ∀ j u, j < k → xs[j]? = some u → inB u l h = true) (fun _ i => n - (intOf i).toNat)
  case atStart => exact ⟨0, Nat.zero_le _, rfl, fun j u hj => by omega⟩
  case round =>
    obtain ⟨k, hk, rfl, hall⟩ := hrel
    have HA := Lib.hid hall
    clear hall
    by_cases hlt : k < n
    · obtain ⟨b, off, u, rfl, _, _, hx, hc⟩ := hs.at_ (k := k) (by rw [HN.out]; exact hlt)
      have HX := Lib.hid hx
      clear hx
      by_cases hu : inB u l h = true
      · go_wp2_with (go_at_call 48; refine (l1In_any _ _ _ true hu _).mono ?_; rintro e w' ⟨rfl, rfl⟩)
        go_round
        case rel =>
          refine ⟨k + 1, by omega, by go_num, fun j v hj hv => ?_⟩
          by_cases e : j = k
          · subst e; rw [HX.out] at hv; injection hv with hv; subst hv; exact hu
          · exact HA.out j v (by omega) hv
        case measure => simp [intOf]; omega
      · have hu' : inB u l h = false := by simpa using hu
        clear hu
        go_wp2_with (go_at_call 48; refine (l1In_any _ _ _ false hu' _).mono ?_; rintro e w' ⟨rfl, rfl⟩)
        go_ret
        exact ⟨by rw [allB_not HX.out hu']; rfl, rfl⟩
    · obtain rfl : k = n := by omega
      go_wp2
      go_ret
      refine ⟨?_, rfl⟩
      rw [allB_of fun j u hj => HA.out j u (by rw [← HN.out]; exact (List.getElem?_eq_some_iff.1 hj).1) hj]
      rfl

theorem l1All_any (A : Option Addr) (n c : Nat) (xs : List Int) (l h : Int) (lo hi : Nat) (w : World) (hn : xs.length = n) (hlen : n ≤ 1048576) (hs : Seg w lo hi A xs) (b : Bool) (hb : allB xs l h = b) :
    Calls Try.prog 56 #[.slice A n c, .int .i64 l, .int .i64 h] w fun e w' => e = .returned (.bool b) ∧ w = w' :=
  (l1All_ret A n c xs l h lo hi w hn hlen hs).mono fun _ _ ⟨he, hw⟩ => ⟨by rw [he, hb], hw⟩

end Go.Proofs.Ytoheoojpmndhoab
