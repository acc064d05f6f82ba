/-
  The law's own comparison of two slices of whole numbers says yes where they hold the same; what it writes into a slice, and its look at what it wrote.
  Conditions: the slices have at most 1048576 numbers.
-/
import Derived.Test.YtoheoojpmndhoabCopy
namespace Go.Proofs.Ytoheoojpmndhoab
set_option linter.unusedVariables false
open Go.RowKit

set_option maxHeartbeats 400000 in
theorem eqIntS_same (A C : Option Addr) (n c d : Nat) (xs : List Int) (lo hi lo' hi' : Nat) (w : World) (hn : xs.length = n) (hlen : n ≤ 1048576) (h : Seg w lo hi A xs) (h' : Seg w lo' hi' C xs) :
    Calls Try.prog 10 #[.slice A n c, .slice C n d] w fun e w' => e = .returned (.bool true) ∧ ∃ m, w' = w.drewN m := by
  have HN := Lib.hid hn
  clear hn
  go_enter Try.func10, Try.ntmps10
  go_wp2
  go_loopw [5] (fun i wr => ∃ k : Nat, k ≤ n ∧ i = .int .i64 k ∧ ∃ m, wr = w.drewN m) (fun i _ => n - (intOf i).toNat)
  case atStart => exact ⟨0, Nat.zero_le _, rfl, 0, rfl⟩
  case round =>
    obtain ⟨k, hk, rfl, m, rfl⟩ := hrel
    by_cases hlt : k < n
    · obtain ⟨b, off, u, rfl, _, _, hx, hc⟩ := h.at_ (k := k) (by rw [HN.out]; exact hlt)
      obtain ⟨b', off', u', rfl, _, _, hx', hc'⟩ := h'.at_ (k := k) (by rw [HN.out]; exact hlt)
      obtain rfl : u = u' := by rw [hx] at hx'; injection hx'
      clear hx hx'
      go_wp2_with fail
      go_quiet (fail)
      go_wp2
      go_roundw
      case rel => exact ⟨k + 1, by omega, by go_num, _, rfl⟩
      case measure => simp [intOf]; omega
    · go_wp2
      go_ret
      exact ⟨rfl, _, rfl⟩

theorem eqIntS_b (A C : Option Addr) (n c d : Nat) (xs : List Int) (lo hi lo' hi' : Nat) (w : World) (hn : xs.length = n) (hlen : n ≤ 1048576) (h : Seg w lo hi A xs) (h' : Seg w lo' hi' C xs) :
    Calls Try.prog 10 #[.slice A n c, .slice C n d] w fun e w' => e = .returned (.bool true) ∧ Below w.heap.size w w' :=
  (eqIntS_same A C n c d xs lo hi lo' hi' w hn hlen h h').mono fun _ _ ⟨he, m, hm⟩ => ⟨he, by rw [hm]; exact below_drewN (Below.refl _ _) m⟩

set_option maxHeartbeats 400000 in
theorem markIntS_any (A : Option Addr) (n c : Nat) (k0 : Int) (xs : List Int) (lo hi : Nat) (w : World) (hn : xs.length = n) (hlen : n ≤ 1048576) (h0 : 0 ≤ k0) (h1 : k0 ≤ 4611686018427387904) (h : Own w lo hi A xs) :
    Calls Try.prog 11 #[.slice A n c, .int .i64 k0] w fun e w' => e = .returned (.int .i64 (k0 + (n : Int))) ∧ Own w' lo hi A (marks k0 n) ∧
      ∃ row, w.grownBy w' row ∧ ∀ g, row = some g → lo ≤ g ∧ g < hi := by
  by_cases hz : n = 0
  · subst hz
    go_enter Try.func11, Try.ntmps11
    go_wp2
    go_loopw [1, 5] (fun k i wr => k = .int .i64 k0 ∧ i = .int .i64 0 ∧ wr = w) (fun _ _ _ => 0)
    case atStart => exact ⟨rfl, rfl, rfl⟩
    case round =>
      obtain ⟨rfl, rfl, rfl⟩ := hrel
      go_wp2
      go_ret
      exact ⟨by simp, .inl rfl, none, World.grownBy.refl _ _, by simp⟩
  · obtain ⟨g, cs, T, rfl, hlo, hhi, hb, hc⟩ : ∃ b cs T, A = some ⟨b, 0, none⟩ ∧ lo ≤ b ∧ b < hi ∧ w.heap[b]? = some (.cells cs T (0, 0)) ∧ ∀ k, k < xs.length → cs[k]? = some (.int .i64 (xs.getD k 0)) := by
      rcases h with rfl | h
      · exact absurd hn.symm hz
      · exact h
    have hsz : n ≤ cs.size := by
      have := hc (n - 1) (by omega)
      have := (Array.getElem?_eq_some_iff.1 this).1
      omega
    obtain ⟨N, hN⟩ : ∃ N, N = cs.size := ⟨_, rfl⟩
    have hp0 : Part w g T N 0 (marks k0 n) := ⟨cs, hb, hN.symm, fun j hj => by omega⟩
    have hNn : n ≤ N := by omega
    clear hb hc hn hsz hN
    go_enter Try.func11, Try.ntmps11
    go_wp2
    go_loopw [1, 5] (fun q i wr => ∃ k : Nat, k ≤ n ∧ q = .int .i64 (k0 + (k : Int)) ∧ i = .int .i64 k ∧ w.grownBy wr (some g) ∧ Part wr g T N k (marks k0 n)) (fun _ i _ => n - (intOf i).toNat)
    case atStart => exact ⟨0, Nat.zero_le _, by simp, rfl, World.grownBy.refl _ _, hp0⟩
    case round =>
      obtain ⟨k, hk, rfl, rfl, hgr, hp⟩ := hrel
      by_cases hlt : k < n
      · obtain ⟨v0, hv0⟩ := hp.cell k (by omega)
        have hfz := hp.frozen k
        go_wp2
        go_roundw
        case rel => exact ⟨k + 1, by omega, by go_num, by go_num, grown_set hgr rfl _, hp.mark (by omega) hlt⟩
        case measure => simp [intOf]; omega
      · obtain rfl : k = n := by omega
        go_wp2
        go_ret
        refine ⟨rfl, ?_, some g, hgr, by rintro g' ⟨⟩; exact ⟨hlo, hhi⟩⟩
        have hp' : Part wr g T N (marks k0 k).length (marks k0 k) := by rw [marks_length]; exact hp
        exact hp'.own hlo hhi

theorem heldIntS_any (A : Option Addr) (n c : Nat) (k0 : Int) (lo hi : Nat) (w : World) (hlen : n ≤ 1048576) (h0 : 0 ≤ k0) (h1 : k0 ≤ 4611686018427387904) (h : Seg w lo hi A (marks k0 n)) :
    Calls Try.prog 24 #[.slice A n c, .int .i64 k0] w fun e w' => e = .returned (.int .i64 (k0 + (n : Int))) ∧ w = w' := by
  go_enter Try.func24, Try.ntmps24
  go_wp2
  go_loop [1, 5] (fun q i => ∃ k : Nat, k ≤ n ∧ q = .int .i64 (k0 + (k : Int)) ∧ i = .int .i64 k) (fun _ i => n - (intOf i).toNat)
  case atStart => exact ⟨0, Nat.zero_le _, by simp, rfl⟩
  case round =>
    obtain ⟨k, hk, rfl, rfl⟩ := hrel
    by_cases hlt : k < n
    · obtain ⟨b, off, u, rfl, _, _, hx, hc⟩ := h.at_ (k := k) (by rw [marks_length]; exact hlt)
      obtain rfl : k0 + (k : Int) = u := by rw [marks_at k0 n k hlt] at hx; injection hx
      clear hx
      go_wp2
      go_round
      case rel => exact ⟨k + 1, by omega, by go_num, by go_num⟩
      case measure => simp [intOf]; omega
    · obtain rfl : k = n := by omega
      go_wp2
      go_ret
      exact ⟨rfl, rfl⟩
end Go.Proofs.Ytoheoojpmndhoab
