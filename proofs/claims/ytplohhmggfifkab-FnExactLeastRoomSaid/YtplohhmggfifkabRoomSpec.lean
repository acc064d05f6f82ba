/-
  The specification's least room for so many boxes.
  Conditions: the list has at most 1048576 numbers.
-/
import Derived.Test.YtplohhmggfifkabRoomImpl
namespace Go.Proofs.Ytplohhmggfifkab
set_option linter.unusedVariables false
open Go.RowKit

/-- Where the specification begins: no smaller room is enough. -/
theorem room_start {xs : List Int} {T Z s : Int} {N : Nat} (hT : mostOf xs = T) (hZ : xs.sum = Z) (h1 : 1 ≤ T) (hN : (N : Int) = Z - T) (hs : 1 ≤ s ∧ s ≤ 9) :
    ∃ i : Nat, i ≤ N ∧ max T ((Z + s - 1) / s) = T + (i : Int) ∧ ∀ j : Nat, j < i → enoughR xs s (T + (j : Nat)) = false := by
  have hd : (Z + s - 1) / s ≤ Z ∧ ∀ R : Int, R < (Z + s - 1) / s → s * R < Z := by
    rcases (by omega : s = 1 ∨ s = 2 ∨ s = 3 ∨ s = 4 ∨ s = 5 ∨ s = 6 ∨ s = 7 ∨ s = 8 ∨ s = 9) with rfl | rfl | rfl | rfl | rfl | rfl | rfl | rfl | rfl <;> refine ⟨by omega, fun R hR => by omega⟩
  obtain ⟨D, hD⟩ : ∃ D, (Z + s - 1) / s = D := ⟨_, rfl⟩
  rw [hD] at hd ⊢
  refine ⟨(max T D - T).toNat, by omega, by omega, fun j hj => ?_⟩
  cases he : enoughR xs s (T + (j : Nat)) with
  | false => rfl
  | true =>
    have h2 := enough_sum (by omega) he
    have h3 := hd.2 (T + (j : Nat)) (by omega)
    omega

set_option maxHeartbeats 2000000 in
theorem spec_LeastRoom (A : Option Addr) (n c : Nat) (xs : List Int) (s : Int) (lo hi : Nat) (w : World) (hn : xs.length = n) (hlen : n ≤ 1048576)
    (hs : Seg w lo hi A xs) (hB : hi ≤ w.heap.size) (q : Bool) (hq : goodB xs = q) (r : Bool) (hr : inB s 1 9 = r) :
    Calls Try.prog 32 #[.slice A n c, .int .i64 s] w (RetI (numR (q && r) (leastR xs s)) (q && r) w) := by
  have HN := Lib.hid hn
  have HQ := Lib.hid hq
  cases q
  · clear hn hq
    go_enter Try.func32, Try.ntmps32
    go_wp2_with fail
    refine (bxGood_any _ _ _ xs lo hi _ HN.out hlen hs _ HQ.out).mono ?_
    rintro e w1 ⟨rfl, rfl⟩
    go_wp2
    go_ret2
    exact ⟨rfl, Below.refl _ _⟩
  · cases r
    · clear hn hq
      go_enter Try.func32, Try.ntmps32
      go_wp2_with fail
      refine (bxGood_any _ _ _ xs lo hi _ HN.out hlen hs _ HQ.out).mono ?_
      rintro e w1 ⟨rfl, rfl⟩
      go_wp2_with fail
      refine (l1In_any _ _ _ false hr _).mono ?_
      rintro e w2 ⟨rfl, rfl⟩
      go_wp2
      go_ret2
      exact ⟨rfl, Below.refl _ _⟩
    · obtain ⟨g1, g2, g3⟩ := good_sum hq
      have hs9 := inB_true.1 hr
      obtain ⟨g4, g5, g6⟩ := goodB_at hq
      have hone := enough_all (b := s) (fun x hx => by have := g6 x hx; omega) g4 (Int.le_refl xs.sum) hs9.1
      have HFO := Lib.hid (fun (W : Int) (h1 : mostOf xs ≤ W) (h2 : W ≤ 1000) => good_room hq h1 h2)
      have HLW := Lib.hid (fun (i : Nat) hi h1 h2 => leastR_eq (xs := xs) (b := s) (i := i) hi h1 h2)
      have hmore : (overOf xs : Int) = xs.sum - mostOf xs := by unfold overOf; omega
      obtain ⟨N, hN⟩ : ∃ N, overOf xs = N := ⟨_, rfl⟩
      obtain ⟨T, hT⟩ : ∃ T, mostOf xs = T := ⟨_, rfl⟩
      obtain ⟨Z, hZ⟩ : ∃ Z, xs.sum = Z := ⟨_, rfl⟩
      rw [hN, hT, hZ] at hmore
      rw [hT] at g1 g2 HFO HLW
      rw [hZ] at g2 g3 hone
      rw [hN] at HLW
      obtain ⟨i0, hi0, hst, hj0⟩ := room_start hT hZ g1 hmore hs9
      have HT := Lib.hid hT
      have HZ := Lib.hid hZ
      have HST := Lib.hid hst
      have HJ0 := Lib.hid hj0
      have HONE := Lib.hid hone
      have hn1 : 1 ≤ n := by omega
      have hn9 : n ≤ 9 := by omega
      clear hn hq hN hT hZ hone hst hj0 g4 g5 g6
      go_enter Try.func32, Try.ntmps32
      go_wp2_with fail
      refine (bxGood_any _ _ _ xs lo hi _ HN.out hlen hs _ HQ.out).mono ?_
      rintro e w1 ⟨rfl, rfl⟩
      go_wp2_with fail
      refine (l1In_any _ _ _ true hr _).mono ?_
      rintro e w2 ⟨rfl, rfl⟩
      go_wp2_with (first
        | (go_at_call 66; refine (bxMost_any _ _ _ xs lo hi _ HN.out hlen hs).mono ?_; rintro e w' ⟨rfl, rfl⟩; rw [HT.out])
        | (go_at_call 67; refine (bxSum_any _ _ _ xs lo hi _ HN.out hs HQ.out).mono ?_; rintro e w' ⟨rfl, rfl⟩; rw [HZ.out])
        | (go_at_call 65; refine (l1Most_any _ _ _).mono ?_; rintro e w' ⟨rfl, rfl⟩; rw [HST.out]))
      go_loopw [6] (fun v wr => ∃ i : Nat, i ≤ N ∧ v = .int .i64 (T + (i : Int)) ∧ Below w.heap.size w wr ∧ ∀ j : Nat, j < i → enoughR xs s (T + (j : Nat)) = false) (fun v _ => N + 1 - ((intOf v) - T).toNat)
      case atStart => exact ⟨i0, hi0, rfl, Below.refl _ _, HJ0.out⟩
      case round =>
        obtain ⟨i, hiN, rfl, hb, hj⟩ := hrel
        have HJ := Lib.hid hj
        clear hj
        have hask := HFO.out (T + (i : Int)) (by omega) (by omega)
        obtain ⟨m, hm, _⟩ := least_asked hask
        have hm := hm rfl
        obtain ⟨k1, k2, k3, k4, k5⟩ := askedB_at hask
        have heq := enough_least (b := s) hm
        have hend : i = N → enoughR xs s (T + (i : Int)) = true := by
          rintro rfl
          rw [show T + (i : Int) = Z by omega]
          exact HONE.out
        rw [heq, decide_eq_true_iff] at hend
        have HM := Lib.hid hm
        have HX := Lib.hid k3
        have HE := Lib.hid heq
        clear hask hm heq k1 k2 k3
        go_wp2_with fail
        refine (bxFew_any A n c xs (T + (i : Int)) lo hi _ HN.out hn1 hn9 HX.out ⟨k4, k5⟩ (hs.below hb hB) (Nat.le_trans hB hb.size) m HM.out).mono ?_
        rintro e w3 ⟨F, nf, cf, rfl, _, hb3⟩
        have hbb3 := hb.trans (hb3.mono hb.size)
        by_cases hgt : s < (m : Int)
        · have hlt : i < N := by
            rcases Nat.lt_or_ge i N with h | h
            · exact h
            · have := hend (by omega); omega
          clear hend
          go_wp2
          go_roundw
          case rel => exact ⟨i + 1, hlt, by congr 1; omega, hbb3, fun j hj => by
            by_cases e : j = i
            · subst e
              rw [HE.out, decide_eq_false_iff_not]
              omega
            · exact HJ.out j (by omega)⟩
          case measure => simp [intOf]; omega
        · have hle : (m : Int) ≤ s := by omega
          have hv := HLW.out i hiN (by rw [HE.out, decide_eq_true_iff]; exact hle) HJ.out
          have HV := Lib.hid hv
          clear hend hv
          go_wp2
          go_ret2
          exact ⟨by rw [HV.out]; rfl, hbb3⟩
end Go.Proofs.Ytplohhmggfifkab
