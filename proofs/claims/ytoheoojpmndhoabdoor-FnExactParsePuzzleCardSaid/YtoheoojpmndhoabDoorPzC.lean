/-
  The checking program's test for a clue, and for a puzzle.
  Conditions: none.
-/
import Derived.Test.YtoheoojpmndhoabDoorQuadM
import Derived.Test.YtoheoojpmndhoabDoorMem
import Derived.Deep.DeepCutAuto
namespace Go.Proofs.YtoheoojpmndhoabDoor
set_option linter.unusedVariables false
set_option linter.unusedSimpArgs false
open Go.RowKit

abbrev clV (c : Clu) : Value := .agg #[.int .i64 c.1, .int .i64 c.2.1, .int .i64 c.2.2.1, .int .i64 c.2.2.2]

theorem pzThings_any (n : Int) (b : Bool) (hb : inB n 2 4 = b) (w : World) :
    Calls Tryd.prog 28 #[.int .i64 n] w fun e w' => e = .returned (.bool b) ∧ w = w' := by
  go_enter Tryd.func28, Tryd.ntmps28
  go_wp2_with (go_at_call 45; refine (l1In_any _ _ _ b hb _).mono ?_; rintro e w' ⟨rfl, rfl⟩)
  go_ret
  exact ⟨rfl, rfl⟩

def clK (k n a b c : Int) : Bool := clueB n (k, a, b, c)

set_option maxHeartbeats 1000000 in
set_option maxRecDepth 100000 in
theorem pzClue_any (n k a b c : Int) (hn : -9223372036854775807 ≤ n ∧ n ≤ 9223372036854775807) (w : World) :
    Calls Tryd.prog 29 #[.int .i64 n, clV (k, a, b, c)] w fun e w' => e = .returned (.bool (clK k n a b c)) ∧ Below w.heap.size w w' := by
  obtain ⟨hn1, hn2⟩ := hn
  have bl : Below w.heap.size w (w.alloc (.cells #[.int .i64 k, .int .i64 a, .int .i64 b, .int .i64 c] 44)) := (Below.refl _ _).alloc (Nat.le_refl _) _
  obtain ⟨W, hW⟩ : ∃ W, w.alloc (.cells #[.int .i64 k, .int .i64 a, .int .i64 b, .int .i64 c] 44) = W := ⟨_, rfl⟩
  have h0 : W.cell? ⟨w.heap.size, 0, none⟩ = some (.int .i64 k) := by rw [← hW]; simp [go_sem]
  have h1 : W.cell? ⟨w.heap.size, 1, none⟩ = some (.int .i64 a) := by rw [← hW]; simp [go_sem]
  have h2 : W.cell? ⟨w.heap.size, 2, none⟩ = some (.int .i64 b) := by rw [← hW]; simp [go_sem]
  have h3 : W.cell? ⟨w.heap.size, 3, none⟩ = some (.int .i64 c) := by rw [← hW]; simp [go_sem]
  rw [hW] at bl
  have HW := Lib.hid hW
  clear hW
  obtain ⟨p, hp⟩ : ∃ p, noneC (k, a, b, c) = p := ⟨_, rfl⟩
  obtain ⟨q, hq⟩ : ∃ q, twoC n (k, a, b, c) = q := ⟨_, rfl⟩
  have HP := Lib.hid hp
  have HQ := Lib.hid hq
  clear hp hq
  go_enter Tryd.func29, Tryd.ntmps29
  go_upto_region 1 with (fail)
  go_cut [5] (fun s5 wx => s5 = .bool p ∧ W = wx)
  case first =>
    rw [HW.out]
    by_cases ha : a = 0
    · subst ha
      by_cases hb : b = 0
      · subst hb
        go_wp2_with fail
        go_meet
        exact ⟨by rw [← HP.out]; rfl, rfl⟩
      · have hb' : (b == 0) = false := by simpa using hb
        go_wp2_with fail
        go_meet
        exact ⟨by rw [← HP.out]; simp [noneC, hb], rfl⟩
    · have ha' : (a == 0) = false := by simpa using ha
      go_wp2_with fail
      go_meet
      exact ⟨by rw [← HP.out]; simp [noneC, ha], rfl⟩
  case rest =>
    obtain ⟨rfl, rfl⟩ := hcut
    go_upto_region 2 with (fail)
    go_cut [6] (fun s6 wx => s6 = .bool q ∧ W = wx)
    case first =>
      by_cases hA : inB a 0 (n - 1) = true
      · by_cases hB : inB b 0 (n - 1) = true
        · by_cases hab : a = b
          · subst hab
            go_wp2_with (first | (go_at_call 45; refine (l1In_any _ _ _ _ hA _).mono ?_; rintro e w' ⟨rfl, rfl⟩) | (go_at_call 45; refine (l1In_any _ _ _ _ hB _).mono ?_; rintro e w' ⟨rfl, rfl⟩))
            go_meet
            exact ⟨by rw [← HQ.out]; simp [twoC, hA], rfl⟩
          · have hab' : (a != b) = true := by simpa using hab
            go_wp2_with fail
            refine (l1In_any _ _ _ _ hA _).mono ?_
            rintro e w' ⟨rfl, rfl⟩
            go_wp2_with fail
            refine (l1In_any _ _ _ _ hB _).mono ?_
            rintro e w' ⟨rfl, rfl⟩
            go_wp2_with fail
            go_meet
            exact ⟨by rw [← HQ.out]; simp [twoC, hA, hB, hab], rfl⟩
        · have hB' : inB b 0 (n - 1) = false := by simpa using hB
          go_wp2_with fail
          refine (l1In_any _ _ _ _ hA _).mono ?_
          rintro e w' ⟨rfl, rfl⟩
          go_wp2_with fail
          refine (l1In_any _ _ _ _ hB' _).mono ?_
          rintro e w' ⟨rfl, rfl⟩
          go_wp2_with fail
          go_meet
          exact ⟨by rw [← HQ.out]; simp [twoC, hB'], rfl⟩
      · have hA' : inB a 0 (n - 1) = false := by simpa using hA
        go_wp2_with fail
        refine (l1In_any _ _ _ _ hA' _).mono ?_
        rintro e w' ⟨rfl, rfl⟩
        go_wp2_with fail
        go_meet
        exact ⟨by rw [← HQ.out]; simp [twoC, hA'], rfl⟩
    case rest =>
      obtain ⟨rfl, rfl⟩ := hcut
      by_cases k0 : k = 0
      · subst k0
        cases p
        · go_wp2_with fail
          go_ret
          exact ⟨by simp [clK, clueB, HP.out], bl⟩
        · obtain ⟨v, hv⟩ : ∃ v, inB c 0 24 = v := ⟨_, rfl⟩
          go_wp2_with fail
          refine (l1In_any _ _ _ v hv _).mono ?_
          rintro e w' ⟨rfl, rfl⟩
          have HV := Lib.hid hv
          clear hv
          go_wp2_with fail
          go_ret
          exact ⟨by simp [clK, clueB, HP.out, HV.out], bl⟩
      have e0 : (k == 0) = false := by simpa using k0
      by_cases k1 : k = 1
      · subst k1
        cases q
        · go_wp2_with fail
          go_ret
          exact ⟨by simp [clK, clueB, HQ.out], bl⟩
        · obtain ⟨v, hv⟩ : ∃ v, inB c 0 1 = v := ⟨_, rfl⟩
          go_wp2_with fail
          refine (l1In_any _ _ _ v hv _).mono ?_
          rintro e w' ⟨rfl, rfl⟩
          have HV := Lib.hid hv
          clear hv
          go_wp2_with fail
          go_ret
          exact ⟨by simp [clK, clueB, HQ.out, HV.out], bl⟩
      have e1 : (k == 1) = false := by simpa using k1
      by_cases k2 : k = 2
      · subst k2
        by_cases hA : inB a 6 24 = true
        · by_cases hb : b = 0
          · subst hb
            obtain ⟨v, hv⟩ : ∃ v, inB c 1 4 = v := ⟨_, rfl⟩
            have HV := Lib.hid hv
            clear hv
            have HA := Lib.hid hA
            clear hA
            go_wp2_with fail
            refine (l1In_any _ _ _ _ HA.out _).mono ?_
            rintro e w' ⟨rfl, rfl⟩
            go_wp2_with fail
            refine (l1In_any _ _ _ v HV.out _).mono ?_
            rintro e w' ⟨rfl, rfl⟩
            go_wp2_with fail
            go_ret
            exact ⟨by simp [clK, clueB, HA.out, HV.out], bl⟩
          · have hb' : (b == 0) = false := by simpa using hb
            have HA := Lib.hid hA
            clear hA
            go_wp2_with fail
            refine (l1In_any _ _ _ _ HA.out _).mono ?_
            rintro e w' ⟨rfl, rfl⟩
            go_wp2_with fail
            go_ret
            exact ⟨by simp [clK, clueB, hb], bl⟩
        · have hA' : inB a 6 24 = false := by simpa using hA
          have HA := Lib.hid hA'
          clear hA hA'
          go_wp2_with fail
          refine (l1In_any _ _ _ _ HA.out _).mono ?_
          rintro e w' ⟨rfl, rfl⟩
          go_wp2_with fail
          go_ret
          exact ⟨by simp [clK, clueB, HA.out], bl⟩
      have e2 : (k == 2) = false := by simpa using k2
      by_cases k3 : k = 3
      · subst k3
        by_cases hA : inB a 1 24 = true
        · by_cases hb : b = 0
          · subst hb
            obtain ⟨v, hv⟩ : ∃ v, inB c 0 1 = v := ⟨_, rfl⟩
            have HV := Lib.hid hv
            clear hv
            have HA := Lib.hid hA
            clear hA
            go_wp2_with fail
            refine (l1In_any _ _ _ _ HA.out _).mono ?_
            rintro e w' ⟨rfl, rfl⟩
            go_wp2_with fail
            refine (l1In_any _ _ _ v HV.out _).mono ?_
            rintro e w' ⟨rfl, rfl⟩
            go_wp2_with fail
            go_ret
            exact ⟨by simp [clK, clueB, HA.out, HV.out], bl⟩
          · have hb' : (b == 0) = false := by simpa using hb
            have HA := Lib.hid hA
            clear hA
            go_wp2_with fail
            refine (l1In_any _ _ _ _ HA.out _).mono ?_
            rintro e w' ⟨rfl, rfl⟩
            go_wp2_with fail
            go_ret
            exact ⟨by simp [clK, clueB, hb], bl⟩
        · have hA' : inB a 1 24 = false := by simpa using hA
          have HA := Lib.hid hA'
          clear hA hA'
          go_wp2_with fail
          refine (l1In_any _ _ _ _ HA.out _).mono ?_
          rintro e w' ⟨rfl, rfl⟩
          go_wp2_with fail
          go_ret
          exact ⟨by simp [clK, clueB, HA.out], bl⟩
      have e3 : (k == 3) = false := by simpa using k3
      by_cases k4 : k = 4
      · subst k4
        cases q
        · go_wp2_with fail
          go_ret
          exact ⟨by simp [clK, clueB, HQ.out], bl⟩
        · obtain ⟨v, hv⟩ : ∃ v, inB c 1 36 = v := ⟨_, rfl⟩
          go_wp2_with fail
          refine (l1In_any _ _ _ v hv _).mono ?_
          rintro e w' ⟨rfl, rfl⟩
          have HV := Lib.hid hv
          clear hv
          go_wp2_with fail
          go_ret
          exact ⟨by simp [clK, clueB, HQ.out, HV.out], bl⟩
      have e4 : (k == 4) = false := by simpa using k4
      by_cases k5 : k = 5
      · subst k5
        cases p
        · go_wp2_with fail
          go_ret
          exact ⟨by simp [clK, clueB, HP.out], bl⟩
        · obtain ⟨v, hv⟩ : ∃ v, inB c 1 6 = v := ⟨_, rfl⟩
          go_wp2_with fail
          refine (l1In_any _ _ _ v hv _).mono ?_
          rintro e w' ⟨rfl, rfl⟩
          have HV := Lib.hid hv
          clear hv
          go_wp2_with fail
          go_ret
          exact ⟨by simp [clK, clueB, HP.out, HV.out], bl⟩
      have e5 : (k == 5) = false := by simpa using k5
      go_wp2_with fail
      go_ret
      exact ⟨by simp [clK, clueB, k0, k1, k2, k3, k4, k5], bl⟩
end Go.Proofs.YtoheoojpmndhoabDoor
