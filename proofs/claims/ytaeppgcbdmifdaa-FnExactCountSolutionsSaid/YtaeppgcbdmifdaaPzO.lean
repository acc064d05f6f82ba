/-
  The written program's test for a clue, all of it.
  Conditions: none.
-/
import Derived.Test.YtaeppgcbdmifdaaPzN
namespace Go.Proofs.Ytaeppgcbdmifdaa
set_option linter.unusedVariables false
set_option linter.unusedSimpArgs false
open Go.RowKit

theorem inB_zero (x : Int) : inB x 0 0 = decide (x = 0) := by
  by_cases h : x = 0
  · subst h; rfl
  · rw [decide_eq_false h, inB_false]; omega
theorem inB_ix (x n : Int) {m : Int} (hm : m = max n 0 - 1) : inB x 0 m = inB x 0 (n - 1) := by
  subst hm
  by_cases h : 0 ≤ n
  · rw [Int.max_eq_left h]
  · rw [Int.max_eq_right (by omega), inB_false.2 (by omega), inB_false.2 (by omega)]

/-- The clue is raised, or it is one. -/
def RetN (n k a b c : Int) (w : World) (e : Ending) (w' : World) : Prop :=
  ((clK k n a b c = true ∧ e = .returned (.tuple #[])) ∨ (clK k n a b c = false ∧ e = .panicked [{ v := .iface 91 (clV (k, a, b, c)), recovered := false }])) ∧ Below w.heap.size w w'

set_option maxHeartbeats 10000000 in
set_option maxRecDepth 100000 in
theorem mustBeOf_any (n k a b c : Int) (hn : -9223372036854775808 ≤ n ∧ n ≤ 9223372036854775807) (w : World) :
    Calls Try.prog 92 #[clV (k, a, b, c), .int .i64 n] w (RetN n k a b c w) := by
  obtain ⟨hn1, hn2⟩ := hn
  obtain ⟨m, hm⟩ : ∃ m, m = max n 0 - 1 := ⟨_, rfl⟩
  have hm1 : -1 ≤ m ∧ m ≤ 9223372036854775806 := by rw [hm]; constructor <;> omega
  obtain ⟨W, hW⟩ : ∃ W, (((w.alloc (.cells #[.int .i64 k, .int .i64 a, .int .i64 b, .int .i64 c] 38)).alloc (.cells #[.int .i64 0, .int .i64 0] 90)).alloc (.cells #[.int .i64 0, .int .i64 1] 90)).alloc (.cells #[.int .i64 0, .int .i64 m] 90) = W := ⟨_, rfl⟩
  have hBl : Below w.heap.size w W := by rw [← hW]; exact ((((Below.refl _ _).alloc (Nat.le_refl _) _).alloc (by simp) _).alloc (by simp; omega) _).alloc (by simp; omega) _
  have m0 : W.heap[w.heap.size]? = some (.cells #[.int .i64 k, .int .i64 a, .int .i64 b, .int .i64 c] 38 (0, 0)) := by rw [← hW]; exact (alloc_old _ (by simp <;> omega) _).trans ((alloc_old _ (by simp <;> omega) _).trans ((alloc_old _ (by simp) _).trans (new_at _ _ rfl)))
  have m1 : W.heap[w.heap.size + 1]? = some (.cells #[.int .i64 0, .int .i64 0] 90 (0, 0)) := by rw [← hW]; exact (alloc_old _ (by simp) _).trans ((alloc_old _ (by simp) _).trans (new_at _ _ (by simp)))
  have m2 : W.heap[w.heap.size + 1 + 1]? = some (.cells #[.int .i64 0, .int .i64 1] 90 (0, 0)) := by rw [← hW]; exact (alloc_old _ (by simp) _).trans (new_at _ _ (by simp))
  have m3 : W.heap[w.heap.size + 1 + 1 + 1]? = some (.cells #[.int .i64 0, .int .i64 m] 90 (0, 0)) := by rw [← hW]; exact new_at _ _ (by simp)
  have HW := Lib.hid hW
  have HM := Lib.hid hm
  clear hW hm
  go_enter Try.func92, Try.ntmps92
  go_upto_region 3 with (fail)
  go_cut [6] (fun s6 wx => s6 = .pointer (some ⟨w.heap.size + 1 + 1 + 1, 0, none⟩) ∧ W = wx)
  case first =>
    clear m0 m1 m2 m3
    go_wp2_with fail
    all_goals go_meet
    all_goals refine ⟨rfl, HW.out.symm.trans ?_⟩
    · rw [show m = -1 from by rw [HM.out]; omega]
    · rw [show m = n - 1 from by rw [HM.out]; omega]
  case rest =>
    obtain ⟨rfl, rfl⟩ := hcut
    have q0 := cell_of m0 0
    have q1 := cell_of m0 1
    have q2 := cell_of m0 2
    have q3 := cell_of m0 3
    have q4 := cell_of m1 0
    have q5 := cell_of m1 1
    have q6 := cell_of m2 0
    have q7 := cell_of m2 1
    have q8 := cell_of m3 0
    have q9 := cell_of m3 1
    simp only [List.getElem?_toArray, List.getElem?_cons_zero, List.getElem?_cons_succ] at q0 q1 q2 q3 q4 q5 q6 q7 q8 q9
    clear HW
    by_cases k0 : k = 0
    · subst k0
      by_cases hA : inB a 0 0 = true
      · have fA : a = 0 := of_decide_eq_true (by rw [← inB_zero]; exact hA)
        have FA := Lib.hid fA
        clear fA
        by_cases hB : inB b 0 0 = true
        · have fB : b = 0 := of_decide_eq_true (by rw [← inB_zero]; exact hB)
          have FB := Lib.hid fB
          clear fB
          by_cases hC : inB c 0 24 = true
          · have fC := hC
            have FC := Lib.hid fC
            clear fC
            have H0 := Lib.hid hA
            have H1 := Lib.hid hB
            have H2 := Lib.hid hC
            clear hA hB hC
            go_wp2_with fail
            refine (mustBeIn_yes _ a b c _ _ _ _ _ _ H0.out H1.out H2.out _).mono ?_
            rintro e w1 ⟨rfl, hb1⟩
            go_wp2_with fail
            first | go_end0 | refine bodyPost_ret (results_none rfl _ _ _) rfl ?_
            exact ⟨.inl ⟨by simp [clK, clueB, noneC, twoC, FA.out, FB.out, FC.out], rfl⟩, hBl.trans (hb1.mono hBl.size)⟩
          · have hC' : inB c 0 24 = false := by simpa using hC
            have fC := hC'
            have FC := Lib.hid fC
            clear fC
            have H0 := Lib.hid hA
            have H1 := Lib.hid hB
            have H2 := Lib.hid hC'
            clear hC hC' hA hB
            go_wp2_with fail
            refine (mustBeIn_no3 _ a b c _ _ _ _ _ _ H0.out H1.out H2.out _).mono ?_
            rintro e w1 ⟨rfl, hb1⟩
            exact ⟨rfl, .inr ⟨by simp [clK, clueB, noneC, twoC, FA.out, FB.out, FC.out], rfl⟩, hBl.trans (hb1.mono hBl.size)⟩
        · have hB' : inB b 0 0 = false := by simpa using hB
          have fB : ¬ b = 0 := of_decide_eq_false (by rw [← inB_zero]; exact hB')
          have FB := Lib.hid fB
          clear fB
          have H0 := Lib.hid hA
          have H1 := Lib.hid hB'
          clear hB hB' hA
          go_wp2_with fail
          refine (mustBeIn_no2 _ a b c _ _ _ _ _ _ H0.out H1.out _).mono ?_
          rintro e w1 ⟨rfl, hb1⟩
          exact ⟨rfl, .inr ⟨by simp [clK, clueB, noneC, twoC, FA.out, FB.out], rfl⟩, hBl.trans (hb1.mono hBl.size)⟩
      · have hA' : inB a 0 0 = false := by simpa using hA
        have fA : ¬ a = 0 := of_decide_eq_false (by rw [← inB_zero]; exact hA')
        have FA := Lib.hid fA
        clear fA
        have H0 := Lib.hid hA'
        clear hA hA'
        go_wp2_with fail
        refine (mustBeIn_no1 _ a b c _ _ _ _ _ _ H0.out _).mono ?_
        rintro e w1 ⟨rfl, hb1⟩
        exact ⟨rfl, .inr ⟨by simp [clK, clueB, noneC, twoC, FA.out], rfl⟩, hBl.trans (hb1.mono hBl.size)⟩
    have e0 : (k == 0) = false := by simpa using k0
    by_cases k1 : k = 1
    · subst k1
      by_cases hA : inB a 0 m = true
      · have fA : inB a 0 (n - 1) = true := by rw [← inB_ix a n HM.out]; exact hA
        have FA := Lib.hid fA
        clear fA
        by_cases hB : inB b 0 m = true
        · have fB : inB b 0 (n - 1) = true := by rw [← inB_ix b n HM.out]; exact hB
          have FB := Lib.hid fB
          clear fB
          by_cases hC : inB c 0 1 = true
          · have fC := hC
            have FC := Lib.hid fC
            clear fC
            have H0 := Lib.hid hA
            have H1 := Lib.hid hB
            have H2 := Lib.hid hC
            clear hA hB hC
            go_wp2_with fail
            refine (mustBeIn_yes _ a b c _ _ _ _ _ _ H0.out H1.out H2.out _).mono ?_
            rintro e w1 ⟨rfl, hb1⟩
            have p0 := (hb1.cell (p := ⟨w.heap.size, 0, none⟩) (heap_lt m0)).trans q0
            have p1 := (hb1.cell (p := ⟨w.heap.size, 1, none⟩) (heap_lt m0)).trans q1
            have p2 := (hb1.cell (p := ⟨w.heap.size, 2, none⟩) (heap_lt m0)).trans q2
            have p3 := (hb1.cell (p := ⟨w.heap.size, 3, none⟩) (heap_lt m0)).trans q3
            have hBB := hBl.trans (hb1.mono hBl.size)
            by_cases hab : a = b
            · subst hab
              go_wp2_with fail
              refine (must_no _ _ _ _ _).mono ?_
              rintro e w2 ⟨rfl, hb2⟩
              exact ⟨rfl, .inr ⟨by simp [clK, clueB, noneC, twoC, FA.out, FB.out, FC.out], rfl⟩, hBB.trans (hb2.mono hBB.size)⟩
            · have hab' : (a != b) = true := by simpa using hab
              go_wp2_with fail
              refine (must_yes _ _ _ _ _).mono ?_
              rintro e w2 ⟨rfl, hb2⟩
              go_wp2_with fail
              first | go_end0 | refine bodyPost_ret (results_none rfl _ _ _) rfl ?_
              exact ⟨.inl ⟨by simp [clK, clueB, noneC, twoC, FA.out, FB.out, FC.out, hab], rfl⟩, hBB.trans (hb2.mono hBB.size)⟩
          · have hC' : inB c 0 1 = false := by simpa using hC
            have fC := hC'
            have FC := Lib.hid fC
            clear fC
            have H0 := Lib.hid hA
            have H1 := Lib.hid hB
            have H2 := Lib.hid hC'
            clear hC hC' hA hB
            go_wp2_with fail
            refine (mustBeIn_no3 _ a b c _ _ _ _ _ _ H0.out H1.out H2.out _).mono ?_
            rintro e w1 ⟨rfl, hb1⟩
            exact ⟨rfl, .inr ⟨by simp [clK, clueB, noneC, twoC, FA.out, FB.out, FC.out], rfl⟩, hBl.trans (hb1.mono hBl.size)⟩
        · have hB' : inB b 0 m = false := by simpa using hB
          have fB : inB b 0 (n - 1) = false := by rw [← inB_ix b n HM.out]; exact hB'
          have FB := Lib.hid fB
          clear fB
          have H0 := Lib.hid hA
          have H1 := Lib.hid hB'
          clear hB hB' hA
          go_wp2_with fail
          refine (mustBeIn_no2 _ a b c _ _ _ _ _ _ H0.out H1.out _).mono ?_
          rintro e w1 ⟨rfl, hb1⟩
          exact ⟨rfl, .inr ⟨by simp [clK, clueB, noneC, twoC, FA.out, FB.out], rfl⟩, hBl.trans (hb1.mono hBl.size)⟩
      · have hA' : inB a 0 m = false := by simpa using hA
        have fA : inB a 0 (n - 1) = false := by rw [← inB_ix a n HM.out]; exact hA'
        have FA := Lib.hid fA
        clear fA
        have H0 := Lib.hid hA'
        clear hA hA'
        go_wp2_with fail
        refine (mustBeIn_no1 _ a b c _ _ _ _ _ _ H0.out _).mono ?_
        rintro e w1 ⟨rfl, hb1⟩
        exact ⟨rfl, .inr ⟨by simp [clK, clueB, noneC, twoC, FA.out], rfl⟩, hBl.trans (hb1.mono hBl.size)⟩
    have e1 : (k == 1) = false := by simpa using k1
    by_cases k2 : k = 2
    · subst k2
      by_cases hA : inB a 6 24 = true
      · have fA := hA
        have FA := Lib.hid fA
        clear fA
        by_cases hB : inB b 0 0 = true
        · have fB : b = 0 := of_decide_eq_true (by rw [← inB_zero]; exact hB)
          have FB := Lib.hid fB
          clear fB
          by_cases hC : inB c 1 4 = true
          · have fC := hC
            have FC := Lib.hid fC
            clear fC
            have H0 := Lib.hid hA
            have H1 := Lib.hid hB
            have H2 := Lib.hid hC
            clear hA hB hC
            go_wp2_with fail
            refine (mustBeIn_yes _ a b c _ _ _ _ _ _ H0.out H1.out H2.out _).mono ?_
            rintro e w1 ⟨rfl, hb1⟩
            go_wp2_with fail
            first | go_end0 | refine bodyPost_ret (results_none rfl _ _ _) rfl ?_
            exact ⟨.inl ⟨by simp [clK, clueB, noneC, twoC, FA.out, FB.out, FC.out], rfl⟩, hBl.trans (hb1.mono hBl.size)⟩
          · have hC' : inB c 1 4 = false := by simpa using hC
            have fC := hC'
            have FC := Lib.hid fC
            clear fC
            have H0 := Lib.hid hA
            have H1 := Lib.hid hB
            have H2 := Lib.hid hC'
            clear hC hC' hA hB
            go_wp2_with fail
            refine (mustBeIn_no3 _ a b c _ _ _ _ _ _ H0.out H1.out H2.out _).mono ?_
            rintro e w1 ⟨rfl, hb1⟩
            exact ⟨rfl, .inr ⟨by simp [clK, clueB, noneC, twoC, FA.out, FB.out, FC.out], rfl⟩, hBl.trans (hb1.mono hBl.size)⟩
        · have hB' : inB b 0 0 = false := by simpa using hB
          have fB : ¬ b = 0 := of_decide_eq_false (by rw [← inB_zero]; exact hB')
          have FB := Lib.hid fB
          clear fB
          have H0 := Lib.hid hA
          have H1 := Lib.hid hB'
          clear hB hB' hA
          go_wp2_with fail
          refine (mustBeIn_no2 _ a b c _ _ _ _ _ _ H0.out H1.out _).mono ?_
          rintro e w1 ⟨rfl, hb1⟩
          exact ⟨rfl, .inr ⟨by simp [clK, clueB, noneC, twoC, FA.out, FB.out], rfl⟩, hBl.trans (hb1.mono hBl.size)⟩
      · have hA' : inB a 6 24 = false := by simpa using hA
        have fA := hA'
        have FA := Lib.hid fA
        clear fA
        have H0 := Lib.hid hA'
        clear hA hA'
        go_wp2_with fail
        refine (mustBeIn_no1 _ a b c _ _ _ _ _ _ H0.out _).mono ?_
        rintro e w1 ⟨rfl, hb1⟩
        exact ⟨rfl, .inr ⟨by simp [clK, clueB, noneC, twoC, FA.out], rfl⟩, hBl.trans (hb1.mono hBl.size)⟩
    have e2 : (k == 2) = false := by simpa using k2
    by_cases k3 : k = 3
    · subst k3
      by_cases hA : inB a 1 24 = true
      · have fA := hA
        have FA := Lib.hid fA
        clear fA
        by_cases hB : inB b 0 0 = true
        · have fB : b = 0 := of_decide_eq_true (by rw [← inB_zero]; exact hB)
          have FB := Lib.hid fB
          clear fB
          by_cases hC : inB c 0 1 = true
          · have fC := hC
            have FC := Lib.hid fC
            clear fC
            have H0 := Lib.hid hA
            have H1 := Lib.hid hB
            have H2 := Lib.hid hC
            clear hA hB hC
            go_wp2_with fail
            refine (mustBeIn_yes _ a b c _ _ _ _ _ _ H0.out H1.out H2.out _).mono ?_
            rintro e w1 ⟨rfl, hb1⟩
            go_wp2_with fail
            first | go_end0 | refine bodyPost_ret (results_none rfl _ _ _) rfl ?_
            exact ⟨.inl ⟨by simp [clK, clueB, noneC, twoC, FA.out, FB.out, FC.out], rfl⟩, hBl.trans (hb1.mono hBl.size)⟩
          · have hC' : inB c 0 1 = false := by simpa using hC
            have fC := hC'
            have FC := Lib.hid fC
            clear fC
            have H0 := Lib.hid hA
            have H1 := Lib.hid hB
            have H2 := Lib.hid hC'
            clear hC hC' hA hB
            go_wp2_with fail
            refine (mustBeIn_no3 _ a b c _ _ _ _ _ _ H0.out H1.out H2.out _).mono ?_
            rintro e w1 ⟨rfl, hb1⟩
            exact ⟨rfl, .inr ⟨by simp [clK, clueB, noneC, twoC, FA.out, FB.out, FC.out], rfl⟩, hBl.trans (hb1.mono hBl.size)⟩
        · have hB' : inB b 0 0 = false := by simpa using hB
          have fB : ¬ b = 0 := of_decide_eq_false (by rw [← inB_zero]; exact hB')
          have FB := Lib.hid fB
          clear fB
          have H0 := Lib.hid hA
          have H1 := Lib.hid hB'
          clear hB hB' hA
          go_wp2_with fail
          refine (mustBeIn_no2 _ a b c _ _ _ _ _ _ H0.out H1.out _).mono ?_
          rintro e w1 ⟨rfl, hb1⟩
          exact ⟨rfl, .inr ⟨by simp [clK, clueB, noneC, twoC, FA.out, FB.out], rfl⟩, hBl.trans (hb1.mono hBl.size)⟩
      · have hA' : inB a 1 24 = false := by simpa using hA
        have fA := hA'
        have FA := Lib.hid fA
        clear fA
        have H0 := Lib.hid hA'
        clear hA hA'
        go_wp2_with fail
        refine (mustBeIn_no1 _ a b c _ _ _ _ _ _ H0.out _).mono ?_
        rintro e w1 ⟨rfl, hb1⟩
        exact ⟨rfl, .inr ⟨by simp [clK, clueB, noneC, twoC, FA.out], rfl⟩, hBl.trans (hb1.mono hBl.size)⟩
    have e3 : (k == 3) = false := by simpa using k3
    by_cases k4 : k = 4
    · subst k4
      by_cases hA : inB a 0 m = true
      · have fA : inB a 0 (n - 1) = true := by rw [← inB_ix a n HM.out]; exact hA
        have FA := Lib.hid fA
        clear fA
        by_cases hB : inB b 0 m = true
        · have fB : inB b 0 (n - 1) = true := by rw [← inB_ix b n HM.out]; exact hB
          have FB := Lib.hid fB
          clear fB
          by_cases hC : inB c 1 36 = true
          · have fC := hC
            have FC := Lib.hid fC
            clear fC
            have H0 := Lib.hid hA
            have H1 := Lib.hid hB
            have H2 := Lib.hid hC
            clear hA hB hC
            go_wp2_with fail
            refine (mustBeIn_yes _ a b c _ _ _ _ _ _ H0.out H1.out H2.out _).mono ?_
            rintro e w1 ⟨rfl, hb1⟩
            have p0 := (hb1.cell (p := ⟨w.heap.size, 0, none⟩) (heap_lt m0)).trans q0
            have p1 := (hb1.cell (p := ⟨w.heap.size, 1, none⟩) (heap_lt m0)).trans q1
            have p2 := (hb1.cell (p := ⟨w.heap.size, 2, none⟩) (heap_lt m0)).trans q2
            have p3 := (hb1.cell (p := ⟨w.heap.size, 3, none⟩) (heap_lt m0)).trans q3
            have hBB := hBl.trans (hb1.mono hBl.size)
            by_cases hab : a = b
            · subst hab
              go_wp2_with fail
              refine (must_no _ _ _ _ _).mono ?_
              rintro e w2 ⟨rfl, hb2⟩
              exact ⟨rfl, .inr ⟨by simp [clK, clueB, noneC, twoC, FA.out, FB.out, FC.out], rfl⟩, hBB.trans (hb2.mono hBB.size)⟩
            · have hab' : (a != b) = true := by simpa using hab
              go_wp2_with fail
              refine (must_yes _ _ _ _ _).mono ?_
              rintro e w2 ⟨rfl, hb2⟩
              go_wp2_with fail
              first | go_end0 | refine bodyPost_ret (results_none rfl _ _ _) rfl ?_
              exact ⟨.inl ⟨by simp [clK, clueB, noneC, twoC, FA.out, FB.out, FC.out, hab], rfl⟩, hBB.trans (hb2.mono hBB.size)⟩
          · have hC' : inB c 1 36 = false := by simpa using hC
            have fC := hC'
            have FC := Lib.hid fC
            clear fC
            have H0 := Lib.hid hA
            have H1 := Lib.hid hB
            have H2 := Lib.hid hC'
            clear hC hC' hA hB
            go_wp2_with fail
            refine (mustBeIn_no3 _ a b c _ _ _ _ _ _ H0.out H1.out H2.out _).mono ?_
            rintro e w1 ⟨rfl, hb1⟩
            exact ⟨rfl, .inr ⟨by simp [clK, clueB, noneC, twoC, FA.out, FB.out, FC.out], rfl⟩, hBl.trans (hb1.mono hBl.size)⟩
        · have hB' : inB b 0 m = false := by simpa using hB
          have fB : inB b 0 (n - 1) = false := by rw [← inB_ix b n HM.out]; exact hB'
          have FB := Lib.hid fB
          clear fB
          have H0 := Lib.hid hA
          have H1 := Lib.hid hB'
          clear hB hB' hA
          go_wp2_with fail
          refine (mustBeIn_no2 _ a b c _ _ _ _ _ _ H0.out H1.out _).mono ?_
          rintro e w1 ⟨rfl, hb1⟩
          exact ⟨rfl, .inr ⟨by simp [clK, clueB, noneC, twoC, FA.out, FB.out], rfl⟩, hBl.trans (hb1.mono hBl.size)⟩
      · have hA' : inB a 0 m = false := by simpa using hA
        have fA : inB a 0 (n - 1) = false := by rw [← inB_ix a n HM.out]; exact hA'
        have FA := Lib.hid fA
        clear fA
        have H0 := Lib.hid hA'
        clear hA hA'
        go_wp2_with fail
        refine (mustBeIn_no1 _ a b c _ _ _ _ _ _ H0.out _).mono ?_
        rintro e w1 ⟨rfl, hb1⟩
        exact ⟨rfl, .inr ⟨by simp [clK, clueB, noneC, twoC, FA.out], rfl⟩, hBl.trans (hb1.mono hBl.size)⟩
    have e4 : (k == 4) = false := by simpa using k4
    by_cases k5 : k = 5
    · subst k5
      by_cases hA : inB a 0 0 = true
      · have fA : a = 0 := of_decide_eq_true (by rw [← inB_zero]; exact hA)
        have FA := Lib.hid fA
        clear fA
        by_cases hB : inB b 0 0 = true
        · have fB : b = 0 := of_decide_eq_true (by rw [← inB_zero]; exact hB)
          have FB := Lib.hid fB
          clear fB
          by_cases hC : inB c 1 6 = true
          · have fC := hC
            have FC := Lib.hid fC
            clear fC
            have H0 := Lib.hid hA
            have H1 := Lib.hid hB
            have H2 := Lib.hid hC
            clear hA hB hC
            go_wp2_with fail
            refine (mustBeIn_yes _ a b c _ _ _ _ _ _ H0.out H1.out H2.out _).mono ?_
            rintro e w1 ⟨rfl, hb1⟩
            go_wp2_with fail
            first | go_end0 | refine bodyPost_ret (results_none rfl _ _ _) rfl ?_
            exact ⟨.inl ⟨by simp [clK, clueB, noneC, twoC, FA.out, FB.out, FC.out], rfl⟩, hBl.trans (hb1.mono hBl.size)⟩
          · have hC' : inB c 1 6 = false := by simpa using hC
            have fC := hC'
            have FC := Lib.hid fC
            clear fC
            have H0 := Lib.hid hA
            have H1 := Lib.hid hB
            have H2 := Lib.hid hC'
            clear hC hC' hA hB
            go_wp2_with fail
            refine (mustBeIn_no3 _ a b c _ _ _ _ _ _ H0.out H1.out H2.out _).mono ?_
            rintro e w1 ⟨rfl, hb1⟩
            exact ⟨rfl, .inr ⟨by simp [clK, clueB, noneC, twoC, FA.out, FB.out, FC.out], rfl⟩, hBl.trans (hb1.mono hBl.size)⟩
        · have hB' : inB b 0 0 = false := by simpa using hB
          have fB : ¬ b = 0 := of_decide_eq_false (by rw [← inB_zero]; exact hB')
          have FB := Lib.hid fB
          clear fB
          have H0 := Lib.hid hA
          have H1 := Lib.hid hB'
          clear hB hB' hA
          go_wp2_with fail
          refine (mustBeIn_no2 _ a b c _ _ _ _ _ _ H0.out H1.out _).mono ?_
          rintro e w1 ⟨rfl, hb1⟩
          exact ⟨rfl, .inr ⟨by simp [clK, clueB, noneC, twoC, FA.out, FB.out], rfl⟩, hBl.trans (hb1.mono hBl.size)⟩
      · have hA' : inB a 0 0 = false := by simpa using hA
        have fA : ¬ a = 0 := of_decide_eq_false (by rw [← inB_zero]; exact hA')
        have FA := Lib.hid fA
        clear fA
        have H0 := Lib.hid hA'
        clear hA hA'
        go_wp2_with fail
        refine (mustBeIn_no1 _ a b c _ _ _ _ _ _ H0.out _).mono ?_
        rintro e w1 ⟨rfl, hb1⟩
        exact ⟨rfl, .inr ⟨by simp [clK, clueB, noneC, twoC, FA.out], rfl⟩, hBl.trans (hb1.mono hBl.size)⟩
    have e5 : (k == 5) = false := by simpa using k5
    go_wp2_with fail
    refine (must_no _ _ _ _ _).mono ?_
    rintro e w1 ⟨rfl, hb1⟩
    exact ⟨rfl, .inr ⟨by simp [clK, clueB, noneC, twoC, k0, k1, k2, k3, k4, k5], rfl⟩, hBl.trans (hb1.mono hBl.size)⟩
end Go.Proofs.Ytaeppgcbdmifdaa
