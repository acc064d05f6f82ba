/-
  The written program's test for a clue, all of it.
  Conditions: none.
-/
import Derived.Test.YtoheoojpmndhoabDoorPzN
namespace Go.Proofs.YtoheoojpmndhoabDoor
set_option linter.unusedVariables false
set_option linter.unusedSimpArgs false
open Go.RowKit

theorem inB_zero (x : Int) : inB x 0 0 = decide (x = 0) := by
  by_cases h : x = 0
  · subst h; rfl
  · rw [decide_eq_false h, inB_false]; omega

/-- It is a clue of so many things. -/
def clN (k n a b c : Int) : Bool := inB n 2 4 && clK k n a b c
/-- The clue is raised, or it is one. -/
def RetN (n k a b c : Int) (w : World) (e : Ending) (w' : World) : Prop :=
  ((clN k n a b c = true ∧ e = .returned (.tuple #[])) ∨ (clN k n a b c = false ∧ e = .panicked [{ v := .iface 76 (clV (k, a, b, c)), recovered := false }])) ∧ Below w.heap.size w w'

set_option maxHeartbeats 10000000 in
set_option maxRecDepth 100000 in
theorem mustBeOf_any (n k a b c : Int) (w : World) :
    Calls Tryd.prog 48 #[clV (k, a, b, c), .int .i64 n] w (RetN n k a b c w) := by
  obtain ⟨v, hv⟩ : ∃ v, w.alloc (.cells #[.int .i64 k, .int .i64 a, .int .i64 b, .int .i64 c] 44) = v := ⟨_, rfl⟩
  have hB0 : Below w.heap.size w v := by rw [← hv]; exact (Below.refl _ _).alloc (Nat.le_refl _) _
  have n0 : v.heap[w.heap.size]? = some (.cells #[.int .i64 k, .int .i64 a, .int .i64 b, .int .i64 c] 44 (0, 0)) := by rw [← hv]; exact new_at _ _ rfl
  have HV := Lib.hid hv
  clear hv
  obtain ⟨q, hq⟩ : ∃ q, inB n 2 4 = q := ⟨_, rfl⟩
  go_enter Tryd.func48, Tryd.ntmps48
  go_wp2_with fail
  rw [HV.out]
  refine wp_region_held_drew (S := fun wq => wq.heap[w.heap.size]? = some (.cells #[.int .i64 k, .int .i64 a, .int .i64 b, .int .i64 c] 44 (0, 0))) (by kernel_rfl) n0 (fun hH0 => ?_)
  refine wpAnyH_take (i := 0) (v := ?_) (ops_at rfl) (by kernel_rfl) (by kernel_rfl) (by kernel_rfl) (fun _ _ _ h => h) (Or.inl ⟨by rfl, ?ya0⟩) (by assumption) ?na0
  case ya0 => (intro wS hSw; have q0 := cell_of hSw 0; have q1 := cell_of hSw 1; have q2 := cell_of hSw 2; have q3 := cell_of hSw 3; go_simp; try rfl)
  try simp only [Act.put, List.setIfInBounds_toArray, List.set_cons_zero, List.set_cons_succ]
  refine wpAnyH_take (i := 1) (v := ?_) (ops_at rfl) (by kernel_rfl) (by kernel_rfl) (by kernel_rfl) (fun _ _ _ h => h) (Or.inl ⟨by rfl, ?ya1⟩) (by assumption) ?na1
  case ya1 => (intro wS hSw; have q0 := cell_of hSw 0; have q1 := cell_of hSw 1; have q2 := cell_of hSw 2; have q3 := cell_of hSw 3; go_simp; try rfl)
  try simp only [Act.put, List.setIfInBounds_toArray, List.set_cons_zero, List.set_cons_succ]
  obtain ⟨v0, hv0⟩ : ∃ u, v.drew = u := ⟨_, rfl⟩
  have hd0 : Below v.heap.size v v0 := by rw [← hv0]; exact (Below.refl _ _).drew
  rw [hv0] at hH0 ⊢
  clear hv0
  have hzn := heap_lt n0
  refine wpAnyH_ready (rs := [2]) (by kernel_rfl) (by simp) ?_
  refine AllReadyH.cons (ops_at rfl) (fun K hK => ?_) AllReadyH.nil
  go_simp
  refine (canBeHidden_any n q hq _).mono ?_
  rintro e v1 ⟨rfl, hd1⟩
  have hz0 := hd0.size
  have n1 := (hd1.block _ (by omega)).trans hH0
  have hB1 := hB0.trans ((hd0.trans (hd1.mono hz0)).mono hB0.size)
  refine hK.out _ _ n1 (fun hH1 => ?_)
  clear hK K
  refine wpAnyH_ready (rs := [3]) (by kernel_rfl) (by simp) ?_
  refine AllReadyH.cons (ops_at rfl) (fun K hK => ?_) AllReadyH.nil
  go_simp
  cases q
  · refine (must_no _ _ _ _ _).mono ?_
    rintro e v2 ⟨rfl, hd2⟩
    exact ⟨rfl, .inr ⟨by rw [clN, hq]; rfl, rfl⟩, hB1.trans (hd2.mono hB1.size)⟩
  refine (must_yes _ _ _ _ _).mono ?_
  rintro e v2 ⟨rfl, hd2⟩
  have hz1 := hd1.size
  have n2 := (hd2.block _ (by omega)).trans n1
  have hB2 := hB1.trans (hd2.mono hB1.size)
  have hz2 := heap_lt n2
  refine hK.out _ _ n2 (fun hH2 => ?_)
  clear hK K
  refine wpAnyH_done (by kernel_rfl) ?_ _
  have hnn : 2 ≤ n ∧ n ≤ 4 := inB_true.1 hq
  have HQ := Lib.hid hq
  clear hH0 hH1 hH2 n0 n1 hd0 hd1 hd2 hB0 hB1 hq
  obtain ⟨W, hW⟩ : ∃ W, ((v2.alloc (.cells #[.int .i64 0, .int .i64 0] 75)).alloc (.cells #[.int .i64 0, .int .i64 1] 75)).alloc (.cells #[.int .i64 0, .int .i64 (n - 1)] 75) = W := ⟨_, rfl⟩
  have hBl : Below w.heap.size w W := by rw [← hW]; exact ((hB2.alloc hB2.size _).alloc (by simp; omega) _).alloc (by simp; omega) _
  have m0 : W.heap[w.heap.size]? = some (.cells #[.int .i64 k, .int .i64 a, .int .i64 b, .int .i64 c] 44 (0, 0)) := by rw [← hW]; exact (alloc_old _ (by simp; omega) _).trans ((alloc_old _ (by simp; omega) _).trans ((alloc_old _ hz2 _).trans n2))
  have m1 : W.heap[v2.heap.size]? = some (.cells #[.int .i64 0, .int .i64 0] 75 (0, 0)) := by rw [← hW]; exact (alloc_old _ (by simp; omega) _).trans ((alloc_old _ (by simp) _).trans (new_at _ _ rfl))
  have m2 : W.heap[v2.heap.size + 1]? = some (.cells #[.int .i64 0, .int .i64 1] 75 (0, 0)) := by rw [← hW]; exact (alloc_old _ (by simp) _).trans (new_at _ _ (by simp))
  have m3 : W.heap[v2.heap.size + 1 + 1]? = some (.cells #[.int .i64 0, .int .i64 (n - 1)] 75 (0, 0)) := by rw [← hW]; exact new_at _ _ (by simp)
  have HW := Lib.hid hW
  clear hW n2
  go_upto_region 5 with (fail)
  rw [HW.out]
  have q0 := cell_of m0 0
  have q1 := cell_of m0 1
  have q2 := cell_of m0 2
  have q3 := cell_of m0 3
  have q4 := cell_of m1 0
  have q5 := cell_of m1 1
  have q6 := cell_of m2 0
  have q7 := cell_of m2 1
  have q8 := cell_of m3 0
  have q9 := cell_of m3 1
  simp only [List.getElem?_toArray, List.getElem?_cons_zero, List.getElem?_cons_succ] at q0 q1 q2 q3 q4 q5 q6 q7 q8 q9
  clear HW
  by_cases k0 : k = 0
  · subst k0
    by_cases hA : inB a 0 0 = true
    · have fA : a = 0 := of_decide_eq_true (by rw [← inB_zero]; exact hA)
      have FA := Lib.hid fA
      clear fA
      by_cases hB : inB b 0 0 = true
      · have fB : b = 0 := of_decide_eq_true (by rw [← inB_zero]; exact hB)
        have FB := Lib.hid fB
        clear fB
        by_cases hC : inB c 0 24 = true
        · have fC := hC
          have FC := Lib.hid fC
          clear fC
          have H0 := Lib.hid hA
          have H1 := Lib.hid hB
          have H2 := Lib.hid hC
          clear hA hB hC
          go_wp2_with fail
          refine (mustBeIn_yes _ a b c _ _ _ _ _ _ H0.out H1.out H2.out _).mono ?_
          rintro e w1 ⟨rfl, hb1⟩
          go_wp2_with fail
          first | go_end0 | refine bodyPost_ret (results_none rfl _ _ _) rfl ?_
          exact ⟨.inl ⟨by rw [clN, HQ.out]; simp [clK, clueB, noneC, twoC, FA.out, FB.out, FC.out], rfl⟩, hBl.trans (hb1.mono hBl.size)⟩
        · have hC' : inB c 0 24 = false := by simpa using hC
          have fC := hC'
          have FC := Lib.hid fC
          clear fC
          have H0 := Lib.hid hA
          have H1 := Lib.hid hB
          have H2 := Lib.hid hC'
          clear hC hC' hA hB
          go_wp2_with fail
          refine (mustBeIn_no3 _ a b c _ _ _ _ _ _ H0.out H1.out H2.out _).mono ?_
          rintro e w1 ⟨rfl, hb1⟩
          exact ⟨rfl, .inr ⟨by rw [clN, HQ.out]; simp [clK, clueB, noneC, twoC, FA.out, FB.out, FC.out], rfl⟩, hBl.trans (hb1.mono hBl.size)⟩
      · have hB' : inB b 0 0 = false := by simpa using hB
        have fB : ¬ b = 0 := of_decide_eq_false (by rw [← inB_zero]; exact hB')
        have FB := Lib.hid fB
        clear fB
        have H0 := Lib.hid hA
        have H1 := Lib.hid hB'
        clear hB hB' hA
        go_wp2_with fail
        refine (mustBeIn_no2 _ a b c _ _ _ _ _ _ H0.out H1.out _).mono ?_
        rintro e w1 ⟨rfl, hb1⟩
        exact ⟨rfl, .inr ⟨by rw [clN, HQ.out]; simp [clK, clueB, noneC, twoC, FA.out, FB.out], rfl⟩, hBl.trans (hb1.mono hBl.size)⟩
    · have hA' : inB a 0 0 = false := by simpa using hA
      have fA : ¬ a = 0 := of_decide_eq_false (by rw [← inB_zero]; exact hA')
      have FA := Lib.hid fA
      clear fA
      have H0 := Lib.hid hA'
      clear hA hA'
      go_wp2_with fail
      refine (mustBeIn_no1 _ a b c _ _ _ _ _ _ H0.out _).mono ?_
      rintro e w1 ⟨rfl, hb1⟩
      exact ⟨rfl, .inr ⟨by rw [clN, HQ.out]; simp [clK, clueB, noneC, twoC, FA.out], rfl⟩, hBl.trans (hb1.mono hBl.size)⟩
  have e0 : (k == 0) = false := by simpa using k0
  by_cases k1 : k = 1
  · subst k1
    by_cases hA : inB a 0 (n - 1) = true
    · have fA := hA
      have FA := Lib.hid fA
      clear fA
      by_cases hB : inB b 0 (n - 1) = true
      · have fB := hB
        have FB := Lib.hid fB
        clear fB
        by_cases hC : inB c 0 1 = true
        · have fC := hC
          have FC := Lib.hid fC
          clear fC
          have H0 := Lib.hid hA
          have H1 := Lib.hid hB
          have H2 := Lib.hid hC
          clear hA hB hC
          go_wp2_with fail
          refine (mustBeIn_yes _ a b c _ _ _ _ _ _ H0.out H1.out H2.out _).mono ?_
          rintro e w1 ⟨rfl, hb1⟩
          have p0 := (hb1.cell (p := ⟨w.heap.size, 0, none⟩) (heap_lt m0)).trans q0
          have p1 := (hb1.cell (p := ⟨w.heap.size, 1, none⟩) (heap_lt m0)).trans q1
          have p2 := (hb1.cell (p := ⟨w.heap.size, 2, none⟩) (heap_lt m0)).trans q2
          have p3 := (hb1.cell (p := ⟨w.heap.size, 3, none⟩) (heap_lt m0)).trans q3
          have hBB := hBl.trans (hb1.mono hBl.size)
          by_cases hab : a = b
          · subst hab
            go_wp2_with fail
            refine (must_no _ _ _ _ _).mono ?_
            rintro e w2 ⟨rfl, hb2⟩
            exact ⟨rfl, .inr ⟨by rw [clN, HQ.out]; simp [clK, clueB, noneC, twoC, FA.out, FB.out, FC.out], rfl⟩, hBB.trans (hb2.mono hBB.size)⟩
          · have hab' : (a != b) = true := by simpa using hab
            go_wp2_with fail
            refine (must_yes _ _ _ _ _).mono ?_
            rintro e w2 ⟨rfl, hb2⟩
            go_wp2_with fail
            first | go_end0 | refine bodyPost_ret (results_none rfl _ _ _) rfl ?_
            exact ⟨.inl ⟨by rw [clN, HQ.out]; simp [clK, clueB, noneC, twoC, FA.out, FB.out, FC.out, hab], rfl⟩, hBB.trans (hb2.mono hBB.size)⟩
        · have hC' : inB c 0 1 = false := by simpa using hC
          have fC := hC'
          have FC := Lib.hid fC
          clear fC
          have H0 := Lib.hid hA
          have H1 := Lib.hid hB
          have H2 := Lib.hid hC'
          clear hC hC' hA hB
          go_wp2_with fail
          refine (mustBeIn_no3 _ a b c _ _ _ _ _ _ H0.out H1.out H2.out _).mono ?_
          rintro e w1 ⟨rfl, hb1⟩
          exact ⟨rfl, .inr ⟨by rw [clN, HQ.out]; simp [clK, clueB, noneC, twoC, FA.out, FB.out, FC.out], rfl⟩, hBl.trans (hb1.mono hBl.size)⟩
      · have hB' : inB b 0 (n - 1) = false := by simpa using hB
        have fB := hB'
        have FB := Lib.hid fB
        clear fB
        have H0 := Lib.hid hA
        have H1 := Lib.hid hB'
        clear hB hB' hA
        go_wp2_with fail
        refine (mustBeIn_no2 _ a b c _ _ _ _ _ _ H0.out H1.out _).mono ?_
        rintro e w1 ⟨rfl, hb1⟩
        exact ⟨rfl, .inr ⟨by rw [clN, HQ.out]; simp [clK, clueB, noneC, twoC, FA.out, FB.out], rfl⟩, hBl.trans (hb1.mono hBl.size)⟩
    · have hA' : inB a 0 (n - 1) = false := by simpa using hA
      have fA := hA'
      have FA := Lib.hid fA
      clear fA
      have H0 := Lib.hid hA'
      clear hA hA'
      go_wp2_with fail
      refine (mustBeIn_no1 _ a b c _ _ _ _ _ _ H0.out _).mono ?_
      rintro e w1 ⟨rfl, hb1⟩
      exact ⟨rfl, .inr ⟨by rw [clN, HQ.out]; simp [clK, clueB, noneC, twoC, FA.out], rfl⟩, hBl.trans (hb1.mono hBl.size)⟩
  have e1 : (k == 1) = false := by simpa using k1
  by_cases k2 : k = 2
  · subst k2
    by_cases hA : inB a 6 24 = true
    · have fA := hA
      have FA := Lib.hid fA
      clear fA
      by_cases hB : inB b 0 0 = true
      · have fB : b = 0 := of_decide_eq_true (by rw [← inB_zero]; exact hB)
        have FB := Lib.hid fB
        clear fB
        by_cases hC : inB c 1 4 = true
        · have fC := hC
          have FC := Lib.hid fC
          clear fC
          have H0 := Lib.hid hA
          have H1 := Lib.hid hB
          have H2 := Lib.hid hC
          clear hA hB hC
          go_wp2_with fail
          refine (mustBeIn_yes _ a b c _ _ _ _ _ _ H0.out H1.out H2.out _).mono ?_
          rintro e w1 ⟨rfl, hb1⟩
          go_wp2_with fail
          first | go_end0 | refine bodyPost_ret (results_none rfl _ _ _) rfl ?_
          exact ⟨.inl ⟨by rw [clN, HQ.out]; simp [clK, clueB, noneC, twoC, FA.out, FB.out, FC.out], rfl⟩, hBl.trans (hb1.mono hBl.size)⟩
        · have hC' : inB c 1 4 = false := by simpa using hC
          have fC := hC'
          have FC := Lib.hid fC
          clear fC
          have H0 := Lib.hid hA
          have H1 := Lib.hid hB
          have H2 := Lib.hid hC'
          clear hC hC' hA hB
          go_wp2_with fail
          refine (mustBeIn_no3 _ a b c _ _ _ _ _ _ H0.out H1.out H2.out _).mono ?_
          rintro e w1 ⟨rfl, hb1⟩
          exact ⟨rfl, .inr ⟨by rw [clN, HQ.out]; simp [clK, clueB, noneC, twoC, FA.out, FB.out, FC.out], rfl⟩, hBl.trans (hb1.mono hBl.size)⟩
      · have hB' : inB b 0 0 = false := by simpa using hB
        have fB : ¬ b = 0 := of_decide_eq_false (by rw [← inB_zero]; exact hB')
        have FB := Lib.hid fB
        clear fB
        have H0 := Lib.hid hA
        have H1 := Lib.hid hB'
        clear hB hB' hA
        go_wp2_with fail
        refine (mustBeIn_no2 _ a b c _ _ _ _ _ _ H0.out H1.out _).mono ?_
        rintro e w1 ⟨rfl, hb1⟩
        exact ⟨rfl, .inr ⟨by rw [clN, HQ.out]; simp [clK, clueB, noneC, twoC, FA.out, FB.out], rfl⟩, hBl.trans (hb1.mono hBl.size)⟩
    · have hA' : inB a 6 24 = false := by simpa using hA
      have fA := hA'
      have FA := Lib.hid fA
      clear fA
      have H0 := Lib.hid hA'
      clear hA hA'
      go_wp2_with fail
      refine (mustBeIn_no1 _ a b c _ _ _ _ _ _ H0.out _).mono ?_
      rintro e w1 ⟨rfl, hb1⟩
      exact ⟨rfl, .inr ⟨by rw [clN, HQ.out]; simp [clK, clueB, noneC, twoC, FA.out], rfl⟩, hBl.trans (hb1.mono hBl.size)⟩
  have e2 : (k == 2) = false := by simpa using k2
  by_cases k3 : k = 3
  · subst k3
    by_cases hA : inB a 1 24 = true
    · have fA := hA
      have FA := Lib.hid fA
      clear fA
      by_cases hB : inB b 0 0 = true
      · have fB : b = 0 := of_decide_eq_true (by rw [← inB_zero]; exact hB)
        have FB := Lib.hid fB
        clear fB
        by_cases hC : inB c 0 1 = true
        · have fC := hC
          have FC := Lib.hid fC
          clear fC
          have H0 := Lib.hid hA
          have H1 := Lib.hid hB
          have H2 := Lib.hid hC
          clear hA hB hC
          go_wp2_with fail
          refine (mustBeIn_yes _ a b c _ _ _ _ _ _ H0.out H1.out H2.out _).mono ?_
          rintro e w1 ⟨rfl, hb1⟩
          go_wp2_with fail
          first | go_end0 | refine bodyPost_ret (results_none rfl _ _ _) rfl ?_
          exact ⟨.inl ⟨by rw [clN, HQ.out]; simp [clK, clueB, noneC, twoC, FA.out, FB.out, FC.out], rfl⟩, hBl.trans (hb1.mono hBl.size)⟩
        · have hC' : inB c 0 1 = false := by simpa using hC
          have fC := hC'
          have FC := Lib.hid fC
          clear fC
          have H0 := Lib.hid hA
          have H1 := Lib.hid hB
          have H2 := Lib.hid hC'
          clear hC hC' hA hB
          go_wp2_with fail
          refine (mustBeIn_no3 _ a b c _ _ _ _ _ _ H0.out H1.out H2.out _).mono ?_
          rintro e w1 ⟨rfl, hb1⟩
          exact ⟨rfl, .inr ⟨by rw [clN, HQ.out]; simp [clK, clueB, noneC, twoC, FA.out, FB.out, FC.out], rfl⟩, hBl.trans (hb1.mono hBl.size)⟩
      · have hB' : inB b 0 0 = false := by simpa using hB
        have fB : ¬ b = 0 := of_decide_eq_false (by rw [← inB_zero]; exact hB')
        have FB := Lib.hid fB
        clear fB
        have H0 := Lib.hid hA
        have H1 := Lib.hid hB'
        clear hB hB' hA
        go_wp2_with fail
        refine (mustBeIn_no2 _ a b c _ _ _ _ _ _ H0.out H1.out _).mono ?_
        rintro e w1 ⟨rfl, hb1⟩
        exact ⟨rfl, .inr ⟨by rw [clN, HQ.out]; simp [clK, clueB, noneC, twoC, FA.out, FB.out], rfl⟩, hBl.trans (hb1.mono hBl.size)⟩
    · have hA' : inB a 1 24 = false := by simpa using hA
      have fA := hA'
      have FA := Lib.hid fA
      clear fA
      have H0 := Lib.hid hA'
      clear hA hA'
      go_wp2_with fail
      refine (mustBeIn_no1 _ a b c _ _ _ _ _ _ H0.out _).mono ?_
      rintro e w1 ⟨rfl, hb1⟩
      exact ⟨rfl, .inr ⟨by rw [clN, HQ.out]; simp [clK, clueB, noneC, twoC, FA.out], rfl⟩, hBl.trans (hb1.mono hBl.size)⟩
  have e3 : (k == 3) = false := by simpa using k3
  by_cases k4 : k = 4
  · subst k4
    by_cases hA : inB a 0 (n - 1) = true
    · have fA := hA
      have FA := Lib.hid fA
      clear fA
      by_cases hB : inB b 0 (n - 1) = true
      · have fB := hB
        have FB := Lib.hid fB
        clear fB
        by_cases hC : inB c 1 36 = true
        · have fC := hC
          have FC := Lib.hid fC
          clear fC
          have H0 := Lib.hid hA
          have H1 := Lib.hid hB
          have H2 := Lib.hid hC
          clear hA hB hC
          go_wp2_with fail
          refine (mustBeIn_yes _ a b c _ _ _ _ _ _ H0.out H1.out H2.out _).mono ?_
          rintro e w1 ⟨rfl, hb1⟩
          have p0 := (hb1.cell (p := ⟨w.heap.size, 0, none⟩) (heap_lt m0)).trans q0
          have p1 := (hb1.cell (p := ⟨w.heap.size, 1, none⟩) (heap_lt m0)).trans q1
          have p2 := (hb1.cell (p := ⟨w.heap.size, 2, none⟩) (heap_lt m0)).trans q2
          have p3 := (hb1.cell (p := ⟨w.heap.size, 3, none⟩) (heap_lt m0)).trans q3
          have hBB := hBl.trans (hb1.mono hBl.size)
          by_cases hab : a = b
          · subst hab
            go_wp2_with fail
            refine (must_no _ _ _ _ _).mono ?_
            rintro e w2 ⟨rfl, hb2⟩
            exact ⟨rfl, .inr ⟨by rw [clN, HQ.out]; simp [clK, clueB, noneC, twoC, FA.out, FB.out, FC.out], rfl⟩, hBB.trans (hb2.mono hBB.size)⟩
          · have hab' : (a != b) = true := by simpa using hab
            go_wp2_with fail
            refine (must_yes _ _ _ _ _).mono ?_
            rintro e w2 ⟨rfl, hb2⟩
            go_wp2_with fail
            first | go_end0 | refine bodyPost_ret (results_none rfl _ _ _) rfl ?_
            exact ⟨.inl ⟨by rw [clN, HQ.out]; simp [clK, clueB, noneC, twoC, FA.out, FB.out, FC.out, hab], rfl⟩, hBB.trans (hb2.mono hBB.size)⟩
        · have hC' : inB c 1 36 = false := by simpa using hC
          have fC := hC'
          have FC := Lib.hid fC
          clear fC
          have H0 := Lib.hid hA
          have H1 := Lib.hid hB
          have H2 := Lib.hid hC'
          clear hC hC' hA hB
          go_wp2_with fail
          refine (mustBeIn_no3 _ a b c _ _ _ _ _ _ H0.out H1.out H2.out _).mono ?_
          rintro e w1 ⟨rfl, hb1⟩
          exact ⟨rfl, .inr ⟨by rw [clN, HQ.out]; simp [clK, clueB, noneC, twoC, FA.out, FB.out, FC.out], rfl⟩, hBl.trans (hb1.mono hBl.size)⟩
      · have hB' : inB b 0 (n - 1) = false := by simpa using hB
        have fB := hB'
        have FB := Lib.hid fB
        clear fB
        have H0 := Lib.hid hA
        have H1 := Lib.hid hB'
        clear hB hB' hA
        go_wp2_with fail
        refine (mustBeIn_no2 _ a b c _ _ _ _ _ _ H0.out H1.out _).mono ?_
        rintro e w1 ⟨rfl, hb1⟩
        exact ⟨rfl, .inr ⟨by rw [clN, HQ.out]; simp [clK, clueB, noneC, twoC, FA.out, FB.out], rfl⟩, hBl.trans (hb1.mono hBl.size)⟩
    · have hA' : inB a 0 (n - 1) = false := by simpa using hA
      have fA := hA'
      have FA := Lib.hid fA
      clear fA
      have H0 := Lib.hid hA'
      clear hA hA'
      go_wp2_with fail
      refine (mustBeIn_no1 _ a b c _ _ _ _ _ _ H0.out _).mono ?_
      rintro e w1 ⟨rfl, hb1⟩
      exact ⟨rfl, .inr ⟨by rw [clN, HQ.out]; simp [clK, clueB, noneC, twoC, FA.out], rfl⟩, hBl.trans (hb1.mono hBl.size)⟩
  have e4 : (k == 4) = false := by simpa using k4
  by_cases k5 : k = 5
  · subst k5
    by_cases hA : inB a 0 0 = true
    · have fA : a = 0 := of_decide_eq_true (by rw [← inB_zero]; exact hA)
      have FA := Lib.hid fA
      clear fA
      by_cases hB : inB b 0 0 = true
      · have fB : b = 0 := of_decide_eq_true (by rw [← inB_zero]; exact hB)
        have FB := Lib.hid fB
        clear fB
        by_cases hC : inB c 1 6 = true
        · have fC := hC
          have FC := Lib.hid fC
          clear fC
          have H0 := Lib.hid hA
          have H1 := Lib.hid hB
          have H2 := Lib.hid hC
          clear hA hB hC
          go_wp2_with fail
          refine (mustBeIn_yes _ a b c _ _ _ _ _ _ H0.out H1.out H2.out _).mono ?_
          rintro e w1 ⟨rfl, hb1⟩
          go_wp2_with fail
          first | go_end0 | refine bodyPost_ret (results_none rfl _ _ _) rfl ?_
          exact ⟨.inl ⟨by rw [clN, HQ.out]; simp [clK, clueB, noneC, twoC, FA.out, FB.out, FC.out], rfl⟩, hBl.trans (hb1.mono hBl.size)⟩
        · have hC' : inB c 1 6 = false := by simpa using hC
          have fC := hC'
          have FC := Lib.hid fC
          clear fC
          have H0 := Lib.hid hA
          have H1 := Lib.hid hB
          have H2 := Lib.hid hC'
          clear hC hC' hA hB
          go_wp2_with fail
          refine (mustBeIn_no3 _ a b c _ _ _ _ _ _ H0.out H1.out H2.out _).mono ?_
          rintro e w1 ⟨rfl, hb1⟩
          exact ⟨rfl, .inr ⟨by rw [clN, HQ.out]; simp [clK, clueB, noneC, twoC, FA.out, FB.out, FC.out], rfl⟩, hBl.trans (hb1.mono hBl.size)⟩
      · have hB' : inB b 0 0 = false := by simpa using hB
        have fB : ¬ b = 0 := of_decide_eq_false (by rw [← inB_zero]; exact hB')
        have FB := Lib.hid fB
        clear fB
        have H0 := Lib.hid hA
        have H1 := Lib.hid hB'
        clear hB hB' hA
        go_wp2_with fail
        refine (mustBeIn_no2 _ a b c _ _ _ _ _ _ H0.out H1.out _).mono ?_
        rintro e w1 ⟨rfl, hb1⟩
        exact ⟨rfl, .inr ⟨by rw [clN, HQ.out]; simp [clK, clueB, noneC, twoC, FA.out, FB.out], rfl⟩, hBl.trans (hb1.mono hBl.size)⟩
    · have hA' : inB a 0 0 = false := by simpa using hA
      have fA : ¬ a = 0 := of_decide_eq_false (by rw [← inB_zero]; exact hA')
      have FA := Lib.hid fA
      clear fA
      have H0 := Lib.hid hA'
      clear hA hA'
      go_wp2_with fail
      refine (mustBeIn_no1 _ a b c _ _ _ _ _ _ H0.out _).mono ?_
      rintro e w1 ⟨rfl, hb1⟩
      exact ⟨rfl, .inr ⟨by rw [clN, HQ.out]; simp [clK, clueB, noneC, twoC, FA.out], rfl⟩, hBl.trans (hb1.mono hBl.size)⟩
  have e5 : (k == 5) = false := by simpa using k5
  go_wp2_with fail
  refine (must_no _ _ _ _ _).mono ?_
  rintro e w1 ⟨rfl, hb1⟩
  exact ⟨rfl, .inr ⟨by rw [clN, HQ.out]; simp [clK, clueB, noneC, twoC, k0, k1, k2, k3, k4, k5], rfl⟩, hBl.trans (hb1.mono hBl.size)⟩
end Go.Proofs.YtoheoojpmndhoabDoor
