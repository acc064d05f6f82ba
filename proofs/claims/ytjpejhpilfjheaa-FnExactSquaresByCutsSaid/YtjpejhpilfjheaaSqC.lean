/-
  The given program's squares by the first best cuts, in the order of the cuts.
  Conditions: a board, and its table.
-/
import Derived.Test.YtjpejhpilfjheaaBdKC
import Derived.Test.YtjpejhpilfjheaaBdN1
import Derived.Test.YtjpejhpilfjheaaL1Own
import Derived.Test.YtjpejhpilfjheaaBdS1
namespace Go.Proofs.Ytjpejhpilfjheaa
set_option linter.unusedVariables false
set_option linter.unusedSimpArgs false
open Go.RowKit

theorem sqL_bd (a b : Nat) (a1 : 1 ≤ a) (a2 : a ≤ 24) (b1 : 1 ≤ b) (b2 : b ≤ 24) : (sqL a b).length ≤ 576 := by
  have h1 := (sqL_len (a + b) a b (Nat.le_refl _) a1 b1).1
  have h2 := (fewB_bd a b a1 a2 b1 b2).2
  omega

set_option maxRecDepth 100000 in
set_option maxHeartbeats 4000000 in
theorem bdCutSquares_any (A H F lo2 : Nat) (hA : A ≤ 24) (hH : H ≤ 24) : ∀ N a b : Nat, a + b ≤ N → 1 ≤ a → a ≤ A → 1 ≤ b → b ≤ H → ∀ w1 : World, TabS w1 lo2 F A H fewB A H →
    Calls Try.prog 43 #[.slice (some ⟨F, 0, none⟩) (A + 1) (A + 1), .int .i64 (a : Int), .int .i64 (b : Int)] w1 fun e w' => ∃ A' c' n', e = .returned (.slice A' n' c') ∧ (sqL a b).length = n' ∧ w'.ownsRow w1.heap.size 3 1 (.slice A' n' c') n' ((sqL a b).map (Value.int .i64)) ∧ Below w1.heap.size w1 w' := by
  intro N
  induction N with
  | zero => intro a b h a1; omega
  | succ N ih =>
    intro a b hN a1 aA b1 bH w1 ht
    have HIH := Lib.hid (fun (a' b' : Nat) (h : a' + b' ≤ N) => ih a' b' h)
    obtain ⟨i0, hi0, hz0, hz1, hz2'⟩ := info_parts int_info
    by_cases hab : a = b
    · subst hab
      have HSQ := Lib.hid (sqL_square a1)
      have hbq : ((a : Int) == (a : Int)) = true := by rw [beq_iff_eq]
      have HOW := Lib.hid (show (w1.alloc (.cells #[.int .i64 (a : Int)] 3)).ownsRow w1.heap.size 3 1 (.slice (some ⟨w1.heap.size, 0, none⟩) 1 1) 1 [.int .i64 (a : Int)] from World.ownsRow_lit w1 #[.int .i64 (a : Int)] 1 (Nat.le_refl _) (by decide) rfl)
      clear ht ih
      go_enter Try.func43, Try.ntmps43
      go_wp2
      go_ret
      exact ⟨_, _, 1, rfl, by rw [HSQ.out]; rfl, by rw [HSQ.out]; exact HOW.out, (Below.refl _ _).alloc (Nat.le_refl _) _⟩
    · have hbq : ((a : Int) == (b : Int)) = false := by rw [beq_eq_false_iff_ne]; omega
      have hi0' : (a : Int) < (A : Int) + 1 := by omega
      have hi1 : (b : Int) < (H : Int) + 1 := by omega
      obtain ⟨v, hv⟩ : ∃ v, fewB a b = v := ⟨_, rfl⟩
      have hvb := fewB_bd a b a1 (by omega) b1 (by omega)
      rw [hv] at hvb
      obtain ⟨g, e1, e2⟩ := ht.read (a := a) (b := b) a1 aA b1 bH (by omega)
      rw [hv] at e2
      have HV := Lib.hid hv
      have HT1 := Lib.hid ht
      have HE := Lib.hid (And.intro e1 e2)
      clear hv ht ih e1 e2
      go_enter Try.func43, Try.ntmps43
      go_wp2
      have HSu := Lib.hid (Below.refl w1.heap.size w1)
      go_loopw [7] (fun i wk => ∃ k : Nat, 1 ≤ k ∧ 2 * (k - 1) ≤ a ∧ i = .int .i64 (k : Int) ∧ Below w1.heap.size w1 wk ∧ ∀ c ∈ upL a b (k - 1), (sumT (fewB) c == v) = false) (fun i _ => 25 - (intOf i).toNat)
      case atStart => exact ⟨1, by omega, by omega, rfl, HSu.out, fun c hc => by simp [upL] at hc⟩
      case round =>
        obtain ⟨k, hk1, hk2, rfl, hbk, hno⟩ := hrel
        have HBK := Lib.hid hbk
        have HNO := Lib.hid hno
        have HTK := Lib.hid (HT1.out.below hbk)
        have e5 := (hbk.cell (cell_lt HE.out.1)).trans HE.out.1
        have e6 := (hbk.cell (cell_lt HE.out.2)).trans HE.out.2
        have HE56 := Lib.hid (And.intro e5 e6)
        clear hbk hno e5 e6
        have hk24 : k ≤ 25 := by omega
        have hw2 : IntKind.i64.wrap (2 * (k : Int)) = 2 * (k : Int) := by rw [IntKind.wrap_i64]; omega
        by_cases hlt : 2 * k ≤ a
        · have hlt' : (2 * (k : Int)) ≤ (a : Int) := by omega
          have hdt : decide ((2 * (k : Int)) ≤ (a : Int)) = true := decide_eq_true hlt'
          obtain ⟨d, hd⟩ : ∃ d, a - k = d := ⟨_, rfl⟩
          have hsub : (a : Int) - (k : Int) = (d : Int) := by omega
          have hwd : IntKind.i64.wrap (d : Int) = (d : Int) := by rw [IntKind.wrap_i64]; omega
          obtain ⟨g1, e1, e2⟩ := HTK.out.read (a := k) (b := b) (by omega) (by omega) (by omega) (by omega) (by omega)
          obtain ⟨g2, e3, e4⟩ := HTK.out.read (a := d) (b := b) (by omega) (by omega) (by omega) (by omega) (by omega)
          have e5 := HE56.out.1
          have e6 := HE56.out.2
          have q1 := fewB_bd k b (by omega) (by omega) (by omega) (by omega)
          have q2 := fewB_bd d b (by omega) (by omega) (by omega) (by omega)
          obtain ⟨v1, hv1⟩ : ∃ v1, fewB k b = v1 := ⟨_, rfl⟩
          obtain ⟨v2, hv2⟩ : ∃ v2, fewB d b = v2 := ⟨_, rfl⟩
          rw [hv1] at e2 q1
          rw [hv2] at e4 q2
          have hwv : IntKind.i64.wrap (v1 + v2) = v1 + v2 := by rw [IntKind.wrap_i64]; omega
          obtain ⟨tt, htt⟩ : ∃ tt, (v1 + v2 == v) = tt := ⟨_, rfl⟩
          have HSUM := Lib.hid (show (sumT (fewB) ((k, b), (d, b)) == v) = tt by rw [← htt]; simp only [sumT, hv1, hv2])
          clear hv1 hv2
          have hj0 : (k : Int) < (A : Int) + 1 := by omega
          have hj1 : (d : Int) < (A : Int) + 1 := by omega
          cases tt
          · go_wp2_with fail
            refine wp_region_held_drew (S := (fun wq => wq.cell? ⟨F, a, none⟩ = some (.slice (some ⟨g, 0, none⟩) (H + 1) (H + 1)) ∧ wq.cell? ⟨g, b, none⟩ = some (.int .i64 v) ∧ wq.cell? ⟨F, k, none⟩ = some (.slice (some ⟨g1, 0, none⟩) (H + 1) (H + 1)) ∧ wq.cell? ⟨g1, b, none⟩ = some (.int .i64 v1) ∧ wq.cell? ⟨F, d, none⟩ = some (.slice (some ⟨g2, 0, none⟩) (H + 1) (H + 1)) ∧ wq.cell? ⟨g2, b, none⟩ = some (.int .i64 v2))) (by kernel_rfl) ⟨e5, e6, e1, e2, e3, e4⟩ (fun hH0 => ?_)
            refine wpAnyH_take (i := 0) (v := ?_) (ops_at rfl) (by kernel_rfl) (by kernel_rfl) (by kernel_rfl) (fun _ _ _ h => h) (Or.inl ⟨by rfl, ?yuf0⟩) (by assumption) ?nuf0
            case yuf0 => (intro wS hSw; (try dsimp only at hSw); go_simp; try rfl)
            try simp only [Act.put, List.setIfInBounds_toArray, List.set_cons_zero, List.set_cons_succ]
            refine wpAnyH_take (i := 1) (v := ?_) (ops_at rfl) (by kernel_rfl) (by kernel_rfl) (by kernel_rfl) (fun _ _ _ h => h) (Or.inl ⟨by rfl, ?yuf1⟩) (by assumption) ?nuf1
            case yuf1 => (intro wS hSw; (try dsimp only at hSw); go_simp; try rfl)
            try simp only [Act.put, List.setIfInBounds_toArray, List.set_cons_zero, List.set_cons_succ]
            refine wpAnyH_take (i := 2) (v := ?_) (ops_at rfl) (by kernel_rfl) (by kernel_rfl) (by kernel_rfl) (fun _ _ _ h => h) (Or.inl ⟨by rfl, ?yuf2⟩) (by assumption) ?nuf2
            case yuf2 => (intro wS hSw; (try dsimp only at hSw); go_simp; try rfl)
            try simp only [Act.put, List.setIfInBounds_toArray, List.set_cons_zero, List.set_cons_succ]
            refine wpAnyH_take (i := 3) (v := ?_) (ops_at rfl) (by kernel_rfl) (by kernel_rfl) (by kernel_rfl) (fun _ _ _ h => h) (Or.inl ⟨by rfl, ?yuf3⟩) (by assumption) ?nuf3
            case yuf3 => (intro wS hSw; (try dsimp only at hSw); go_simp; try rfl)
            try simp only [Act.put, List.setIfInBounds_toArray, List.set_cons_zero, List.set_cons_succ]
            refine wpAnyH_take (i := 4) (v := ?_) (ops_at rfl) (by kernel_rfl) (by kernel_rfl) (by kernel_rfl) (fun _ _ _ h => h) (Or.inl ⟨by rfl, ?yuf4⟩) (by assumption) ?nuf4
            case yuf4 => (intro wS hSw; (try dsimp only at hSw); go_simp; try rfl)
            try simp only [Act.put, List.setIfInBounds_toArray, List.set_cons_zero, List.set_cons_succ]
            refine wpAnyH_take (i := 5) (v := ?_) (ops_at rfl) (by kernel_rfl) (by kernel_rfl) (by kernel_rfl) (fun _ _ _ h => h) (Or.inl ⟨by rfl, ?yuf5⟩) (by assumption) ?nuf5
            case yuf5 => (intro wS hSw; (try dsimp only at hSw); go_simp; try rfl)
            try simp only [Act.put, List.setIfInBounds_toArray, List.set_cons_zero, List.set_cons_succ]
            refine wpAnyH_take (i := 6) (v := ?_) (ops_at rfl) (by kernel_rfl) (by kernel_rfl) (by kernel_rfl) (fun _ _ _ h => h) (Or.inl ⟨by rfl, ?yuf6⟩) (by assumption) ?nuf6
            case yuf6 => (intro wS hSw; (try dsimp only at hSw); go_simp; try rfl)
            try simp only [Act.put, List.setIfInBounds_toArray, List.set_cons_zero, List.set_cons_succ]
            refine wpAnyH_take (i := 7) (v := ?_) (ops_at rfl) (by kernel_rfl) (by kernel_rfl) (by kernel_rfl) (fun _ _ _ h => h) (Or.inl ⟨by rfl, ?yuf7⟩) (by assumption) ?nuf7
            case yuf7 => (intro wS hSw; (try dsimp only at hSw); go_simp; try rfl)
            try simp only [Act.put, List.setIfInBounds_toArray, List.set_cons_zero, List.set_cons_succ]
            refine wpAnyH_take (i := 8) (v := ?_) (ops_at rfl) (by kernel_rfl) (by kernel_rfl) (by kernel_rfl) (fun _ _ _ h => h) (Or.inl ⟨by rfl, ?yuf8⟩) (by assumption) ?nuf8
            case yuf8 => (intro wS hSw; (try dsimp only at hSw); go_simp; try rfl)
            try simp only [Act.put, List.setIfInBounds_toArray, List.set_cons_zero, List.set_cons_succ]
            refine wpAnyH_take (i := 9) (v := ?_) (ops_at rfl) (by kernel_rfl) (by kernel_rfl) (by kernel_rfl) (fun _ _ _ h => h) (Or.inl ⟨by rfl, ?yuf9⟩) (by assumption) ?nuf9
            case yuf9 => (intro wS hSw; (try dsimp only at hSw); go_simp; try rfl)
            try simp only [Act.put, List.setIfInBounds_toArray, List.set_cons_zero, List.set_cons_succ]
            refine wpAnyH_take (i := 10) (v := ?_) (ops_at rfl) (by kernel_rfl) (by kernel_rfl) (by kernel_rfl) (fun _ _ _ h => h) (Or.inl ⟨by rfl, ?yuf10⟩) (by assumption) ?nuf10
            case yuf10 => (intro wS hSw; (try dsimp only at hSw); go_simp; try rfl)
            try simp only [Act.put, List.setIfInBounds_toArray, List.set_cons_zero, List.set_cons_succ]
            refine wpAnyH_take (i := 11) (v := ?_) (ops_at rfl) (by kernel_rfl) (by kernel_rfl) (by kernel_rfl) (fun _ _ _ h => h) (Or.inl ⟨by rfl, ?yuf11⟩) (by assumption) ?nuf11
            case yuf11 => (intro wS hSw; (try dsimp only at hSw); go_simp; try rfl)
            try simp only [Act.put, List.setIfInBounds_toArray, List.set_cons_zero, List.set_cons_succ]
            refine wpAnyH_take (i := 12) (v := ?_) (ops_at rfl) (by kernel_rfl) (by kernel_rfl) (by kernel_rfl) (fun _ _ _ h => h) (Or.inl ⟨by rfl, ?yuf12⟩) (by assumption) ?nuf12
            case yuf12 => (intro wS hSw; (try dsimp only at hSw); go_simp; try rfl)
            try simp only [Act.put, List.setIfInBounds_toArray, List.set_cons_zero, List.set_cons_succ]
            refine wpAnyH_take (i := 13) (v := ?_) (ops_at rfl) (by kernel_rfl) (by kernel_rfl) (by kernel_rfl) (fun _ _ _ h => h) (Or.inl ⟨by rfl, ?yuf13⟩) (by assumption) ?nuf13
            case yuf13 => (intro wS hSw; (try dsimp only at hSw); go_simp; try rfl)
            try simp only [Act.put, List.setIfInBounds_toArray, List.set_cons_zero, List.set_cons_succ]
            refine wpAnyH_take (i := 14) (v := ?_) (ops_at rfl) (by kernel_rfl) (by kernel_rfl) (by kernel_rfl) (fun _ _ _ h => h) (Or.inl ⟨by rfl, ?yuf14⟩) (by assumption) ?nuf14
            case yuf14 => (intro wS hSw; (try dsimp only at hSw); go_simp; try rfl)
            try simp only [Act.put, List.setIfInBounds_toArray, List.set_cons_zero, List.set_cons_succ]
            refine wpAnyH_take (i := 15) (v := ?_) (ops_at rfl) (by kernel_rfl) (by kernel_rfl) (by kernel_rfl) (fun _ _ _ h => h) (Or.inl ⟨by rfl, ?yuf15⟩) (by assumption) ?nuf15
            case yuf15 => (intro wS hSw; (try dsimp only at hSw); go_simp; try rfl)
            try simp only [Act.put, List.setIfInBounds_toArray, List.set_cons_zero, List.set_cons_succ]
            refine wpAnyH_take (i := 16) (v := ?_) (ops_at rfl) (by kernel_rfl) (by kernel_rfl) (by kernel_rfl) (fun _ _ _ h => h) (Or.inl ⟨by rfl, ?yuf16⟩) (by assumption) ?nuf16
            case yuf16 => (intro wS hSw; (try dsimp only at hSw); go_simp; try rfl)
            try simp only [Act.put, List.setIfInBounds_toArray, List.set_cons_zero, List.set_cons_succ]
            refine wpAnyH_take (i := 17) (v := ?_) (ops_at rfl) (by kernel_rfl) (by kernel_rfl) (by kernel_rfl) (fun _ _ _ h => h) (Or.inl ⟨by rfl, ?yuf17⟩) (by assumption) ?nuf17
            case yuf17 => (intro wS hSw; (try dsimp only at hSw); go_simp; try rfl)
            try simp only [Act.put, List.setIfInBounds_toArray, List.set_cons_zero, List.set_cons_succ]
            refine wpAnyH_take (i := 18) (v := ?_) (ops_at rfl) (by kernel_rfl) (by kernel_rfl) (by kernel_rfl) (fun _ _ _ h => h) (Or.inl ⟨by rfl, ?yuf18⟩) (by assumption) ?nuf18
            case yuf18 => (intro wS hSw; (try dsimp only at hSw); go_simp; try rfl)
            try simp only [Act.put, List.setIfInBounds_toArray, List.set_cons_zero, List.set_cons_succ]
            refine wpAnyH_take (i := 19) (v := ?_) (ops_at rfl) (by kernel_rfl) (by kernel_rfl) (by kernel_rfl) (fun _ _ _ h => h) (Or.inl ⟨by rfl, ?yuf19⟩) (by assumption) ?nuf19
            case yuf19 => (intro wS hSw; (try dsimp only at hSw); go_simp; try rfl)
            try simp only [Act.put, List.setIfInBounds_toArray, List.set_cons_zero, List.set_cons_succ]
            refine wpAnyH_take (i := 20) (v := ?_) (ops_at rfl) (by kernel_rfl) (by kernel_rfl) (by kernel_rfl) (fun _ _ _ h => h) (Or.inl ⟨by rfl, ?yuf20⟩) (by assumption) ?nuf20
            case yuf20 => (intro wS hSw; (try dsimp only at hSw); go_simp; try rfl)
            try simp only [Act.put, List.setIfInBounds_toArray, List.set_cons_zero, List.set_cons_succ]
            refine wpAnyH_take (i := 21) (v := ?_) (ops_at rfl) (by kernel_rfl) (by kernel_rfl) (by kernel_rfl) (fun _ _ _ h => h) (Or.inl ⟨by rfl, ?yuf21⟩) (by assumption) ?nuf21
            case yuf21 => (intro wS hSw; (try dsimp only at hSw); go_simp; try rfl)
            try simp only [Act.put, List.setIfInBounds_toArray, List.set_cons_zero, List.set_cons_succ]
            refine wpAnyH_take (i := 22) (v := ?_) (ops_at rfl) (by kernel_rfl) (by kernel_rfl) (by kernel_rfl) (fun _ _ _ h => h) (Or.inl ⟨by rfl, ?yuf22⟩) (by assumption) ?nuf22
            case yuf22 => (intro wS hSw; (try dsimp only at hSw); go_simp; try rfl)
            try simp only [Act.put, List.setIfInBounds_toArray, List.set_cons_zero, List.set_cons_succ]
            refine wpAnyH_take (i := 23) (v := ?_) (ops_at rfl) (by kernel_rfl) (by kernel_rfl) (by kernel_rfl) (fun _ _ _ h => h) (Or.inl ⟨by rfl, ?yuf23⟩) (by assumption) ?nuf23
            case yuf23 => (intro wS hSw; (try dsimp only at hSw); go_simp; try rfl)
            try simp only [Act.put, List.setIfInBounds_toArray, List.set_cons_zero, List.set_cons_succ]
            refine wpAnyH_take (i := 24) (v := ?_) (ops_at rfl) (by kernel_rfl) (by kernel_rfl) (by kernel_rfl) (fun _ _ _ h => h) (Or.inl ⟨by rfl, ?yuf24⟩) (by assumption) ?nuf24
            case yuf24 => (intro wS hSw; (try dsimp only at hSw); go_simp; try rfl)
            try simp only [Act.put, List.setIfInBounds_toArray, List.set_cons_zero, List.set_cons_succ]
            refine wpAnyH_done (by kernel_rfl) ?_ _
            clear e1 e2 e3 e4 e5 e6
            go_wp2
            go_roundw
            case rel =>
              refine ⟨k + 1, by omega, by omega, by go_num, drewB HBK.out, fun c hc => ?_⟩
              rw [show k + 1 - 1 = (k - 1) + 1 by omega, upL_succ, List.mem_append, List.mem_singleton] at hc
              rcases hc with hc | rfl
              · exact HNO.out c hc
              · rw [show k - 1 + 1 = k by omega, hd]; exact HSUM.out
            case measure => simp [intOf]; omega
          · go_wp2_with fail
            refine wp_region_held_drew (S := (fun wq => wq.cell? ⟨F, a, none⟩ = some (.slice (some ⟨g, 0, none⟩) (H + 1) (H + 1)) ∧ wq.cell? ⟨g, b, none⟩ = some (.int .i64 v) ∧ wq.cell? ⟨F, k, none⟩ = some (.slice (some ⟨g1, 0, none⟩) (H + 1) (H + 1)) ∧ wq.cell? ⟨g1, b, none⟩ = some (.int .i64 v1) ∧ wq.cell? ⟨F, d, none⟩ = some (.slice (some ⟨g2, 0, none⟩) (H + 1) (H + 1)) ∧ wq.cell? ⟨g2, b, none⟩ = some (.int .i64 v2))) (by kernel_rfl) ⟨e5, e6, e1, e2, e3, e4⟩ (fun hH0 => ?_)
            refine wpAnyH_take (i := 0) (v := ?_) (ops_at rfl) (by kernel_rfl) (by kernel_rfl) (by kernel_rfl) (fun _ _ _ h => h) (Or.inl ⟨by rfl, ?yut0⟩) (by assumption) ?nut0
            case yut0 => (intro wS hSw; (try dsimp only at hSw); go_simp; try rfl)
            try simp only [Act.put, List.setIfInBounds_toArray, List.set_cons_zero, List.set_cons_succ]
            refine wpAnyH_take (i := 1) (v := ?_) (ops_at rfl) (by kernel_rfl) (by kernel_rfl) (by kernel_rfl) (fun _ _ _ h => h) (Or.inl ⟨by rfl, ?yut1⟩) (by assumption) ?nut1
            case yut1 => (intro wS hSw; (try dsimp only at hSw); go_simp; try rfl)
            try simp only [Act.put, List.setIfInBounds_toArray, List.set_cons_zero, List.set_cons_succ]
            refine wpAnyH_take (i := 2) (v := ?_) (ops_at rfl) (by kernel_rfl) (by kernel_rfl) (by kernel_rfl) (fun _ _ _ h => h) (Or.inl ⟨by rfl, ?yut2⟩) (by assumption) ?nut2
            case yut2 => (intro wS hSw; (try dsimp only at hSw); go_simp; try rfl)
            try simp only [Act.put, List.setIfInBounds_toArray, List.set_cons_zero, List.set_cons_succ]
            refine wpAnyH_take (i := 3) (v := ?_) (ops_at rfl) (by kernel_rfl) (by kernel_rfl) (by kernel_rfl) (fun _ _ _ h => h) (Or.inl ⟨by rfl, ?yut3⟩) (by assumption) ?nut3
            case yut3 => (intro wS hSw; (try dsimp only at hSw); go_simp; try rfl)
            try simp only [Act.put, List.setIfInBounds_toArray, List.set_cons_zero, List.set_cons_succ]
            refine wpAnyH_take (i := 4) (v := ?_) (ops_at rfl) (by kernel_rfl) (by kernel_rfl) (by kernel_rfl) (fun _ _ _ h => h) (Or.inl ⟨by rfl, ?yut4⟩) (by assumption) ?nut4
            case yut4 => (intro wS hSw; (try dsimp only at hSw); go_simp; try rfl)
            try simp only [Act.put, List.setIfInBounds_toArray, List.set_cons_zero, List.set_cons_succ]
            refine wpAnyH_take (i := 5) (v := ?_) (ops_at rfl) (by kernel_rfl) (by kernel_rfl) (by kernel_rfl) (fun _ _ _ h => h) (Or.inl ⟨by rfl, ?yut5⟩) (by assumption) ?nut5
            case yut5 => (intro wS hSw; (try dsimp only at hSw); go_simp; try rfl)
            try simp only [Act.put, List.setIfInBounds_toArray, List.set_cons_zero, List.set_cons_succ]
            refine wpAnyH_take (i := 6) (v := ?_) (ops_at rfl) (by kernel_rfl) (by kernel_rfl) (by kernel_rfl) (fun _ _ _ h => h) (Or.inl ⟨by rfl, ?yut6⟩) (by assumption) ?nut6
            case yut6 => (intro wS hSw; (try dsimp only at hSw); go_simp; try rfl)
            try simp only [Act.put, List.setIfInBounds_toArray, List.set_cons_zero, List.set_cons_succ]
            refine wpAnyH_take (i := 7) (v := ?_) (ops_at rfl) (by kernel_rfl) (by kernel_rfl) (by kernel_rfl) (fun _ _ _ h => h) (Or.inl ⟨by rfl, ?yut7⟩) (by assumption) ?nut7
            case yut7 => (intro wS hSw; (try dsimp only at hSw); go_simp; try rfl)
            try simp only [Act.put, List.setIfInBounds_toArray, List.set_cons_zero, List.set_cons_succ]
            refine wpAnyH_take (i := 8) (v := ?_) (ops_at rfl) (by kernel_rfl) (by kernel_rfl) (by kernel_rfl) (fun _ _ _ h => h) (Or.inl ⟨by rfl, ?yut8⟩) (by assumption) ?nut8
            case yut8 => (intro wS hSw; (try dsimp only at hSw); go_simp; try rfl)
            try simp only [Act.put, List.setIfInBounds_toArray, List.set_cons_zero, List.set_cons_succ]
            refine wpAnyH_take (i := 9) (v := ?_) (ops_at rfl) (by kernel_rfl) (by kernel_rfl) (by kernel_rfl) (fun _ _ _ h => h) (Or.inl ⟨by rfl, ?yut9⟩) (by assumption) ?nut9
            case yut9 => (intro wS hSw; (try dsimp only at hSw); go_simp; try rfl)
            try simp only [Act.put, List.setIfInBounds_toArray, List.set_cons_zero, List.set_cons_succ]
            refine wpAnyH_take (i := 10) (v := ?_) (ops_at rfl) (by kernel_rfl) (by kernel_rfl) (by kernel_rfl) (fun _ _ _ h => h) (Or.inl ⟨by rfl, ?yut10⟩) (by assumption) ?nut10
            case yut10 => (intro wS hSw; (try dsimp only at hSw); go_simp; try rfl)
            try simp only [Act.put, List.setIfInBounds_toArray, List.set_cons_zero, List.set_cons_succ]
            refine wpAnyH_take (i := 11) (v := ?_) (ops_at rfl) (by kernel_rfl) (by kernel_rfl) (by kernel_rfl) (fun _ _ _ h => h) (Or.inl ⟨by rfl, ?yut11⟩) (by assumption) ?nut11
            case yut11 => (intro wS hSw; (try dsimp only at hSw); go_simp; try rfl)
            try simp only [Act.put, List.setIfInBounds_toArray, List.set_cons_zero, List.set_cons_succ]
            refine wpAnyH_take (i := 12) (v := ?_) (ops_at rfl) (by kernel_rfl) (by kernel_rfl) (by kernel_rfl) (fun _ _ _ h => h) (Or.inl ⟨by rfl, ?yut12⟩) (by assumption) ?nut12
            case yut12 => (intro wS hSw; (try dsimp only at hSw); go_simp; try rfl)
            try simp only [Act.put, List.setIfInBounds_toArray, List.set_cons_zero, List.set_cons_succ]
            refine wpAnyH_take (i := 13) (v := ?_) (ops_at rfl) (by kernel_rfl) (by kernel_rfl) (by kernel_rfl) (fun _ _ _ h => h) (Or.inl ⟨by rfl, ?yut13⟩) (by assumption) ?nut13
            case yut13 => (intro wS hSw; (try dsimp only at hSw); go_simp; try rfl)
            try simp only [Act.put, List.setIfInBounds_toArray, List.set_cons_zero, List.set_cons_succ]
            refine wpAnyH_take (i := 14) (v := ?_) (ops_at rfl) (by kernel_rfl) (by kernel_rfl) (by kernel_rfl) (fun _ _ _ h => h) (Or.inl ⟨by rfl, ?yut14⟩) (by assumption) ?nut14
            case yut14 => (intro wS hSw; (try dsimp only at hSw); go_simp; try rfl)
            try simp only [Act.put, List.setIfInBounds_toArray, List.set_cons_zero, List.set_cons_succ]
            refine wpAnyH_take (i := 15) (v := ?_) (ops_at rfl) (by kernel_rfl) (by kernel_rfl) (by kernel_rfl) (fun _ _ _ h => h) (Or.inl ⟨by rfl, ?yut15⟩) (by assumption) ?nut15
            case yut15 => (intro wS hSw; (try dsimp only at hSw); go_simp; try rfl)
            try simp only [Act.put, List.setIfInBounds_toArray, List.set_cons_zero, List.set_cons_succ]
            refine wpAnyH_take (i := 16) (v := ?_) (ops_at rfl) (by kernel_rfl) (by kernel_rfl) (by kernel_rfl) (fun _ _ _ h => h) (Or.inl ⟨by rfl, ?yut16⟩) (by assumption) ?nut16
            case yut16 => (intro wS hSw; (try dsimp only at hSw); go_simp; try rfl)
            try simp only [Act.put, List.setIfInBounds_toArray, List.set_cons_zero, List.set_cons_succ]
            refine wpAnyH_take (i := 17) (v := ?_) (ops_at rfl) (by kernel_rfl) (by kernel_rfl) (by kernel_rfl) (fun _ _ _ h => h) (Or.inl ⟨by rfl, ?yut17⟩) (by assumption) ?nut17
            case yut17 => (intro wS hSw; (try dsimp only at hSw); go_simp; try rfl)
            try simp only [Act.put, List.setIfInBounds_toArray, List.set_cons_zero, List.set_cons_succ]
            refine wpAnyH_take (i := 18) (v := ?_) (ops_at rfl) (by kernel_rfl) (by kernel_rfl) (by kernel_rfl) (fun _ _ _ h => h) (Or.inl ⟨by rfl, ?yut18⟩) (by assumption) ?nut18
            case yut18 => (intro wS hSw; (try dsimp only at hSw); go_simp; try rfl)
            try simp only [Act.put, List.setIfInBounds_toArray, List.set_cons_zero, List.set_cons_succ]
            refine wpAnyH_take (i := 19) (v := ?_) (ops_at rfl) (by kernel_rfl) (by kernel_rfl) (by kernel_rfl) (fun _ _ _ h => h) (Or.inl ⟨by rfl, ?yut19⟩) (by assumption) ?nut19
            case yut19 => (intro wS hSw; (try dsimp only at hSw); go_simp; try rfl)
            try simp only [Act.put, List.setIfInBounds_toArray, List.set_cons_zero, List.set_cons_succ]
            refine wpAnyH_take (i := 20) (v := ?_) (ops_at rfl) (by kernel_rfl) (by kernel_rfl) (by kernel_rfl) (fun _ _ _ h => h) (Or.inl ⟨by rfl, ?yut20⟩) (by assumption) ?nut20
            case yut20 => (intro wS hSw; (try dsimp only at hSw); go_simp; try rfl)
            try simp only [Act.put, List.setIfInBounds_toArray, List.set_cons_zero, List.set_cons_succ]
            refine wpAnyH_take (i := 21) (v := ?_) (ops_at rfl) (by kernel_rfl) (by kernel_rfl) (by kernel_rfl) (fun _ _ _ h => h) (Or.inl ⟨by rfl, ?yut21⟩) (by assumption) ?nut21
            case yut21 => (intro wS hSw; (try dsimp only at hSw); go_simp; try rfl)
            try simp only [Act.put, List.setIfInBounds_toArray, List.set_cons_zero, List.set_cons_succ]
            refine wpAnyH_take (i := 22) (v := ?_) (ops_at rfl) (by kernel_rfl) (by kernel_rfl) (by kernel_rfl) (fun _ _ _ h => h) (Or.inl ⟨by rfl, ?yut22⟩) (by assumption) ?nut22
            case yut22 => (intro wS hSw; (try dsimp only at hSw); go_simp; try rfl)
            try simp only [Act.put, List.setIfInBounds_toArray, List.set_cons_zero, List.set_cons_succ]
            refine wpAnyH_take (i := 23) (v := ?_) (ops_at rfl) (by kernel_rfl) (by kernel_rfl) (by kernel_rfl) (fun _ _ _ h => h) (Or.inl ⟨by rfl, ?yut23⟩) (by assumption) ?nut23
            case yut23 => (intro wS hSw; (try dsimp only at hSw); go_simp; try rfl)
            try simp only [Act.put, List.setIfInBounds_toArray, List.set_cons_zero, List.set_cons_succ]
            refine wpAnyH_take (i := 24) (v := ?_) (ops_at rfl) (by kernel_rfl) (by kernel_rfl) (by kernel_rfl) (fun _ _ _ h => h) (Or.inl ⟨by rfl, ?yut24⟩) (by assumption) ?nut24
            case yut24 => (intro wS hSw; (try dsimp only at hSw); go_simp; try rfl)
            try simp only [Act.put, List.setIfInBounds_toArray, List.set_cons_zero, List.set_cons_succ]
            refine wpAnyH_done (by kernel_rfl) ?_ _
            clear e1 e2 e3 e4 e5 e6
            have HRES := Lib.hid (show fcut fewB v a b = some ((k, b), (d, b)) by
              rw [← fcut_half, halfL_parts2]
              obtain ⟨rr, hrr⟩ := upL_split (a := a) (b := b) (show k - 1 < a / 2 by omega)
              rw [hrr, List.append_assoc, find_app HNO.out (by rw [show k - 1 + 1 = k by omega, hd]; exact HSUM.out), show k - 1 + 1 = k by omega, hd])
            have HSQ := Lib.hid (show sqL a b = sqL k b ++ sqL d b from sqL_cut a1 b1 hab (by rw [HV.out]; exact HRES.out))
            obtain ⟨V, hV⟩ : ∃ V, wr.drew = V := ⟨_, rfl⟩
            have HBV := Lib.hid (show Below w1.heap.size w1 V by rw [← hV]; exact drewB HBK.out)
            rw [hV]
            clear hV hH0
            have HTV := Lib.hid (HT1.out.below HBV.out)
            go_wp2_with fail
            refine (HIH.out k b (by omega) (by omega) (by omega) (by omega) (by omega) V HTV.out).mono ?_
            rintro e w2 ⟨A2, c2, n2, rfl, hl2, hown2, hb2⟩
            have hz2 := hb2.size
            go_wp2_with fail
            refine (HIH.out d b (by omega) (by omega) (by omega) (by omega) (by omega) w2 (HTV.out.below hb2)).mono ?_
            rintro e w3 ⟨A3, c3, n3, rfl, hl3, hown3, hb3⟩
            have HOW2 := Lib.hid (row_below hown2 hb3)
            have HSG3 := Lib.hid (ownsRow_own (ys := sqL d b) (by rw [hl3]; exact hown3)).2.seg
            have HL3 := Lib.hid hl3
            have hn2 := (sqL_bd k b (by omega) (by omega) (by omega) (by omega))
            have hn3 := (sqL_bd d b (by omega) (by omega) (by omega) (by omega))
            rw [hl2] at hn2
            rw [hl3] at hn3
            have HB3 := Lib.hid (show Below V.heap.size V w3 from hb2.trans (hb3.mono hz2))
            have HLT2 := Lib.hid HOW2.out.lt
            have HL2 := Lib.hid hl2
            clear hown2 hown3 hb2 hb3 hl2 hl3
            go_wp2_with (at_builtin; refine wpList_append_seg _ rfl _ _ 31 rfl V.heap.size 3 i0 Try.underlying31 hi0 hz0 hz1 hz2' _ n2 _ rfl HOW2.out A3 n3 c3 (sqL d b) _ _ rfl HL3.out HSG3.out (by omega) HB3.out.size ?_; intro v4 w4 hown4 hgr4; have HOW4 := Lib.hid (show w4.ownsRow V.heap.size 3 1 v4 (n2 + n3) ((sqL a b).map (Value.int .i64)) by rw [HSQ.out, List.map_append]; exact hown4); have HB4 := Lib.hid (HB3.out.grown hgr4 HB3.out.size (fun g' hg' => (HLT2.out g' hg').1)); clear hown4 hgr4; obtain ⟨A4, c4, rfl⟩ := ownsRow_form HOW4.out)
            go_ret
            exact ⟨A4, c4, n2 + n3, rfl, by rw [HSQ.out, List.length_append, HL2.out, HL3.out], own_mono HOW4.out HBV.out.size, HBV.out.trans (HB4.out.mono HBV.out.size)⟩
        · have hlt' : ¬ (2 * (k : Int)) ≤ (a : Int) := by omega
          have hdt : decide ((2 * (k : Int)) ≤ (a : Int)) = false := decide_eq_false hlt'
          have hke : k - 1 = a / 2 := by omega
          have HUP := Lib.hid (show ∀ c ∈ upL a b (a / 2), (sumT fewB c == v) = false by rw [← hke]; exact HNO.out)
          have HSl := Lib.hid HBK.out
          clear hw2 hlt' hdt HNO hke
          go_wp2
          go_loopw [8] (fun i wk => ∃ k : Nat, 1 ≤ k ∧ 2 * (k - 1) ≤ b ∧ i = .int .i64 (k : Int) ∧ Below w1.heap.size w1 wk ∧ ∀ c ∈ lvL a b (k - 1), (sumT (fewB) c == v) = false) (fun i _ => 25 - (intOf i).toNat)
          case atStart => exact ⟨1, by omega, by omega, rfl, HSl.out, fun c hc => by simp [lvL] at hc⟩
          case round =>
            obtain ⟨k, hk1, hk2, rfl, hbk, hno⟩ := hrel
            have HBK := Lib.hid hbk
            have HNO := Lib.hid hno
            have HTK := Lib.hid (HT1.out.below hbk)
            have e5 := (hbk.cell (cell_lt HE.out.1)).trans HE.out.1
            have e6 := (hbk.cell (cell_lt HE.out.2)).trans HE.out.2
            have HE56 := Lib.hid (And.intro e5 e6)
            clear hbk hno e5 e6
            have hk24 : k ≤ 25 := by omega
            have hw2 : IntKind.i64.wrap (2 * (k : Int)) = 2 * (k : Int) := by rw [IntKind.wrap_i64]; omega
            by_cases hlt : 2 * k ≤ b
            · have hlt' : (2 * (k : Int)) ≤ (b : Int) := by omega
              have hdt : decide ((2 * (k : Int)) ≤ (b : Int)) = true := decide_eq_true hlt'
              obtain ⟨d, hd⟩ : ∃ d, b - k = d := ⟨_, rfl⟩
              have hsub : (b : Int) - (k : Int) = (d : Int) := by omega
              have hwd : IntKind.i64.wrap (d : Int) = (d : Int) := by rw [IntKind.wrap_i64]; omega
              obtain ⟨g1, e1, e2⟩ := HTK.out.read (a := a) (b := k) (by omega) (by omega) (by omega) (by omega) (by omega)
              obtain ⟨g2, e3, e4⟩ := HTK.out.read (a := a) (b := d) (by omega) (by omega) (by omega) (by omega) (by omega)
              have e5 := HE56.out.1
              have e6 := HE56.out.2
              obtain rfl : g1 = g := by have h := e1.symm.trans e5; simp at h; exact h
              obtain rfl : g2 = g1 := by have h := e3.symm.trans e5; simp at h; exact h
              have q1 := fewB_bd a k (by omega) (by omega) (by omega) (by omega)
              have q2 := fewB_bd a d (by omega) (by omega) (by omega) (by omega)
              obtain ⟨v1, hv1⟩ : ∃ v1, fewB a k = v1 := ⟨_, rfl⟩
              obtain ⟨v2, hv2⟩ : ∃ v2, fewB a d = v2 := ⟨_, rfl⟩
              rw [hv1] at e2 q1
              rw [hv2] at e4 q2
              have hwv : IntKind.i64.wrap (v1 + v2) = v1 + v2 := by rw [IntKind.wrap_i64]; omega
              obtain ⟨tt, htt⟩ : ∃ tt, (v1 + v2 == v) = tt := ⟨_, rfl⟩
              have HSUM := Lib.hid (show (sumT (fewB) ((a, k), (a, d)) == v) = tt by rw [← htt]; simp only [sumT, hv1, hv2])
              clear hv1 hv2
              have hj0 : (k : Int) < (H : Int) + 1 := by omega
              have hj1 : (d : Int) < (H : Int) + 1 := by omega
              cases tt
              · go_wp2_with fail
                refine wp_region_held_drew (S := (fun wq => wq.cell? ⟨F, a, none⟩ = some (.slice (some ⟨g2, 0, none⟩) (H + 1) (H + 1)) ∧ wq.cell? ⟨g2, b, none⟩ = some (.int .i64 v) ∧ wq.cell? ⟨F, a, none⟩ = some (.slice (some ⟨g2, 0, none⟩) (H + 1) (H + 1)) ∧ wq.cell? ⟨g2, k, none⟩ = some (.int .i64 v1) ∧ wq.cell? ⟨F, a, none⟩ = some (.slice (some ⟨g2, 0, none⟩) (H + 1) (H + 1)) ∧ wq.cell? ⟨g2, d, none⟩ = some (.int .i64 v2))) (by kernel_rfl) ⟨e5, e6, e1, e2, e3, e4⟩ (fun hH0 => ?_)
                refine wpAnyH_take (i := 0) (v := ?_) (ops_at rfl) (by kernel_rfl) (by kernel_rfl) (by kernel_rfl) (fun _ _ _ h => h) (Or.inl ⟨by rfl, ?ylf0⟩) (by assumption) ?nlf0
                case ylf0 => (intro wS hSw; (try dsimp only at hSw); go_simp; try rfl)
                try simp only [Act.put, List.setIfInBounds_toArray, List.set_cons_zero, List.set_cons_succ]
                refine wpAnyH_take (i := 1) (v := ?_) (ops_at rfl) (by kernel_rfl) (by kernel_rfl) (by kernel_rfl) (fun _ _ _ h => h) (Or.inl ⟨by rfl, ?ylf1⟩) (by assumption) ?nlf1
                case ylf1 => (intro wS hSw; (try dsimp only at hSw); go_simp; try rfl)
                try simp only [Act.put, List.setIfInBounds_toArray, List.set_cons_zero, List.set_cons_succ]
                refine wpAnyH_take (i := 2) (v := ?_) (ops_at rfl) (by kernel_rfl) (by kernel_rfl) (by kernel_rfl) (fun _ _ _ h => h) (Or.inl ⟨by rfl, ?ylf2⟩) (by assumption) ?nlf2
                case ylf2 => (intro wS hSw; (try dsimp only at hSw); go_simp; try rfl)
                try simp only [Act.put, List.setIfInBounds_toArray, List.set_cons_zero, List.set_cons_succ]
                refine wpAnyH_take (i := 3) (v := ?_) (ops_at rfl) (by kernel_rfl) (by kernel_rfl) (by kernel_rfl) (fun _ _ _ h => h) (Or.inl ⟨by rfl, ?ylf3⟩) (by assumption) ?nlf3
                case ylf3 => (intro wS hSw; (try dsimp only at hSw); go_simp; try rfl)
                try simp only [Act.put, List.setIfInBounds_toArray, List.set_cons_zero, List.set_cons_succ]
                refine wpAnyH_take (i := 4) (v := ?_) (ops_at rfl) (by kernel_rfl) (by kernel_rfl) (by kernel_rfl) (fun _ _ _ h => h) (Or.inl ⟨by rfl, ?ylf4⟩) (by assumption) ?nlf4
                case ylf4 => (intro wS hSw; (try dsimp only at hSw); go_simp; try rfl)
                try simp only [Act.put, List.setIfInBounds_toArray, List.set_cons_zero, List.set_cons_succ]
                refine wpAnyH_take (i := 5) (v := ?_) (ops_at rfl) (by kernel_rfl) (by kernel_rfl) (by kernel_rfl) (fun _ _ _ h => h) (Or.inl ⟨by rfl, ?ylf5⟩) (by assumption) ?nlf5
                case ylf5 => (intro wS hSw; (try dsimp only at hSw); go_simp; try rfl)
                try simp only [Act.put, List.setIfInBounds_toArray, List.set_cons_zero, List.set_cons_succ]
                refine wpAnyH_take (i := 6) (v := ?_) (ops_at rfl) (by kernel_rfl) (by kernel_rfl) (by kernel_rfl) (fun _ _ _ h => h) (Or.inl ⟨by rfl, ?ylf6⟩) (by assumption) ?nlf6
                case ylf6 => (intro wS hSw; (try dsimp only at hSw); go_simp; try rfl)
                try simp only [Act.put, List.setIfInBounds_toArray, List.set_cons_zero, List.set_cons_succ]
                refine wpAnyH_take (i := 7) (v := ?_) (ops_at rfl) (by kernel_rfl) (by kernel_rfl) (by kernel_rfl) (fun _ _ _ h => h) (Or.inl ⟨by rfl, ?ylf7⟩) (by assumption) ?nlf7
                case ylf7 => (intro wS hSw; (try dsimp only at hSw); go_simp; try rfl)
                try simp only [Act.put, List.setIfInBounds_toArray, List.set_cons_zero, List.set_cons_succ]
                refine wpAnyH_take (i := 8) (v := ?_) (ops_at rfl) (by kernel_rfl) (by kernel_rfl) (by kernel_rfl) (fun _ _ _ h => h) (Or.inl ⟨by rfl, ?ylf8⟩) (by assumption) ?nlf8
                case ylf8 => (intro wS hSw; (try dsimp only at hSw); go_simp; try rfl)
                try simp only [Act.put, List.setIfInBounds_toArray, List.set_cons_zero, List.set_cons_succ]
                refine wpAnyH_take (i := 9) (v := ?_) (ops_at rfl) (by kernel_rfl) (by kernel_rfl) (by kernel_rfl) (fun _ _ _ h => h) (Or.inl ⟨by rfl, ?ylf9⟩) (by assumption) ?nlf9
                case ylf9 => (intro wS hSw; (try dsimp only at hSw); go_simp; try rfl)
                try simp only [Act.put, List.setIfInBounds_toArray, List.set_cons_zero, List.set_cons_succ]
                refine wpAnyH_take (i := 10) (v := ?_) (ops_at rfl) (by kernel_rfl) (by kernel_rfl) (by kernel_rfl) (fun _ _ _ h => h) (Or.inl ⟨by rfl, ?ylf10⟩) (by assumption) ?nlf10
                case ylf10 => (intro wS hSw; (try dsimp only at hSw); go_simp; try rfl)
                try simp only [Act.put, List.setIfInBounds_toArray, List.set_cons_zero, List.set_cons_succ]
                refine wpAnyH_take (i := 11) (v := ?_) (ops_at rfl) (by kernel_rfl) (by kernel_rfl) (by kernel_rfl) (fun _ _ _ h => h) (Or.inl ⟨by rfl, ?ylf11⟩) (by assumption) ?nlf11
                case ylf11 => (intro wS hSw; (try dsimp only at hSw); go_simp; try rfl)
                try simp only [Act.put, List.setIfInBounds_toArray, List.set_cons_zero, List.set_cons_succ]
                refine wpAnyH_take (i := 12) (v := ?_) (ops_at rfl) (by kernel_rfl) (by kernel_rfl) (by kernel_rfl) (fun _ _ _ h => h) (Or.inl ⟨by rfl, ?ylf12⟩) (by assumption) ?nlf12
                case ylf12 => (intro wS hSw; (try dsimp only at hSw); go_simp; try rfl)
                try simp only [Act.put, List.setIfInBounds_toArray, List.set_cons_zero, List.set_cons_succ]
                refine wpAnyH_take (i := 13) (v := ?_) (ops_at rfl) (by kernel_rfl) (by kernel_rfl) (by kernel_rfl) (fun _ _ _ h => h) (Or.inl ⟨by rfl, ?ylf13⟩) (by assumption) ?nlf13
                case ylf13 => (intro wS hSw; (try dsimp only at hSw); go_simp; try rfl)
                try simp only [Act.put, List.setIfInBounds_toArray, List.set_cons_zero, List.set_cons_succ]
                refine wpAnyH_take (i := 14) (v := ?_) (ops_at rfl) (by kernel_rfl) (by kernel_rfl) (by kernel_rfl) (fun _ _ _ h => h) (Or.inl ⟨by rfl, ?ylf14⟩) (by assumption) ?nlf14
                case ylf14 => (intro wS hSw; (try dsimp only at hSw); go_simp; try rfl)
                try simp only [Act.put, List.setIfInBounds_toArray, List.set_cons_zero, List.set_cons_succ]
                refine wpAnyH_take (i := 15) (v := ?_) (ops_at rfl) (by kernel_rfl) (by kernel_rfl) (by kernel_rfl) (fun _ _ _ h => h) (Or.inl ⟨by rfl, ?ylf15⟩) (by assumption) ?nlf15
                case ylf15 => (intro wS hSw; (try dsimp only at hSw); go_simp; try rfl)
                try simp only [Act.put, List.setIfInBounds_toArray, List.set_cons_zero, List.set_cons_succ]
                refine wpAnyH_take (i := 16) (v := ?_) (ops_at rfl) (by kernel_rfl) (by kernel_rfl) (by kernel_rfl) (fun _ _ _ h => h) (Or.inl ⟨by rfl, ?ylf16⟩) (by assumption) ?nlf16
                case ylf16 => (intro wS hSw; (try dsimp only at hSw); go_simp; try rfl)
                try simp only [Act.put, List.setIfInBounds_toArray, List.set_cons_zero, List.set_cons_succ]
                refine wpAnyH_take (i := 17) (v := ?_) (ops_at rfl) (by kernel_rfl) (by kernel_rfl) (by kernel_rfl) (fun _ _ _ h => h) (Or.inl ⟨by rfl, ?ylf17⟩) (by assumption) ?nlf17
                case ylf17 => (intro wS hSw; (try dsimp only at hSw); go_simp; try rfl)
                try simp only [Act.put, List.setIfInBounds_toArray, List.set_cons_zero, List.set_cons_succ]
                refine wpAnyH_take (i := 18) (v := ?_) (ops_at rfl) (by kernel_rfl) (by kernel_rfl) (by kernel_rfl) (fun _ _ _ h => h) (Or.inl ⟨by rfl, ?ylf18⟩) (by assumption) ?nlf18
                case ylf18 => (intro wS hSw; (try dsimp only at hSw); go_simp; try rfl)
                try simp only [Act.put, List.setIfInBounds_toArray, List.set_cons_zero, List.set_cons_succ]
                refine wpAnyH_take (i := 19) (v := ?_) (ops_at rfl) (by kernel_rfl) (by kernel_rfl) (by kernel_rfl) (fun _ _ _ h => h) (Or.inl ⟨by rfl, ?ylf19⟩) (by assumption) ?nlf19
                case ylf19 => (intro wS hSw; (try dsimp only at hSw); go_simp; try rfl)
                try simp only [Act.put, List.setIfInBounds_toArray, List.set_cons_zero, List.set_cons_succ]
                refine wpAnyH_take (i := 20) (v := ?_) (ops_at rfl) (by kernel_rfl) (by kernel_rfl) (by kernel_rfl) (fun _ _ _ h => h) (Or.inl ⟨by rfl, ?ylf20⟩) (by assumption) ?nlf20
                case ylf20 => (intro wS hSw; (try dsimp only at hSw); go_simp; try rfl)
                try simp only [Act.put, List.setIfInBounds_toArray, List.set_cons_zero, List.set_cons_succ]
                refine wpAnyH_take (i := 21) (v := ?_) (ops_at rfl) (by kernel_rfl) (by kernel_rfl) (by kernel_rfl) (fun _ _ _ h => h) (Or.inl ⟨by rfl, ?ylf21⟩) (by assumption) ?nlf21
                case ylf21 => (intro wS hSw; (try dsimp only at hSw); go_simp; try rfl)
                try simp only [Act.put, List.setIfInBounds_toArray, List.set_cons_zero, List.set_cons_succ]
                refine wpAnyH_take (i := 22) (v := ?_) (ops_at rfl) (by kernel_rfl) (by kernel_rfl) (by kernel_rfl) (fun _ _ _ h => h) (Or.inl ⟨by rfl, ?ylf22⟩) (by assumption) ?nlf22
                case ylf22 => (intro wS hSw; (try dsimp only at hSw); go_simp; try rfl)
                try simp only [Act.put, List.setIfInBounds_toArray, List.set_cons_zero, List.set_cons_succ]
                refine wpAnyH_take (i := 23) (v := ?_) (ops_at rfl) (by kernel_rfl) (by kernel_rfl) (by kernel_rfl) (fun _ _ _ h => h) (Or.inl ⟨by rfl, ?ylf23⟩) (by assumption) ?nlf23
                case ylf23 => (intro wS hSw; (try dsimp only at hSw); go_simp; try rfl)
                try simp only [Act.put, List.setIfInBounds_toArray, List.set_cons_zero, List.set_cons_succ]
                refine wpAnyH_take (i := 24) (v := ?_) (ops_at rfl) (by kernel_rfl) (by kernel_rfl) (by kernel_rfl) (fun _ _ _ h => h) (Or.inl ⟨by rfl, ?ylf24⟩) (by assumption) ?nlf24
                case ylf24 => (intro wS hSw; (try dsimp only at hSw); go_simp; try rfl)
                try simp only [Act.put, List.setIfInBounds_toArray, List.set_cons_zero, List.set_cons_succ]
                refine wpAnyH_done (by kernel_rfl) ?_ _
                clear e1 e2 e3 e4 e5 e6
                go_wp2
                go_roundw
                case rel =>
                  refine ⟨k + 1, by omega, by omega, by go_num, drewB HBK.out, fun c hc => ?_⟩
                  rw [show k + 1 - 1 = (k - 1) + 1 by omega, lvL_succ, List.mem_append, List.mem_singleton] at hc
                  rcases hc with hc | rfl
                  · exact HNO.out c hc
                  · rw [show k - 1 + 1 = k by omega, hd]; exact HSUM.out
                case measure => simp [intOf]; omega
              · go_wp2_with fail
                refine wp_region_held_drew (S := (fun wq => wq.cell? ⟨F, a, none⟩ = some (.slice (some ⟨g2, 0, none⟩) (H + 1) (H + 1)) ∧ wq.cell? ⟨g2, b, none⟩ = some (.int .i64 v) ∧ wq.cell? ⟨F, a, none⟩ = some (.slice (some ⟨g2, 0, none⟩) (H + 1) (H + 1)) ∧ wq.cell? ⟨g2, k, none⟩ = some (.int .i64 v1) ∧ wq.cell? ⟨F, a, none⟩ = some (.slice (some ⟨g2, 0, none⟩) (H + 1) (H + 1)) ∧ wq.cell? ⟨g2, d, none⟩ = some (.int .i64 v2))) (by kernel_rfl) ⟨e5, e6, e1, e2, e3, e4⟩ (fun hH0 => ?_)
                refine wpAnyH_take (i := 0) (v := ?_) (ops_at rfl) (by kernel_rfl) (by kernel_rfl) (by kernel_rfl) (fun _ _ _ h => h) (Or.inl ⟨by rfl, ?ylt0⟩) (by assumption) ?nlt0
                case ylt0 => (intro wS hSw; (try dsimp only at hSw); go_simp; try rfl)
                try simp only [Act.put, List.setIfInBounds_toArray, List.set_cons_zero, List.set_cons_succ]
                refine wpAnyH_take (i := 1) (v := ?_) (ops_at rfl) (by kernel_rfl) (by kernel_rfl) (by kernel_rfl) (fun _ _ _ h => h) (Or.inl ⟨by rfl, ?ylt1⟩) (by assumption) ?nlt1
                case ylt1 => (intro wS hSw; (try dsimp only at hSw); go_simp; try rfl)
                try simp only [Act.put, List.setIfInBounds_toArray, List.set_cons_zero, List.set_cons_succ]
                refine wpAnyH_take (i := 2) (v := ?_) (ops_at rfl) (by kernel_rfl) (by kernel_rfl) (by kernel_rfl) (fun _ _ _ h => h) (Or.inl ⟨by rfl, ?ylt2⟩) (by assumption) ?nlt2
                case ylt2 => (intro wS hSw; (try dsimp only at hSw); go_simp; try rfl)
                try simp only [Act.put, List.setIfInBounds_toArray, List.set_cons_zero, List.set_cons_succ]
                refine wpAnyH_take (i := 3) (v := ?_) (ops_at rfl) (by kernel_rfl) (by kernel_rfl) (by kernel_rfl) (fun _ _ _ h => h) (Or.inl ⟨by rfl, ?ylt3⟩) (by assumption) ?nlt3
                case ylt3 => (intro wS hSw; (try dsimp only at hSw); go_simp; try rfl)
                try simp only [Act.put, List.setIfInBounds_toArray, List.set_cons_zero, List.set_cons_succ]
                refine wpAnyH_take (i := 4) (v := ?_) (ops_at rfl) (by kernel_rfl) (by kernel_rfl) (by kernel_rfl) (fun _ _ _ h => h) (Or.inl ⟨by rfl, ?ylt4⟩) (by assumption) ?nlt4
                case ylt4 => (intro wS hSw; (try dsimp only at hSw); go_simp; try rfl)
                try simp only [Act.put, List.setIfInBounds_toArray, List.set_cons_zero, List.set_cons_succ]
                refine wpAnyH_take (i := 5) (v := ?_) (ops_at rfl) (by kernel_rfl) (by kernel_rfl) (by kernel_rfl) (fun _ _ _ h => h) (Or.inl ⟨by rfl, ?ylt5⟩) (by assumption) ?nlt5
                case ylt5 => (intro wS hSw; (try dsimp only at hSw); go_simp; try rfl)
                try simp only [Act.put, List.setIfInBounds_toArray, List.set_cons_zero, List.set_cons_succ]
                refine wpAnyH_take (i := 6) (v := ?_) (ops_at rfl) (by kernel_rfl) (by kernel_rfl) (by kernel_rfl) (fun _ _ _ h => h) (Or.inl ⟨by rfl, ?ylt6⟩) (by assumption) ?nlt6
                case ylt6 => (intro wS hSw; (try dsimp only at hSw); go_simp; try rfl)
                try simp only [Act.put, List.setIfInBounds_toArray, List.set_cons_zero, List.set_cons_succ]
                refine wpAnyH_take (i := 7) (v := ?_) (ops_at rfl) (by kernel_rfl) (by kernel_rfl) (by kernel_rfl) (fun _ _ _ h => h) (Or.inl ⟨by rfl, ?ylt7⟩) (by assumption) ?nlt7
                case ylt7 => (intro wS hSw; (try dsimp only at hSw); go_simp; try rfl)
                try simp only [Act.put, List.setIfInBounds_toArray, List.set_cons_zero, List.set_cons_succ]
                refine wpAnyH_take (i := 8) (v := ?_) (ops_at rfl) (by kernel_rfl) (by kernel_rfl) (by kernel_rfl) (fun _ _ _ h => h) (Or.inl ⟨by rfl, ?ylt8⟩) (by assumption) ?nlt8
                case ylt8 => (intro wS hSw; (try dsimp only at hSw); go_simp; try rfl)
                try simp only [Act.put, List.setIfInBounds_toArray, List.set_cons_zero, List.set_cons_succ]
                refine wpAnyH_take (i := 9) (v := ?_) (ops_at rfl) (by kernel_rfl) (by kernel_rfl) (by kernel_rfl) (fun _ _ _ h => h) (Or.inl ⟨by rfl, ?ylt9⟩) (by assumption) ?nlt9
                case ylt9 => (intro wS hSw; (try dsimp only at hSw); go_simp; try rfl)
                try simp only [Act.put, List.setIfInBounds_toArray, List.set_cons_zero, List.set_cons_succ]
                refine wpAnyH_take (i := 10) (v := ?_) (ops_at rfl) (by kernel_rfl) (by kernel_rfl) (by kernel_rfl) (fun _ _ _ h => h) (Or.inl ⟨by rfl, ?ylt10⟩) (by assumption) ?nlt10
                case ylt10 => (intro wS hSw; (try dsimp only at hSw); go_simp; try rfl)
                try simp only [Act.put, List.setIfInBounds_toArray, List.set_cons_zero, List.set_cons_succ]
                refine wpAnyH_take (i := 11) (v := ?_) (ops_at rfl) (by kernel_rfl) (by kernel_rfl) (by kernel_rfl) (fun _ _ _ h => h) (Or.inl ⟨by rfl, ?ylt11⟩) (by assumption) ?nlt11
                case ylt11 => (intro wS hSw; (try dsimp only at hSw); go_simp; try rfl)
                try simp only [Act.put, List.setIfInBounds_toArray, List.set_cons_zero, List.set_cons_succ]
                refine wpAnyH_take (i := 12) (v := ?_) (ops_at rfl) (by kernel_rfl) (by kernel_rfl) (by kernel_rfl) (fun _ _ _ h => h) (Or.inl ⟨by rfl, ?ylt12⟩) (by assumption) ?nlt12
                case ylt12 => (intro wS hSw; (try dsimp only at hSw); go_simp; try rfl)
                try simp only [Act.put, List.setIfInBounds_toArray, List.set_cons_zero, List.set_cons_succ]
                refine wpAnyH_take (i := 13) (v := ?_) (ops_at rfl) (by kernel_rfl) (by kernel_rfl) (by kernel_rfl) (fun _ _ _ h => h) (Or.inl ⟨by rfl, ?ylt13⟩) (by assumption) ?nlt13
                case ylt13 => (intro wS hSw; (try dsimp only at hSw); go_simp; try rfl)
                try simp only [Act.put, List.setIfInBounds_toArray, List.set_cons_zero, List.set_cons_succ]
                refine wpAnyH_take (i := 14) (v := ?_) (ops_at rfl) (by kernel_rfl) (by kernel_rfl) (by kernel_rfl) (fun _ _ _ h => h) (Or.inl ⟨by rfl, ?ylt14⟩) (by assumption) ?nlt14
                case ylt14 => (intro wS hSw; (try dsimp only at hSw); go_simp; try rfl)
                try simp only [Act.put, List.setIfInBounds_toArray, List.set_cons_zero, List.set_cons_succ]
                refine wpAnyH_take (i := 15) (v := ?_) (ops_at rfl) (by kernel_rfl) (by kernel_rfl) (by kernel_rfl) (fun _ _ _ h => h) (Or.inl ⟨by rfl, ?ylt15⟩) (by assumption) ?nlt15
                case ylt15 => (intro wS hSw; (try dsimp only at hSw); go_simp; try rfl)
                try simp only [Act.put, List.setIfInBounds_toArray, List.set_cons_zero, List.set_cons_succ]
                refine wpAnyH_take (i := 16) (v := ?_) (ops_at rfl) (by kernel_rfl) (by kernel_rfl) (by kernel_rfl) (fun _ _ _ h => h) (Or.inl ⟨by rfl, ?ylt16⟩) (by assumption) ?nlt16
                case ylt16 => (intro wS hSw; (try dsimp only at hSw); go_simp; try rfl)
                try simp only [Act.put, List.setIfInBounds_toArray, List.set_cons_zero, List.set_cons_succ]
                refine wpAnyH_take (i := 17) (v := ?_) (ops_at rfl) (by kernel_rfl) (by kernel_rfl) (by kernel_rfl) (fun _ _ _ h => h) (Or.inl ⟨by rfl, ?ylt17⟩) (by assumption) ?nlt17
                case ylt17 => (intro wS hSw; (try dsimp only at hSw); go_simp; try rfl)
                try simp only [Act.put, List.setIfInBounds_toArray, List.set_cons_zero, List.set_cons_succ]
                refine wpAnyH_take (i := 18) (v := ?_) (ops_at rfl) (by kernel_rfl) (by kernel_rfl) (by kernel_rfl) (fun _ _ _ h => h) (Or.inl ⟨by rfl, ?ylt18⟩) (by assumption) ?nlt18
                case ylt18 => (intro wS hSw; (try dsimp only at hSw); go_simp; try rfl)
                try simp only [Act.put, List.setIfInBounds_toArray, List.set_cons_zero, List.set_cons_succ]
                refine wpAnyH_take (i := 19) (v := ?_) (ops_at rfl) (by kernel_rfl) (by kernel_rfl) (by kernel_rfl) (fun _ _ _ h => h) (Or.inl ⟨by rfl, ?ylt19⟩) (by assumption) ?nlt19
                case ylt19 => (intro wS hSw; (try dsimp only at hSw); go_simp; try rfl)
                try simp only [Act.put, List.setIfInBounds_toArray, List.set_cons_zero, List.set_cons_succ]
                refine wpAnyH_take (i := 20) (v := ?_) (ops_at rfl) (by kernel_rfl) (by kernel_rfl) (by kernel_rfl) (fun _ _ _ h => h) (Or.inl ⟨by rfl, ?ylt20⟩) (by assumption) ?nlt20
                case ylt20 => (intro wS hSw; (try dsimp only at hSw); go_simp; try rfl)
                try simp only [Act.put, List.setIfInBounds_toArray, List.set_cons_zero, List.set_cons_succ]
                refine wpAnyH_take (i := 21) (v := ?_) (ops_at rfl) (by kernel_rfl) (by kernel_rfl) (by kernel_rfl) (fun _ _ _ h => h) (Or.inl ⟨by rfl, ?ylt21⟩) (by assumption) ?nlt21
                case ylt21 => (intro wS hSw; (try dsimp only at hSw); go_simp; try rfl)
                try simp only [Act.put, List.setIfInBounds_toArray, List.set_cons_zero, List.set_cons_succ]
                refine wpAnyH_take (i := 22) (v := ?_) (ops_at rfl) (by kernel_rfl) (by kernel_rfl) (by kernel_rfl) (fun _ _ _ h => h) (Or.inl ⟨by rfl, ?ylt22⟩) (by assumption) ?nlt22
                case ylt22 => (intro wS hSw; (try dsimp only at hSw); go_simp; try rfl)
                try simp only [Act.put, List.setIfInBounds_toArray, List.set_cons_zero, List.set_cons_succ]
                refine wpAnyH_take (i := 23) (v := ?_) (ops_at rfl) (by kernel_rfl) (by kernel_rfl) (by kernel_rfl) (fun _ _ _ h => h) (Or.inl ⟨by rfl, ?ylt23⟩) (by assumption) ?nlt23
                case ylt23 => (intro wS hSw; (try dsimp only at hSw); go_simp; try rfl)
                try simp only [Act.put, List.setIfInBounds_toArray, List.set_cons_zero, List.set_cons_succ]
                refine wpAnyH_take (i := 24) (v := ?_) (ops_at rfl) (by kernel_rfl) (by kernel_rfl) (by kernel_rfl) (fun _ _ _ h => h) (Or.inl ⟨by rfl, ?ylt24⟩) (by assumption) ?nlt24
                case ylt24 => (intro wS hSw; (try dsimp only at hSw); go_simp; try rfl)
                try simp only [Act.put, List.setIfInBounds_toArray, List.set_cons_zero, List.set_cons_succ]
                refine wpAnyH_done (by kernel_rfl) ?_ _
                clear e1 e2 e3 e4 e5 e6
                have HRES := Lib.hid (show fcut fewB v a b = some ((a, k), (a, d)) by
                  rw [← fcut_half, halfL_parts2]
                  obtain ⟨rr, hrr⟩ := lvL_split (a := a) (b := b) (show k - 1 < b / 2 by omega)
                  rw [hrr, ← List.append_assoc, ← List.append_assoc, find_app (fun c hc => by rcases List.mem_append.1 hc with h | h; exact HUP.out c h; exact HNO.out c h) (by rw [show k - 1 + 1 = k by omega, hd]; exact HSUM.out), show k - 1 + 1 = k by omega, hd])
                have HSQ := Lib.hid (show sqL a b = sqL a k ++ sqL a d from sqL_cut a1 b1 hab (by rw [HV.out]; exact HRES.out))
                obtain ⟨V, hV⟩ : ∃ V, wr.drew = V := ⟨_, rfl⟩
                have HBV := Lib.hid (show Below w1.heap.size w1 V by rw [← hV]; exact drewB HBK.out)
                rw [hV]
                clear hV hH0
                have HTV := Lib.hid (HT1.out.below HBV.out)
                go_wp2_with fail
                refine (HIH.out a k (by omega) (by omega) (by omega) (by omega) (by omega) V HTV.out).mono ?_
                rintro e w2 ⟨A2, c2, n2, rfl, hl2, hown2, hb2⟩
                have hz2 := hb2.size
                go_wp2_with fail
                refine (HIH.out a d (by omega) (by omega) (by omega) (by omega) (by omega) w2 (HTV.out.below hb2)).mono ?_
                rintro e w3 ⟨A3, c3, n3, rfl, hl3, hown3, hb3⟩
                have HOW2 := Lib.hid (row_below hown2 hb3)
                have HSG3 := Lib.hid (ownsRow_own (ys := sqL a d) (by rw [hl3]; exact hown3)).2.seg
                have HL3 := Lib.hid hl3
                have hn2 := (sqL_bd a k (by omega) (by omega) (by omega) (by omega))
                have hn3 := (sqL_bd a d (by omega) (by omega) (by omega) (by omega))
                rw [hl2] at hn2
                rw [hl3] at hn3
                have HB3 := Lib.hid (show Below V.heap.size V w3 from hb2.trans (hb3.mono hz2))
                have HLT2 := Lib.hid HOW2.out.lt
                have HL2 := Lib.hid hl2
                clear hown2 hown3 hb2 hb3 hl2 hl3
                go_wp2_with (at_builtin; refine wpList_append_seg _ rfl _ _ 31 rfl V.heap.size 3 i0 Try.underlying31 hi0 hz0 hz1 hz2' _ n2 _ rfl HOW2.out A3 n3 c3 (sqL a d) _ _ rfl HL3.out HSG3.out (by omega) HB3.out.size ?_; intro v4 w4 hown4 hgr4; have HOW4 := Lib.hid (show w4.ownsRow V.heap.size 3 1 v4 (n2 + n3) ((sqL a b).map (Value.int .i64)) by rw [HSQ.out, List.map_append]; exact hown4); have HB4 := Lib.hid (HB3.out.grown hgr4 HB3.out.size (fun g' hg' => (HLT2.out g' hg').1)); clear hown4 hgr4; obtain ⟨A4, c4, rfl⟩ := ownsRow_form HOW4.out)
                go_ret
                exact ⟨A4, c4, n2 + n3, rfl, by rw [HSQ.out, List.length_append, HL2.out, HL3.out], own_mono HOW4.out HBV.out.size, HBV.out.trans (HB4.out.mono HBV.out.size)⟩
            · have hlt' : ¬ (2 * (k : Int)) ≤ (b : Int) := by omega
              have hdt : decide ((2 * (k : Int)) ≤ (b : Int)) = false := decide_eq_false hlt'
              have hke : k - 1 = b / 2 := by omega
              have HRES := Lib.hid (show fcut fewB v a b = none by
                rw [← fcut_half, halfL_parts2, find_none (fun c hc => by rcases List.mem_append.1 hc with h | h; exact HUP.out c h; exact HNO.out c (by rw [hke]; exact h))])
              have HSQ := Lib.hid (show sqL a b = [] from sqL_none a1 b1 hab (by rw [HV.out]; exact HRES.out))
              go_wp2
              go_ret
              exact ⟨none, 0, 0, rfl, by rw [HSQ.out]; rfl, by rw [HSQ.out]; exact World.ownsRow_nil _ _ _ _, HBK.out⟩
end Go.Proofs.Ytjpejhpilfjheaa
