/-
  What a clue tells of things, by the written program, and whether things fit a clue, by both.
  Conditions: hidden things.
-/
import Derived.Test.YtoheoojpmndhoaaPzU
import Derived.Test.YtoheoojpmndhoaaFewA
import Derived.Test.YtoheoojpmndhoaaPkA
namespace Go.Proofs.Ytoheoojpmndhoaa
set_option linter.unusedVariables false
set_option linter.unusedSimpArgs false
open Go.RowKit

theorem few_field (a0 a1 room cnt m : Int) (P1 P2 A G : Option Addr) (n1 c1 n2 c2 n3 c3 k cc : Nat) (w : World) :
    (Instr.field 110 (.agg #[.int .i64 a0, .int .i64 a1, .int .i64 room, .slice P1 n1 c1, .slice P2 n2 c2, .slice A n3 c3, .int .i64 m, .slice G k cc, .int .i64 cnt]) 2).run Try.prog w = .ok (.int .i64 m) w := by kernel_rfl

theorem oneIf_yes (w : World) : Calls Try.prog 109 #[.bool true] w fun e w' => e = .returned (.int .i64 1) ∧ w = w' := by
  go_enter Try.func109, Try.ntmps109
  go_wp2
  go_ret
  exact ⟨rfl, rfl⟩
theorem oneIf_no (w : World) : Calls Try.prog 109 #[.bool false] w fun e w' => e = .returned (.int .i64 0) ∧ w = w' := by
  go_enter Try.func109, Try.ntmps109
  go_wp2
  go_ret
  exact ⟨rfl, rfl⟩
theorem hid_asked {xs : List Int} (h : hidB xs = true) {a : Int} (ha : 6 ≤ a ∧ a ≤ 24) : askedB xs a = true := by
  have hg := hid_good h
  obtain ⟨_, _, hx⟩ := hidB_at h
  have hm : mostOf xs ≤ 6 := foldl_max_le (fun x hx' => (hx x hx').2) (by omega)
  rw [askedB, hg, Bool.true_and, inB_true]
  omega

set_option maxHeartbeats 4000000 in
set_option maxRecDepth 100000 in
theorem toldOf_any (A : Option Addr) (n c : Nat) (k a b c' : Int) (xs : List Int) (lo hi : Nat) (w : World) (hn : xs.length = n) (hh : hidB xs = true) (hv : ValOk (n : Int) k a b) (hs : Seg w lo hi A xs) (hB : hi ≤ w.heap.size) :
    Calls Try.prog 92 #[clV (k, a, b, c'), .slice A n c] w (RetV k a b xs w) := by
  obtain ⟨h2, h4, hx⟩ := hidB_at hh
  rw [hn] at h2 h4
  obtain ⟨v1, v2, v3⟩ := hv
  have HN := Lib.hid hn
  have HX := Lib.hid hx
  have HG := Lib.hid (hid_good hh)
  have HH := Lib.hid hh
  obtain ⟨W, hW⟩ : ∃ W, w.alloc (.cells #[.int .i64 k, .int .i64 a, .int .i64 b, .int .i64 c'] 25) = W := ⟨_, rfl⟩
  have z0 : Below w.heap.size w W := by rw [← hW]; exact (Below.refl _ _).alloc (Nat.le_refl _) _
  have p0 : W.heap[w.heap.size]? = some (.cells #[.int .i64 k, .int .i64 a, .int .i64 b, .int .i64 c'] 25 (0, 0)) := by rw [← hW]; exact new_at _ _ rfl
  have hsz := heap_lt p0
  have sW := hs.below z0 hB
  have HW := Lib.hid hW
  have q0 := cell_of p0 0
  have q1 := cell_of p0 1
  have q2 := cell_of p0 2
  have q3 := cell_of p0 3
  simp only [List.getElem?_toArray, List.getElem?_cons_zero, List.getElem?_cons_succ] at q0 q1 q2 q3
  clear hn hx hW hh
  go_enter Try.func92, Try.ntmps92
  go_upto_region 1 with (fail)
  rw [HW.out]
  by_cases k0 : k = 0
  · subst k0
    go_wp2_with (go_at_call 108; refine (sumOf_any _ _ _ xs lo hi _ HN.out sW HG.out).mono ?_; rintro e w' ⟨rfl, rfl⟩)
    go_ret
    exact ⟨rfl, z0⟩
  have e0 : (k == 0) = false := by simpa using k0
  by_cases k1 : k = 1
  · subst k1
    obtain ⟨⟨a1, a2⟩, b1, b2⟩ := v1 (.inl rfl)
    obtain ⟨i, rfl⟩ : ∃ i : Nat, a = (i : Int) := ⟨a.toNat, by omega⟩
    obtain ⟨j, rfl⟩ : ∃ j : Nat, b = (j : Int) := ⟨b.toNat, by omega⟩
    obtain ⟨bb, off, x, rfl, _, _, hx1, hc1⟩ := sW.at_ (k := i) (by rw [HN.out]; omega)
    obtain ⟨bb', off', y, hA, _, _, hx2, hc2⟩ := sW.at_ (k := j) (by rw [HN.out]; omega)
    obtain ⟨rfl, rfl⟩ : bb = bb' ∧ off = off' := by injection hA with hA; injection hA with h1 h2; exact ⟨h1, h2⟩
    have hval : toldK 1 (i : Int) (j : Int) xs = if y < x then 1 else 0 := by simp [toldK, List.getD, hx1, hx2]
    have HV := Lib.hid hval
    have i1 : i < n := by omega
    have j1 : j < n := by omega
    clear hx1 hx2 hval hA v1 v2 v3
    go_wp2_with fail
    refine wp_region_held_drew (S := fun wq => wq.cell? ⟨w.heap.size, 1, none⟩ = some (.int .i64 (i : Int)) ∧ wq.cell? ⟨w.heap.size, 2, none⟩ = some (.int .i64 (j : Int)) ∧ wq.cell? ⟨bb, off + i, none⟩ = some (.int .i64 x) ∧ wq.cell? ⟨bb, off + j, none⟩ = some (.int .i64 y)) (by kernel_rfl) ⟨q1, q2, hc1, hc2⟩ (fun hH0 => ?_)
    by_cases hlt : y < x
    · have hlt' : decide (y < x) = true := by simpa using hlt
      refine wpAnyH_take (i := 0) (v := ?_) (ops_at rfl) (by kernel_rfl) (by kernel_rfl) (by kernel_rfl) (fun _ _ _ h => h) (Or.inl ⟨by rfl, ?yky0⟩) (by assumption) ?nky0
      case yky0 => (intro wS hSw; go_simp; try rfl)
      try simp only [Act.put, List.setIfInBounds_toArray, List.set_cons_zero, List.set_cons_succ]
      refine wpAnyH_take (i := 1) (v := ?_) (ops_at rfl) (by kernel_rfl) (by kernel_rfl) (by kernel_rfl) (fun _ _ _ h => h) (Or.inl ⟨by rfl, ?yky1⟩) (by assumption) ?nky1
      case yky1 => (intro wS hSw; go_simp; try rfl)
      try simp only [Act.put, List.setIfInBounds_toArray, List.set_cons_zero, List.set_cons_succ]
      refine wpAnyH_take (i := 2) (v := ?_) (ops_at rfl) (by kernel_rfl) (by kernel_rfl) (by kernel_rfl) (fun _ _ _ h => h) (Or.inl ⟨by rfl, ?yky2⟩) (by assumption) ?nky2
      case yky2 => (intro wS hSw; go_simp; try rfl)
      try simp only [Act.put, List.setIfInBounds_toArray, List.set_cons_zero, List.set_cons_succ]
      refine wpAnyH_take (i := 3) (v := ?_) (ops_at rfl) (by kernel_rfl) (by kernel_rfl) (by kernel_rfl) (fun _ _ _ h => h) (Or.inl ⟨by rfl, ?yky3⟩) (by assumption) ?nky3
      case yky3 => (intro wS hSw; go_simp; try rfl)
      try simp only [Act.put, List.setIfInBounds_toArray, List.set_cons_zero, List.set_cons_succ]
      refine wpAnyH_take (i := 4) (v := ?_) (ops_at rfl) (by kernel_rfl) (by kernel_rfl) (by kernel_rfl) (fun _ _ _ h => h) (Or.inl ⟨by rfl, ?yky4⟩) (by assumption) ?nky4
      case yky4 => (intro wS hSw; go_simp; try rfl)
      try simp only [Act.put, List.setIfInBounds_toArray, List.set_cons_zero, List.set_cons_succ]
      refine wpAnyH_take (i := 5) (v := ?_) (ops_at rfl) (by kernel_rfl) (by kernel_rfl) (by kernel_rfl) (fun _ _ _ h => h) (Or.inl ⟨by rfl, ?yky5⟩) (by assumption) ?nky5
      case yky5 => (intro wS hSw; go_simp; try rfl)
      try simp only [Act.put, List.setIfInBounds_toArray, List.set_cons_zero, List.set_cons_succ]
      refine wpAnyH_take (i := 6) (v := ?_) (ops_at rfl) (by kernel_rfl) (by kernel_rfl) (by kernel_rfl) (fun _ _ _ h => h) (Or.inl ⟨by rfl, ?yky6⟩) (by assumption) ?nky6
      case yky6 => (intro wS hSw; go_simp; try rfl)
      try simp only [Act.put, List.setIfInBounds_toArray, List.set_cons_zero, List.set_cons_succ]
      refine wpAnyH_take (i := 7) (v := ?_) (ops_at rfl) (by kernel_rfl) (by kernel_rfl) (by kernel_rfl) (fun _ _ _ h => h) (Or.inl ⟨by rfl, ?yky7⟩) (by assumption) ?nky7
      case yky7 => (intro wS hSw; go_simp; try rfl)
      try simp only [Act.put, List.setIfInBounds_toArray, List.set_cons_zero, List.set_cons_succ]
      refine wpAnyH_take (i := 8) (v := ?_) (ops_at rfl) (by kernel_rfl) (by kernel_rfl) (by kernel_rfl) (fun _ _ _ h => h) (Or.inl ⟨by rfl, ?yky8⟩) (by assumption) ?nky8
      case yky8 => (intro wS hSw; go_simp; try rfl)
      try simp only [Act.put, List.setIfInBounds_toArray, List.set_cons_zero, List.set_cons_succ]
      refine wpAnyH_take (i := 9) (v := ?_) (ops_at rfl) (by kernel_rfl) (by kernel_rfl) (by kernel_rfl) (fun _ _ _ h => h) (Or.inl ⟨by rfl, ?yky9⟩) (by assumption) ?nky9
      case yky9 => (intro wS hSw; go_simp; try rfl)
      try simp only [Act.put, List.setIfInBounds_toArray, List.set_cons_zero, List.set_cons_succ]
      refine wpAnyH_take (i := 10) (v := ?_) (ops_at rfl) (by kernel_rfl) (by kernel_rfl) (by kernel_rfl) (fun _ _ _ h => h) (Or.inl ⟨by rfl, ?yky10⟩) (by assumption) ?nky10
      case yky10 => (intro wS hSw; go_simp; try rfl)
      try simp only [Act.put, List.setIfInBounds_toArray, List.set_cons_zero, List.set_cons_succ]
      refine wpAnyH_ready (rs := [11]) (by kernel_rfl) (by simp) ?_
      refine AllReadyH.cons (ops_at rfl) (fun K hK => ?_) AllReadyH.nil
      go_simp
      refine (oneIf_yes _).mono ?_
      rintro e w' ⟨rfl, rfl⟩
      refine hK.out _ _ hH0 (fun hH1 => ?_)
      clear hK K
      refine wpAnyH_take (i := 12) (v := ?_) (ops_at rfl) (by kernel_rfl) (by kernel_rfl) (by kernel_rfl) (fun _ _ _ h => h) (Or.inl ⟨by rfl, ?yly12⟩) (by assumption) ?nly12
      case yly12 => (intro wS hSw; go_simp; try rfl)
      try simp only [Act.put, List.setIfInBounds_toArray, List.set_cons_zero, List.set_cons_succ]
      refine wpAnyH_done (by kernel_rfl) ?_ _
      go_wp2
      go_ret
      exact ⟨by rw [HV.out, if_pos (by omega)]; rfl, z0.drew⟩
    · have hlt' : decide (y < x) = false := by simpa using hlt
      refine wpAnyH_take (i := 0) (v := ?_) (ops_at rfl) (by kernel_rfl) (by kernel_rfl) (by kernel_rfl) (fun _ _ _ h => h) (Or.inl ⟨by rfl, ?ykn0⟩) (by assumption) ?nkn0
      case ykn0 => (intro wS hSw; go_simp; try rfl)
      try simp only [Act.put, List.setIfInBounds_toArray, List.set_cons_zero, List.set_cons_succ]
      refine wpAnyH_take (i := 1) (v := ?_) (ops_at rfl) (by kernel_rfl) (by kernel_rfl) (by kernel_rfl) (fun _ _ _ h => h) (Or.inl ⟨by rfl, ?ykn1⟩) (by assumption) ?nkn1
      case ykn1 => (intro wS hSw; go_simp; try rfl)
      try simp only [Act.put, List.setIfInBounds_toArray, List.set_cons_zero, List.set_cons_succ]
      refine wpAnyH_take (i := 2) (v := ?_) (ops_at rfl) (by kernel_rfl) (by kernel_rfl) (by kernel_rfl) (fun _ _ _ h => h) (Or.inl ⟨by rfl, ?ykn2⟩) (by assumption) ?nkn2
      case ykn2 => (intro wS hSw; go_simp; try rfl)
      try simp only [Act.put, List.setIfInBounds_toArray, List.set_cons_zero, List.set_cons_succ]
      refine wpAnyH_take (i := 3) (v := ?_) (ops_at rfl) (by kernel_rfl) (by kernel_rfl) (by kernel_rfl) (fun _ _ _ h => h) (Or.inl ⟨by rfl, ?ykn3⟩) (by assumption) ?nkn3
      case ykn3 => (intro wS hSw; go_simp; try rfl)
      try simp only [Act.put, List.setIfInBounds_toArray, List.set_cons_zero, List.set_cons_succ]
      refine wpAnyH_take (i := 4) (v := ?_) (ops_at rfl) (by kernel_rfl) (by kernel_rfl) (by kernel_rfl) (fun _ _ _ h => h) (Or.inl ⟨by rfl, ?ykn4⟩) (by assumption) ?nkn4
      case ykn4 => (intro wS hSw; go_simp; try rfl)
      try simp only [Act.put, List.setIfInBounds_toArray, List.set_cons_zero, List.set_cons_succ]
      refine wpAnyH_take (i := 5) (v := ?_) (ops_at rfl) (by kernel_rfl) (by kernel_rfl) (by kernel_rfl) (fun _ _ _ h => h) (Or.inl ⟨by rfl, ?ykn5⟩) (by assumption) ?nkn5
      case ykn5 => (intro wS hSw; go_simp; try rfl)
      try simp only [Act.put, List.setIfInBounds_toArray, List.set_cons_zero, List.set_cons_succ]
      refine wpAnyH_take (i := 6) (v := ?_) (ops_at rfl) (by kernel_rfl) (by kernel_rfl) (by kernel_rfl) (fun _ _ _ h => h) (Or.inl ⟨by rfl, ?ykn6⟩) (by assumption) ?nkn6
      case ykn6 => (intro wS hSw; go_simp; try rfl)
      try simp only [Act.put, List.setIfInBounds_toArray, List.set_cons_zero, List.set_cons_succ]
      refine wpAnyH_take (i := 7) (v := ?_) (ops_at rfl) (by kernel_rfl) (by kernel_rfl) (by kernel_rfl) (fun _ _ _ h => h) (Or.inl ⟨by rfl, ?ykn7⟩) (by assumption) ?nkn7
      case ykn7 => (intro wS hSw; go_simp; try rfl)
      try simp only [Act.put, List.setIfInBounds_toArray, List.set_cons_zero, List.set_cons_succ]
      refine wpAnyH_take (i := 8) (v := ?_) (ops_at rfl) (by kernel_rfl) (by kernel_rfl) (by kernel_rfl) (fun _ _ _ h => h) (Or.inl ⟨by rfl, ?ykn8⟩) (by assumption) ?nkn8
      case ykn8 => (intro wS hSw; go_simp; try rfl)
      try simp only [Act.put, List.setIfInBounds_toArray, List.set_cons_zero, List.set_cons_succ]
      refine wpAnyH_take (i := 9) (v := ?_) (ops_at rfl) (by kernel_rfl) (by kernel_rfl) (by kernel_rfl) (fun _ _ _ h => h) (Or.inl ⟨by rfl, ?ykn9⟩) (by assumption) ?nkn9
      case ykn9 => (intro wS hSw; go_simp; try rfl)
      try simp only [Act.put, List.setIfInBounds_toArray, List.set_cons_zero, List.set_cons_succ]
      refine wpAnyH_take (i := 10) (v := ?_) (ops_at rfl) (by kernel_rfl) (by kernel_rfl) (by kernel_rfl) (fun _ _ _ h => h) (Or.inl ⟨by rfl, ?ykn10⟩) (by assumption) ?nkn10
      case ykn10 => (intro wS hSw; go_simp; try rfl)
      try simp only [Act.put, List.setIfInBounds_toArray, List.set_cons_zero, List.set_cons_succ]
      refine wpAnyH_ready (rs := [11]) (by kernel_rfl) (by simp) ?_
      refine AllReadyH.cons (ops_at rfl) (fun K hK => ?_) AllReadyH.nil
      go_simp
      refine (oneIf_no _).mono ?_
      rintro e w' ⟨rfl, rfl⟩
      refine hK.out _ _ hH0 (fun hH1 => ?_)
      clear hK K
      refine wpAnyH_take (i := 12) (v := ?_) (ops_at rfl) (by kernel_rfl) (by kernel_rfl) (by kernel_rfl) (fun _ _ _ h => h) (Or.inl ⟨by rfl, ?yln12⟩) (by assumption) ?nln12
      case yln12 => (intro wS hSw; go_simp; try rfl)
      try simp only [Act.put, List.setIfInBounds_toArray, List.set_cons_zero, List.set_cons_succ]
      refine wpAnyH_done (by kernel_rfl) ?_ _
      go_wp2
      go_ret
      exact ⟨by rw [HV.out, if_neg (by omega)]; rfl, z0.drew⟩
  have e1 : (k == 1) = false := by simpa using k1
  by_cases k2 : k = 2
  · subst k2
    obtain ⟨a1, a2⟩ := v2 rfl
    have hm := fewN_least (room := a) (xs := xs) (fun x hx => by have := HX.out x hx; omega)
    obtain ⟨p, hp⟩ : ∃ p, (bestP a xs (fewN a xs)).head? = some p := by
      have := best_pos hm
      cases hb : bestP a xs (fewN a xs) with
      | nil => rw [hb] at this; simp at this
      | cons p r => exact ⟨p, rfl⟩
    have HM := Lib.hid hm
    have HP := Lib.hid hp
    clear hm hp
    have hfd := few_field
    go_wp2_with fail
    refine (searchFewest_any A n c xs a lo hi _ HN.out sW (by omega) (hid_asked HH.out ⟨a1, a2⟩) (fewN a xs) HM.out p HP.out).mono ?_
    rintro e w1 ⟨Bo, Bp, FV, rfl, ⟨g, cc, rfl, hg1, hg2, hg3⟩, hb⟩
    clear hg1
    go_wp2
    go_ret
    exact ⟨by simp [toldK], z0.trans (hb.mono (by omega))⟩
  have e2 : (k == 2) = false := by simpa using k2
  by_cases k3 : k = 3
  · subst k3
    obtain ⟨a1, a2⟩ := v3 rfl
    have hf := fill_some (xs := xs) (fun x hx => (HX.out x hx).1) n 0 a (by rw [HN.out]; omega) (by omega)
    rw [List.drop_zero] at hf
    have HF := Lib.hid hf
    clear hf
    go_wp2_with fail
    refine (fillFrom_any A n c xs lo hi HN.out HG.out n 0 a _ (by omega) (by omega) sW (by omega)).mono ?_
    rintro e w1 (⟨hr, rfl, hb⟩ | ⟨ys, A2, c2, hr, rfl, -, hb⟩)
    · have HR := Lib.hid hr
      clear hr
      go_wp2_with (go_at_call 109; refine (oneIf_no _).mono ?_; rintro e w' ⟨rfl, rfl⟩)
      go_ret
      refine ⟨?_, z0.trans (hb.mono (by omega))⟩
      have h := HF.out
      rw [HR.out] at h
      have h2 : someS xs a = false := by rw [← h]; rfl
      simp [toldK, h2]
    · have HR := Lib.hid hr
      clear hr
      go_wp2_with (go_at_call 109; refine (oneIf_yes _).mono ?_; rintro e w' ⟨rfl, rfl⟩)
      go_ret
      refine ⟨?_, z0.trans (hb.mono (by omega))⟩
      have h := HF.out
      rw [HR.out] at h
      have h2 : someS xs a = true := by rw [← h]; rfl
      simp [toldK, h2]
  have e3 : (k == 3) = false := by simpa using k3
  by_cases k4 : k = 4
  · subst k4
    obtain ⟨⟨a1, a2⟩, b1, b2⟩ := v1 (.inr rfl)
    obtain ⟨i, rfl⟩ : ∃ i : Nat, a = (i : Int) := ⟨a.toNat, by omega⟩
    obtain ⟨j, rfl⟩ : ∃ j : Nat, b = (j : Int) := ⟨b.toNat, by omega⟩
    obtain ⟨bb, off, x, rfl, _, _, hx1, hc1⟩ := sW.at_ (k := i) (by rw [HN.out]; omega)
    obtain ⟨bb', off', y, hA, _, _, hx2, hc2⟩ := sW.at_ (k := j) (by rw [HN.out]; omega)
    obtain ⟨rfl, rfl⟩ : bb = bb' ∧ off = off' := by injection hA with hA; injection hA with h1 h2; exact ⟨h1, h2⟩
    have hval : toldK 4 (i : Int) (j : Int) xs = x * y := by simp [toldK, List.getD, hx1, hx2]
    have HV := Lib.hid hval
    have i1 : i < n := by omega
    have j1 : j < n := by omega
    have bx := HX.out x (List.mem_of_getElem? hx1)
    have byy := HX.out y (List.mem_of_getElem? hx2)
    have bm : 0 ≤ x * y ∧ x * y ≤ 36 := ⟨Int.mul_nonneg (by omega) (by omega), by have := Int.mul_le_mul (show x ≤ 6 by omega) (show y ≤ 6 by omega) (by omega) (by omega); omega⟩
    have hwr : IntKind.i64.wrap (x * y) = x * y := IntWalk.i64_in _ (by omega)
    clear hx1 hx2 hval hA v1 v2 v3
    go_wp2_with fail
    go_quiet (fail)
    go_wp2
    go_ret
    exact ⟨by rw [HV.out]; rfl, below_drewN z0 _⟩
  have e4 : (k == 4) = false := by simpa using k4
  go_wp2_with (go_at_call 112; refine (slicesMax_any _ _ _ xs lo hi _ HN.out (by omega) sW (by omega) (fun x hx => by have := HX.out x hx; omega)).mono ?_; rintro e w' ⟨rfl, rfl⟩)
  go_ret
  exact ⟨by simp [toldK, k0, k1, k2, k3, k4], z0⟩

set_option maxHeartbeats 1000000 in
theorem pzFits_any (A : Option Addr) (n c : Nat) (k a b c' : Int) (xs : List Int) (lo hi : Nat) (w : World) (hn : xs.length = n) (hh : hidB xs = true) (hv : ValOk (n : Int) k a b) (hs : Seg w lo hi A xs) (hB : hi ≤ w.heap.size) (q : Bool) (hq : decide (toldK k a b xs = c') = q) :
    Calls Try.prog 70 #[clV (k, a, b, c'), .slice A n c] w fun e w' => e = .returned (.bool q) ∧ Below w.heap.size w w' := by
  obtain ⟨W, hW⟩ : ∃ W, w.alloc (.cells #[.int .i64 k, .int .i64 a, .int .i64 b, .int .i64 c'] 25) = W := ⟨_, rfl⟩
  have z0 : Below w.heap.size w W := by rw [← hW]; exact (Below.refl _ _).alloc (Nat.le_refl _) _
  have p0 : W.heap[w.heap.size]? = some (.cells #[.int .i64 k, .int .i64 a, .int .i64 b, .int .i64 c'] 25 (0, 0)) := by rw [← hW]; exact new_at _ _ rfl
  have hsz := heap_lt p0
  have sW := (hs.below z0 hB).below ((Below.refl W.heap.size W).drew) (by have := z0.size; omega)
  have HW := Lib.hid hW
  clear hW
  obtain ⟨v, hv1⟩ : ∃ v, toldK k a b xs = v := ⟨_, rfl⟩
  have hqv : (v == c') = q := by rw [hv1] at hq; rw [← hq]; exact Bool.beq_eq_decide_eq v c'
  have HQ := Lib.hid hq
  have HV1 := Lib.hid hv1
  have HV := Lib.hid hv
  clear hq hv1 hv
  go_enter Try.func70, Try.ntmps70
  go_wp2_with fail
  rw [HW.out]
  refine wp_region_held_drew (S := fun wq => wq.heap[w.heap.size]? = some (.cells #[.int .i64 k, .int .i64 a, .int .i64 b, .int .i64 c'] 25 (0, 0))) (by kernel_rfl) p0 (fun hH0 => ?_)
  refine wpAnyH_take (i := 0) (v := ?_) (ops_at rfl) (by kernel_rfl) (by kernel_rfl) (by kernel_rfl) (fun _ _ _ h => h) (Or.inl ⟨by rfl, ?ya0⟩) (by assumption) ?na0
  case ya0 => (intro wS hSw; have q0 := cell_of hSw 0; have q1 := cell_of hSw 1; have q2 := cell_of hSw 2; have q3 := cell_of hSw 3; go_simp; try rfl)
  try simp only [Act.put, List.setIfInBounds_toArray, List.set_cons_zero, List.set_cons_succ]
  refine wpAnyH_take (i := 1) (v := ?_) (ops_at rfl) (by kernel_rfl) (by kernel_rfl) (by kernel_rfl) (fun _ _ _ h => h) (Or.inl ⟨by rfl, ?ya1⟩) (by assumption) ?na1
  case ya1 => (intro wS hSw; have q0 := cell_of hSw 0; have q1 := cell_of hSw 1; have q2 := cell_of hSw 2; have q3 := cell_of hSw 3; go_simp; try rfl)
  try simp only [Act.put, List.setIfInBounds_toArray, List.set_cons_zero, List.set_cons_succ]
  refine wpAnyH_take (i := 2) (v := ?_) (ops_at rfl) (by kernel_rfl) (by kernel_rfl) (by kernel_rfl) (fun _ _ _ h => h) (Or.inl ⟨by rfl, ?ya2⟩) (by assumption) ?na2
  case ya2 => (intro wS hSw; have q0 := cell_of hSw 0; have q1 := cell_of hSw 1; have q2 := cell_of hSw 2; have q3 := cell_of hSw 3; go_simp; try rfl)
  try simp only [Act.put, List.setIfInBounds_toArray, List.set_cons_zero, List.set_cons_succ]
  refine wpAnyH_take (i := 3) (v := ?_) (ops_at rfl) (by kernel_rfl) (by kernel_rfl) (by kernel_rfl) (fun _ _ _ h => h) (Or.inl ⟨by rfl, ?ya3⟩) (by assumption) ?na3
  case ya3 => (intro wS hSw; have q0 := cell_of hSw 0; have q1 := cell_of hSw 1; have q2 := cell_of hSw 2; have q3 := cell_of hSw 3; go_simp; try rfl)
  try simp only [Act.put, List.setIfInBounds_toArray, List.set_cons_zero, List.set_cons_succ]
  refine wpAnyH_take (i := 4) (v := ?_) (ops_at rfl) (by kernel_rfl) (by kernel_rfl) (by kernel_rfl) (fun _ _ _ h => h) (Or.inl ⟨by rfl, ?ya4⟩) (by assumption) ?na4
  case ya4 => (intro wS hSw; have q0 := cell_of hSw 0; have q1 := cell_of hSw 1; have q2 := cell_of hSw 2; have q3 := cell_of hSw 3; go_simp; try rfl)
  try simp only [Act.put, List.setIfInBounds_toArray, List.set_cons_zero, List.set_cons_succ]
  refine wpAnyH_take (i := 5) (v := ?_) (ops_at rfl) (by kernel_rfl) (by kernel_rfl) (by kernel_rfl) (fun _ _ _ h => h) (Or.inl ⟨by rfl, ?ya5⟩) (by assumption) ?na5
  case ya5 => (intro wS hSw; have q0 := cell_of hSw 0; have q1 := cell_of hSw 1; have q2 := cell_of hSw 2; have q3 := cell_of hSw 3; go_simp; try rfl)
  try simp only [Act.put, List.setIfInBounds_toArray, List.set_cons_zero, List.set_cons_succ]
  refine wpAnyH_take (i := 6) (v := ?_) (ops_at rfl) (by kernel_rfl) (by kernel_rfl) (by kernel_rfl) (fun _ _ _ h => h) (Or.inl ⟨by rfl, ?ya6⟩) (by assumption) ?na6
  case ya6 => (intro wS hSw; have q0 := cell_of hSw 0; have q1 := cell_of hSw 1; have q2 := cell_of hSw 2; have q3 := cell_of hSw 3; go_simp; try rfl)
  try simp only [Act.put, List.setIfInBounds_toArray, List.set_cons_zero, List.set_cons_succ]
  refine wpAnyH_take (i := 8) (v := ?_) (ops_at rfl) (by kernel_rfl) (by kernel_rfl) (by kernel_rfl) (fun _ _ _ h => h) (Or.inl ⟨by rfl, ?ya8⟩) (by assumption) ?na8
  case ya8 => (intro wS hSw; have q0 := cell_of hSw 0; have q1 := cell_of hSw 1; have q2 := cell_of hSw 2; have q3 := cell_of hSw 3; go_simp; try rfl)
  try simp only [Act.put, List.setIfInBounds_toArray, List.set_cons_zero, List.set_cons_succ]
  refine wpAnyH_take (i := 9) (v := ?_) (ops_at rfl) (by kernel_rfl) (by kernel_rfl) (by kernel_rfl) (fun _ _ _ h => h) (Or.inl ⟨by rfl, ?ya9⟩) (by assumption) ?na9
  case ya9 => (intro wS hSw; have q0 := cell_of hSw 0; have q1 := cell_of hSw 1; have q2 := cell_of hSw 2; have q3 := cell_of hSw 3; go_simp; try rfl)
  try simp only [Act.put, List.setIfInBounds_toArray, List.set_cons_zero, List.set_cons_succ]
  refine wpAnyH_ready (rs := [7]) (by kernel_rfl) (by simp) ?_
  refine AllReadyH.cons (ops_at rfl) (fun K hK => ?_) AllReadyH.nil
  go_simp
  refine (pzValue_any A n c k a b xs lo hi _ hn hh HV.out sW (by show hi ≤ W.heap.size; have := z0.size; omega)).mono ?_
  rintro e w1 ⟨rfl, hb⟩
  have hz : W.heap.size ≤ w1.heap.size := hb.size
  rw [HV1.out]
  have p1 := (hb.block _ (by show _ < W.heap.size; omega)).trans p0
  refine hK.out _ _ p1 (fun hH1 => ?_)
  clear hK K
  refine wpAnyH_take (i := 10) (v := ?_) (ops_at rfl) (by kernel_rfl) (by kernel_rfl) (by kernel_rfl) (fun _ _ _ h => h) (Or.inl ⟨by rfl, ?yb10⟩) (by assumption) ?nb10
  case yb10 => (intro wS hSw; have q0 := cell_of hSw 0; have q1 := cell_of hSw 1; have q2 := cell_of hSw 2; have q3 := cell_of hSw 3; go_simp; try rfl)
  try simp only [Act.put, List.setIfInBounds_toArray, List.set_cons_zero, List.set_cons_succ]
  refine wpAnyH_take (i := 11) (v := ?_) (ops_at rfl) (by kernel_rfl) (by kernel_rfl) (by kernel_rfl) (fun _ _ _ h => h) (Or.inl ⟨by rfl, ?yb11⟩) (by assumption) ?nb11
  case yb11 => (intro wS hSw; have q0 := cell_of hSw 0; have q1 := cell_of hSw 1; have q2 := cell_of hSw 2; have q3 := cell_of hSw 3; go_simp; try rfl)
  try simp only [Act.put, List.setIfInBounds_toArray, List.set_cons_zero, List.set_cons_succ]
  refine wpAnyH_done (by kernel_rfl) ?_ _
  go_wp2
  go_ret
  exact ⟨rfl, z0.trans ((Below.refl W.heap.size W).drew.trans hb |>.mono (by omega))⟩

set_option maxHeartbeats 1000000 in
theorem clueFits_any (A : Option Addr) (n c : Nat) (k a b c' : Int) (xs : List Int) (lo hi : Nat) (w : World) (hn : xs.length = n) (hh : hidB xs = true) (hv : ValOk (n : Int) k a b) (hs : Seg w lo hi A xs) (hB : hi ≤ w.heap.size) (q : Bool) (hq : decide (toldK k a b xs = c') = q) :
    Calls Try.prog 72 #[clV (k, a, b, c'), .slice A n c] w fun e w' => e = .returned (.bool q) ∧ Below w.heap.size w w' := by
  obtain ⟨W, hW⟩ : ∃ W, w.alloc (.cells #[.int .i64 k, .int .i64 a, .int .i64 b, .int .i64 c'] 25) = W := ⟨_, rfl⟩
  have z0 : Below w.heap.size w W := by rw [← hW]; exact (Below.refl _ _).alloc (Nat.le_refl _) _
  have p0 : W.heap[w.heap.size]? = some (.cells #[.int .i64 k, .int .i64 a, .int .i64 b, .int .i64 c'] 25 (0, 0)) := by rw [← hW]; exact new_at _ _ rfl
  have hsz := heap_lt p0
  have sW := (hs.below z0 hB).below ((Below.refl W.heap.size W).drew) (by have := z0.size; omega)
  have HW := Lib.hid hW
  clear hW
  obtain ⟨v, hv1⟩ : ∃ v, toldK k a b xs = v := ⟨_, rfl⟩
  have hqv : (v == c') = q := by rw [hv1] at hq; rw [← hq]; exact Bool.beq_eq_decide_eq v c'
  have HQ := Lib.hid hq
  have HV1 := Lib.hid hv1
  have HV := Lib.hid hv
  clear hq hv1 hv
  go_enter Try.func72, Try.ntmps72
  go_wp2_with fail
  rw [HW.out]
  refine wp_region_held_drew (S := fun wq => wq.heap[w.heap.size]? = some (.cells #[.int .i64 k, .int .i64 a, .int .i64 b, .int .i64 c'] 25 (0, 0))) (by kernel_rfl) p0 (fun hH0 => ?_)
  refine wpAnyH_take (i := 0) (v := ?_) (ops_at rfl) (by kernel_rfl) (by kernel_rfl) (by kernel_rfl) (fun _ _ _ h => h) (Or.inl ⟨by rfl, ?ya0⟩) (by assumption) ?na0
  case ya0 => (intro wS hSw; have q0 := cell_of hSw 0; have q1 := cell_of hSw 1; have q2 := cell_of hSw 2; have q3 := cell_of hSw 3; go_simp; try rfl)
  try simp only [Act.put, List.setIfInBounds_toArray, List.set_cons_zero, List.set_cons_succ]
  refine wpAnyH_take (i := 1) (v := ?_) (ops_at rfl) (by kernel_rfl) (by kernel_rfl) (by kernel_rfl) (fun _ _ _ h => h) (Or.inl ⟨by rfl, ?ya1⟩) (by assumption) ?na1
  case ya1 => (intro wS hSw; have q0 := cell_of hSw 0; have q1 := cell_of hSw 1; have q2 := cell_of hSw 2; have q3 := cell_of hSw 3; go_simp; try rfl)
  try simp only [Act.put, List.setIfInBounds_toArray, List.set_cons_zero, List.set_cons_succ]
  refine wpAnyH_take (i := 3) (v := ?_) (ops_at rfl) (by kernel_rfl) (by kernel_rfl) (by kernel_rfl) (fun _ _ _ h => h) (Or.inl ⟨by rfl, ?ya3⟩) (by assumption) ?na3
  case ya3 => (intro wS hSw; have q0 := cell_of hSw 0; have q1 := cell_of hSw 1; have q2 := cell_of hSw 2; have q3 := cell_of hSw 3; go_simp; try rfl)
  try simp only [Act.put, List.setIfInBounds_toArray, List.set_cons_zero, List.set_cons_succ]
  refine wpAnyH_take (i := 4) (v := ?_) (ops_at rfl) (by kernel_rfl) (by kernel_rfl) (by kernel_rfl) (fun _ _ _ h => h) (Or.inl ⟨by rfl, ?ya4⟩) (by assumption) ?na4
  case ya4 => (intro wS hSw; have q0 := cell_of hSw 0; have q1 := cell_of hSw 1; have q2 := cell_of hSw 2; have q3 := cell_of hSw 3; go_simp; try rfl)
  try simp only [Act.put, List.setIfInBounds_toArray, List.set_cons_zero, List.set_cons_succ]
  refine wpAnyH_ready (rs := [2]) (by kernel_rfl) (by simp) ?_
  refine AllReadyH.cons (ops_at rfl) (fun K hK => ?_) AllReadyH.nil
  go_simp
  refine (toldOf_any A n c k a b c' xs lo hi _ hn hh HV.out sW (by show hi ≤ W.heap.size; have := z0.size; omega)).mono ?_
  rintro e w1 ⟨rfl, hb⟩
  have hz : W.heap.size ≤ w1.heap.size := hb.size
  rw [HV1.out]
  have p1 := (hb.block _ (by show _ < W.heap.size; omega)).trans p0
  refine hK.out _ _ p1 (fun hH1 => ?_)
  clear hK K
  refine wpAnyH_take (i := 5) (v := ?_) (ops_at rfl) (by kernel_rfl) (by kernel_rfl) (by kernel_rfl) (fun _ _ _ h => h) (Or.inl ⟨by rfl, ?yb5⟩) (by assumption) ?nb5
  case yb5 => (intro wS hSw; have q0 := cell_of hSw 0; have q1 := cell_of hSw 1; have q2 := cell_of hSw 2; have q3 := cell_of hSw 3; go_simp; try rfl)
  try simp only [Act.put, List.setIfInBounds_toArray, List.set_cons_zero, List.set_cons_succ]
  refine wpAnyH_take (i := 6) (v := ?_) (ops_at rfl) (by kernel_rfl) (by kernel_rfl) (by kernel_rfl) (fun _ _ _ h => h) (Or.inl ⟨by rfl, ?yb6⟩) (by assumption) ?nb6
  case yb6 => (intro wS hSw; have q0 := cell_of hSw 0; have q1 := cell_of hSw 1; have q2 := cell_of hSw 2; have q3 := cell_of hSw 3; go_simp; try rfl)
  try simp only [Act.put, List.setIfInBounds_toArray, List.set_cons_zero, List.set_cons_succ]
  refine wpAnyH_done (by kernel_rfl) ?_ _
  go_wp2
  go_ret
  exact ⟨rfl, z0.trans ((Below.refl W.heap.size W).drew.trans hb |>.mono (by omega))⟩
end Go.Proofs.Ytoheoojpmndhoaa
