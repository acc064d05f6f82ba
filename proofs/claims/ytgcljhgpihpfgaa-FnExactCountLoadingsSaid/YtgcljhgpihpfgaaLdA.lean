/-
  Both programs' answers on free loadings.
  Conditions: none.
-/
import Derived.Test.YtgcljhgpihpfgaaLdS
import Derived.Test.YtgcljhgpihpfgaaLdF
import Derived.Deep.RegionHeld3
namespace Go.Proofs.Ytgcljhgpihpfgaa
set_option linter.unusedVariables false
open Go.RowKit

def bestS (l : List UInt8) : ByteArray := ⟨(srtL l).toArray⟩
theorem bestS_list (l : List UInt8) : (bestS l).toList = srtL l := by rw [bestS, ByteArray.toList_mk]
def freeB (l : List UInt8) : Bool := srtL l == l
theorem freeB_one {s o : ByteArray} {v : Bool} (ho : bestS s.data.toList = o) (hv : freeB s.data.toList = v) : (o.toList == s.toList) = v := by
  rw [← ho, bestS_list, ByteArray.toList_eq]; exact hv
theorem freeB_two {s o : ByteArray} {v : Bool} (ho : bestS s.data.toList = o) (hv : freeB s.data.toList = v) : (s.toList == o.toList) = v := by
  rw [← freeB_one ho hv, BEq.comm]
/-- How many of the first parts are free. -/
def cntF (l : List UInt8) : Nat → Nat
  | 0 => 0
  | k + 1 => cntF l k + (if freeB (l.take k) = true then 1 else 0)
theorem cntF_le (l : List UInt8) (k : Nat) : cntF l k ≤ k := by
  induction k with
  | zero => simp [cntF]
  | succ k ih => rw [cntF]; split <;> omega
theorem part_list (s : ByteArray) (k : Nat) : (s.extract 0 k).data.toList = s.data.toList.take k := by
  rw [ByteArray.data_extract, Array.toList_extract, List.extract_eq_take_drop]; simp
theorem part_size (s : ByteArray) {k : Nat} (h : k ≤ s.size) : (s.extract 0 k).size = k := by
  have h1 := byte_len (s.extract 0 k)
  rw [part_list, List.length_take, byte_len] at h1
  omega
theorem ldB_size {s : ByteArray} (h : ldB s.data.toList = true) : s.size ≤ 12 := by have := (ldB_true.1 h).1; rw [byte_len] at this; exact this

set_option maxHeartbeats 1000000 in
theorem spec_BestLoading (s : ByteArray) (q : Bool) (w : World) (hq : ldB s.data.toList = q) (v : ByteArray) (hv : bestS s.data.toList = v) :
    Calls Try.prog 33 #[.string s] w fun e w' => e = .returned (.tuple #[.string (if q then v else ⟨#[]⟩), .bool q]) ∧ Below w.heap.size w w' := by
  have HQ := Lib.hid hq
  clear hq
  have HC := Lib.hid (fun h : ldB s.data.toList = true => fun w => (ldSorted_any s w (ldB_size h) : Calls Try.prog 49 #[.string s] w _))
  change Hid (∀ _ : _, ∀ w, Calls _ _ _ w fun e w' => e = .returned (.string (bestS s.data.toList)) ∧ _) at HC
  rw [hv] at HC
  clear hv
  cases q
  · go_enter Try.func33, Try.ntmps33
    go_wp2_with fail
    refine (ldGood_any s _ HQ.out _).mono ?_
    rintro e w1 ⟨rfl, rfl⟩
    go_wp2
    go_ret2
    exact ⟨rfl, Below.refl _ _⟩
  · go_enter Try.func33, Try.ntmps33
    go_wp2_with fail
    refine (ldGood_any s _ HQ.out _).mono ?_
    rintro e w1 ⟨rfl, rfl⟩
    go_wp2_with fail
    refine (HC.out HQ.out _).mono ?_
    rintro e w2 ⟨rfl, rfl⟩
    go_wp2
    go_ret2
    exact ⟨rfl, Below.refl _ _⟩

set_option maxHeartbeats 1000000 in
theorem spec_IsFreeLoading (s : ByteArray) (q : Bool) (w : World) (hq : ldB s.data.toList = q) (v : Bool) (hv : freeB s.data.toList = v) :
    Calls Try.prog 31 #[.string s] w fun e w' => e = .returned (.tuple #[.bool (if q then v else false), .bool q]) ∧ Below w.heap.size w w' := by
  have HQ := Lib.hid hq
  clear hq
  obtain ⟨o, ho⟩ : ∃ o, bestS s.data.toList = o := ⟨_, rfl⟩
  have hb1 := freeB_one ho hv
  have hb2 := freeB_two ho hv
  have HC := Lib.hid (fun h : ldB s.data.toList = true => fun w => (ldSorted_any s w (ldB_size h) : Calls Try.prog 49 #[.string s] w _))
  change Hid (∀ _ : _, ∀ w, Calls _ _ _ w fun e w' => e = .returned (.string (bestS s.data.toList)) ∧ _) at HC
  rw [ho] at HC
  clear ho hv
  cases q
  · go_enter Try.func31, Try.ntmps31
    go_wp2_with fail
    refine (ldGood_any s _ HQ.out _).mono ?_
    rintro e w1 ⟨rfl, rfl⟩
    go_wp2
    go_ret2
    exact ⟨rfl, Below.refl _ _⟩
  · go_enter Try.func31, Try.ntmps31
    go_wp2_with fail
    refine (ldGood_any s _ HQ.out _).mono ?_
    rintro e w1 ⟨rfl, rfl⟩
    go_wp2_with fail
    refine (HC.out HQ.out _).mono ?_
    rintro e w2 ⟨rfl, rfl⟩
    go_wp2
    go_ret2
    exact ⟨rfl, Below.refl _ _⟩

set_option maxHeartbeats 1000000 in
theorem impl_BestLoading (s : ByteArray) (q : Bool) (w : World) (hq : ldB s.data.toList = q) (v : ByteArray) (hv : bestS s.data.toList = v) :
    Calls Try.prog 34 #[.string s] w fun e w' => e = .returned (.tuple #[.string (if q then v else ⟨#[]⟩), .bool q]) ∧ Below w.heap.size w w' := by
  have HQ := Lib.hid hq
  clear hq
  have HC := Lib.hid (fun h : ldB s.data.toList = true => fun w => (free_any s w h : Calls Try.prog 50 #[.string s] w _))
  change Hid (∀ _ : _, ∀ w, Calls _ _ _ w fun e w' => e = .returned (.string (bestS s.data.toList)) ∧ _) at HC
  rw [hv] at HC
  clear hv
  cases q
  · go_enter Try.func34, Try.ntmps34
    go_wp2_with fail
    refine (impl_IsLoading s _ _ HQ.out).mono ?_
    rintro e w1 ⟨rfl, hb1⟩
    go_wp2
    go_ret2
    exact ⟨rfl, hb1⟩
  · go_enter Try.func34, Try.ntmps34
    go_wp2_with fail
    refine (impl_IsLoading s _ _ HQ.out).mono ?_
    rintro e w1 ⟨rfl, hb1'⟩
    go_wp2_with fail
    refine (HC.out HQ.out _).mono ?_
    rintro e w2 ⟨rfl, hb2'⟩
    go_wp2
    go_ret2
    exact ⟨rfl, hb1'.trans (hb2'.mono hb1'.size)⟩

set_option maxHeartbeats 1000000 in
theorem impl_IsFreeLoading (s : ByteArray) (q : Bool) (w : World) (hq : ldB s.data.toList = q) (v : Bool) (hv : freeB s.data.toList = v) :
    Calls Try.prog 32 #[.string s] w fun e w' => e = .returned (.tuple #[.bool (if q then v else false), .bool q]) ∧ Below w.heap.size w w' := by
  have HQ := Lib.hid hq
  clear hq
  obtain ⟨o, ho⟩ : ∃ o, bestS s.data.toList = o := ⟨_, rfl⟩
  have hb1 := freeB_one ho hv
  have hb2 := freeB_two ho hv
  have HC := Lib.hid (fun h : ldB s.data.toList = true => fun w => (free_any s w h : Calls Try.prog 50 #[.string s] w _))
  change Hid (∀ _ : _, ∀ w, Calls _ _ _ w fun e w' => e = .returned (.string (bestS s.data.toList)) ∧ _) at HC
  rw [ho] at HC
  clear ho hv
  cases q
  · go_enter Try.func32, Try.ntmps32
    go_wp2_with fail
    refine (impl_IsLoading s _ _ HQ.out).mono ?_
    rintro e w1 ⟨rfl, hb1⟩
    go_wp2
    go_ret2
    exact ⟨rfl, hb1⟩
  · go_enter Try.func32, Try.ntmps32
    go_wp2_with fail
    refine (impl_IsLoading s _ _ HQ.out).mono ?_
    rintro e w1 ⟨rfl, hb1'⟩
    go_wp2_with fail
    refine (HC.out HQ.out _).mono ?_
    rintro e w2 ⟨rfl, hb2'⟩
    go_wp2
    go_ret2
    exact ⟨rfl, hb1'.trans (hb2'.mono hb1'.size)⟩

set_option maxHeartbeats 1000000 in
theorem spec_CountFree (s : ByteArray) (q : Bool) (w : World) (hq : ldB s.data.toList = q) (v : Int) (hv : (cntF s.data.toList (s.size + 1) : Int) = v) :
    Calls Try.prog 35 #[.string s] w fun e w' => e = .returned (.tuple #[.int .i64 (if q then v else 0), .bool q]) ∧ Below w.heap.size w w' := by
  have HQ := Lib.hid hq
  clear hq
  have HV := Lib.hid hv
  clear hv
  cases q
  · go_enter Try.func35, Try.ntmps35
    go_wp2_with fail
    refine (ldGood_any s _ HQ.out _).mono ?_
    rintro e w1 ⟨rfl, rfl⟩
    go_wp2
    go_ret2
    exact ⟨rfl, Below.refl _ _⟩
  · have hsz := ldB_size HQ.out
    go_enter Try.func35, Try.ntmps35
    go_wp2_with fail
    refine (ldGood_any s _ HQ.out _).mono ?_
    rintro e w1 ⟨rfl, rfl⟩
    go_wp2
    go_loopw [4, 5] (fun n i wr => ∃ k : Nat, k ≤ s.size + 1 ∧ i = .int .i64 (k : Int) ∧ n = .int .i64 (cntF s.data.toList k : Nat) ∧ Below w.heap.size w wr) (fun _ i _ => s.size + 1 - (intOf i).toNat)
    case atStart => exact ⟨0, by omega, rfl, rfl, Below.refl _ _⟩
    case round =>
      obtain ⟨k, hk, rfl, rfl, hbr⟩ := hrel
      have hcl := cntF_le s.data.toList k
      by_cases hlt : k ≤ s.size
      · have hpl := part_list s k
        have hps := part_size s hlt
        obtain ⟨v, hv⟩ : ∃ v, freeB (s.data.toList.take k) = v := ⟨_, rfl⟩
        have hst : cntF s.data.toList (k + 1) = cntF s.data.toList k + (if v = true then 1 else 0) := by rw [cntF, hv]
        have hgood := ldB_take HQ.out k
        have d1 : ((k : Int) ≤ (s.size : Int)) := by omega
        have d2 : decide ((k : Int) < (s.size : Int) + 1) = true := decide_eq_true (by omega)
        obtain ⟨p, hp⟩ : ∃ p, s.extract 0 k = p := ⟨_, rfl⟩
        have hsl := fun W => run_slice_string_to_if (P := Try.prog) W 9 s .i64 (k : Int) Try.underlying9
        simp only [d1, Int.natCast_nonneg, and_self, if_true, Int.toNat_natCast] at hsl
        rw [hp] at hpl hps hsl
        rw [← hpl] at hv hgood
        obtain ⟨o, ho⟩ : ∃ o, bestS p.data.toList = o := ⟨_, rfl⟩
        have hb1 := freeB_one ho hv
        have hb2 := freeB_two ho hv
        have hc : Calls Try.prog 49 #[.string p] wr.drew fun e w' => e = .returned (.string (bestS p.data.toList)) ∧ wr.drew = w' := ldSorted_any p _ (by omega)
        rw [ho] at hc
        have HC := Lib.hid hc
        have HST := Lib.hid hst
        clear hc hst hgood ho hv hpl hps
        generalize hn : cntF s.data.toList k = n at *
        have HN := Lib.hid hn
        clear hn
        cases v
        · go_wp2_with fail
          refine wp_region_held_drew (S := (fun _ => True)) (by kernel_rfl) trivial (fun hH0 => ?_)
          refine wpAnyH_take (i := 0) (v := ?_) (ops_at rfl) (by kernel_rfl) (by kernel_rfl) (by kernel_rfl) (fun _ _ _ h => h) (Or.inl ⟨by rfl, ?ya0⟩) (by assumption) ?na0
          case ya0 => (intro wS hSw; (try dsimp only at hSw); go_simp; try rfl)
          try simp only [Act.put, List.setIfInBounds_toArray, List.set_cons_zero, List.set_cons_succ]
          refine wpAnyH_take (i := 1) (v := ?_) (ops_at rfl) (by kernel_rfl) (by kernel_rfl) (by kernel_rfl) (fun _ _ _ h => h) (Or.inl ⟨by rfl, ?ya1⟩) (by assumption) ?na1
          case ya1 => (intro wS hSw; (try dsimp only at hSw); go_simp; try rfl)
          try simp only [Act.put, List.setIfInBounds_toArray, List.set_cons_zero, List.set_cons_succ]
          refine wpAnyH_take (i := 2) (v := ?_) (ops_at rfl) (by kernel_rfl) (by kernel_rfl) (by kernel_rfl) (fun _ _ _ h => h) (Or.inl ⟨by rfl, ?ya2⟩) (by assumption) ?na2
          case ya2 => (intro wS hSw; (try dsimp only at hSw); go_simp; try rfl)
          try simp only [Act.put, List.setIfInBounds_toArray, List.set_cons_zero, List.set_cons_succ]
          refine wpAnyH_take (i := 4) (v := ?_) (ops_at rfl) (by kernel_rfl) (by kernel_rfl) (by kernel_rfl) (fun _ _ _ h => h) (Or.inl ⟨by rfl, ?ya4⟩) (by assumption) ?na4
          case ya4 => (intro wS hSw; (try dsimp only at hSw); go_simp; try rfl)
          try simp only [Act.put, List.setIfInBounds_toArray, List.set_cons_zero, List.set_cons_succ]
          refine wpAnyH_take (i := 5) (v := ?_) (ops_at rfl) (by kernel_rfl) (by kernel_rfl) (by kernel_rfl) (fun _ _ _ h => h) (Or.inl ⟨by rfl, ?ya5⟩) (by assumption) ?na5
          case ya5 => (intro wS hSw; (try dsimp only at hSw); go_simp; try rfl)
          try simp only [Act.put, List.setIfInBounds_toArray, List.set_cons_zero, List.set_cons_succ]
          refine wpAnyH_take (i := 6) (v := ?_) (ops_at rfl) (by kernel_rfl) (by kernel_rfl) (by kernel_rfl) (fun _ _ _ h => h) (Or.inl ⟨by rfl, ?ya6⟩) (by assumption) ?na6
          case ya6 => (intro wS hSw; (try dsimp only at hSw); go_simp; try rfl)
          try simp only [Act.put, List.setIfInBounds_toArray, List.set_cons_zero, List.set_cons_succ]
          refine wpAnyH_ready (rs := [3]) (by kernel_rfl) (by simp) ?_
          refine AllReadyH.cons (ops_at rfl) (fun K hK => ?_) AllReadyH.nil
          go_simp
          refine HC.out.mono ?_
          rintro e w2 ⟨rfl, rfl⟩
          refine hK.out _ _ trivial (fun hHa3 => ?_)
          clear hK K
          refine wpAnyH_take (i := 7) (v := ?_) (ops_at rfl) (by kernel_rfl) (by kernel_rfl) (by kernel_rfl) (fun _ _ _ h => h) (Or.inl ⟨by rfl, ?ya7⟩) (by assumption) ?na7
          case ya7 => (intro wS hSw; (try dsimp only at hSw); go_simp; try rfl)
          try simp only [Act.put, List.setIfInBounds_toArray, List.set_cons_zero, List.set_cons_succ]
          refine wpAnyH_done (by kernel_rfl) ?_ _
          go_wp2
          go_roundw
          case rel => exact ⟨k + 1, by omega, by go_num, by rw [HST.out]; first | rfl | (push_cast; rfl) | simp, hbr.drew⟩
          case measure => simp [intOf]; omega
        · go_wp2_with fail
          refine wp_region_held_drew (S := (fun _ => True)) (by kernel_rfl) trivial (fun hH0 => ?_)
          refine wpAnyH_take (i := 0) (v := ?_) (ops_at rfl) (by kernel_rfl) (by kernel_rfl) (by kernel_rfl) (fun _ _ _ h => h) (Or.inl ⟨by rfl, ?yb0⟩) (by assumption) ?nb0
          case yb0 => (intro wS hSw; (try dsimp only at hSw); go_simp; try rfl)
          try simp only [Act.put, List.setIfInBounds_toArray, List.set_cons_zero, List.set_cons_succ]
          refine wpAnyH_take (i := 1) (v := ?_) (ops_at rfl) (by kernel_rfl) (by kernel_rfl) (by kernel_rfl) (fun _ _ _ h => h) (Or.inl ⟨by rfl, ?yb1⟩) (by assumption) ?nb1
          case yb1 => (intro wS hSw; (try dsimp only at hSw); go_simp; try rfl)
          try simp only [Act.put, List.setIfInBounds_toArray, List.set_cons_zero, List.set_cons_succ]
          refine wpAnyH_take (i := 2) (v := ?_) (ops_at rfl) (by kernel_rfl) (by kernel_rfl) (by kernel_rfl) (fun _ _ _ h => h) (Or.inl ⟨by rfl, ?yb2⟩) (by assumption) ?nb2
          case yb2 => (intro wS hSw; (try dsimp only at hSw); go_simp; try rfl)
          try simp only [Act.put, List.setIfInBounds_toArray, List.set_cons_zero, List.set_cons_succ]
          refine wpAnyH_take (i := 4) (v := ?_) (ops_at rfl) (by kernel_rfl) (by kernel_rfl) (by kernel_rfl) (fun _ _ _ h => h) (Or.inl ⟨by rfl, ?yb4⟩) (by assumption) ?nb4
          case yb4 => (intro wS hSw; (try dsimp only at hSw); go_simp; try rfl)
          try simp only [Act.put, List.setIfInBounds_toArray, List.set_cons_zero, List.set_cons_succ]
          refine wpAnyH_take (i := 5) (v := ?_) (ops_at rfl) (by kernel_rfl) (by kernel_rfl) (by kernel_rfl) (fun _ _ _ h => h) (Or.inl ⟨by rfl, ?yb5⟩) (by assumption) ?nb5
          case yb5 => (intro wS hSw; (try dsimp only at hSw); go_simp; try rfl)
          try simp only [Act.put, List.setIfInBounds_toArray, List.set_cons_zero, List.set_cons_succ]
          refine wpAnyH_take (i := 6) (v := ?_) (ops_at rfl) (by kernel_rfl) (by kernel_rfl) (by kernel_rfl) (fun _ _ _ h => h) (Or.inl ⟨by rfl, ?yb6⟩) (by assumption) ?nb6
          case yb6 => (intro wS hSw; (try dsimp only at hSw); go_simp; try rfl)
          try simp only [Act.put, List.setIfInBounds_toArray, List.set_cons_zero, List.set_cons_succ]
          refine wpAnyH_ready (rs := [3]) (by kernel_rfl) (by simp) ?_
          refine AllReadyH.cons (ops_at rfl) (fun K hK => ?_) AllReadyH.nil
          go_simp
          refine HC.out.mono ?_
          rintro e w2 ⟨rfl, rfl⟩
          refine hK.out _ _ trivial (fun hHb3 => ?_)
          clear hK K
          refine wpAnyH_take (i := 7) (v := ?_) (ops_at rfl) (by kernel_rfl) (by kernel_rfl) (by kernel_rfl) (fun _ _ _ h => h) (Or.inl ⟨by rfl, ?yb7⟩) (by assumption) ?nb7
          case yb7 => (intro wS hSw; (try dsimp only at hSw); go_simp; try rfl)
          try simp only [Act.put, List.setIfInBounds_toArray, List.set_cons_zero, List.set_cons_succ]
          refine wpAnyH_done (by kernel_rfl) ?_ _
          go_wp2
          go_roundw
          case rel => exact ⟨k + 1, by omega, by go_num, by rw [HST.out]; first | rfl | (push_cast; rfl) | simp, hbr.drew⟩
          case measure => simp [intOf]; omega
      · obtain rfl : k = s.size + 1 := by omega
        have d1 : decide (((s.size + 1 : Nat) : Int) ≤ (s.size : Int)) = false := decide_eq_false (by omega)
        have hvv := HV.out
        have d2 : decide (((s.size + 1 : Nat) : Int) < (s.size : Int) + 1) = false := decide_eq_false (by omega)
        generalize cntF s.data.toList (s.size + 1) = n at *
        subst hvv
        go_wp2
        go_ret2
        exact ⟨rfl, hbr⟩

set_option maxHeartbeats 1000000 in
theorem impl_CountFree (s : ByteArray) (q : Bool) (w : World) (hq : ldB s.data.toList = q) (v : Int) (hv : (cntF s.data.toList (s.size + 1) : Int) = v) :
    Calls Try.prog 36 #[.string s] w fun e w' => e = .returned (.tuple #[.int .i64 (if q then v else 0), .bool q]) ∧ Below w.heap.size w w' := by
  have HQ := Lib.hid hq
  clear hq
  have HV := Lib.hid hv
  clear hv
  cases q
  · go_enter Try.func36, Try.ntmps36
    go_wp2_with fail
    refine (impl_IsLoading s _ _ HQ.out).mono ?_
    rintro e w1 ⟨rfl, hb1⟩
    go_wp2
    go_ret2
    exact ⟨rfl, hb1⟩
  · have hsz := ldB_size HQ.out
    go_enter Try.func36, Try.ntmps36
    go_wp2_with fail
    refine (impl_IsLoading s _ _ HQ.out).mono ?_
    rintro e w1 ⟨rfl, hb1⟩
    go_wp2
    go_loopw [4, 13] (fun n i wr => ∃ k : Nat, k ≤ s.size + 1 ∧ i = .int .i64 (k : Int) ∧ n = .int .i64 (cntF s.data.toList k : Nat) ∧ Below w.heap.size w wr) (fun _ i _ => s.size + 1 - (intOf i).toNat)
    case atStart => exact ⟨0, by omega, rfl, rfl, hb1⟩
    case round =>
      obtain ⟨k, hk, rfl, rfl, hbr⟩ := hrel
      have hcl := cntF_le s.data.toList k
      by_cases hlt : k ≤ s.size
      · have hpl := part_list s k
        have hps := part_size s hlt
        obtain ⟨v, hv⟩ : ∃ v, freeB (s.data.toList.take k) = v := ⟨_, rfl⟩
        have hst : cntF s.data.toList (k + 1) = cntF s.data.toList k + (if v = true then 1 else 0) := by rw [cntF, hv]
        have hgood := ldB_take HQ.out k
        have d1 : ((k : Int) ≤ (s.size : Int)) := by omega
        have d2 : decide ((k : Int) < (s.size : Int) + 1) = true := decide_eq_true (by omega)
        obtain ⟨p, hp⟩ : ∃ p, s.extract 0 k = p := ⟨_, rfl⟩
        have hsl := fun W => run_slice_string_to_if (P := Try.prog) W 9 s .i64 (k : Int) Try.underlying9
        simp only [d1, Int.natCast_nonneg, and_self, if_true, Int.toNat_natCast] at hsl
        rw [hp] at hpl hps hsl
        rw [← hpl] at hv hgood
        obtain ⟨o, ho⟩ : ∃ o, bestS p.data.toList = o := ⟨_, rfl⟩
        have hb1 := freeB_one ho hv
        have hb2 := freeB_two ho hv
        have hc : Calls Try.prog 50 #[.string p] wr fun e w' => e = .returned (.string (bestS p.data.toList)) ∧ Below wr.heap.size wr w' := free_any p _ hgood
        rw [ho] at hc
        have HC := Lib.hid hc
        have HST := Lib.hid hst
        clear hc hst hgood ho hv hpl hps
        generalize hn : cntF s.data.toList k = n at *
        have HN := Lib.hid hn
        clear hn
        have HBR := Lib.hid hbr
        clear hbr
        cases v
        all_goals
          go_wp2_with fail
          refine HC.out.mono ?_
          rintro e w2 ⟨rfl, hb2'⟩
          have hbx := HBR.out.trans (hb2'.mono HBR.out.size)
          go_wp2
          go_roundw
          case rel => exact ⟨k + 1, by omega, by go_num, by rw [HST.out]; first | rfl | (push_cast; rfl) | simp, hbx⟩
          case measure => simp [intOf]; omega
      · obtain rfl : k = s.size + 1 := by omega
        have d1 : decide (((s.size + 1 : Nat) : Int) ≤ (s.size : Int)) = false := decide_eq_false (by omega)
        have hvv := HV.out
        have d2 : decide (((s.size + 1 : Nat) : Int) < (s.size : Int) + 1) = false := decide_eq_false (by omega)
        generalize cntF s.data.toList (s.size + 1) = n at *
        subst hvv
        go_wp2
        go_ret2
        exact ⟨rfl, hbr⟩

end Go.Proofs.Ytgcljhgpihpfgaa
