/-
  The written program's least room for so many boxes.
  Conditions: the list has at most 1048576 numbers.
-/
import Derived.Test.YtplohhmggfifkabRoomM
import Derived.Test.YtplohhmggfifkabFewLaw
import Derived.Test.YtplohhmggfifkabSumA
import Derived.Deep.RegionHeld3
namespace Go.Proofs.Ytplohhmggfifkab
set_option linter.unusedVariables false
open Go.RowKit

theorem areThings_b (A : Option Addr) (n c : Nat) (xs : List Int) (lo hi : Nat) (w : World) (hn : xs.length = n) (hlen : n ≤ 1048576) (hs : Seg w lo hi A xs) (hB : hi ≤ w.heap.size) (b : Bool) (hb : goodB xs = b) :
    Calls Try.prog 68 #[.slice A n c] w fun e w' => e = .returned (.bool b) ∧ Below w.heap.size w w' :=
  (implAreThings_any A n c xs lo hi w hn hlen hs b hb).mono fun e w' h => ⟨h.1, h.2 ▸ Below.refl _ _⟩

theorem max_b (A : Option Addr) (n c : Nat) (xs : List Int) (lo hi : Nat) (w : World) (hn : xs.length = n) (hs : Seg w lo hi A xs) (hB : hi ≤ w.heap.size) (hg : goodB xs = true) :
    Calls Try.prog 69 #[.slice A n c] w fun e w' => e = .returned (.int .i64 (mostOf xs)) ∧ Below w.heap.size w w' :=
  (slicesMax_any A n c xs lo hi w hn (by have := (goodB_at hg).2.1; omega) hs (by have := (goodB_at hg).1; omega) (goodB_at hg).2.2).mono fun e w' h => ⟨h.1, h.2 ▸ Below.refl _ _⟩

theorem sum_b (A : Option Addr) (n c : Nat) (xs : List Int) (lo hi : Nat) (w : World) (hn : xs.length = n) (hs : Seg w lo hi A xs) (hB : hi ≤ w.heap.size) (hg : goodB xs = true) :
    Calls Try.prog 71 #[.slice A n c] w fun e w' => e = .returned (.int .i64 xs.sum) ∧ Below w.heap.size w w' :=
  (sumOf_any A n c xs lo hi w hn hs hg).mono fun e w' h => ⟨h.1, h.2 ▸ Below.refl _ _⟩

/-- A number that is told only where the answer is yes. -/
def numR (p : Bool) (x : Int) : Int := if p = true then x else 0

theorem good_sum {xs : List Int} (h : goodB xs = true) : 1 ≤ mostOf xs ∧ mostOf xs ≤ xs.sum ∧ xs.sum ≤ 900 := by
  obtain ⟨h1, h9, hx⟩ := goodB_at h
  have hb := sum_bd h
  have hm : xs[0]'(by omega) ∈ xs := List.getElem_mem _
  have h2 := (hx _ hm).1
  have h3 := le_foldl_max (a := 0) hm
  have hpos : ∀ zs : List Int, (∀ y ∈ zs, 1 ≤ y) → 0 ≤ zs.sum ∧ ∀ z ∈ zs, z ≤ zs.sum := by
    intro zs
    induction zs with
    | nil => intro _; simp
    | cons z zs ih =>
      intro hz
      have g1 := hz z List.mem_cons_self
      have g2 := ih (fun y h => hz y (List.mem_cons_of_mem _ h))
      simp only [List.sum_cons]
      refine ⟨by omega, fun y h => ?_⟩
      rcases List.mem_cons.1 h with rfl | h
      · omega
      · have := g2.2 y h; omega
  have hp := hpos xs (fun y hy => (hx y hy).1)
  exact ⟨by unfold mostOf; omega, foldl_max_le hp.2 hp.1, hb.2⟩

theorem good_room {xs : List Int} (h : goodB xs = true) {W : Int} (h1 : mostOf xs ≤ W) (h2 : W ≤ 1000) : askedB xs W = true := askedB_true.2 ⟨h, h1, h2⟩

/-- What is searched for. -/
def enoughB (xs : List Int) (T s : Int) (h : Nat) : Bool := enoughR xs s (T + (h : Int))

set_option maxHeartbeats 2000000 in
theorem leastFn_any (A : Option Addr) (n c : Nat) (xs : List Int) (T s : Int) (h : Nat) (lo hi B2 B6 B3 : Nat) (w : World) (hn : xs.length = n) (hs : Seg w lo hi A xs) (hB : hi ≤ w.heap.size) (hT : 0 ≤ T) (hh : T + (h : Int) ≤ 1000) (hf : askedB xs (T + (h : Int)) = true)
    (k2 : w.cell? ⟨B2, 0, none⟩ = some (.slice A n c)) (k6 : w.cell? ⟨B6, 0, none⟩ = some (.int .i64 T)) (k3 : w.cell? ⟨B3, 0, none⟩ = some (.int .i64 s)) :
    Calls Try.prog 72 #[.int .i64 (h : Int), .pointer (some ⟨B2, 0, none⟩), .pointer (some ⟨B6, 0, none⟩), .pointer (some ⟨B3, 0, none⟩)] w fun e w' => e = .returned (.bool (enoughB xs T s h)) ∧ Below w.heap.size w w' := by
  have HN := Lib.hid hn
  have HG := Lib.hid hf
  obtain ⟨m, hm, _⟩ := least_asked hf
  have hm := hm rfl
  obtain ⟨p, hp⟩ : ∃ p, (bestP (T + (h : Int)) xs m).head? = some p := by
    have := best_pos hm
    cases hb : bestP (T + (h : Int)) xs m with
    | nil => rw [hb] at this; simp at this
    | cons p r => exact ⟨p, rfl⟩
  have HM := Lib.hid hm
  have HH := Lib.hid hp
  have hb0 : Below w.heap.size w w.drew := (Below.refl _ _).drew
  have hwr : IntKind.i64.wrap (T + (h : Int)) = T + (h : Int) := by
    rw [IntKind.wrap_i64]
    omega
  clear hn hf hm hp
  go_enter Try.func72, Try.ntmps72
  go_upto_region 1 with (fail)
  refine wp_region_held_drew (S := (fun wq => wq.cell? ⟨B2, 0, none⟩ = some (.slice A n c) ∧ wq.cell? ⟨B6, 0, none⟩ = some (.int .i64 T) ∧ wq.cell? ⟨B3, 0, none⟩ = some (.int .i64 s))) (by kernel_rfl) ⟨k2, k6, k3⟩ (fun hH0 => ?_)
  refine wpAnyH_take (i := 0) (v := ?_) (ops_at rfl) (by kernel_rfl) (by kernel_rfl) (by kernel_rfl) (fun _ _ _ h => h) (Or.inl ⟨by rfl, ?yr0⟩) (by assumption) ?nr0
  case yr0 => (intro wS hSw; (try dsimp only at hSw); go_simp; try rfl)
  try simp only [Act.put, List.setIfInBounds_toArray, List.set_cons_zero, List.set_cons_succ]
  refine wpAnyH_take (i := 1) (v := ?_) (ops_at rfl) (by kernel_rfl) (by kernel_rfl) (by kernel_rfl) (fun _ _ _ h => h) (Or.inl ⟨by rfl, ?yr1⟩) (by assumption) ?nr1
  case yr1 => (intro wS hSw; (try dsimp only at hSw); go_simp; try rfl)
  try simp only [Act.put, List.setIfInBounds_toArray, List.set_cons_zero, List.set_cons_succ]
  refine wpAnyH_take (i := 2) (v := ?_) (ops_at rfl) (by kernel_rfl) (by kernel_rfl) (by kernel_rfl) (fun _ _ _ h => h) (Or.inl ⟨by rfl, ?yr2⟩) (by assumption) ?nr2
  case yr2 => (intro wS hSw; (try dsimp only at hSw); go_simp; try rfl)
  try simp only [Act.put, List.setIfInBounds_toArray, List.set_cons_zero, List.set_cons_succ]
  refine wpAnyH_take (i := 3) (v := ?_) (ops_at rfl) (by kernel_rfl) (by kernel_rfl) (by kernel_rfl) (fun _ _ _ h => h) (Or.inl ⟨by rfl, ?yr3⟩) (by assumption) ?nr3
  case yr3 => (intro wS hSw; (try dsimp only at hSw); go_simp; try rfl)
  try simp only [Act.put, List.setIfInBounds_toArray, List.set_cons_zero, List.set_cons_succ]
  refine wpAnyH_take (i := 6) (v := ?_) (ops_at rfl) (by kernel_rfl) (by kernel_rfl) (by kernel_rfl) (fun _ _ _ h => h) (Or.inl ⟨by rfl, ?yr6⟩) (by assumption) ?nr6
  case yr6 => (intro wS hSw; (try dsimp only at hSw); go_simp; try rfl)
  try simp only [Act.put, List.setIfInBounds_toArray, List.set_cons_zero, List.set_cons_succ]
  refine wpAnyH_ready (rs := [4]) (by kernel_rfl) (by simp) ?_
  refine AllReadyH.cons (ops_at rfl) (fun K hK => ?_) AllReadyH.nil
  go_simp
  refine (searchFewest_any A n c xs (T + (h : Int)) lo hi _ HN.out (hs.below hb0 hB) (Nat.le_trans hB hb0.size) HG.out m HM.out p HH.out).mono ?_
  rintro e w3 ⟨Bo, Bp, FV, rfl, ⟨g, cc, rfl, _, _, _⟩, hb3⟩
  have hfd := field_few
  refine hK.out _ _ ⟨(hb3.cell (by have := cell_lt k2; exact this)).trans k2, (hb3.cell (by have := cell_lt k6; exact this)).trans k6, (hb3.cell (by have := cell_lt k3; exact this)).trans k3⟩ (fun hHr4 => ?_)
  clear hK K
  refine wpAnyH_take (i := 5) (v := ?_) (ops_at rfl) (by kernel_rfl) (by kernel_rfl) (by kernel_rfl) (fun _ _ _ h => h) (Or.inl ⟨by rfl, ?yr5⟩) (by assumption) ?nr5
  case yr5 => (intro wS hSw; (try dsimp only at hSw); go_simp; try rfl)
  try simp only [Act.put, List.setIfInBounds_toArray, List.set_cons_zero, List.set_cons_succ]
  refine wpAnyH_take (i := 7) (v := ?_) (ops_at rfl) (by kernel_rfl) (by kernel_rfl) (by kernel_rfl) (fun _ _ _ h => h) (Or.inl ⟨by rfl, ?yr7⟩) (by assumption) ?nr7
  case yr7 => (intro wS hSw; (try dsimp only at hSw); go_simp; try rfl)
  try simp only [Act.put, List.setIfInBounds_toArray, List.set_cons_zero, List.set_cons_succ]
  refine wpAnyH_take (i := 8) (v := ?_) (ops_at rfl) (by kernel_rfl) (by kernel_rfl) (by kernel_rfl) (fun _ _ _ h => h) (Or.inl ⟨by rfl, ?yr8⟩) (by assumption) ?nr8
  case yr8 => (intro wS hSw; (try dsimp only at hSw); go_simp; try rfl)
  try simp only [Act.put, List.setIfInBounds_toArray, List.set_cons_zero, List.set_cons_succ]
  refine wpAnyH_done (by kernel_rfl) ?_ _
  have hbb := hb0.trans (hb3.mono hb0.size)
  go_wp2
  go_ret
  exact ⟨by unfold enoughB; rw [enough_least HM.out]; rfl, hbb⟩

theorem enough_mono {xs : List Int} {T s : Int} (hg : goodB xs = true) (hT : mostOf xs = T) {x y : Nat} (hxy : x ≤ y) (hy : T + (y : Int) ≤ 1000) (h : enoughB xs T s x = true) : enoughB xs T s y = true := by
  exact enough_up (by omega) h

set_option maxHeartbeats 2000000 in
theorem search_any (A : Option Addr) (n c N : Nat) (xs : List Int) (T s : Int) (lo hi B2 B6 B3 : Nat) (w : World) (hn : xs.length = n) (hs : Seg w lo hi A xs) (hB : hi ≤ w.heap.size) (hg : goodB xs = true) (hT : mostOf xs = T) (hN : T + (N : Int) ≤ 900)
    (k2 : w.cell? ⟨B2, 0, none⟩ = some (.slice A n c)) (k6 : w.cell? ⟨B6, 0, none⟩ = some (.int .i64 T)) (k3 : w.cell? ⟨B3, 0, none⟩ = some (.int .i64 s)) :
    Calls Try.prog 70 #[.int .i64 (N : Int), .func (.func 72) #[] #[.pointer (some ⟨B2, 0, none⟩), .pointer (some ⟨B6, 0, none⟩), .pointer (some ⟨B3, 0, none⟩)]] w fun e w' =>
      ∃ i : Nat, e = .returned (.int .i64 (i : Int)) ∧ i ≤ N ∧ (∀ j, j < i → enoughB xs T s j = false) ∧ (i < N → enoughB xs T s i = true) ∧ Below w.heap.size w w' := by
  obtain ⟨g1, g2, g3⟩ := good_sum hg
  rw [hT] at g1 g2
  have HN := Lib.hid hn
  have HF := Lib.hid (fun (W : Int) (h1 : T ≤ W) (h2 : W ≤ 1000) => good_room hg (by rw [hT]; exact h1) h2)
  have HM := Lib.hid (fun (x y : Nat) (hxy : x ≤ y) (hy : T + (y : Int) ≤ 1000) h => enough_mono (s := s) hg hT hxy hy h)
  clear hn hg hT
  go_enter Try.func70, Try.ntmps70
  go_wp2
  go_loopw [5, 6, 7] (fun a b _ wr => ∃ i j : Nat, i ≤ j ∧ j ≤ N ∧ a = .int .i64 (i : Int) ∧ b = .int .i64 (j : Int) ∧ (∀ x, x < i → enoughB xs T s x = false) ∧ (j < N → enoughB xs T s j = true) ∧ Below w.heap.size w wr) (fun a b _ _ => (intOf b - intOf a).toNat)
  case atStart => exact ⟨0, N, Nat.zero_le _, Nat.le_refl _, rfl, rfl, fun x hx => by omega, fun h => by omega, Below.refl _ _⟩
  case round =>
    obtain ⟨i, j, hij, hjN, rfl, rfl, hlo, hup, hb⟩ := hrel
    have HLO := Lib.hid hlo
    have HUP := Lib.hid hup
    clear hlo hup
    by_cases hlt : i < j
    · obtain ⟨h, hh, hih, hhj⟩ : ∃ h : Nat, ((i : Int) + (j : Int)) / 2 = (h : Int) ∧ i ≤ h ∧ h < j := ⟨(i + j) / 2, by omega, by omega, by omega⟩
      have HH := Lib.hid hh
      clear hh
      have k2' := (hb.cell (by have := cell_lt k2; exact this)).trans k2
      have k6' := (hb.cell (by have := cell_lt k6; exact this)).trans k6
      have k3' := (hb.cell (by have := cell_lt k3; exact this)).trans k3
      have hcl := leastFn_any A n c xs T s h lo hi B2 B6 B3 wr HN.out (hs.below hb hB) (Nat.le_trans hB hb.size) (by omega) (by omega) (HF.out _ (by omega) (by omega)) k2' k6' k3'
      have HC := Lib.hid hcl
      clear hcl k2' k6' k3'
      go_wp2_with fail
      rw [HH.out]
      refine HC.out.mono ?_
      rintro e w1 ⟨rfl, hb1⟩
      have hbb := hb.trans (hb1.mono hb.size)
      obtain ⟨b, hbv⟩ : ∃ b, enoughB xs T s h = b := ⟨_, rfl⟩
      have HB := Lib.hid hbv
      rw [hbv]
      clear hbv
      cases b
      case true =>
        go_wp2
        go_roundw
        case rel => exact ⟨i, h, hih, by omega, rfl, rfl, HLO.out, fun _ => HB.out, hbb⟩
        case measure => simp [intOf]; omega
      case false =>
        go_wp2
        go_roundw
        case rel => exact ⟨h + 1, j, by omega, hjN, by go_num, rfl, fun x hx => by
          by_cases hxe : enoughB xs T s x = true
          · have := HM.out x h (by omega) (by omega) hxe
            rw [HB.out] at this; cases this
          · simpa using hxe, HUP.out, hbb⟩
        case measure => simp [intOf]; omega
    · obtain rfl : i = j := by omega
      go_wp2
      go_ret
      exact ⟨i, rfl, hjN, HLO.out, HUP.out, hb⟩

set_option maxHeartbeats 4000000 in
theorem impl_LeastRoom (A : Option Addr) (n c : Nat) (xs : List Int) (s : Int) (lo hi : Nat) (w : World) (hn : xs.length = n) (hlen : n ≤ 1048576)
    (hs : Seg w lo hi A xs) (hB : hi ≤ w.heap.size) (q : Bool) (hq : goodB xs = q) (r : Bool) (hr : inB s 1 9 = r) :
    Calls Try.prog 33 #[.slice A n c, .int .i64 s] w (RetI (numR (q && r) (leastR xs s)) (q && r) w) := by
  have HN := Lib.hid hn
  have HQ := Lib.hid hq
  have hba : Below w.heap.size w ((w.alloc (.cells #[.slice A n c] 22)).alloc (.cells #[.int .i64 s] 3)) := ((Below.refl _ _).alloc (Nat.le_refl _) _).alloc (by simp) _
  have hsa := hs.below hba hB
  have hBa := Nat.le_trans hB hba.size
  have hc2 : ((w.alloc (.cells #[.slice A n c] 22)).alloc (.cells #[.int .i64 s] 3)).heap[w.heap.size]? = some (.cells #[.slice A n c] 22 (0, 0)) := (alloc_old _ (by simp) _).trans (new_at _ _ rfl)
  have hc3 : ((w.alloc (.cells #[.slice A n c] 22)).alloc (.cells #[.int .i64 s] 3)).heap[w.heap.size + 1]? = some (.cells #[.int .i64 s] 3 (0, 0)) := new_at _ _ (by simp)
  have HC2 := Lib.hid hc2
  have HC3 := Lib.hid hc3
  have HSA := Lib.hid hsa
  have HBA := Lib.hid hba
  have HLE := Lib.hid hBa
  clear hsa hc2 hc3 hba hBa
  cases q
  · clear hn hq
    go_enter Try.func33, Try.ntmps33
    go_wp2_with fail
    refine (areThings_b _ _ _ xs lo hi _ HN.out hlen HSA.out HLE.out _ HQ.out).mono ?_
    rintro e w1 ⟨rfl, hb1⟩
    go_wp2
    go_ret2
    exact ⟨rfl, HBA.out.trans (hb1.mono HBA.out.size)⟩
  · cases r
    · rw [inB_false] at hr
      clear hn hq
      by_cases hlow : s < 1
      · clear hr
        go_enter Try.func33, Try.ntmps33
        go_wp2_with fail
        refine (areThings_b _ _ _ xs lo hi _ HN.out hlen HSA.out HLE.out _ HQ.out).mono ?_
        rintro e w1 ⟨rfl, hb1⟩
        have z3 := cell_of ((hb1.block _ (heap_lt HC3.out)).trans HC3.out) 0
        simp at z3
        go_wp2
        go_ret2
        exact ⟨rfl, HBA.out.trans (hb1.mono HBA.out.size)⟩
      · have hhigh : 9 < s := by omega
        clear hr
        go_enter Try.func33, Try.ntmps33
        go_wp2_with fail
        refine (areThings_b _ _ _ xs lo hi _ HN.out hlen HSA.out HLE.out _ HQ.out).mono ?_
        rintro e w1 ⟨rfl, hb1⟩
        have z3 := cell_of ((hb1.block _ (heap_lt HC3.out)).trans HC3.out) 0
        simp at z3
        go_wp2
        go_ret2
        exact ⟨rfl, HBA.out.trans (hb1.mono HBA.out.size)⟩
    · obtain ⟨hs1, hs12⟩ := inB_true.1 hr
      obtain ⟨g1, g2, g3⟩ := good_sum hq
      have hone := enough_all (b := s) (fun x hx => by have := (goodB_at hq).2.2 x hx; omega) (goodB_at hq).1 (Int.le_refl _) hs1
      have HP := Lib.hid hq
      have HLW := Lib.hid (fun (i : Nat) hi h1 h2 => leastR_eq (xs := xs) (b := s) (i := i) hi h1 h2)
      have hmore : (overOf xs : Int) = xs.sum - mostOf xs := by unfold overOf; omega
      obtain ⟨N, hNN⟩ : ∃ N, overOf xs = N := ⟨_, rfl⟩
      obtain ⟨T, hT⟩ : ∃ T, mostOf xs = T := ⟨_, rfl⟩
      obtain ⟨Z, hZ⟩ : ∃ Z, xs.sum = Z := ⟨_, rfl⟩
      rw [hNN, hT, hZ] at hmore
      rw [hT] at g1 g2 HLW
      rw [hZ] at g2 g3 hone
      rw [hNN] at HLW
      have HT := Lib.hid hT
      have HZ := Lib.hid hZ
      have HONE := Lib.hid hone
      have hwr : IntKind.i64.wrap (Z - T) = (N : Int) := by
        rw [← hmore, IntKind.wrap_i64]
        omega
      have hmf : ∀ (fn : Fn) (first cap : Array Value) (w : World), (Instr.makeFunc fn first cap).run Try.prog w = .ok (.func fn first cap) w := fun _ _ _ _ => rfl
      have HMO := Lib.hid hmore
      clear hn hq hr hNN hT hZ hone hmore
      go_enter Try.func33, Try.ntmps33
      go_wp2_with fail
      refine (areThings_b _ _ _ xs lo hi _ HN.out hlen HSA.out HLE.out _ HQ.out).mono ?_
      rintro e w1 ⟨rfl, hb1⟩
      have hbw1 := HBA.out.trans (hb1.mono HBA.out.size)
      have hx3 := (hb1.block _ (heap_lt HC3.out)).trans HC3.out
      have hx2 := (hb1.block _ (heap_lt HC2.out)).trans HC2.out
      have z3 := cell_of hx3 0
      have z2 := cell_of hx2 0
      simp at z3 z2
      have HX3 := Lib.hid hx3
      have HX2 := Lib.hid hx2
      clear hx3 hx2
      go_wp2_with fail
      refine (max_b _ _ _ xs lo hi _ HN.out (hs.below hbw1 hB) (Nat.le_trans hB hbw1.size) HP.out).mono ?_
      rintro e w2 ⟨rfl, hb2⟩
      rw [HT.out]
      clear z3 z2
      have hbw2 := hbw1.trans (hb2.mono hbw1.size)
      have hbz : Below w.heap.size w (w2.alloc (.cells #[.int .i64 T] 3)).drew := (hbw2.alloc hbw2.size _).drew
      obtain ⟨g6, hg6⟩ : ∃ g6, g6 = w2.heap.size := ⟨_, rfl⟩
      have z3 := cell_of ((alloc_old w2 (heap_lt ((hb2.block _ (heap_lt HX3.out)).trans HX3.out)) (.cells #[.int .i64 T] 3)).trans ((hb2.block _ (heap_lt HX3.out)).trans HX3.out)) 0
      have z2 := cell_of ((alloc_old w2 (heap_lt ((hb2.block _ (heap_lt HX2.out)).trans HX2.out)) (.cells #[.int .i64 T] 3)).trans ((hb2.block _ (heap_lt HX2.out)).trans HX2.out)) 0
      have z6 := cell_of (new_at w2 (.cells #[.int .i64 T] 3) hg6) 0
      simp at z3 z2 z6
      go_upto_region 4 with (fail)
      rw [← hg6]
      have HG6 := Lib.hid hg6
      clear hg6
      refine wp_region_held_drew (S := (fun wq => wq.cell? ⟨w.heap.size, 0, none⟩ = some (.slice A n c) ∧ wq.cell? ⟨w.heap.size + 1, 0, none⟩ = some (.int .i64 s) ∧ wq.cell? ⟨g6, 0, none⟩ = some (.int .i64 T) ∧ Below w.heap.size w wq)) (by kernel_rfl) ⟨z2, z3, z6, hbz⟩ (fun hH0 => ?_)
      refine wpAnyH_take (i := 0) (v := ?_) (ops_at rfl) (by kernel_rfl) (by kernel_rfl) (by kernel_rfl) (fun _ _ _ h => h) (Or.inl ⟨by rfl, ?yr0⟩) (by assumption) ?nr0
      case yr0 => (intro wS hSw; (try dsimp only at hSw); go_simp; try rfl)
      try simp only [Act.put, List.setIfInBounds_toArray, List.set_cons_zero, List.set_cons_succ]
      refine wpAnyH_take (i := 2) (v := ?_) (ops_at rfl) (by kernel_rfl) (by kernel_rfl) (by kernel_rfl) (fun _ _ _ h => h) (Or.inl ⟨by rfl, ?yr2⟩) (by assumption) ?nr2
      case yr2 => (intro wS hSw; (try dsimp only at hSw); go_simp; try rfl)
      try simp only [Act.put, List.setIfInBounds_toArray, List.set_cons_zero, List.set_cons_succ]
      refine wpAnyH_take (i := 4) (v := ?_) (ops_at rfl) (by kernel_rfl) (by kernel_rfl) (by kernel_rfl) (fun _ _ _ h => h) (Or.inl ⟨by rfl, ?yr4⟩) (by assumption) ?nr4
      case yr4 => (intro wS hSw; (try dsimp only at hSw); go_simp; try rfl)
      try simp only [Act.put, List.setIfInBounds_toArray, List.set_cons_zero, List.set_cons_succ]
      refine wpAnyH_ready (rs := [1]) (by kernel_rfl) (by simp) ?_
      refine AllReadyH.cons (ops_at rfl) (fun K hK => ?_) AllReadyH.nil
      go_simp
      refine (sum_b _ _ _ xs lo hi _ HN.out (hs.below hH0.2.2.2 hB) (Nat.le_trans hB hH0.2.2.2.size) HP.out).mono ?_
      rintro e w5 ⟨rfl, hb5⟩
      rw [HZ.out]
      refine hK.out _ _ ⟨(hb5.cell (by have := cell_lt hH0.1; exact this)).trans hH0.1, (hb5.cell (by have := cell_lt hH0.2.1; exact this)).trans hH0.2.1, (hb5.cell (by have := cell_lt hH0.2.2.1; exact this)).trans hH0.2.2.1, hH0.2.2.2.trans (hb5.mono hH0.2.2.2.size)⟩ (fun hHr1 => ?_)
      clear hK K
      refine wpAnyH_take (i := 3) (v := ?_) (ops_at rfl) (by kernel_rfl) (by kernel_rfl) (by kernel_rfl) (fun _ _ _ h => h) (Or.inl ⟨by rfl, ?yr3⟩) (by assumption) ?nr3
      case yr3 => (intro wS hSw; (try dsimp only at hSw); go_simp; try rfl)
      try simp only [Act.put, List.setIfInBounds_toArray, List.set_cons_zero, List.set_cons_succ]
      refine wpAnyH_ready (rs := [5]) (by kernel_rfl) (by simp) ?_
      refine AllReadyH.cons (ops_at rfl) (fun K hK => ?_) AllReadyH.nil
      go_simp
      refine (search_any A n c N xs T s lo hi w.heap.size g6 (w.heap.size + 1) _ HN.out (hs.below hHr1.2.2.2 hB) (Nat.le_trans hB hHr1.2.2.2.size) HQ.out HT.out (by have := HMO.out; omega) hHr1.1 hHr1.2.2.1 hHr1.2.1).mono ?_
      rintro e w6 ⟨i, rfl, hiN, hi1, hi2, hb6⟩
      refine hK.out _ _ ⟨(hb6.cell (by have := cell_lt hHr1.1; exact this)).trans hHr1.1, (hb6.cell (by have := cell_lt hHr1.2.1; exact this)).trans hHr1.2.1, (hb6.cell (by have := cell_lt hHr1.2.2.1; exact this)).trans hHr1.2.2.1, hHr1.2.2.2.trans (hb6.mono hHr1.2.2.2.size)⟩ (fun hHr5 => ?_)
      clear hK K
      refine wpAnyH_take (i := 6) (v := ?_) (ops_at rfl) (by kernel_rfl) (by kernel_rfl) (by kernel_rfl) (fun _ _ _ h => h) (Or.inl ⟨by rfl, ?yr6⟩) (by assumption) ?nr6
      case yr6 => (intro wS hSw; (try dsimp only at hSw); go_simp; try rfl)
      try simp only [Act.put, List.setIfInBounds_toArray, List.set_cons_zero, List.set_cons_succ]
      refine wpAnyH_done (by kernel_rfl) ?_ _
      have hmo := HMO.out
      have hz5 := HONE.out
      have hv := HLW.out i hiN (by
        rcases Nat.lt_or_ge i N with h | h
        · exact hi2 h
        · rw [show T + (i : Int) = Z by omega]
          exact hz5) (fun j hj => hi1 j hj)
      have HV := Lib.hid hv
      have hfin := hHr5.2.2.2
      have z6n := hHr5.2.2.1
      clear hv hi1 hi2 hz5
      go_wp2
      go_ret2
      exact ⟨by rw [HV.out]; rfl, hfin⟩
end Go.Proofs.Ytplohhmggfifkab
