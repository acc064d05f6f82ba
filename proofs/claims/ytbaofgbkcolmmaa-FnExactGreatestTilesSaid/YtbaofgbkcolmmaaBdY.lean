/-
  Both programs' greatest tiles.
  Conditions: none.
-/
import Derived.Test.YtbaofgbkcolmmaaBdU
import Derived.Test.YtbaofgbkcolmmaaBdC
namespace Go.Proofs.Ytbaofgbkcolmmaa
set_option linter.unusedVariables false
open Go.RowKit

/-- Two numbers and a bool are answered. -/
def RetIIB (u v : Int) (q : Bool) (w : World) (e : Ending) (w' : World) : Prop := e = .returned (.tuple #[.int .i64 u, .int .i64 v, .bool q]) ∧ Below w.heap.size w w'
/-- The side of the greatest tiles, and how many they are. -/
def tlS (x y : Int) : Int := if bdB x y = true then ((Nat.gcd x.toNat y.toNat : Nat) : Int) else 0
def tlN (x y : Int) : Int := if bdB x y = true then ((x.toNat * y.toNat / (Nat.gcd x.toNat y.toNat * Nat.gcd x.toNat y.toNat) : Nat) : Int) else 0
theorem tl_no {x y : Int} (h : bdB x y = false) : tlS x y = 0 ∧ tlN x y = 0 := by simp [tlS, tlN, h]
theorem tl_yes {a b : Nat} (h : bdB (a : Int) (b : Int) = true) : tlS (a : Int) (b : Int) = ((Nat.gcd a b : Nat) : Int) ∧ tlN (a : Int) (b : Int) = ((a * b / (Nat.gcd a b * Nat.gcd a b) : Nat) : Int) := by simp [tlS, tlN, h]

set_option maxRecDepth 100000 in
set_option maxHeartbeats 1000000 in
theorem spec_GreatestTiles (x y : Int) (w : World) (q : Bool) (hq : bdB x y = q) (u v : Int) (hu : tlS x y = u) (hv : tlN x y = v) :
    Calls Try.prog 27 #[.int .i64 x, .int .i64 y] w (RetIIB u v q w) := by
  cases q
  · obtain rfl : u = 0 := by rw [← hu]; exact (tl_no hq).1
    obtain rfl : v = 0 := by rw [← hv]; exact (tl_no hq).2
    clear hu hv
    go_enter Try.func27, Try.ntmps27
    go_wp2_with fail
    refine (bdGood_p x y _ false hq).mono ?_
    rintro e w1 ⟨rfl, rfl⟩
    go_wp2
    go_ret3
    exact ⟨rfl, Below.refl _ _⟩
  · obtain ⟨a, b, rfl, rfl, ⟨a1, a2⟩, b1, b2⟩ := bdB_nat hq
    have HU := Lib.hid (show ((Nat.gcd a b : Nat) : Int) = u by rw [← hu]; exact (tl_yes hq).1.symm)
    have HV := Lib.hid (show ((a / Nat.gcd a b * (b / Nat.gcd a b) : Nat) : Int) = v by rw [tiles_same, ← hv]; exact (tl_yes hq).2.symm)
    have HQ := Lib.hid hq
    clear hq hu hv
    go_enter Try.func27, Try.ntmps27
    go_wp2_with fail
    refine (bdGood_p _ _ _ true HQ.out).mono ?_
    rintro e w1 ⟨rfl, rfl⟩
    go_wp2
    go_loop [7, 8] (fun s i => ∃ j : Nat, 1 ≤ j ∧ j ≤ a + 1 ∧ i = .int .i64 (j : Int) ∧ s = .int .i64 ((tileS a b (j - 1) : Nat) : Int)) (fun _ i => 26 - (intOf i).toNat)
    case atStart => exact ⟨1, by omega, by omega, rfl, rfl⟩
    case round =>
      obtain ⟨j, hj1, hj2, rfl, rfl⟩ := hrel
      obtain ⟨s, hs⟩ : ∃ s, tileS a b (j - 1) = s := ⟨_, rfl⟩
      rw [hs]
      have HS := Lib.hid hs
      clear hs
      by_cases hlt : j ≤ a
      · have hle : (j : Int) ≤ (a : Int) := by omega
        have hd : decide ((j : Int) ≤ (a : Int)) = true := decide_eq_true hle
        have hj0 : (j : Int) ≠ 0 := by omega
        have hr1 : Int.tmod (a : Int) (j : Int) = ((a % j : Nat) : Int) := rfl
        have hr2 : Int.tmod (b : Int) (j : Int) = ((b % j : Nat) : Int) := rfl
        obtain ⟨r1, hr1'⟩ : ∃ r1, a % j = r1 := ⟨_, rfl⟩
        obtain ⟨r2, hr2'⟩ : ∃ r2, b % j = r2 := ⟨_, rfl⟩
        rw [hr1'] at hr1
        rw [hr2'] at hr2
        have hr1b : r1 < 25 := by rw [← hr1']; have := Nat.mod_lt a (show 0 < j by omega); omega
        have hr2b : r2 < 25 := by rw [← hr2']; have := Nat.mod_lt b (show 0 < j by omega); omega
        have hw1 : IntKind.i64.wrap (r1 : Int) = (r1 : Int) := by rw [IntKind.wrap_i64]; omega
        have hw2 : IntKind.i64.wrap (r2 : Int) = (r2 : Int) := by rw [IntKind.wrap_i64]; omega
        have HNX := Lib.hid (show tileS a b (j + 1 - 1) = if r1 = 0 ∧ r2 = 0 then j else s by rw [show j + 1 - 1 = (j - 1) + 1 by omega, tileS, show j - 1 + 1 = j by omega, hr1', hr2', HS.out])
        clear hr1' hr2' hr1b hr2b
        by_cases h1 : r1 = 0
        · have h1' : ((r1 : Int) == 0) = true := by simp [h1]
          by_cases h2 : r2 = 0
          · have h2' : ((r2 : Int) == 0) = true := by simp [h2]
            have HE := Lib.hid (show tileS a b (j + 1 - 1) = j by rw [HNX.out, if_pos ⟨h1, h2⟩])
            clear h1 h2
            go_wp2
            go_round
            case rel => exact ⟨j + 1, by omega, by omega, by go_num, by rw [HE.out]⟩
            case measure => simp [intOf]; omega
          · have h2' : ((r2 : Int) == 0) = false := by rw [beq_eq_false_iff_ne]; omega
            have HE := Lib.hid (show tileS a b (j + 1 - 1) = s by rw [HNX.out, if_neg (fun h => h2 h.2)])
            clear h1
            go_wp2
            go_round
            case rel => exact ⟨j + 1, by omega, by omega, by go_num, by rw [HE.out]⟩
            case measure => simp [intOf]; omega
        · have h1' : ((r1 : Int) == 0) = false := by rw [beq_eq_false_iff_ne]; omega
          have HE := Lib.hid (show tileS a b (j + 1 - 1) = s by rw [HNX.out, if_neg (fun h => h1 h.1)])
          go_wp2
          go_round
          case rel => exact ⟨j + 1, by omega, by omega, by go_num, by rw [HE.out]⟩
          case measure => simp [intOf]; omega
      · have hle : ¬ (j : Int) ≤ (a : Int) := by omega
        have hd : decide ((j : Int) ≤ (a : Int)) = false := decide_eq_false hle
        have hg : s = Nat.gcd a b := by rw [← HS.out, show j - 1 = a by omega]; exact tileS_gcd a1 a (Nat.gcd_le_left b (by omega))
        have hg1 : 1 ≤ s := by rw [hg]; exact Nat.gcd_pos_of_pos_left b (by omega)
        have hs0 : (s : Int) ≠ 0 := by omega
        have hsn : ¬ s = 0 := by omega
        have hq1 : Int.tdiv (a : Int) (s : Int) = ((a / s : Nat) : Int) := rfl
        have hq2 : Int.tdiv (b : Int) (s : Int) = ((b / s : Nat) : Int) := rfl
        have hb1 : a / s ≤ a := Nat.div_le_self a s
        have hb2 : b / s ≤ b := Nat.div_le_self b s
        have hpv : ((a / s * (b / s) : Nat) : Int) = v := by rw [hg]; exact HV.out
        have hmm : a / s * (b / s) ≤ 24 * 24 := Nat.mul_le_mul (by omega) (by omega)
        have HUS := Lib.hid (show (s : Int) = u by rw [hg]; exact HU.out)
        obtain ⟨p1, hp1⟩ : ∃ p1, a / s = p1 := ⟨_, rfl⟩
        obtain ⟨p2, hp2⟩ : ∃ p2, b / s = p2 := ⟨_, rfl⟩
        rw [hp1] at hq1 hb1 hpv hmm
        rw [hp2] at hq2 hb2 hpv hmm
        have hm2 : (p1 : Int) * (p2 : Int) = v := by rw [← hpv]; push_cast; rfl
        have hw1 : IntKind.i64.wrap (p1 : Int) = (p1 : Int) := by rw [IntKind.wrap_i64]; omega
        have hw2 : IntKind.i64.wrap (p2 : Int) = (p2 : Int) := by rw [IntKind.wrap_i64]; omega
        have hwv : IntKind.i64.wrap v = v := by rw [IntKind.wrap_i64]; omega
        clear hg hpv hmm hp1 hp2
        go_wp2_with fail
        refine wp_region_held_drew (S := (fun _ => True)) (by kernel_rfl) trivial (fun hH0 => ?_)
        refine wpAnyH_take (i := 0) (v := ?_) (ops_at rfl) (by kernel_rfl) (by kernel_rfl) (by kernel_rfl) (fun _ _ _ h => h) (Or.inl ⟨by rfl, ?ya0⟩) (by assumption) ?na0
        case ya0 => (intro wS hSw; (try dsimp only at hSw); go_simp; try rfl)
        try simp only [Act.put, List.setIfInBounds_toArray, List.set_cons_zero, List.set_cons_succ]
        refine wpAnyH_take (i := 1) (v := ?_) (ops_at rfl) (by kernel_rfl) (by kernel_rfl) (by kernel_rfl) (fun _ _ _ h => h) (Or.inl ⟨by rfl, ?ya1⟩) (by assumption) ?na1
        case ya1 => (intro wS hSw; (try dsimp only at hSw); go_simp; try rfl)
        try simp only [Act.put, List.setIfInBounds_toArray, List.set_cons_zero, List.set_cons_succ]
        refine wpAnyH_take (i := 2) (v := ?_) (ops_at rfl) (by kernel_rfl) (by kernel_rfl) (by kernel_rfl) (fun _ _ _ h => h) (Or.inl ⟨by rfl, ?ya2⟩) (by assumption) ?na2
        case ya2 => (intro wS hSw; (try dsimp only at hSw); go_simp; try rfl)
        try simp only [Act.put, List.setIfInBounds_toArray, List.set_cons_zero, List.set_cons_succ]
        refine wpAnyH_take (i := 3) (v := ?_) (ops_at rfl) (by kernel_rfl) (by kernel_rfl) (by kernel_rfl) (fun _ _ _ h => h) (Or.inl ⟨by rfl, ?ya3⟩) (by assumption) ?na3
        case ya3 => (intro wS hSw; (try dsimp only at hSw); go_simp; try rfl)
        try simp only [Act.put, List.setIfInBounds_toArray, List.set_cons_zero, List.set_cons_succ]
        refine wpAnyH_take (i := 4) (v := ?_) (ops_at rfl) (by kernel_rfl) (by kernel_rfl) (by kernel_rfl) (fun _ _ _ h => h) (Or.inl ⟨by rfl, ?ya4⟩) (by assumption) ?na4
        case ya4 => (intro wS hSw; (try dsimp only at hSw); go_simp; try rfl)
        try simp only [Act.put, List.setIfInBounds_toArray, List.set_cons_zero, List.set_cons_succ]
        refine wpAnyH_take (i := 5) (v := ?_) (ops_at rfl) (by kernel_rfl) (by kernel_rfl) (by kernel_rfl) (fun _ _ _ h => h) (Or.inl ⟨by rfl, ?ya5⟩) (by assumption) ?na5
        case ya5 => (intro wS hSw; (try dsimp only at hSw); go_simp; try rfl)
        try simp only [Act.put, List.setIfInBounds_toArray, List.set_cons_zero, List.set_cons_succ]
        refine wpAnyH_take (i := 6) (v := ?_) (ops_at rfl) (by kernel_rfl) (by kernel_rfl) (by kernel_rfl) (fun _ _ _ h => h) (Or.inl ⟨by rfl, ?ya6⟩) (by assumption) ?na6
        case ya6 => (intro wS hSw; (try dsimp only at hSw); go_simp; try rfl)
        try simp only [Act.put, List.setIfInBounds_toArray, List.set_cons_zero, List.set_cons_succ]
        refine wpAnyH_take (i := 7) (v := ?_) (ops_at rfl) (by kernel_rfl) (by kernel_rfl) (by kernel_rfl) (fun _ _ _ h => h) (Or.inl ⟨by rfl, ?ya7⟩) (by assumption) ?na7
        case ya7 => (intro wS hSw; (try dsimp only at hSw); go_simp; try rfl)
        try simp only [Act.put, List.setIfInBounds_toArray, List.set_cons_zero, List.set_cons_succ]
        refine wpAnyH_take (i := 8) (v := ?_) (ops_at rfl) (by kernel_rfl) (by kernel_rfl) (by kernel_rfl) (fun _ _ _ h => h) (Or.inl ⟨by rfl, ?ya8⟩) (by assumption) ?na8
        case ya8 => (intro wS hSw; (try dsimp only at hSw); go_simp; try rfl)
        try simp only [Act.put, List.setIfInBounds_toArray, List.set_cons_zero, List.set_cons_succ]
        refine wpAnyH_take (i := 9) (v := ?_) (ops_at rfl) (by kernel_rfl) (by kernel_rfl) (by kernel_rfl) (fun _ _ _ h => h) (Or.inl ⟨by rfl, ?ya9⟩) (by assumption) ?na9
        case ya9 => (intro wS hSw; (try dsimp only at hSw); go_simp; try rfl)
        try simp only [Act.put, List.setIfInBounds_toArray, List.set_cons_zero, List.set_cons_succ]
        refine wpAnyH_take (i := 10) (v := ?_) (ops_at rfl) (by kernel_rfl) (by kernel_rfl) (by kernel_rfl) (fun _ _ _ h => h) (Or.inl ⟨by rfl, ?ya10⟩) (by assumption) ?na10
        case ya10 => (intro wS hSw; (try dsimp only at hSw); go_simp; try rfl)
        try simp only [Act.put, List.setIfInBounds_toArray, List.set_cons_zero, List.set_cons_succ]
        refine wpAnyH_done (by kernel_rfl) ?_ _
        go_wp2
        go_ret3
        exact ⟨by rw [HUS.out]; rfl, drewB (Below.refl _ _)⟩

set_option maxRecDepth 100000 in
set_option maxHeartbeats 1000000 in
theorem impl_GreatestTiles (x y : Int) (w : World) (q : Bool) (hq : bdB x y = q) (u v : Int) (hu : tlS x y = u) (hv : tlN x y = v) :
    Calls Try.prog 28 #[.int .i64 x, .int .i64 y] w (RetIIB u v q w) := by
  have hbd : ∀ (W : World) (x y : Int), (Instr.build 58 #[(0, .int .i64 x), (1, .int .i64 y)]).run Try.prog W = .ok (.agg #[.int .i64 x, .int .i64 y]) W := fun W x y => run_build W 58 _ _ (by kernel_rfl)
  have HB0 := Lib.hid ((Below.refl w.heap.size w).alloc (Nat.le_refl _) (.cells #[.int .i64 x, .int .i64 y] 58))
  have HX0 := Lib.hid (new_at w (.cells #[.int .i64 x, .int .i64 y] 58) rfl)
  cases q
  · obtain rfl : u = 0 := by rw [← hu]; exact (tl_no hq).1
    obtain rfl : v = 0 := by rw [← hv]; exact (tl_no hq).2
    clear hu hv
    go_enter Try.func28, Try.ntmps28
    go_wp2_with fail
    refine (isBoard_any x y _ false hq).mono ?_
    rintro e w1 ⟨rfl, hb1⟩
    go_wp2
    go_ret3
    exact ⟨rfl, HB0.out.trans (hb1.mono (by simp))⟩
  · obtain ⟨a, b, rfl, rfl, ⟨a1, a2⟩, b1, b2⟩ := bdB_nat hq
    have HU := Lib.hid (show ((Nat.gcd a b : Nat) : Int) = u by rw [← hu]; exact (tl_yes hq).1.symm)
    have HV := Lib.hid (show ((a * b / (Nat.gcd a b * Nat.gcd a b) : Nat) : Int) = v by rw [← hv]; exact (tl_yes hq).2.symm)
    have hg1 : 1 ≤ Nat.gcd a b := Nat.gcd_pos_of_pos_left b (by omega)
    have hg2 : Nat.gcd a b ≤ a := Nat.gcd_le_left b (by omega)
    have hlast := eucL_last _ a b (Nat.le_refl _) a1 b1
    have hsome := eucL_some a1 b1
    have HQ := Lib.hid hq
    obtain ⟨g, hg⟩ : ∃ g, Nat.gcd a b = g := ⟨_, rfl⟩
    rw [hg] at hg1 hg2 hlast HU HV
    clear hq hu hv hg
    have hgg : g * g ≤ 24 * 24 := Nat.mul_le_mul (by omega) (by omega)
    have hgg1 : 1 ≤ g * g := Nat.mul_pos hg1 hg1
    obtain ⟨gg, hgg'⟩ : ∃ gg, g * g = gg := ⟨_, rfl⟩
    have hgm : (g : Int) * (g : Int) = (gg : Int) := by rw [← hgg']; push_cast; rfl
    rw [hgg'] at hgg hgg1 HV
    have hwg : IntKind.i64.wrap (gg : Int) = (gg : Int) := by rw [IntKind.wrap_i64]; omega
    have hab : a * b ≤ 24 * 24 := Nat.mul_le_mul a2 b2
    obtain ⟨ab, hab'⟩ : ∃ ab, a * b = ab := ⟨_, rfl⟩
    rw [hab'] at hab HV
    have hvq : Int.tdiv (ab : Int) (gg : Int) = ((ab / gg : Nat) : Int) := rfl
    have hvle : ab / gg ≤ ab := Nat.div_le_self _ _
    have hvb := HV.out
    obtain ⟨vv, hvv⟩ : ∃ vv, ab / gg = vv := ⟨_, rfl⟩
    rw [hvv] at hvq hvle hvb
    have hwv : IntKind.i64.wrap v = v := by rw [IntKind.wrap_i64]; omega
    rw [hvb] at hvq
    have hg0 : (gg : Int) ≠ 0 := by omega
    have hgn : ¬ gg = 0 := by omega
    have HAB := Lib.hid hab'
    clear hgg' hab' hvb hvle hvv
    go_enter Try.func28, Try.ntmps28
    go_wp2_with fail
    refine (isBoard_any _ _ _ true HQ.out).mono ?_
    rintro e w1 ⟨rfl, hb1⟩
    have hx1 := (hb1.block w.heap.size (by simp)).trans HX0.out
    have HB1 := Lib.hid (HB0.out.trans (hb1.mono (by simp)))
    have hz1 := HB1.out.size
    clear hb1 hbd
    have c0 := cell_of hx1 0
    have c1 := cell_of hx1 1
    have HX1 := Lib.hid hx1
    clear hx1
    go_wp2_with fail
    refine (greatest_any a b _ a1 a2 b1 b2).mono ?_
    rintro e w2 ⟨A, n, c, rfl, hl, ho, hb2'⟩
    have hx2 := (hb2'.block _ (heap_lt HX1.out)).trans HX1.out
    have HB2 := Lib.hid (HB1.out.trans (hb2'.mono hz1))
    have hn1 : 1 ≤ n := by rw [← hl]; exact List.length_pos_iff.2 hsome
    have hn48 : n ≤ 48 := by rw [← hl]; have := eucL_len _ a b (Nat.le_refl _); omega
    obtain ⟨bA, oA, uu, rfl, _, _, hua, hca⟩ := ho.seg.at_ (k := n - 1) (by rw [hl]; omega)
    have huu : uu = (g : Int) := by
      rw [List.getLast?_eq_getElem?, hl, hua] at hlast
      injection hlast
    rw [huu] at hca
    obtain ⟨n1, hn1'⟩ : ∃ n1, n - 1 = n1 := ⟨_, rfl⟩
    rw [hn1'] at hca
    have hsub : (n : Int) - 1 = (n1 : Int) := by omega
    have hlt1 : n1 < n := by omega
    have HX2 := Lib.hid hx2
    clear c0 c1 hl hlast hsome hua huu hn1' ho hb2' hx2
    go_wp2_with fail
    refine wp_region_held_drew (S := fun wq => wq.heap[w.heap.size]? = some (.cells #[.int .i64 (a : Int), .int .i64 (b : Int)] 58 (0, 0))) (by kernel_rfl) HX2.out (fun hH0 => ?_)
    refine wpAnyH_take (i := 0) (v := ?_) (ops_at rfl) (by kernel_rfl) (by kernel_rfl) (by kernel_rfl) (fun _ _ _ h => h) (Or.inl ⟨by rfl, ?yb0⟩) (by assumption) ?nb0
    case yb0 => (intro wS hSw; (have k0 := cell_of hSw 0); (have k1 := cell_of hSw 1); go_simp; try rfl)
    try simp only [Act.put, List.setIfInBounds_toArray, List.set_cons_zero, List.set_cons_succ]
    refine wpAnyH_take (i := 1) (v := ?_) (ops_at rfl) (by kernel_rfl) (by kernel_rfl) (by kernel_rfl) (fun _ _ _ h => h) (Or.inl ⟨by rfl, ?yb1⟩) (by assumption) ?nb1
    case yb1 => (intro wS hSw; (have k0 := cell_of hSw 0); (have k1 := cell_of hSw 1); go_simp; try rfl)
    try simp only [Act.put, List.setIfInBounds_toArray, List.set_cons_zero, List.set_cons_succ]
    refine wpAnyH_take (i := 3) (v := ?_) (ops_at rfl) (by kernel_rfl) (by kernel_rfl) (by kernel_rfl) (fun _ _ _ h => h) (Or.inl ⟨by rfl, ?yb3⟩) (by assumption) ?nb3
    case yb3 => (intro wS hSw; (have k0 := cell_of hSw 0); (have k1 := cell_of hSw 1); go_simp; try rfl)
    try simp only [Act.put, List.setIfInBounds_toArray, List.set_cons_zero, List.set_cons_succ]
    refine wpAnyH_take (i := 4) (v := ?_) (ops_at rfl) (by kernel_rfl) (by kernel_rfl) (by kernel_rfl) (fun _ _ _ h => h) (Or.inl ⟨by rfl, ?yb4⟩) (by assumption) ?nb4
    case yb4 => (intro wS hSw; (have k0 := cell_of hSw 0); (have k1 := cell_of hSw 1); go_simp; try rfl)
    try simp only [Act.put, List.setIfInBounds_toArray, List.set_cons_zero, List.set_cons_succ]
    refine wpAnyH_take (i := 5) (v := ?_) (ops_at rfl) (by kernel_rfl) (by kernel_rfl) (by kernel_rfl) (fun _ _ _ h => h) (Or.inl ⟨by rfl, ?yb5⟩) (by assumption) ?nb5
    case yb5 => (intro wS hSw; (have k0 := cell_of hSw 0); (have k1 := cell_of hSw 1); go_simp; try rfl)
    try simp only [Act.put, List.setIfInBounds_toArray, List.set_cons_zero, List.set_cons_succ]
    refine wpAnyH_ready (rs := [2]) (by kernel_rfl) (by simp) ?_
    refine AllReadyH.cons (ops_at rfl) (fun K hK => ?_) AllReadyH.nil
    go_simp
    refine (area_any a b a2 b2 _).mono ?_
    rw [HAB.out]
    rintro e w3 ⟨rfl, hb3⟩
    have hb3' := undrew hb3
    have HB3 := Lib.hid (HB2.out.trans (hb3'.mono HB2.out.size))
    refine hK.out _ _ ((hb3'.block _ (heap_lt HX2.out)).trans HX2.out) (fun hH1 => ?_)
    clear hK K
    refine wpAnyH_take (i := 6) (v := ?_) (ops_at rfl) (by kernel_rfl) (by kernel_rfl) (by kernel_rfl) (fun _ _ _ h => h) (Or.inl ⟨by rfl, ?yc6⟩) (by assumption) ?nc6
    case yc6 => (intro wS hSw; (have k0 := cell_of hSw 0); (have k1 := cell_of hSw 1); go_simp; try rfl)
    try simp only [Act.put, List.setIfInBounds_toArray, List.set_cons_zero, List.set_cons_succ]
    refine wpAnyH_take (i := 7) (v := ?_) (ops_at rfl) (by kernel_rfl) (by kernel_rfl) (by kernel_rfl) (fun _ _ _ h => h) (Or.inl ⟨by rfl, ?yc7⟩) (by assumption) ?nc7
    case yc7 => (intro wS hSw; (have k0 := cell_of hSw 0); (have k1 := cell_of hSw 1); go_simp; try rfl)
    try simp only [Act.put, List.setIfInBounds_toArray, List.set_cons_zero, List.set_cons_succ]
    refine wpAnyH_take (i := 8) (v := ?_) (ops_at rfl) (by kernel_rfl) (by kernel_rfl) (by kernel_rfl) (fun _ _ _ h => h) (Or.inl ⟨by rfl, ?yc8⟩) (by assumption) ?nc8
    case yc8 => (intro wS hSw; (have k0 := cell_of hSw 0); (have k1 := cell_of hSw 1); go_simp; try rfl)
    try simp only [Act.put, List.setIfInBounds_toArray, List.set_cons_zero, List.set_cons_succ]
    refine wpAnyH_take (i := 9) (v := ?_) (ops_at rfl) (by kernel_rfl) (by kernel_rfl) (by kernel_rfl) (fun _ _ _ h => h) (Or.inl ⟨by rfl, ?yc9⟩) (by assumption) ?nc9
    case yc9 => (intro wS hSw; (have k0 := cell_of hSw 0); (have k1 := cell_of hSw 1); go_simp; try rfl)
    try simp only [Act.put, List.setIfInBounds_toArray, List.set_cons_zero, List.set_cons_succ]
    refine wpAnyH_done (by kernel_rfl) ?_ _
    go_wp2
    go_ret3
    exact ⟨by rw [HU.out]; rfl, HB3.out⟩
end Go.Proofs.Ytbaofgbkcolmmaa
