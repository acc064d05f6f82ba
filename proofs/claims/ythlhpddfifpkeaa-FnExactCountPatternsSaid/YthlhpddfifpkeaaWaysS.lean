/-
  The given program's CountPatterns.
  Conditions: the list has at most 1048576 numbers.
-/
import Derived.Test.YthlhpddfifpkeaaWaysM
import Derived.Test.YthlhpddfifpkeaaAllCutsM
import Derived.Test.YthlhpddfifpkeaaRodS
import Derived.Test.YthlhpddfifpkeaaCutsS
namespace Go.Proofs.Ythlhpddfifpkeaa
set_option linter.unusedVariables false
open Go.RowKit

theorem sumR_60 {q : Nat} {T : Nat → Int} {B : Int} (hq : 0 < q) (hT : ∀ m, m ≤ 60 → 0 ≤ T m ∧ T m ≤ B) (n : Nat) (hn : n ≤ 60) : 0 ≤ sumR q T n ∧ sumR q T n ≤ B * ((n : Int) + 1) := by
  induction n using Nat.strongRecOn with
  | _ n ih =>
    have h0 := hT n hn
    have hB : 0 ≤ B := by omega
    by_cases h : q ≤ n
    · rw [sumR_at hq h]
      have h1 := ih (n - q) (by omega) (by omega)
      have h2 : B * (((n - q : Nat) : Int) + 1) ≤ B * (n : Int) := Int.mul_le_mul_of_nonneg_left (by omega) hB
      have h3 : B * ((n : Int) + 1) = B * (n : Int) + B := by rw [Int.mul_add, Int.mul_one]
      omega
    · rw [sumR_less (by omega)]
      have h3 : B * ((n : Int) + 1) = B * (n : Int) + B := by rw [Int.mul_add, Int.mul_one]
      have h4 : 0 ≤ B * (n : Int) := Int.mul_nonneg hB (by omega)
      omega

/-- The table behind the first 'k' lengths. -/
def tabK (zs : List Int) : Nat → Nat → Int
  | 0 => wayA 0
  | k + 1 => sumR (zs.getD k 0).toNat (tabK zs k)

theorem tabK_bd {zs : List Int} (hz : ∀ (k : Nat) u, zs[k]? = some u → 1 ≤ u ∧ u ≤ 60) (k : Nat) (hk : k ≤ zs.length) (n : Nat) (hn : n ≤ 60) : 0 ≤ tabK zs k n ∧ tabK zs k n ≤ 61 ^ k := by
  induction k generalizing n with
  | zero =>
    unfold tabK wayA
    split <;> simp
  | succ k ih =>
    unfold tabK
    have hu := hz k zs[k] (List.getElem?_eq_getElem (by omega))
    have e : zs.getD k 0 = zs[k] := by simp [List.getD, show k < zs.length by omega]
    have h := sumR_60 (q := (zs.getD k 0).toNat) (T := tabK zs k) (B := 61 ^ k) (by rw [e]; omega) (fun m hm => ih (by omega) m hm) n hn
    refine ⟨h.1, Int.le_trans h.2 ?_⟩
    have h5 : (0 : Int) ≤ 61 ^ k := Int.le_trans (ih (by omega) 0 (by omega)).1 (ih (by omega) 0 (by omega)).2
    rw [Int.pow_succ]
    exact Int.mul_le_mul_of_nonneg_left (by omega) h5

theorem tabK_max {zs : List Int} (hz : ∀ (k : Nat) u, zs[k]? = some u → 1 ≤ u ∧ u ≤ 60) (h4 : zs.length ≤ 4) (k : Nat) (hk : k ≤ zs.length) (n : Nat) (hn : n ≤ 60) : 0 ≤ tabK zs k n ∧ tabK zs k n ≤ 13845841 := by
  have h := tabK_bd hz k hk n hn
  refine ⟨h.1, Int.le_trans h.2 ?_⟩
  have h1 : 61 ^ k ≤ 61 ^ 4 := Nat.pow_le_pow_right (by omega) (by omega)
  have h2 : (61 : Int) ^ k ≤ 61 ^ 4 := by exact_mod_cast h1
  have e : (61 : Int) ^ 4 = 13845841 := by decide
  omega

theorem tabG_snoc (T : Nat → Int) (ls : List Nat) (l : Nat) : tabG T (ls ++ [l]) = sumR l (tabG T ls) := by
  induction ls generalizing T with
  | nil => rfl
  | cons a ls ih => exact ih (sumR a T)

theorem tabK_G (zs : List Int) (k : Nat) (hk : k ≤ zs.length) : tabK zs k = tabG (wayA 0) ((zs.take k).map Int.toNat) := by
  induction k with
  | zero => rfl
  | succ k ih =>
    have e : zs.getD k 0 = zs[k] := by simp [List.getD, show k < zs.length by omega]
    rw [List.take_succ_eq_append_getElem (by omega), List.map_append]
    show sumR (zs.getD k 0).toNat (tabK zs k) = tabG (wayA 0) ((zs.take k).map Int.toNat ++ [zs[k].toNat])
    rw [tabG_snoc, ih (by omega), e]

/-- How many patterns there are of a rod. -/
def manyP (zs : List Int) (rod : Int) : Int := cntG (fun _ => 1) (zs.map Int.toNat) rod.toNat

theorem row_many {zs : List Int} (hz : ∀ (k : Nat) u, zs[k]? = some u → 1 ≤ u ∧ u ≤ 60) (r : Nat) : (rowOf r (tabK zs zs.length)).foldl (· + ·) 0 = manyP zs (r : Int) := by
  rw [rowOf, row_sum, tabK_G zs _ (Nat.le_refl _), List.take_length, manyP, Int.toNat_natCast]
  refine count_same _ ?_ r
  intro l hl
  obtain ⟨u, hu, rfl⟩ := List.mem_map.1 hl
  obtain ⟨k, hk⟩ := List.getElem?_of_mem hu
  have := hz k u hk
  omega

theorem fold_bd (xs : List Int) (B : Int) (h : ∀ x ∈ xs, 0 ≤ x ∧ x ≤ B) (a : Int) (ha : 0 ≤ a) : 0 ≤ xs.foldl (· + ·) a ∧ xs.foldl (· + ·) a ≤ a + B * (xs.length : Int) := by
  induction xs generalizing a with
  | nil => simp; exact ha
  | cons x xs ih =>
    have hx := h x (List.mem_cons_self ..)
    have := ih (fun y hy => h y (List.mem_cons_of_mem _ hy)) (a + x) (by omega)
    have e : B * ((xs.length + 1 : Nat) : Int) = B * (xs.length : Int) + B := by rw [Int.natCast_add, Int.mul_add]; simp
    simp only [List.foldl_cons, List.length_cons]
    omega

set_option maxHeartbeats 400000 in
theorem bxSumR_any (A : Option Addr) (n c : Nat) (xs : List Int) (lo hi : Nat) (w : World) (hn : xs.length = n) (h61 : n ≤ 61) (hs : Seg w lo hi A xs) (hg : ∀ x ∈ xs, 0 ≤ x ∧ x ≤ 13845841) (s : Int) (hsum : xs.foldl (· + ·) 0 = s) :
    Calls Try.prog 59 #[.slice A n c] w fun e w' => e = .returned (.int .i64 s) ∧ w = w' := by
  have HN := Lib.hid hn
  have HG := Lib.hid hg
  have HS := Lib.hid hsum
  clear hn hg hsum
  go_enter Try.func59, Try.ntmps59
  go_wp2
  go_loop [3, 5, 8] (fun m _ i => ∃ k : Nat, k ≤ n ∧ i = .int .i64 k ∧ m = .int .i64 ((xs.take k).foldl (· + ·) 0)) (fun _ _ i => n - (intOf i).toNat)
  case atStart => exact ⟨0, Nat.zero_le _, rfl, rfl⟩
  case round =>
    obtain ⟨k, hk, rfl, rfl⟩ := hrel
    have hsb := fold_bd (xs.take k) 13845841 (fun x hx => HG.out x (List.mem_of_mem_take hx)) 0 (Int.le_refl 0)
    have hlk : (xs.take k).length ≤ 61 := by rw [List.length_take]; omega
    by_cases hlt : k < n
    · obtain ⟨b, off, u, rfl, _, _, hx, hc⟩ := hs.at_ (k := k) (by rw [HN.out]; exact hlt)
      have HM := Lib.hid (fold_take (· + ·) 0 xs hx)
      have hu := HG.out u (List.mem_of_getElem? hx)
      clear hx
      obtain ⟨q, hq⟩ : ∃ q, q = (xs.take k).foldl (· + ·) 0 := ⟨_, rfl⟩
      rw [← hq] at HM hsb ⊢
      have hq2 : 0 ≤ q ∧ q ≤ 1000000000 := by omega
      obtain ⟨hq3, hq4⟩ := hq2
      clear hq hsb
      go_wp2
      go_round
      case rel => exact ⟨k + 1, by omega, by go_num, by rw [← HM.out]⟩
      case measure => simp [intOf]; omega
    · obtain rfl : k = n := by omega
      go_wp2
      go_ret
      exact ⟨by rw [← HS.out, ← HN.out, List.take_length]; rfl, rfl⟩

def RetRow (r : Nat) (f : Nat → Int) (w : World) (e : Ending) (w' : World) : Prop :=
  ∃ g, e = .returned (.slice (some ⟨g, 0, none⟩) (r + 1) (r + 1)) ∧ Arr w' g 3 (rowOf r f) ∧ Below w.heap.size w w'

set_option maxRecDepth 100000 in
set_option maxHeartbeats 1000000 in
theorem rdCount_any (A : Option Addr) (n c : Nat) (zs : List Int) (r : Nat) (lo hi : Nat) (w : World) (hn : zs.length = n) (h4 : n ≤ 4) (hs : Seg w lo hi A zs) (hB : hi ≤ w.heap.size) (hz : ∀ (k : Nat) u, zs[k]? = some u → 1 ≤ u ∧ u ≤ 60) (hr : r ≤ 60) :
    Calls Try.prog 64 #[.int .i64 (r : Int), .slice A n c] w (RetRow r (tabK zs n) w) := by
  have HN := Lib.hid hn
  have HZ := Lib.hid hz
  have hmk := fun W : World => (show (Instr.makeSlice 22 (.int .i64 ((r : Int) + 1)) (.int .i64 ((r : Int) + 1))).run Try.prog W = .ok (.slice (some ⟨W.heap.size, 0, none⟩) (r + 1) (r + 1)) (W.alloc (.cells (madeCells #[.int .i64 0] (r + 1)) 3)) from
    run_make_row' 22 3 (.int .i64 0) 8 Try.underlying22 int_info rfl .i64 .i64 (r + 1) (by omega) (by omega) W)
  obtain ⟨W, hW⟩ : ∃ W, w.alloc (.cells ((madeCells #[.int .i64 0] (r + 1)).setIfInBounds 0 (.int .i64 1)) 3) = W := ⟨_, rfl⟩
  have HA := Lib.hid (show Arr W w.heap.size 3 (rowOf r (wayA 0)) by
    have h := ((arr_new w 3 (r + 1)).set 0 1)
    rw [zeros_row, wayA_first] at h
    rw [← hW]
    obtain ⟨cs, hc1, hc2⟩ := h
    have e : cs = (madeCells #[.int .i64 0] (r + 1)).setIfInBounds 0 (.int .i64 1) := by
      have h5 := set_self (heap_alloc_new w (.cells (madeCells #[.int .i64 0] (r + 1)) 3)) 0 (.int .i64 1)
      rw [h5] at hc1
      injection hc1 with hc1
      injection hc1 with hc1
      exact hc1.symm
    exact ⟨_, heap_alloc_new w _, by rw [← e]; exact hc2⟩)
  have HB := Lib.hid (show Below w.heap.size w W by rw [← hW]; exact (Below.refl _ _).alloc (Nat.le_refl _) _)
  have hblk := heap_alloc_new w (.cells (madeCells #[.int .i64 0] (r + 1)) 3)
  have hc0 : (w.alloc (.cells (madeCells #[.int .i64 0] (r + 1)) 3)).cell? ⟨w.heap.size, 0, none⟩ = some (.int .i64 0) := by
    rw [cell_of hblk]
    simp [madeCells]
  have hf0 := frozen_of hblk 0
  clear hn hz hblk
  go_enter Try.func64, Try.ntmps64
  go_wp2
  clear hmk hc0 hf0 hW
  go_loopw [7, 8, 16] (fun _ _ i wr => ∃ k : Nat, k ≤ n ∧ i = .int .i64 k ∧ Below w.heap.size w wr ∧ Arr wr w.heap.size 3 (rowOf r (tabK zs k))) (fun _ _ i _ => n - (intOf i).toNat)
  case atStart => exact ⟨0, Nat.zero_le _, rfl, HB.out, HA.out⟩
  case round =>
    obtain ⟨k, hk, rfl, hb, harr⟩ := hrel
    by_cases hlt : k < n
    · obtain ⟨bp, op, l, rfl, _, hbp, hx, hcx⟩ := hs.at_ (k := k) (by rw [HN.out]; exact hlt)
      have hcl := (hb.cell (p := ⟨bp, op + k, none⟩) (by exact Nat.lt_of_lt_of_le hbp hB)).trans hcx
      have hlb := HZ.out k l hx
      obtain ⟨q, rfl⟩ : ∃ q : Nat, l = (q : Int) := ⟨l.toNat, by omega⟩
      have hq1 : 1 ≤ q := by omega
      have e0 : tabK zs (k + 1) = sumR q (tabK zs k) := by
        have e : zs.getD k 0 = (q : Int) := by simp [List.getD, hx]
        show sumR (zs.getD k 0).toNat (tabK zs k) = _
        rw [e, Int.toNat_natCast]
      have hbd := fun i (hi : i ≤ r) => tabK_max HZ.out (by rw [HN.out]; exact h4) (k + 1) (by rw [HN.out]; omega) i (by omega)
      have hbd0 := fun i (hi : i ≤ r) => tabK_max HZ.out (by rw [HN.out]; exact h4) k (by rw [HN.out]; omega) i (by omega)
      rw [e0] at hbd
      have HE := Lib.hid e0
      obtain ⟨T, hT⟩ : ∃ T, tabK zs k = T := ⟨_, rfl⟩
      rw [hT] at harr hbd hbd0 HE
      rw [← partR_first q T] at harr
      have HD := Lib.hid hbd
      have HD0 := Lib.hid hbd0
      clear hT hbd hbd0 e0 hx hcx
      go_wp2
      go_loopw [8] (fun i wr => ∃ m : Nat, q ≤ m ∧ (m ≤ r + 1 ∨ m = q) ∧ i = .int .i64 m ∧ Below w.heap.size w wr ∧ Arr wr w.heap.size 3 (rowOf r (partR q T m))) (fun i _ => r + 1 - (intOf i).toNat)
      case atStart => exact ⟨q, Nat.le_refl _, .inr rfl, rfl, hb, harr⟩
      clear hb harr hcl
      case round =>
        obtain ⟨m, hm1, hm2, rfl, hb, harr⟩ := hrel
        by_cases hm : m ≤ r
        · obtain ⟨d, rfl⟩ : ∃ d, m = q + d := ⟨m - q, by omega⟩
          have hwa := harr.cell (rowOf_get (k := d) (f := partR q T (q + d)) (by omega))
          have hwb := harr.cell (rowOf_get (k := q + d) (f := partR q T (q + d)) hm)
          rw [partR_less (by omega)] at hwa
          rw [partR_not (Nat.le_refl _)] at hwb
          have hbs := HD.out (q + d) hm
          have hba := HD.out d (by omega)
          have hbb := HD0.out (q + d) hm
          have hs1 : sumR q T (q + d) = T (q + d) + sumR q T d := by
            rw [sumR_at (by omega) (by omega), Nat.add_sub_cancel_left]
          obtain ⟨a, ha⟩ : ∃ a, sumR q T d = a := ⟨_, rfl⟩
          obtain ⟨b, hb'⟩ : ∃ b, T (q + d) = b := ⟨_, rfl⟩
          rw [ha] at hwa hba hs1
          rw [hb'] at hwb hbb hs1
          rw [hs1] at hbs
          have HS := Lib.hid hs1
          have HST := Lib.hid (partR_set q r (q + d) T)
          have hfk := harr.frozen (q + d)
          have HAR := Lib.hid harr
          clear harr ha hb' hs1
          obtain ⟨hbs1, hbs2⟩ := hbs
          go_wp2
          go_region
          go_wp2
          go_roundw
          case rel => (first | exact ⟨q + d + 1, by omega, by omega, by go_num, (below_drewN hb 1).setCell (Nat.le_refl _) _, by rw [← HST.out, HS.out]; exact (HAR.out.keep rfl).set _ _⟩ | ((repeat apply Exists.intro); refine ⟨?_, rfl⟩; exact ⟨q + d + 1, by omega, by omega, by go_num, (below_drewN hb 1).setCell (Nat.le_refl _) _, by rw [← HST.out, HS.out]; exact (HAR.out.keep rfl).set _ _⟩))
          case measure => simp [intOf]; omega
        · rw [partR_done (by omega), ← HE.out] at harr
          go_wp2
          go_roundw
          case rel => exact ⟨k + 1, by omega, by go_num, hb, harr⟩
          case measure => simp [intOf]; omega
    · obtain rfl : k = n := by omega
      go_wp2
      go_ret
      exact ⟨_, rfl, harr, hb⟩

theorem row_mem {r : Nat} {f : Nat → Int} {B : Int} (h : ∀ n, n ≤ r → 0 ≤ f n ∧ f n ≤ B) : ∀ x ∈ rowOf r f, 0 ≤ x ∧ x ≤ B := by
  intro x hx
  obtain ⟨n, hn, rfl⟩ := List.mem_map.1 hx
  exact h n (by have := List.mem_range.1 hn; omega)

def numP (q : Bool) (v : Int) : Int := if q = true then v else 0

set_option maxHeartbeats 1000000 in
theorem spec_CountPatterns (rod : Int) (A : Option Addr) (n c : Nat) (zs : List Int) (lo hi : Nat) (w : World) (hn : zs.length = n) (hlen : n ≤ 1048576) (hs : Seg w lo hi A zs) (hB : hi ≤ w.heap.size) (q : Bool) (hq : rodB rod zs = q) (v : Int) (hv : manyP zs rod = v) :
    Calls Try.prog 31 #[.int .i64 rod, .slice A n c] w (RetI (numP q v) q w) := by
  have HN := Lib.hid hn
  have HQ := Lib.hid hq
  cases q
  · clear hn hq hv
    go_enter Try.func31, Try.ntmps31
    go_wp2_with (go_at_call 48; refine (rdAsked_any _ _ _ _ zs lo hi _ HN.out hlen hs _ HQ.out).mono ?_; rintro e w' ⟨rfl, rfl⟩)
    go_ret2
    exact ⟨rfl, Below.refl _ _⟩
  · obtain ⟨hr, hl⟩ := rodB_true.1 hq
    obtain ⟨h1, h4, hz⟩ := lensB_at hl
    rw [hn] at h1 h4
    obtain ⟨r, rfl⟩ : ∃ r : Nat, rod = (r : Int) := ⟨rod.toNat, by omega⟩
    have hrow := row_many hz r
    have hmem := row_mem (r := r) (fun i hi => tabK_max hz (by omega) zs.length (Nat.le_refl _) i (by omega))
    rw [hn] at hrow hmem
    rw [hv] at hrow
    have HR := Lib.hid hrow
    have HM := Lib.hid hmem
    have HZ := Lib.hid hz
    clear hn hq hv hrow hmem hz hl
    go_enter Try.func31, Try.ntmps31
    go_wp2_with fail
    refine (rdAsked_any _ _ _ _ zs lo hi _ HN.out hlen hs _ HQ.out).mono ?_
    rintro e w' ⟨rfl, rfl⟩
    go_wp2_with fail
    refine (rdCount_any A n c zs r lo hi _ HN.out h4 hs hB HZ.out (by omega)).mono ?_
    rintro e w1 ⟨g, rfl, harr, hb⟩
    go_wp2_with fail
    refine (bxSumR_any _ _ _ _ 0 w1.heap.size w1 (rowOf_length r _) (by omega) (harr.own (Nat.zero_le _) harr.lt).seg HM.out _ HR.out).mono ?_
    rintro e w' ⟨rfl, rfl⟩
    go_wp2
    go_ret2
    exact ⟨rfl, hb⟩
end Go.Proofs.Ythlhpddfifpkeaa
