/-
  FullPatterns of both programs.
  Conditions: the list has at most 1048576 numbers.
-/
import Derived.Test.YtoheoojpmndhoabFulS
import Derived.Test.YtoheoojpmndhoabCutOf
namespace Go.Proofs.Ytoheoojpmndhoab
set_option linter.unusedVariables false
set_option linter.unusedSimpArgs false
open Go.RowKit

theorem usedTo_zerosF (zs : List Int) (k : Nat) : usedTo zs [0, 0, 0, 0] k = 0 := by
  induction k with
  | zero => rfl
  | succ k ih =>
    have e : ([0, 0, 0, 0] : List Int).getD k 0 = 0 := by
      match k with
      | 0 => rfl
      | 1 => rfl
      | 2 => rfl
      | 3 => rfl
      | k + 4 => rfl
    simp only [usedTo]
    rw [ih, e, Int.zero_mul]
    rfl

theorem zeros_atF {i : Nat} {u : Int} (h : ([0, 0, 0, 0] : List Int)[i]? = some u) : 0 ≤ u ∧ u ≤ 60 := by
  match i, h with
  | 0, h => simp at h; omega
  | 1, h => simp at h; omega
  | 2, h => simp at h; omega
  | 3, h => simp at h; omega

theorem zeros_getF {i : Nat} (h : i < 4) : ([0, 0, 0, 0] : List Int)[i]? = some 0 := by
  match i, h with
  | 0, _ => rfl
  | 1, _ => rfl
  | 2, _ => rfl
  | 3, _ => rfl

/-- There are full patterns, or they are not too many to be listed. -/
def fullB (rod : Int) (zs : List Int) : Bool := rodB rod zs && (decide (3 ≤ zs.getD 0 0) && decide (rod ≤ 10 * zs.getD 0 0))
def fullsF (rod : Int) (zs : List Int) : List (List Int) := lookF (zs.getD 0 0) zs [] rod
def someSSF (q : Bool) (yss : List (List Int)) : List (List Int) := if q = true then yss else []
/-- Lists of lists and a bool are answered. -/
def RetSSF (b : Bool) (yss : List (List Int)) (w : World) (e : Ending) (w' : World) : Prop :=
  ∃ A n c, e = .returned (.tuple #[.slice A n c, .bool b]) ∧ yss.length = n ∧ Nest w' w.heap.size w'.heap.size A yss ∧ Below w.heap.size w w'

theorem lens_up {zs : List Int} (h : lensB zs = true) : ∀ (k : Nat) u, zs[k]? = some u → zs.getD 0 0 ≤ u := by
  simp only [lensB, Bool.and_eq_true] at h
  obtain ⟨h1, h2⟩ := h
  rw [upB_true] at h2
  intro k
  induction k with
  | zero => intro u hu; simp [List.getD, hu]
  | succ k ih =>
    intro u hu
    have hk := (List.getElem?_eq_some_iff.1 hu).1
    obtain ⟨u', hu'⟩ : ∃ u', zs[k]? = some u' := ⟨zs[k]'(by omega), List.getElem?_eq_getElem (by omega)⟩
    have h3 := ih u' hu'
    have h4 := (h2 (k + 1) u hu).1
    have e : prevL zs (k + 1) = u' := by simp [prevL, List.getD, hu']
    rw [e] at h4
    omega
theorem fullB_true {rod : Int} {zs : List Int} : fullB rod zs = true ↔ rodB rod zs = true ∧ 3 ≤ zs.getD 0 0 ∧ rod ≤ 10 * zs.getD 0 0 := by simp [fullB]
theorem fulls_len {rod : Int} {zs : List Int} (h : fullB rod zs = true) : (fullsF rod zs).length ≤ 14641 := by
  obtain ⟨h1, h2, h3⟩ := fullB_true.1 h
  obtain ⟨h4, h5⟩ := rodB_true.1 h1
  obtain ⟨h6, h7, h8⟩ := lensB_at h5
  refine Nat.le_trans (lookF_len zs [] rod (by omega) fun q hq => ?_) (Nat.pow_le_pow_right (n := 11) (by decide) h7)
  obtain ⟨k, hk⟩ := List.getElem?_of_mem hq
  have := lens_up h5 k q hk
  omega
theorem sums_le4F {xss : List (List Int)} (h : ∀ xs ∈ xss, xs.length ≤ 4) (k : Nat) : sums xss k ≤ 4 * xss.length := by
  unfold sums
  have hg : ∀ L : List (List Int), (∀ xs ∈ L, xs.length ≤ 4) → (L.map List.length).sum ≤ 4 * L.length := by
    intro L
    induction L with
    | nil => intro _; simp
    | cons x L ih =>
      intro hL
      have h1 := hL x List.mem_cons_self
      have h2 := ih fun y hy => hL y (List.mem_cons_of_mem _ hy)
      simp only [List.map_cons, List.sum_cons, List.length_cons]
      omega
  have h1 := hg (xss.take k) fun y hy => h y (List.mem_of_mem_take hy)
  have h2 : (xss.take k).length ≤ xss.length := by simp; omega
  omega
theorem fullsB {rod : Int} {zs : List Int} {q : Bool} (hq : fullB rod zs = q) : (someSSF q (fullsF rod zs)).length ≤ 14641 ∧ ∀ xs ∈ someSSF q (fullsF rod zs), xs.length ≤ 4 := by
  cases q
  · exact ⟨Nat.zero_le _, fun xs h => by cases h⟩
  · refine ⟨fulls_len hq, fun xs hx => ?_⟩
    have h1 := lookF_mem zs [] rod xs hx
    obtain ⟨h4, h5⟩ := rodB_true.1 (fullB_true.1 hq).1
    obtain ⟨h6, h7, h8⟩ := lensB_at h5
    simp at h1
    omega

section
variable (rod : Int) (A : Option Addr) (n c : Nat) (zs : List Int) (lo hi : Nat) (w : World) (hn : zs.length = n) (hlen : n ≤ 1048576) (hs : Seg w lo hi A zs) (hB : hi ≤ w.heap.size)
include hn hlen hs hB

set_option maxRecDepth 100000 in
set_option maxHeartbeats 2000000 in
theorem spec_FullPatterns (q : Bool) (hq : fullB rod zs = q) :
    Calls Try.prog 16 #[.int .i64 rod, .slice A n c] w (RetSSF q (someSSF q (fullsF rod zs)) w) := by
  have HN := Lib.hid hn
  cases hrb : rodB rod zs
  · obtain rfl : q = false := by rw [← hq, fullB, hrb, Bool.false_and]
    have HQ := Lib.hid hrb
    clear hn hq hrb
    go_enter Try.func16, Try.ntmps16
    go_wp2_with (go_at_call 27; refine (rdAsked_any _ _ _ _ zs lo hi _ HN.out hlen hs _ HQ.out).mono ?_; rintro e w' ⟨rfl, rfl⟩)
    go_ret2
    exact ⟨none, 0, 0, rfl, rfl, .inl rfl, Below.refl _ _⟩
  · obtain ⟨hr, hl⟩ := rodB_true.1 hrb
    obtain ⟨h1, h4, hz⟩ := lensB_at hl
    rw [hn] at h1 h4
    obtain ⟨bz, oz, z0, rfl, _, hbz, hx0, hcz⟩ := hs.at_ (k := 0) (by omega)
    have hcz0 : w.cell? ⟨bz, oz, none⟩ = some (.int .i64 z0) := hcz
    have e0 : zs.getD 0 0 = z0 := by simp [List.getD, hx0]
    have hzb := hz 0 z0 hx0
    have hQ3 : q = (decide (3 ≤ z0) && decide (rod ≤ 10 * z0)) := by rw [← hq, fullB, hrb, Bool.true_and, e0]
    have HRB := Lib.hid hrb
    have HZ := Lib.hid hz
    have HF := Lib.hid (fun h : q = true => fulls_len (by rw [hq, h] : fullB rod zs = true))
    have hn0 : (0 : Int) < (n : Int) := by omega
    have hwm : IntKind.i64.wrap (10 * z0) = 10 * z0 := IntWalk.i64_in _ (by omega)
    clear hn hq hrb hx0 hcz hl hz
    by_cases c1 : z0 < 3
    · obtain rfl : q = false := by rw [hQ3, decide_eq_false (by omega), Bool.false_and]
      have d1 : decide (z0 < 3) = true := decide_eq_true c1
      clear hQ3 HF e0
      go_enter Try.func16, Try.ntmps16
      go_wp2_with (go_at_call 27; refine (rdAsked_any _ _ _ _ zs lo hi _ HN.out hlen hs _ HRB.out).mono ?_; rintro e w' ⟨rfl, rfl⟩)
      go_ret2
      exact ⟨none, 0, 0, rfl, rfl, .inl rfl, Below.refl _ _⟩
    by_cases c2 : 10 * z0 < rod
    · obtain rfl : q = false := by rw [hQ3, decide_eq_false (show ¬ rod ≤ 10 * z0 by omega), Bool.and_false]
      have d1 : decide (z0 < 3) = false := decide_eq_false c1
      have d2 : decide (10 * z0 < rod) = true := decide_eq_true c2
      clear hQ3 HF e0
      go_enter Try.func16, Try.ntmps16
      go_wp2_with (go_at_call 27; refine (rdAsked_any _ _ _ _ zs lo hi _ HN.out hlen hs _ HRB.out).mono ?_; rintro e w' ⟨rfl, rfl⟩)
      go_ret2
      exact ⟨none, 0, 0, rfl, rfl, .inl rfl, Below.refl _ _⟩
    · obtain rfl : q = true := by rw [hQ3, decide_eq_true (show 3 ≤ z0 by omega), decide_eq_true (show rod ≤ 10 * z0 by omega)]; rfl
      have d1 : decide (z0 < 3) = false := decide_eq_false c1
      have d2 : decide (10 * z0 < rod) = false := decide_eq_false c2
      obtain ⟨r, rfl⟩ : ∃ r : Nat, rod = (r : Int) := ⟨rod.toNat, by omega⟩
      obtain ⟨W, hW⟩ : ∃ W, w.alloc (.cells #[.slice none 0 0] 23) = W := ⟨_, rfl⟩
      have hb0 : Below w.heap.size w W := by rw [← hW]; exact (Below.refl _ _).alloc (Nat.le_refl _) _
      have hWs : W.heap.size = w.heap.size + 1 := by rw [← hW]; simp
      have hBx : W.heap[w.heap.size]? = some (.cells #[.slice none 0 0] 23 (0, 0)) := by rw [← hW]; exact new_at _ _ rfl
      have HL0 := Lib.hid (show LstU W w.heap.size 23 W.heap.size (fun _ => False) W.heap.size [] from
        ⟨_, [], hBx, Rws.nil_ _ _, by omega, Nat.le_refl _, Nat.le_refl _, fun p h => h.elim, AscF.nil_, UpF.nil_ _, fun g h => by cases h⟩)
      have HS := Lib.hid (hs.below hb0 hB)
      have HB0 := Lib.hid hb0
      have HLEN := Lib.hid (HF.out rfl)
      have HW := Lib.hid hW
      clear hQ3 HF hb0 hBx hW e0
      go_enter Try.func16, Try.ntmps16
      go_wp2_with fail
      refine (rdAsked_any _ _ _ _ zs lo hi _ HN.out hlen hs _ HRB.out).mono ?_
      rintro e w' ⟨rfl, rfl⟩
      go_upto_region 3 with (fail)
      go_upto_region 4 with (fail)
      rw [HW.out]
      go_wp2_with fail
      refine (rdLook_any (some ⟨bz, oz, none⟩) n c zs lo hi w.heap.size 23 W.heap.size HN.out h1 h4 HZ.out hB n 0 [] r none 0 (fun _ => False) W.heap.size [] W (by omega) rfl (by omega) HS.out (.inl rfl) HL0.out (fun p h => h.elim) (by have := HLEN.out; rw [List.length_nil, Nat.zero_add]; exact Nat.le_trans this (by omega))).mono ?_
      rintro e w2 ⟨rfl, hl2, ho2⟩
      obtain ⟨v, vs, k1, k2, k3, k4, k5, k6, k7⟩ := hl2
      obtain ⟨Av, cv, rfl⟩ := k2.form
      have hne := rws_nestF k2 k6
      have c0 := cell_of k1 0
      simp only [List.getElem?_toArray, List.getElem?_cons_zero, List.getElem?_cons_succ] at c0
      have HNE := Lib.hid hne
      have HB2 := Lib.hid (HB0.out.trans (ho2.below (by omega) (fun g hg => by rcases hg with h | h <;> omega)))
      clear k1 k2 k5 k6 k7 ho2 hne
      go_wp2
      go_ret2
      exact ⟨Av, _, cv, rfl, rfl, by simpa [someSSF, fullsF] using HNE.out.more (by omega) (Nat.le_refl _), HB2.out⟩
end
end Go.Proofs.Ytoheoojpmndhoab
