/-
  Items that are packed: what is asked of them, sums over lists of them, lists that rise, choices in their order; no program is spoken of here.
  Conditions: none.
-/
import Derived.Test.YtjpejhpilfjheabTriM
namespace Go.Proofs.Ytjpejhpilfjheab
set_option linter.unusedVariables false
open Go.RowKit

def itB (t : Int × Int × Int) : Bool := inB t.1 0 200 && inB t.2.1 0 200 && inB t.2.2 0 200
theorem itB_true {t : Int × Int × Int} : itB t = true ↔ (0 ≤ t.1 ∧ t.1 ≤ 200) ∧ (0 ≤ t.2.1 ∧ t.2.1 ≤ 200) ∧ 0 ≤ t.2.2 ∧ t.2.2 ≤ 200 := by simp [itB, inB_true, and_assoc]

/-- These are items. -/
def goodI (ts : List (Int × Int × Int)) : Bool := inB (ts.length : Int) 1 10 && ts.all itB
/-- At most ten of them, perhaps none. -/
structure OkI (ts : List (Int × Int × Int)) : Prop where
  len : ts.length ≤ 10
  all : ∀ b ∈ ts, itB b = true

theorem allI_of {ts : List (Int × Int × Int)} (h : ∀ (k : Nat) b, ts[k]? = some b → itB b = true) : ts.all itB = true := by
  rw [List.all_eq_true]
  intro x hx
  obtain ⟨k, hk⟩ := List.getElem?_of_mem hx
  exact h k x hk
theorem allI_not {ts : List (Int × Int × Int)} {k : Nat} {b : Int × Int × Int} (h : ts[k]? = some b) (hu : itB b = false) : ts.all itB = false := by
  rw [List.all_eq_false]
  exact ⟨b, List.mem_of_getElem? h, by simp [hu]⟩
theorem goodI_ok {ts : List (Int × Int × Int)} (h : goodI ts = true) : OkI ts := by
  simp only [goodI, Bool.and_eq_true, inB_true, List.all_eq_true] at h
  exact ⟨by omega, h.2⟩
theorem goodI_one {ts : List (Int × Int × Int)} (h : goodI ts = true) : 1 ≤ ts.length := by
  simp only [goodI, Bool.and_eq_true, inB_true] at h
  omega

/-- Item 'k'. -/
def itm (ts : List (Int × Int × Int)) (k : Int) : Int × Int × Int := ts.getD k.toNat (0, 0, 0)
def wI (ts : List (Int × Int × Int)) (k : Int) : Int := (itm ts k).1
def bI (ts : List (Int × Int × Int)) (k : Int) : Int := (itm ts k).2.1
def vI (ts : List (Int × Int × Int)) (k : Int) : Int := (itm ts k).2.2
theorem itm_at {ts : List (Int × Int × Int)} {k : Nat} {t : Int × Int × Int} (h : ts[k]? = some t) : itm ts (k : Int) = t := by simp [itm, List.getD, h]
theorem itm_w {ts : List (Int × Int × Int)} {k : Nat} {x y z : Int} (h : ts[k]? = some (x, y, z)) : wI ts (k : Int) = x ∧ bI ts (k : Int) = y ∧ vI ts (k : Int) = z := by
  unfold wI bI vI; rw [itm_at h]; exact ⟨rfl, rfl, rfl⟩
theorem itm_bd {ts : List (Int × Int × Int)} (h : OkI ts) (k : Int) : (0 ≤ wI ts k ∧ wI ts k ≤ 200) ∧ (0 ≤ bI ts k ∧ bI ts k ≤ 200) ∧ 0 ≤ vI ts k ∧ vI ts k ≤ 200 := by
  unfold wI bI vI itm
  rcases Nat.lt_or_ge k.toNat ts.length with hlt | hge
  · have e : ts[k.toNat]? = some ts[k.toNat] := List.getElem?_eq_getElem hlt
    rw [List.getD, e]
    exact itB_true.1 (h.all _ (List.getElem_mem hlt))
  · rw [List.getD, List.getElem?_eq_none hge]
    simp
theorem item_bd {ts : List (Int × Int × Int)} (h : OkI ts) {k : Nat} {x y z : Int} (hx : ts[k]? = some (x, y, z)) : (0 ≤ x ∧ x ≤ 200) ∧ (0 ≤ y ∧ y ≤ 200) ∧ 0 ≤ z ∧ z ≤ 200 :=
  itB_true.1 (h.all _ (List.mem_of_getElem? hx))

theorem take_snocI {α : Type} {L : List α} {k : Nat} {x : α} (h : L[k]? = some x) : L.take (k + 1) = L.take k ++ [x] := by
  obtain ⟨hk, rfl⟩ := List.getElem?_eq_some_iff.1 h
  exact List.take_succ_eq_append_getElem hk

/-- The sum of a number of each. -/
def sumF (f : Int → Int) : List Int → Int
  | [] => 0
  | k :: ks => f k + sumF f ks
theorem sumF_append (f : Int → Int) (xs ys : List Int) : sumF f (xs ++ ys) = sumF f xs + sumF f ys := by
  induction xs with
  | nil => simp [sumF]
  | cons x xs ih => simp only [List.cons_append, sumF, ih]; omega
theorem sumF_snoc (f : Int → Int) (xs : List Int) (k : Int) : sumF f (xs ++ [k]) = sumF f xs + f k := by rw [sumF_append]; simp [sumF]
theorem sumF_next (f : Int → Int) {ks : List Int} {j : Nat} {u : Int} (h : ks[j]? = some u) : sumF f (ks.take (j + 1)) = sumF f (ks.take j) + f u := by
  rw [take_snocI h, sumF_snoc]
theorem sumF_bd {f : Int → Int} (hf : ∀ k, 0 ≤ f k ∧ f k ≤ 200) (ks : List Int) : 0 ≤ sumF f ks ∧ sumF f ks ≤ 200 * (ks.length : Int) := by
  induction ks with
  | nil => simp [sumF]
  | cons k ks ih =>
    have := hf k
    simp only [sumF, List.length_cons]
    push_cast
    omega
theorem wI_f {ts : List (Int × Int × Int)} (h : OkI ts) : ∀ k, 0 ≤ wI ts k ∧ wI ts k ≤ 200 := fun k => (itm_bd h k).1
theorem bI_f {ts : List (Int × Int × Int)} (h : OkI ts) : ∀ k, 0 ≤ bI ts k ∧ bI ts k ≤ 200 := fun k => (itm_bd h k).2.1
theorem vI_f {ts : List (Int × Int × Int)} (h : OkI ts) : ∀ k, 0 ≤ vI ts k ∧ vI ts k ≤ 200 := fun k => (itm_bd h k).2.2

/-- The number before place 'j'; before the first one it is -1. -/
def befI (ks : List Int) (j : Nat) : Int := if j = 0 then -1 else ks.getD (j - 1) 0
theorem befI_zero (ks : List Int) : befI ks 0 = -1 := rfl
theorem befI_succ {ks : List Int} {j : Nat} {u : Int} (h : ks[j]? = some u) : befI ks (j + 1) = u := by simp [befI, List.getD, h]
def stpI (n : Nat) (ks : List Int) (j : Nat) : Bool := decide (0 ≤ ks.getD j 0) && decide (ks.getD j 0 < (n : Int)) && decide (befI ks j < ks.getD j 0)
theorem stpI_at {n : Nat} {ks : List Int} {j : Nat} {u : Int} (h : ks[j]? = some u) : stpI n ks j = (decide (0 ≤ u) && decide (u < (n : Int)) && decide (befI ks j < u)) := by simp [stpI, List.getD, h]
/-- The list rises and has only numbers below 'n'. -/
def incI (n : Nat) (ks : List Int) : Bool := (List.range ks.length).all (stpI n ks)
theorem incI_true {n : Nat} {ks : List Int} : incI n ks = true ↔ ∀ (j : Nat) u, ks[j]? = some u → (0 ≤ u ∧ u < (n : Int)) ∧ befI ks j < u := by
  simp only [incI, List.all_eq_true, List.mem_range]
  constructor
  · intro h j u hj
    have hjl := (List.getElem?_eq_some_iff.1 hj).1
    have := h j hjl
    rw [stpI_at hj] at this
    simpa [and_assoc] using this
  · intro h j hj
    have e : ks[j]? = some ks[j] := List.getElem?_eq_getElem hj
    rw [stpI_at e]
    simpa [and_assoc] using h j _ e
theorem incI_not {n : Nat} {ks : List Int} {j : Nat} {u : Int} (hj : ks[j]? = some u) (h : ¬ ((0 ≤ u ∧ u < (n : Int)) ∧ befI ks j < u)) : incI n ks = false := by
  rw [Bool.eq_false_iff]
  intro hs
  exact h (incI_true.1 hs j u hj)
theorem incI_low {ks : List Int} {n j : Nat} (hjl : j ≤ ks.length) (h : ∀ (i : Nat) u, i < j → ks[i]? = some u → (0 ≤ u ∧ u < (n : Int)) ∧ befI ks i < u) : (j : Int) - 1 ≤ befI ks j ∧ befI ks j < (n : Int) ∨ j = 0 := by
  induction j with
  | zero => exact .inr rfl
  | succ j ih =>
    left
    have e : ks[j]? = some ks[j] := List.getElem?_eq_getElem (by omega)
    obtain ⟨⟨h1, h2⟩, h3⟩ := h j _ (by omega) e
    rw [befI_succ e]
    rcases ih (by omega) (fun i u hi => h i u (by omega)) with h4 | h4
    · constructor
      · push_cast; omega
      · exact h2
    · subst h4; exact ⟨by simpa using h1, h2⟩
theorem incI_len_take {ks : List Int} {n j : Nat} (hjl : j ≤ ks.length) (h : ∀ (i : Nat) u, i < j → ks[i]? = some u → (0 ≤ u ∧ u < (n : Int)) ∧ befI ks i < u) : j ≤ n := by
  rcases incI_low hjl h with h1 | h1
  · omega
  · omega
theorem incI_len {n : Nat} {ks : List Int} (h : incI n ks = true) : ks.length ≤ n := incI_len_take (Nat.le_refl _) fun i u _ hu => incI_true.1 h i u hu
theorem incI_nil (n : Nat) : incI n [] = true := rfl
/-- An item of a list is there. -/
theorem inc_item {n : Nat} {ks : List Int} (h : incI n ks = true) {k : Nat} {u : Int} (hu : ks[k]? = some u) : ∃ j : Nat, u = (j : Int) ∧ j < n := by
  have := (incI_true.1 h k u hu).1
  exact ⟨u.toNat, by omega, by omega⟩
theorem inc_mem {n : Nat} {ks : List Int} (h : incI n ks = true) {u : Int} (hu : u ∈ ks) : 0 ≤ u ∧ u < (n : Int) := by
  obtain ⟨k, hk⟩ := List.getElem?_of_mem hu
  exact (incI_true.1 h k u hk).1
theorem incI_snoc {n : Nat} {ks : List Int} {k : Nat} (h : incI n ks = true) (hk : k < n) (hl : ∀ x ∈ ks, x < (k : Int)) : incI n (ks ++ [(k : Int)]) = true := by
  refine incI_true.2 fun j u hj => ?_
  have hb : ∀ j, j < ks.length → befI (ks ++ [(k : Int)]) j = befI ks j := by
    intro j hj
    unfold befI
    split
    · rfl
    · simp only [List.getD]
      rw [List.getElem?_append_left (by omega)]
  by_cases hlt : j < ks.length
  · rw [List.getElem?_append_left hlt] at hj
    rw [hb j hlt]
    exact incI_true.1 h j u hj
  · have hjl := (List.getElem?_eq_some_iff.1 hj).1
    simp at hjl
    obtain rfl : j = ks.length := by omega
    rw [List.getElem?_append_right (Nat.le_refl _)] at hj
    simp at hj
    subst hj
    refine ⟨⟨by omega, by omega⟩, ?_⟩
    unfold befI
    split
    · omega
    · rename_i h0
      have e : ks[ks.length - 1]? = some ks[ks.length - 1] := List.getElem?_eq_getElem (by omega)
      simp only [List.getD]
      rw [List.getElem?_append_left (by omega), e]
      exact hl _ (List.getElem_mem _)

/-- They fit. -/
def fitI (ts : List (Int × Int × Int)) (W B : Int) (ks : List Int) : Bool := decide (sumF (wI ts) ks ≤ W) && decide (sumF (bI ts) ks ≤ B)
theorem fitI_true {ts : List (Int × Int × Int)} {W B : Int} {ks : List Int} : fitI ts W B ks = true ↔ sumF (wI ts) ks ≤ W ∧ sumF (bI ts) ks ≤ B := by simp [fitI]

/-- What goes on from a choice with one of the last 'r' items next. -/
def kidsC (ts : List (Int × Int × Int)) (W B : Int) : Nat → List Int → List (List Int)
  | 0, _ => []
  | r + 1, beg => (if fitI ts W B (beg ++ [((ts.length - (r + 1) : Nat) : Int)]) = true then (beg ++ [((ts.length - (r + 1) : Nat) : Int)]) :: kidsC ts W B r (beg ++ [((ts.length - (r + 1) : Nat) : Int)]) else []) ++ kidsC ts W B r beg
/-- All choices, in their order. -/
def allC (ts : List (Int × Int × Int)) (W B : Int) : List (List Int) := [] :: kidsC ts W B ts.length []

theorem kidsC_yes {ts : List (Int × Int × Int)} {W B : Int} {beg : List Int} {n j : Nat} (hn : ts.length = n) (hj : j < n) (h : fitI ts W B (beg ++ [(j : Int)]) = true) :
    kidsC ts W B (n - j) beg = (beg ++ [(j : Int)]) :: kidsC ts W B (n - (j + 1)) (beg ++ [(j : Int)]) ++ kidsC ts W B (n - (j + 1)) beg := by
  obtain ⟨r, hr⟩ : ∃ r, n - j = r + 1 := ⟨n - j - 1, by omega⟩
  have e : ts.length - (r + 1) = j := by omega
  have e2 : n - (j + 1) = r := by omega
  rw [hr, e2, kidsC, e, if_pos h]
theorem kidsC_no {ts : List (Int × Int × Int)} {W B : Int} {beg : List Int} {n j : Nat} (hn : ts.length = n) (hj : j < n) (h : fitI ts W B (beg ++ [(j : Int)]) = false) :
    kidsC ts W B (n - j) beg = kidsC ts W B (n - (j + 1)) beg := by
  obtain ⟨r, hr⟩ : ∃ r, n - j = r + 1 := ⟨n - j - 1, by omega⟩
  have e : ts.length - (r + 1) = j := by omega
  have e2 : n - (j + 1) = r := by omega
  rw [hr, e2, kidsC, e, if_neg (by rw [h]; decide), List.nil_append]
theorem kidsC_len (ts : List (Int × Int × Int)) (W B : Int) (r : Nat) : ∀ beg : List Int, (kidsC ts W B r beg).length + 1 ≤ 2 ^ r := by
  induction r with
  | zero => intro beg; simp [kidsC]
  | succ r ih =>
    intro beg
    rw [kidsC, List.length_append, Nat.pow_succ]
    have h1 := ih beg
    split
    · rw [List.length_cons]
      have h2 := ih (beg ++ [((ts.length - (r + 1) : Nat) : Int)])
      omega
    · simp only [List.length_nil]
      omega
theorem kidsC_few {ts : List (Int × Int × Int)} {W B : Int} {r : Nat} (hr : r ≤ 10) (beg : List Int) : (kidsC ts W B r beg).length + 1 ≤ 1024 :=
  Nat.le_trans (kidsC_len ts W B r beg) (Nat.le_trans (Nat.pow_le_pow_right (by omega) hr) (by decide))
theorem allC_few {ts : List (Int × Int × Int)} (h : OkI ts) (W B : Int) : (allC ts W B).length ≤ 1024 := by
  rw [allC, List.length_cons]
  exact kidsC_few h.len []

/-- A choice that has only items below 'k' and fits. -/
structure BegI (ts : List (Int × Int × Int)) (k : Nat) (beg : List Int) : Prop where
  inc : incI ts.length beg = true
  low : ∀ x ∈ beg, x < (k : Int)
theorem BegI.snoc {ts : List (Int × Int × Int)} {k j : Nat} {beg : List Int} (h : BegI ts k beg) (hkj : k ≤ j) (hj : j < ts.length) : BegI ts (j + 1) (beg ++ [(j : Int)]) := by
  have hl : ∀ x ∈ beg, x < (j : Int) := fun x hx => by have := h.low x hx; omega
  refine ⟨incI_snoc h.inc hj hl, fun x hx => ?_⟩
  rcases List.mem_append.1 hx with hx | hx
  · have := hl x hx; omega
  · rw [List.mem_singleton.1 hx]; omega
theorem BegI.len {ts : List (Int × Int × Int)} {k : Nat} {beg : List Int} (h : BegI ts k beg) : beg.length ≤ ts.length := incI_len h.inc
theorem BegI.nil_ (ts : List (Int × Int × Int)) : BegI ts 0 [] := ⟨rfl, fun x hx => by cases hx⟩
theorem BegI.up {ts : List (Int × Int × Int)} {k j : Nat} {beg : List Int} (h : BegI ts k beg) (hkj : k ≤ j) : BegI ts j beg := ⟨h.inc, fun x hx => by have := h.low x hx; omega⟩

/-- What holds of all choices: they rise, and they fit. -/
theorem kidsC_mem {ts : List (Int × Int × Int)} {W B : Int} (r : Nat) : ∀ beg : List Int, r ≤ ts.length → BegI ts (ts.length - r) beg → ∀ xs ∈ kidsC ts W B r beg, incI ts.length xs = true ∧ fitI ts W B xs = true := by
  induction r with
  | zero => intro beg _ _ xs hx; simp [kidsC] at hx
  | succ r ih =>
    intro beg hr hb xs hx
    rw [kidsC] at hx
    have hs := hb.snoc (j := ts.length - (r + 1)) (Nat.le_refl _) (by omega)
    rw [show ts.length - (r + 1) + 1 = ts.length - r by omega] at hs
    rcases List.mem_append.1 hx with hx | hx
    · split at hx
      · rename_i hf
        rcases List.mem_cons.1 hx with rfl | hx
        · exact ⟨hs.inc, hf⟩
        · exact ih _ (by omega) hs xs hx
      · cases hx
    · exact ih _ (by omega) (hb.up (by omega)) xs hx
theorem allC_mem {ts : List (Int × Int × Int)} {W B : Int} (hW : 0 ≤ W) (hB : 0 ≤ B) {xs : List Int} (h : xs ∈ allC ts W B) : incI ts.length xs = true ∧ fitI ts W B xs = true := by
  rcases List.mem_cons.1 h with rfl | h
  · exact ⟨rfl, fitI_true.2 ⟨hW, hB⟩⟩
  · exact kidsC_mem _ _ (Nat.le_refl _) (by rw [Nat.sub_self]; exact BegI.nil_ ts) xs h

/-- A choice. -/
def chI (ts : List (Int × Int × Int)) (W B : Int) (ks : List Int) : Bool := incI ts.length ks && fitI ts W B ks
/-- There are items, and a suitcase. -/
def askI (ts : List (Int × Int × Int)) (W B : Int) : Bool := goodI ts && inB W 0 200 && inB B 0 200
theorem askI_true {ts : List (Int × Int × Int)} {W B : Int} : askI ts W B = true ↔ goodI ts = true ∧ (0 ≤ W ∧ W ≤ 200) ∧ 0 ≤ B ∧ B ≤ 200 := by simp [askI, inB_true, and_assoc]
end Go.Proofs.Ytjpejhpilfjheab
