/-
  One item of a choice given for another one: what both programs look for; no program is spoken of here.
  Conditions: none.
-/
import Derived.Test.YtjpejhpilfjheabSuPk
namespace Go.Proofs.Ytjpejhpilfjheab
set_option linter.unusedVariables false
open Go.RowKit

theorem rises_of_inc {n : Nat} {ks : List Int} (h : incI n ks = true) : ks.Pairwise (· < ·) := by
  have h' := incI_true.1 h
  have key : ∀ d i, ∀ (hi : i + 1 + d < ks.length), ks[i]'(by omega) < ks[i + 1 + d] := by
    intro d
    induction d with
    | zero =>
      intro i hi
      have h2 := (h' (i + 1) _ (List.getElem?_eq_getElem (by omega))).2
      rw [befI_succ (List.getElem?_eq_getElem (by omega : i < ks.length))] at h2
      exact h2
    | succ d ih =>
      intro i hi
      have h1 := ih i (by omega)
      have h2 := (h' (i + 1 + d + 1) _ (List.getElem?_eq_getElem (by omega))).2
      rw [befI_succ (List.getElem?_eq_getElem (by omega : i + 1 + d < ks.length))] at h2
      exact Int.lt_trans h1 h2
  rw [List.pairwise_iff_getElem]
  intro i j hi hj hij
  obtain ⟨d, rfl⟩ : ∃ d, j = i + 1 + d := ⟨j - i - 1, by omega⟩
  exact key d i hj

/-- What is left of a choice without number 'i'. -/
def restX (ks : List Int) (i : Nat) : List Int := ks.take i ++ ks.drop (i + 1)
theorem restX_len {ks : List Int} {i : Nat} (h : i < ks.length) : (restX ks i).length = ks.length - 1 := by simp [restX]; omega
theorem restX_sub (ks : List Int) (i : Nat) : (restX ks i).Sublist ks := by
  have h : (restX ks i).Sublist (ks.take i ++ ks.drop i) := (List.Sublist.refl _).append (by rw [← List.drop_drop]; exact List.drop_sublist _ _)
  rwa [List.take_append_drop] at h
theorem restX_inc {n : Nat} {ks : List Int} (i : Nat) (h : incI n ks = true) : incI n (restX ks i) = true :=
  inc_of_rises ((rises_of_inc h).sublist (restX_sub ks i)) fun x hx => inc_mem h ((restX_sub ks i).subset hx)
theorem restX_sum (f : Int → Int) {ks : List Int} {i : Nat} {k : Int} (h : ks[i]? = some k) : sumF f (restX ks i) = sumF f ks - f k := by
  obtain ⟨hl, rfl⟩ := List.getElem?_eq_some_iff.1 h
  have e : ks = ks.take i ++ ks[i] :: ks.drop (i + 1) := by rw [← List.drop_eq_getElem_cons hl, List.take_append_drop]
  have h2 := congrArg (sumF f) e
  rw [sumF_append] at h2
  simp only [sumF] at h2
  rw [restX, sumF_append]
  omega

/-- Another one put where it belongs. -/
def nextX (ks : List Int) (i : Nat) (o : Int) : List Int := insG upLt (restX ks i) o
theorem nextX_sum (f : Int → Int) {ks : List Int} {i : Nat} {k : Int} (h : ks[i]? = some k) (o : Int) : sumF f (nextX ks i o) = sumF f ks - f k + f o := by
  rw [nextX, sumF_perm f (insG_perm upLt _ o)]
  simp only [sumF]
  rw [restX_sum f h]
  omega
theorem nextX_inc {n : Nat} {ks : List Int} (i : Nat) (h : incI n ks = true) {o : Nat} (ho : o < n) (hn : ¬ (o : Int) ∈ ks) : incI n (nextX ks i o) = true := by
  have hnr : (o : Int) ∉ restX ks i := fun e => hn ((restX_sub ks i).subset e)
  refine inc_of_rises (insLt_rises ((rises_of_inc h).sublist (restX_sub ks i)) hnr) fun x hx => ?_
  rcases List.mem_cons.1 ((insG_perm upLt _ _).mem_iff.1 hx) with rfl | hx
  · omega
  · exact inc_mem h ((restX_sub ks i).subset hx)
theorem nextX_len {ks : List Int} {i : Nat} (h : i < ks.length) (o : Int) : (nextX ks i o).length = ks.length - 1 + 1 := by
  rw [nextX, (insG_perm upLt _ _).length_eq, List.length_cons, restX_len h]

/-- There is room for it. -/
def okX (ts : List (Int × Int × Int)) (W B : Int) (ks : List Int) (i : Nat) (o : Int) : Bool := decide (wI ts o ≤ W - sumF (wI ts) (restX ks i)) && decide (bI ts o ≤ B - sumF (bI ts) (restX ks i))
theorem fit_nextX {ts : List (Int × Int × Int)} {W B : Int} {ks : List Int} {i : Nat} {k : Int} (h : ks[i]? = some k) (o : Int) : fitI ts W B (nextX ks i o) = okX ts W B ks i o := by
  rw [fitI, okX, nextX_sum _ h, nextX_sum _ h, restX_sum _ h, restX_sum _ h]
  congr 1
  · rw [decide_eq_decide]; omega
  · rw [decide_eq_decide]; omega

/-- The best so far (the item, the other one, what is gained), and one more that may be better. -/
abbrev StX := Int × Int × Int
def exS (ts : List (Int × Int × Int)) (W B : Int) (ks : List Int) (i : Nat) (k : Int) (st : StX) (o : Int) : StX :=
  if st.2.2 < vI ts o - vI ts k ∧ okX ts W B ks i o = true ∧ ¬ o ∈ ks then (k, o, vI ts o - vI ts k) else st
def exIn (ts : List (Int × Int × Int)) (W B : Int) (ks : List Int) (i : Nat) (k : Int) (st : StX) (j : Nat) : StX := (below j).foldl (exS ts W B ks i k) st
def exOut (ts : List (Int × Int × Int)) (W B : Int) (ks : List Int) : Nat → StX
  | 0 => (0, 0, 0)
  | i + 1 => exIn ts W B ks i (ks.getD i 0) (exOut ts W B ks i) ts.length
theorem below_next (j : Nat) : below (j + 1) = below j ++ [(j : Int)] := by simp [below, List.range_succ]
theorem exIn_next (ts : List (Int × Int × Int)) (W B : Int) (ks : List Int) (i : Nat) (k : Int) (st : StX) (j : Nat) : exIn ts W B ks i k st (j + 1) = exS ts W B ks i k (exIn ts W B ks i k st j) (j : Int) := by simp [exIn, below_next]
theorem exOut_next {ts : List (Int × Int × Int)} {W B : Int} {ks : List Int} {i : Nat} {k : Int} (h : ks[i]? = some k) : exOut ts W B ks (i + 1) = exIn ts W B ks i k (exOut ts W B ks i) ts.length := by
  rw [exOut]; simp [List.getD, h]
theorem exS_yes {ts : List (Int × Int × Int)} {W B : Int} {ks : List Int} {i : Nat} {k : Int} {st : StX} {o : Int} (h1 : st.2.2 < vI ts o - vI ts k) (h2 : okX ts W B ks i o = true) (h3 : ¬ o ∈ ks) : exS ts W B ks i k st o = (k, o, vI ts o - vI ts k) := if_pos ⟨h1, h2, h3⟩
theorem exS_low {ts : List (Int × Int × Int)} {W B : Int} {ks : List Int} {i : Nat} {k : Int} {st : StX} {o : Int} (h1 : ¬ st.2.2 < vI ts o - vI ts k) : exS ts W B ks i k st o = st := if_neg fun h => h1 h.1
theorem exS_full {ts : List (Int × Int × Int)} {W B : Int} {ks : List Int} {i : Nat} {k : Int} {st : StX} {o : Int} (h1 : okX ts W B ks i o = false) : exS ts W B ks i k st o = st := if_neg fun h => by rw [h1] at h; cases h.2.1
theorem exS_in {ts : List (Int × Int × Int)} {W B : Int} {ks : List Int} {i : Nat} {k : Int} {st : StX} {o : Int} (h1 : o ∈ ks) : exS ts W B ks i k st o = st := if_neg fun h => h.2.2 h1

/-- What is gained is bounded, and there is none as long as nothing is found. -/
def OkX (st : StX) : Prop := (0 ≤ st.2.2 ∧ st.2.2 ≤ 200) ∧ 0 ≤ st.1 ∧ (st.2.2 = 0 → st = (0, 0, 0))
theorem OkX.step {ts : List (Int × Int × Int)} {W B : Int} {ks : List Int} {i : Nat} {k : Int} {st : StX} (h : OkX st) (hg : OkI ts) (hk : 0 ≤ k) (o : Int) : OkX (exS ts W B ks i k st o) := by
  rw [exS]
  split
  · rename_i h2
    have h1 := h.1
    have h3 := vI_f hg o
    have h4 := vI_f hg k
    refine ⟨by simp only []; omega, hk, fun e => ?_⟩
    simp only [] at e
    omega
  · exact h
theorem OkX.inn {ts : List (Int × Int × Int)} {W B : Int} {ks : List Int} {i : Nat} {k : Int} {st : StX} (h : OkX st) (hg : OkI ts) (hk : 0 ≤ k) (j : Nat) : OkX (exIn ts W B ks i k st j) := by
  induction j with
  | zero => exact h
  | succ j ih => rw [exIn_next]; exact ih.step hg hk _
theorem OkX.out (ts : List (Int × Int × Int)) (W B : Int) {ks : List Int} (hg : OkI ts) (hk : incI ts.length ks = true) : ∀ i, i ≤ ks.length → OkX (exOut ts W B ks i) := by
  intro i
  induction i with
  | zero => intro _; exact ⟨⟨Int.le_refl _, by show (0 : Int) ≤ 200; omega⟩, Int.le_refl _, fun _ => rfl⟩
  | succ i ih =>
    intro hi
    have e : ks[i]? = some ks[i] := List.getElem?_eq_getElem (by omega)
    rw [exOut_next e]
    exact (ih (by omega)).inn hg (inc_mem hk (List.mem_of_getElem? e)).1 _
end Go.Proofs.Ytjpejhpilfjheab
