/-
  An item that is in each best choice is one without which no choice is as good; no program is spoken of here.
  Conditions: none.
-/
import Derived.Test.YtmgloknghoeheaaSuB
namespace Go.Proofs.Ytmgloknghoeheaa
set_option linter.unusedVariables false
open Go.RowKit

theorem restK_one (ts : List (Int × Int × Int)) (i : Nat) (j : Nat) (hj : j ≤ ts.length) : restK ts [(i : Int)] j = (ts.take j).eraseIdx i := by
  induction j with
  | zero => simp [restK]
  | succ j ih =>
    have e : ts[j]? = some ts[j] := List.getElem?_eq_getElem (by omega)
    have hl : (ts.take j).length = j := by rw [List.length_take]; omega
    rw [take_snocI e]
    by_cases h : j = i
    · subst h
      rw [restK_yes (by simp), ih (by omega), List.eraseIdx_append_of_length_le (by omega), hl, Nat.sub_self]
      rw [List.eraseIdx_of_length_le (by omega)]
      simp
    · rw [restK_no (by simp; omega) e, ih (by omega)]
      by_cases h2 : i < j
      · rw [List.eraseIdx_append_of_lt_length (by omega)]
      · rw [List.eraseIdx_of_length_le (by omega), List.eraseIdx_of_length_le (by simp; omega)]
theorem restI_one (ts : List (Int × Int × Int)) (i : Nat) : restI ts [(i : Int)] = ts.eraseIdx i := by
  rw [restI, restK_one ts i _ (Nat.le_refl _), List.take_length]

/-- Where an item was before another one was left away. -/
def shI (i : Nat) (k : Int) : Int := if k < (i : Int) then k else k + 1
def shL (i : Nat) (c : List Int) : List Int := c.map (shI i)
theorem shL_snoc (i : Nat) (c : List Int) (k : Int) : shL i (c ++ [k]) = shL i c ++ [shI i k] := by simp [shL]
theorem shL_far (i : Nat) (c : List Int) : (i : Int) ∉ shL i c := by
  intro h
  obtain ⟨k, _, hk⟩ := List.mem_map.1 h
  unfold shI at hk
  split at hk
  · omega
  · omega
theorem itm_sh (ts : List (Int × Int × Int)) (i : Nat) {k : Int} (hk : 0 ≤ k) : itm (ts.eraseIdx i) k = itm ts (shI i k) := by
  unfold itm shI
  simp only [List.getD]
  rw [List.getElem?_eraseIdx]
  by_cases h : k.toNat < i
  · rw [if_pos h, if_pos (by omega)]
  · rw [if_neg h, if_neg (by omega)]
    have : (k + 1).toNat = k.toNat + 1 := by omega
    rw [this]
theorem sum_sh {f f' : Int → Int} {i : Nat} (hf : ∀ k, 0 ≤ k → f' k = f (shI i k)) (c : List Int) (hc : ∀ x ∈ c, 0 ≤ x) : sumF f' c = sumF f (shL i c) := by
  induction c with
  | nil => rfl
  | cons k c ih =>
    have h1 := ih (fun x hx => hc x (List.mem_cons_of_mem _ hx))
    have h2 := hf k (hc k List.mem_cons_self)
    simp only [shL, List.map_cons, sumF] at *
    rw [h1, h2]
theorem wI_sh (ts : List (Int × Int × Int)) (i : Nat) : ∀ k, 0 ≤ k → wI (ts.eraseIdx i) k = wI ts (shI i k) := fun k hk => by unfold wI; rw [itm_sh ts i hk]
theorem bI_sh (ts : List (Int × Int × Int)) (i : Nat) : ∀ k, 0 ≤ k → bI (ts.eraseIdx i) k = bI ts (shI i k) := fun k hk => by unfold bI; rw [itm_sh ts i hk]
theorem vI_sh (ts : List (Int × Int × Int)) (i : Nat) : ∀ k, 0 ≤ k → vI (ts.eraseIdx i) k = vI ts (shI i k) := fun k hk => by unfold vI; rw [itm_sh ts i hk]
theorem fit_sh (ts : List (Int × Int × Int)) (W B : Int) (i : Nat) (c : List Int) (hc : ∀ x ∈ c, 0 ≤ x) : fitI (ts.eraseIdx i) W B c = fitI ts W B (shL i c) := by
  unfold fitI
  rw [sum_sh (wI_sh ts i) c hc, sum_sh (bI_sh ts i) c hc]
theorem nn_snoc {c : List Int} (hc : ∀ x ∈ c, 0 ≤ x) (k : Nat) : ∀ x ∈ c ++ [(k : Int)], 0 ≤ x := by
  intro x hx
  rcases List.mem_append.1 hx with hx | hx
  · exact hc x hx
  · rw [List.mem_singleton.1 hx]; omega

theorem kids_after {ts : List (Int × Int × Int)} {i n : Nat} (hn : ts.length = n) (hi : i < n) (W B : Int) (r : Nat) : ∀ c : List Int, r + i + 1 ≤ n → (∀ x ∈ c, 0 ≤ x) →
    kidsC ts W B r (shL i c) = (kidsC (ts.eraseIdx i) W B r c).map (shL i) := by
  induction r with
  | zero => intro c _ _; rfl
  | succ r ih =>
    intro c hr hc
    have hl : (ts.eraseIdx i).length = n - 1 := by rw [List.length_eraseIdx_of_lt (by omega), hn]
    have e : shI i ((n - 1 - (r + 1) : Nat) : Int) = ((n - (r + 1) : Nat) : Int) := by unfold shI; rw [if_neg (by omega)]; omega
    have e2 : shL i (c ++ [((n - 1 - (r + 1) : Nat) : Int)]) = shL i c ++ [((n - (r + 1) : Nat) : Int)] := by rw [shL_snoc, e]
    have hn2 := nn_snoc hc (n - 1 - (r + 1))
    have hf := fit_sh ts W B i _ hn2
    have h2 := ih _ (by omega) hn2
    rw [e2] at hf h2
    rw [kidsC, kidsC, hn, hl, hf, ih c (by omega) hc, h2]
    split
    · simp [e2]
    · simp
theorem kids_pre {ts : List (Int × Int × Int)} {W B : Int} (r : Nat) : ∀ beg : List Int, ∀ xs ∈ kidsC ts W B r beg, ∀ x ∈ beg, x ∈ xs := by
  induction r with
  | zero => intro beg xs hx; simp [kidsC] at hx
  | succ r ih =>
    intro beg xs hx x hb
    rw [kidsC] at hx
    rcases List.mem_append.1 hx with hx | hx
    · split at hx
      · rcases List.mem_cons.1 hx with rfl | hx
        · exact List.mem_append.2 (.inl hb)
        · exact ih _ xs hx x (List.mem_append.2 (.inl hb))
      · cases hx
    · exact ih _ xs hx x hb
/-- The lists in which an item is not. -/
def offI (i : Nat) (L : List (List Int)) : List (List Int) := L.filter fun c => !decide ((i : Int) ∈ c)
theorem offI_app (i : Nat) (L M : List (List Int)) : offI i (L ++ M) = offI i L ++ offI i M := by simp [offI]
theorem offI_cons_no (i : Nat) (c : List Int) (L : List (List Int)) (h : (i : Int) ∉ c) : offI i (c :: L) = c :: offI i L := by simp [offI, h]
theorem offI_all {i : Nat} {L : List (List Int)} (h : ∀ c ∈ L, (i : Int) ∈ c) : offI i L = [] := by
  unfold offI
  rw [List.filter_eq_nil_iff]
  intro c hc
  simp [h c hc]
theorem offI_map (i : Nat) (L : List (List Int)) : offI i (L.map (shL i)) = L.map (shL i) := by
  unfold offI
  rw [List.filter_eq_self]
  intro c hc
  obtain ⟨d, _, rfl⟩ := List.mem_map.1 hc
  simp [shL_far]
theorem kids_before {ts : List (Int × Int × Int)} {i n : Nat} (hn : ts.length = n) (hi : i < n) (W B : Int) (d : Nat) : ∀ c : List Int, d ≤ i → (∀ x ∈ c, 0 ≤ x) →
    offI i (kidsC ts W B (n - i + d) (shL i c)) = (kidsC (ts.eraseIdx i) W B (n - 1 - i + d) c).map (shL i) := by
  have hl : (ts.eraseIdx i).length = n - 1 := by rw [List.length_eraseIdx_of_lt (by omega), hn]
  induction d with
  | zero =>
    intro c _ hc
    have e : n - i + 0 = (n - 1 - i) + 1 := by omega
    have e1 : n - (n - 1 - i + 1) = i := by omega
    rw [e, kidsC, hn, e1, offI_app, kids_after hn hi W B (n - 1 - i) c (by omega) hc, offI_map, Nat.add_zero]
    have : offI i (if fitI ts W B (shL i c ++ [(i : Int)]) = true then (shL i c ++ [(i : Int)]) :: kidsC ts W B (n - 1 - i) (shL i c ++ [(i : Int)]) else []) = [] := by
      refine offI_all fun x hx => ?_
      split at hx
      · rcases List.mem_cons.1 hx with rfl | hx
        · simp
        · exact kids_pre _ _ x hx _ (by simp)
      · cases hx
    rw [this, List.nil_append]
  | succ d ih =>
    intro c hd hc
    have e : n - i + (d + 1) = (n - i + d) + 1 := by omega
    have e' : n - 1 - i + (d + 1) = (n - 1 - i + d) + 1 := by omega
    have ek : n - (n - i + d + 1) = i - (d + 1) := by omega
    have ek' : n - 1 - (n - 1 - i + d + 1) = i - (d + 1) := by omega
    have es : shI i ((i - (d + 1) : Nat) : Int) = ((i - (d + 1) : Nat) : Int) := by unfold shI; rw [if_pos (by omega)]
    have e2 : shL i (c ++ [((i - (d + 1) : Nat) : Int)]) = shL i c ++ [((i - (d + 1) : Nat) : Int)] := by rw [shL_snoc, es]
    have hn2 := nn_snoc hc (i - (d + 1))
    have hf := fit_sh ts W B i _ hn2
    have h2 := ih _ (by omega) hn2
    have hfar := shL_far i (c ++ [((i - (d + 1) : Nat) : Int)])
    rw [e2] at hf h2 hfar
    rw [e, e', kidsC, kidsC, hn, hl, ek, ek', hf, offI_app, ih c (by omega) hc]
    split
    · rw [offI_cons_no i _ _ hfar, h2]
      simp [e2]
    · simp [offI]
theorem all_off {ts : List (Int × Int × Int)} {i : Nat} (hi : i < ts.length) (W B : Int) : offI i (allC ts W B) = (allC (ts.eraseIdx i) W B).map (shL i) := by
  have h := kids_before rfl hi W B i [] (Nat.le_refl _) (fun x hx => by cases hx)
  have hl : (ts.eraseIdx i).length = ts.length - 1 := List.length_eraseIdx_of_lt hi
  rw [show ts.length - i + i = ts.length by omega, show ts.length - 1 - i + i = ts.length - 1 by omega] at h
  unfold allC
  rw [offI_cons_no i _ _ (by simp), List.map_cons, hl]
  exact congrArg _ h

/-- An item is in each best choice, or not. -/
theorem always_same {ts : List (Int × Int × Int)} {i : Nat} (hi : i < ts.length) (hg : OkI ts) {W B : Int} (hW : 0 ≤ W) (hB : 0 ≤ B) :
    (∀ c ∈ (bestL (valI ts) (allC ts W B)).1, (i : Int) ∈ c) ↔ (topI (restI ts [(i : Int)]) W B).1 < (topI ts W B).1 := by
  rw [restI_one]
  have hok : OkI (ts.eraseIdx i) := by rw [← restI_one]; exact restI_ok hg _
  obtain ⟨a1, a2, a3, a4⟩ := topI_same ts W B
  obtain ⟨b1, b2, b3, b4⟩ := topI_same (ts.eraseIdx i) W B
  obtain ⟨c1, c2, c3⟩ := bestL_all (valI ts) (allC ts W B)
  obtain ⟨d1, d2, d3⟩ := bestL_all (valI (ts.eraseIdx i)) (allC (ts.eraseIdx i) W B)
  rw [a2, b2]
  have hall := all_off hi W B
  have hval : ∀ c' ∈ allC (ts.eraseIdx i) W B, valI (ts.eraseIdx i) c' = valI ts (shL i c') := fun c' hc' => by
    have h1 := (allC_mem hW hB hc').1
    exact sum_sh (vI_sh ts i) c' (fun x hx => (inc_mem h1 hx).1)
  constructor
  · intro h
    obtain ⟨c', hc'⟩ := List.exists_mem_of_ne_nil _ b1
    obtain ⟨h1, h2⟩ := (d1 c').1 hc'
    have h3 : shL i c' ∈ offI i (allC ts W B) := by rw [hall]; exact List.mem_map.2 ⟨c', h1, rfl⟩
    have h4 : shL i c' ∈ allC ts W B := (List.mem_filter.1 h3).1
    have h5 := c3 _ h4
    rw [← hval c' h1, h2] at h5
    rcases Int.lt_or_eq_of_le h5 with h6 | h6
    · exact h6
    · exact absurd (h _ ((c1 _).2 ⟨h4, by rw [← hval c' h1, h2, h6]⟩)) (shL_far i c')
  · intro h c hc
    obtain ⟨h1, h2⟩ := (c1 c).1 hc
    by_cases hm : (i : Int) ∈ c
    · exact hm
    · have h3 : c ∈ offI i (allC ts W B) := List.mem_filter.2 ⟨h1, by simp [hm]⟩
      rw [hall] at h3
      obtain ⟨c', h4, rfl⟩ := List.mem_map.1 h3
      have h5 := d3 c' h4
      rw [hval c' h4, h2] at h5
      omega
end Go.Proofs.Ytmgloknghoeheaa
