/-
  The best of all choices, as both programs keep them; items that are left beside a choice; no program is spoken of here.
  Conditions: none.
-/
import Derived.Test.YtmgloknghoeheaaSuM
namespace Go.Proofs.Ytmgloknghoeheaa
set_option linter.unusedVariables false
open Go.RowKit

/-- One choice more: all the best ones so far, and their value. -/
def stepL (g : List Int → Int) (s : List (List Int) × Int) (c : List Int) : List (List Int) × Int :=
  if s.2 < g c then ([c], g c) else if g c = s.2 then (s.1 ++ [c], s.2) else s
def bestL (g : List Int → Int) (L : List (List Int)) : List (List Int) × Int := L.foldl (stepL g) ([], 0)
theorem bestL_next (g : List Int → Int) {L : List (List Int)} {k : Nat} {c : List Int} (h : L[k]? = some c) : bestL g (L.take (k + 1)) = stepL g (bestL g (L.take k)) c := by
  rw [take_snocI h, bestL, List.foldl_append]; rfl
theorem bestL_snoc (g : List Int → Int) (L : List (List Int)) (c : List Int) : bestL g (L ++ [c]) = stepL g (bestL g L) c := by simp [bestL]

/-- One choice is offered: the greatest worth, the first choice with it, how many. -/
def offF (s : Int × List Int × Nat) (c : List Int) (v : Int) : Int × List Int × Nat :=
  if s.2.2 = 0 ∨ s.1 < v then (v, c, 1) else if v = s.1 then (s.1, s.2.1, s.2.2 + 1) else s
def offL (g : List Int → Int) (L : List (List Int)) : Int × List Int × Nat := L.foldl (fun s c => offF s c (g c)) (0, [], 0)
theorem offL_snoc (g : List Int → Int) (L : List (List Int)) (c : List Int) : offL g (L ++ [c]) = offF (offL g L) c (g c) := by simp [offL]
theorem offF_count (s : Int × List Int × Nat) (c : List Int) (v : Int) : (offF s c v).2.2 ≤ s.2.2 + 1 := by
  unfold offF
  split
  · simp
  · split
    · exact Nat.le_refl _
    · omega
theorem offL_count (g : List Int → Int) (L : List (List Int)) : (offL g L).2.2 ≤ L.length := by
  have : ∀ (L : List (List Int)) (s : Int × List Int × Nat), (L.foldl (fun s c => offF s c (g c)) s).2.2 ≤ s.2.2 + L.length := by
    intro L
    induction L with
    | nil => intro s; exact Nat.le_refl _
    | cons x L ih =>
      intro s
      rw [List.foldl_cons, List.length_cons]
      have := ih (offF s x (g x))
      have := offF_count s x (g x)
      omega
  have h := this L (0, [], 0)
  rw [Nat.zero_add] at h
  exact h
theorem offF_first (s : Int × List Int × Nat) (c : List Int) (v : Int) : (offF s c v).2.1 = c ∨ (offF s c v).2.1 = s.2.1 := by
  unfold offF
  split
  · exact .inl rfl
  · split
    · exact .inr rfl
    · exact .inr rfl
theorem offL_mem (g : List Int → Int) (L : List (List Int)) : (offL g L).2.1 = [] ∨ (offL g L).2.1 ∈ L := by
  have : ∀ (L : List (List Int)) (s : Int × List Int × Nat), (L.foldl (fun s c => offF s c (g c)) s).2.1 = s.2.1 ∨ (L.foldl (fun s c => offF s c (g c)) s).2.1 ∈ L := by
    intro L
    induction L with
    | nil => intro s; exact .inl rfl
    | cons x L ih =>
      intro s
      rw [List.foldl_cons]
      rcases ih (offF s x (g x)) with h | h
      · rw [h]
        rcases offF_first s x (g x) with e | e
        · rw [e]; exact .inr List.mem_cons_self
        · rw [e]; exact .inl rfl
      · exact .inr (List.mem_cons_of_mem _ h)
  rcases this L (0, [], 0) with h | h
  · exact .inl h
  · exact .inr h
/-- The worth is that of one of them, or nothing. -/
theorem offF_bd {s : Int × List Int × Nat} {c : List Int} {v a b : Int} (h : a ≤ s.1 ∧ s.1 ≤ b) (hv : a ≤ v ∧ v ≤ b) : a ≤ (offF s c v).1 ∧ (offF s c v).1 ≤ b := by
  unfold offF
  split
  · exact hv
  · split
    · exact h
    · exact h
theorem offL_bd {g : List Int → Int} {a b : Int} (h0 : a ≤ 0 ∧ 0 ≤ b) (L : List (List Int)) (hg : ∀ c ∈ L, a ≤ g c ∧ g c ≤ b) : a ≤ (offL g L).1 ∧ (offL g L).1 ≤ b := by
  have : ∀ (L : List (List Int)) (s : Int × List Int × Nat), (a ≤ s.1 ∧ s.1 ≤ b) → (∀ c ∈ L, a ≤ g c ∧ g c ≤ b) → a ≤ (L.foldl (fun s c => offF s c (g c)) s).1 ∧ (L.foldl (fun s c => offF s c (g c)) s).1 ≤ b := by
    intro L
    induction L with
    | nil => intro s h _; exact h
    | cons x L ih =>
      intro s h hg
      rw [List.foldl_cons]
      exact ih _ (offF_bd h (hg x List.mem_cons_self)) (fun c hc => hg c (List.mem_cons_of_mem _ hc))
  exact this L (0, [], 0) h0 hg

/-- Both keep the same. -/
theorem best_off (g : List Int → Int) (L : List (List Int)) : ∀ (s : List (List Int) × Int) (t : Int × List Int × Nat), s.1 ≠ [] → t.1 = s.2 → t.2.2 = s.1.length → s.1[0]? = some t.2.1 →
    (L.foldl (stepL g) s).1 ≠ [] ∧ (L.foldl (fun s c => offF s c (g c)) t).1 = (L.foldl (stepL g) s).2 ∧ (L.foldl (fun s c => offF s c (g c)) t).2.2 = (L.foldl (stepL g) s).1.length ∧ (L.foldl (stepL g) s).1[0]? = some (L.foldl (fun s c => offF s c (g c)) t).2.1 := by
  induction L with
  | nil => intro s t h1 h2 h3 h4; exact ⟨h1, h2, h3, h4⟩
  | cons c L ih =>
    intro s t h1 h2 h3 h4
    rw [List.foldl_cons, List.foldl_cons]
    have hl : 0 < s.1.length := List.length_pos_iff.2 h1
    refine ih _ _ ?_ ?_ ?_ ?_
    · unfold stepL
      by_cases h : s.2 < g c
      · rw [if_pos h]; simp
      · rw [if_neg h]; split
        · simp
        · exact h1
    all_goals unfold stepL offF; rw [h3, h2]
    · by_cases h : s.2 < g c
      · rw [if_pos h, if_pos (.inr h)]
      · rw [if_neg h, if_neg (by omega)]; split
        · rfl
        · exact h2
    · by_cases h : s.2 < g c
      · rw [if_pos h, if_pos (.inr h)]; rfl
      · rw [if_neg h, if_neg (by omega)]; split
        · simp
        · exact h3
    · by_cases h : s.2 < g c
      · rw [if_pos h, if_pos (.inr h)]; rfl
      · have h6 : ¬ (s.1.length = 0 ∨ s.2 < g c) := by omega
        rw [if_neg h, if_neg h6]
        by_cases h5 : g c = s.2
        · rw [if_pos h5, if_pos h5, List.getElem?_append_left hl]; exact h4
        · rw [if_neg h5, if_neg h5]; exact h4
theorem best_same (g : List Int → Int) (L : List (List Int)) (h : g [] = 0) : (bestL g ([] :: L)).1 ≠ [] ∧ (offL g ([] :: L)).1 = (bestL g ([] :: L)).2 ∧ (offL g ([] :: L)).2.2 = (bestL g ([] :: L)).1.length ∧ (bestL g ([] :: L)).1[0]? = some (offL g ([] :: L)).2.1 := by
  have e1 : stepL g ([], 0) [] = ([[]], 0) := by unfold stepL; rw [h]; simp
  have e2 : offF (0, [], 0) [] (g []) = (0, [], 1) := by unfold offF; rw [h]; simp
  unfold bestL offL
  rw [List.foldl_cons, List.foldl_cons, e1, e2]
  exact best_off g L _ _ (by simp) rfl rfl rfl

/-- The value of a choice. -/
def valI (ts : List (Int × Int × Int)) (c : List Int) : Int := sumF (vI ts) c
theorem valI_nil (ts : List (Int × Int × Int)) : valI ts [] = 0 := rfl
theorem valI_bd {ts : List (Int × Int × Int)} (h : OkI ts) {c : List Int} (hc : incI ts.length c = true) : 0 ≤ valI ts c ∧ valI ts c ≤ 2000 := by
  have h1 := sumF_bd (vI_f h) c
  have h2 := incI_len hc
  have h3 := h.len
  unfold valI
  omega
/-- The best value, the first choice with it, how many. -/
def topI (ts : List (Int × Int × Int)) (W B : Int) : Int × List Int × Nat := offL (valI ts) (allC ts W B)
theorem topI_same (ts : List (Int × Int × Int)) (W B : Int) : (bestL (valI ts) (allC ts W B)).1 ≠ [] ∧ (topI ts W B).1 = (bestL (valI ts) (allC ts W B)).2 ∧ (topI ts W B).2.2 = (bestL (valI ts) (allC ts W B)).1.length ∧ (bestL (valI ts) (allC ts W B)).1[0]? = some (topI ts W B).2.1 :=
  best_same (valI ts) _ (valI_nil ts)
theorem topI_bd {ts : List (Int × Int × Int)} (h : OkI ts) {W B : Int} (hW : 0 ≤ W) (hB : 0 ≤ B) : 0 ≤ (topI ts W B).1 ∧ (topI ts W B).1 ≤ 2000 :=
  offL_bd (by omega) _ fun c hc => valI_bd h (allC_mem hW hB hc).1
theorem topI_few {ts : List (Int × Int × Int)} (h : OkI ts) (W B : Int) : (topI ts W B).2.2 ≤ 1024 := Nat.le_trans (offL_count _ _) (allC_few h W B)
theorem topI_len {ts : List (Int × Int × Int)} (h : OkI ts) {W B : Int} (hW : 0 ≤ W) (hB : 0 ≤ B) : (topI ts W B).2.1.length ≤ 10 := by
  rcases offL_mem (valI ts) (allC ts W B) with e | e
  · unfold topI; rw [e]; simp
  · exact Nat.le_trans (incI_len (allC_mem hW hB e).1) h.len

theorem stepL_mem (g : List Int → Int) (s : List (List Int) × Int) (c : List Int) : ∀ x ∈ (stepL g s c).1, x = c ∨ x ∈ s.1 := by
  intro x hx
  unfold stepL at hx
  split at hx
  · exact .inl (List.mem_singleton.1 hx)
  · split at hx
    · rcases List.mem_append.1 hx with h | h
      · exact .inr h
      · exact .inl (List.mem_singleton.1 h)
    · exact .inr hx
theorem bestL_len (g : List Int → Int) (L : List (List Int)) : (bestL g L).1.length ≤ L.length := by
  have : ∀ (L : List (List Int)) (s : List (List Int) × Int), (L.foldl (stepL g) s).1.length ≤ s.1.length + L.length := by
    intro L
    induction L with
    | nil => intro s; exact Nat.le_refl _
    | cons x L ih =>
      intro s
      rw [List.foldl_cons, List.length_cons]
      have h1 := ih (stepL g s x)
      have h2 : (stepL g s x).1.length ≤ s.1.length + 1 := by
        unfold stepL
        split
        · simp
        · split
          · simp
          · omega
      omega
  have h := this L ([], 0)
  rw [List.length_nil, Nat.zero_add] at h
  exact h
/-- All the best ones are those of the greatest value. -/
theorem bestL_spec (g : List Int → Int) (L : List (List Int)) : ∀ s : List (List Int) × Int, (∀ x ∈ s.1, g x = s.2) →
    (∀ x, x ∈ (L.foldl (stepL g) s).1 ↔ (x ∈ s.1 ∨ x ∈ L) ∧ g x = (L.foldl (stepL g) s).2) ∧ s.2 ≤ (L.foldl (stepL g) s).2 ∧ (∀ x ∈ L, g x ≤ (L.foldl (stepL g) s).2) := by
  induction L with
  | nil =>
    intro s h
    refine ⟨fun x => ⟨fun hx => ⟨.inl hx, h x hx⟩, fun hx => ?_⟩, Int.le_refl _, fun x hx => by cases hx⟩
    rcases hx.1 with hx | hx
    · exact hx
    · cases hx
  | cons c L ih =>
    intro s h
    rw [List.foldl_cons]
    have hs : (∀ x ∈ (stepL g s c).1, g x = (stepL g s c).2) ∧ s.2 ≤ (stepL g s c).2 ∧ g c ≤ (stepL g s c).2 ∧ (∀ x, x ∈ (stepL g s c).1 ↔ (x ∈ s.1 ∨ x = c) ∧ g x = (stepL g s c).2) := by
      unfold stepL
      by_cases h1 : s.2 < g c
      · rw [if_pos h1]
        refine ⟨fun x hx => by rw [List.mem_singleton.1 hx], by simp; omega, Int.le_refl _, fun x => ⟨fun hx => ⟨.inr (List.mem_singleton.1 hx), by rw [List.mem_singleton.1 hx]⟩, fun hx => ?_⟩⟩
        rcases hx.1 with h2 | h2
        · have := h x h2
          have := hx.2
          simp at this
          omega
        · subst h2; exact List.mem_singleton.2 rfl
      · rw [if_neg h1]
        by_cases h2 : g c = s.2
        · rw [if_pos h2]
          refine ⟨fun x hx => ?_, Int.le_refl _, by simp; omega, fun x => ⟨fun hx => ?_, fun hx => ?_⟩⟩
          · rcases List.mem_append.1 hx with h3 | h3
            · exact h x h3
            · rw [List.mem_singleton.1 h3]; exact h2
          · rcases List.mem_append.1 hx with h3 | h3
            · exact ⟨.inl h3, h x h3⟩
            · rw [List.mem_singleton.1 h3]; exact ⟨.inr rfl, h2⟩
          · rcases hx.1 with h3 | h3
            · exact List.mem_append.2 (.inl h3)
            · exact List.mem_append.2 (.inr (List.mem_singleton.2 h3))
        · rw [if_neg h2]
          refine ⟨h, Int.le_refl _, by omega, fun x => ⟨fun hx => ⟨.inl hx, h x hx⟩, fun hx => ?_⟩⟩
          rcases hx.1 with h3 | h3
          · exact h3
          · subst h3; exact absurd hx.2 h2
    obtain ⟨i1, i2, i3⟩ := ih (stepL g s c) hs.1
    refine ⟨fun x => ?_, by omega, fun x hx => ?_⟩
    · rw [i1 x, hs.2.2.2 x, List.mem_cons]
      constructor
      · rintro ⟨(⟨h1, _⟩ | h1), h2⟩
        · rcases h1 with h1 | h1
          · exact ⟨.inl h1, h2⟩
          · exact ⟨.inr (.inl h1), h2⟩
        · exact ⟨.inr (.inr h1), h2⟩
      · rintro ⟨h1, h2⟩
        refine ⟨?_, h2⟩
        rcases h1 with h1 | h1 | h1
        · left
          refine ⟨.inl h1, ?_⟩
          have h3 := h x h1
          omega
        · left
          subst h1
          exact ⟨.inr rfl, by omega⟩
        · exact .inr h1
    · rcases List.mem_cons.1 hx with rfl | hx
      · omega
      · exact i3 x hx
theorem bestL_all (g : List Int → Int) (L : List (List Int)) : (∀ x, x ∈ (bestL g L).1 ↔ x ∈ L ∧ g x = (bestL g L).2) ∧ 0 ≤ (bestL g L).2 ∧ ∀ x ∈ L, g x ≤ (bestL g L).2 := by
  obtain ⟨h1, h2, h3⟩ := bestL_spec g L ([], 0) (fun x hx => by cases hx)
  refine ⟨fun x => ?_, h2, h3⟩
  rw [bestL, h1 x]
  simp

/-- What is left of the first 'j' items beside a choice. -/
def restK (ts : List (Int × Int × Int)) (ks : List Int) : Nat → List (Int × Int × Int)
  | 0 => []
  | j + 1 => restK ts ks j ++ (if (j : Int) ∈ ks then [] else [ts.getD j (0, 0, 0)])
def restI (ts : List (Int × Int × Int)) (ks : List Int) : List (Int × Int × Int) := restK ts ks ts.length
theorem restK_yes {ts : List (Int × Int × Int)} {ks : List Int} {j : Nat} (h : (j : Int) ∈ ks) : restK ts ks (j + 1) = restK ts ks j := by rw [restK, if_pos h, List.append_nil]
theorem restK_no {ts : List (Int × Int × Int)} {ks : List Int} {j : Nat} {t : Int × Int × Int} (h : ¬ (j : Int) ∈ ks) (ht : ts[j]? = some t) : restK ts ks (j + 1) = restK ts ks j ++ [t] := by
  rw [restK, if_neg h]; simp [List.getD, ht]
theorem restK_len (ts : List (Int × Int × Int)) (ks : List Int) (j : Nat) : (restK ts ks j).length ≤ j := by
  induction j with
  | zero => exact Nat.le_refl _
  | succ j ih =>
    rw [restK, List.length_append]
    split
    · simp only [List.length_nil]; omega
    · simp only [List.length_singleton]; omega
theorem restK_ok {ts : List (Int × Int × Int)} (h : OkI ts) (ks : List Int) (j : Nat) : ∀ b ∈ restK ts ks j, itB b = true := by
  induction j with
  | zero => intro b hb; cases hb
  | succ j ih =>
    intro b hb
    rw [restK] at hb
    rcases List.mem_append.1 hb with hb | hb
    · exact ih b hb
    · split at hb
      · cases hb
      · rw [List.mem_singleton.1 hb]
        have := itm_bd h (j : Int)
        exact itB_true.2 (by simpa [itm, wI, bI, vI] using this)
theorem restI_ok {ts : List (Int × Int × Int)} (h : OkI ts) (ks : List Int) : OkI (restI ts ks) := ⟨Nat.le_trans (restK_len _ _ _) h.len, restK_ok h ks _⟩
end Go.Proofs.Ytmgloknghoeheaa
