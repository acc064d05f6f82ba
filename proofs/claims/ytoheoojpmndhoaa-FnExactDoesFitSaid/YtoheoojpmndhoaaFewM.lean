/-
  All plans, in order, and the fewest boxes among them, as functions on lists; no program is spoken of here.
  Conditions: none.
-/
import Derived.Test.YtoheoojpmndhoaaFollM
namespace Go.Proofs.Ytoheoojpmndhoaa
set_option linter.unusedVariables false

/-- All plans (each with its loads) that go on from one, with the things 'r' still to come. -/
def plansL (room : Int) : List Int → List Int → List Int → List (List Int × List Int)
  | [], pl, ls => [(pl, ls)]
  | x :: r, pl, ls => (List.range (ls.length + 1)).flatMap fun b => if ls.getD b 0 + x ≤ room then plansL room r (pl ++ [(b : Int)]) (addTo ls b x) else []

/-- .. of at most so many boxes. -/
def plansM (room : Int) (most : Nat) : List Int → List Int → List Int → List (List Int × List Int)
  | [], pl, ls => [(pl, ls)]
  | x :: r, pl, ls => (List.range (ls.length + 1)).flatMap fun b => if b < most ∧ ls.getD b 0 + x ≤ room then plansM room most r (pl ++ [(b : Int)]) (addTo ls b x) else []

theorem plansL_len {room : Int} {r pl ls : List Int} {p : List Int × List Int} (h : p ∈ plansL room r pl ls) : ls.length ≤ p.2.length ∧ p.1.length = pl.length + r.length := by
  induction r generalizing pl ls with
  | nil =>
    obtain rfl := List.mem_singleton.1 h
    exact ⟨Nat.le_refl _, by simp⟩
  | cons x r ih =>
    rw [plansL] at h
    obtain ⟨b, _, hb⟩ := List.mem_flatMap.1 h
    split at hb
    · obtain ⟨h1, h2⟩ := ih hb
      rw [addTo_length] at h1
      refine ⟨?_, by rw [h2]; simp; omega⟩
      split at h1 <;> omega
    · cases hb

theorem filter_flatMap' {α β : Type} (p : β → Bool) (f : α → List β) (l : List α) : (l.flatMap f).filter p = l.flatMap fun a => (f a).filter p := by
  induction l with
  | nil => rfl
  | cons a l ih => rw [List.flatMap_cons, List.flatMap_cons, List.filter_append, ih]

theorem flatMap_congr' {α β : Type} {f g : α → List β} {l : List α} (h : ∀ a ∈ l, f a = g a) : l.flatMap f = l.flatMap g := by
  induction l with
  | nil => rfl
  | cons a l ih => rw [List.flatMap_cons, List.flatMap_cons, h a (List.mem_cons_self ..), ih fun b hb => h b (List.mem_cons_of_mem _ hb)]

theorem plansM_filter {room : Int} {most : Nat} {r pl ls : List Int} (h : ls.length ≤ most) : plansM room most r pl ls = (plansL room r pl ls).filter fun p => decide (p.2.length ≤ most) := by
  induction r generalizing pl ls with
  | nil => simp [plansM, plansL, h]
  | cons x r ih =>
    rw [plansM, plansL, filter_flatMap']
    refine flatMap_congr' fun b hb => ?_
    have hb := List.mem_range.1 hb
    by_cases hf : ls.getD b 0 + x ≤ room
    · rw [if_pos hf]
      by_cases hm : b < most
      · rw [if_pos ⟨hm, hf⟩]
        exact ih (by rw [addTo_length]; split <;> omega)
      · rw [if_neg (fun h => hm h.1)]
        symm
        refine List.filter_eq_nil_iff.2 fun p hp => ?_
        have := (plansL_len hp).1
        rw [addTo_length, if_pos (by omega)] at this
        simp
        omega
    · rw [if_neg hf, if_neg (fun h => hf h.2)]
      rfl

/-- What is kept of the plans: the fewest boxes, the first plan with them, how many there are. -/
def visit (st : Nat × Option (List Int) × Nat) (p : List Int × List Int) : Nat × Option (List Int) × Nat :=
  if st.1 < p.2.length then st else if st.2.1 = none ∨ p.2.length < st.1 then (p.2.length, some p.1, 1) else (st.1, st.2.1, st.2.2 + 1)

theorem visit_same {st : Nat × Option (List Int) × Nat} {L : List (List Int × List Int)} (h : ∀ p ∈ L, st.1 < p.2.length) : L.foldl visit st = st := by
  induction L with
  | nil => rfl
  | cons p L ih =>
    rw [List.foldl_cons, visit, if_pos (h p (List.mem_cons_self ..))]
    exact ih fun q hq => h q (List.mem_cons_of_mem _ hq)

/-- A plan that has too many boxes already leads to nothing. -/
theorem visit_prune {room : Int} {st : Nat × Option (List Int) × Nat} {r pl ls : List Int} (h : st.1 < ls.length) : (plansL room r pl ls).foldl visit st = st :=
  visit_same fun p hp => Nat.lt_of_lt_of_le h (plansL_len hp).1

theorem visit_few {m : Nat} {L : List (List Int × List Int)} {st : Nat × Option (List Int) × Nat} (h : ∀ p ∈ L, m < p.2.length) (hs : m < st.1) : m < (L.foldl visit st).1 := by
  induction L generalizing st with
  | nil => exact hs
  | cons p L ih =>
    refine ih (fun q hq => h q (List.mem_cons_of_mem _ hq)) ?_
    have hp := h p (List.mem_cons_self ..)
    rw [visit]
    split
    · exact hs
    · split
      · exact hp
      · exact hs

theorem visit_at {few c : Nat} {fo : Option (List Int)} {L : List (List Int × List Int)} (h : ∀ p ∈ L, few ≤ p.2.length) (h0 : fo = none → c = 0) :
    L.foldl visit (few, fo, c) = (few, fo <|> ((L.filter fun p => decide (p.2.length ≤ few)).head?.map (·.1)), c + (L.filter fun p => decide (p.2.length ≤ few)).length) := by
  induction L generalizing fo c with
  | nil => simp
  | cons p L ih =>
    have hp := h p (List.mem_cons_self ..)
    have hr := fun q hq => h q (List.mem_cons_of_mem p hq)
    rw [List.foldl_cons]
    by_cases hlt : few < p.2.length
    · have e : visit (few, fo, c) p = (few, fo, c) := by rw [visit, if_pos hlt]
      rw [e, ih hr h0, List.filter_cons_of_neg (by simp; omega)]
    · have hq : p.2.length = few := by omega
      have hd : decide (p.2.length ≤ few) = true := by simp; omega
      cases fo with
      | none =>
        obtain rfl := h0 rfl
        have e : visit (few, none, 0) p = (few, some p.1, 1) := by
          rw [visit, if_neg hlt, if_pos (Or.inl rfl), hq]
        rw [e, ih hr (by intro h; cases h), List.filter_cons_of_pos (by exact hd)]
        simp
        omega
      | some v =>
        have e : visit (few, some v, c) p = (few, some v, c + 1) := by
          rw [visit, if_neg hlt, if_neg]
          rintro (h | h)
          · cases h
          · dsimp only at h; omega
        rw [e, ih hr (by intro h; cases h), List.filter_cons_of_pos (by exact hd)]
        simp
        omega

theorem first_least {m : Nat} {L : List (List Int × List Int)} (h : ∃ p ∈ L, p.2.length = m) (hm : ∀ p ∈ L, m ≤ p.2.length) :
    ∃ L1 x L2, L = L1 ++ x :: L2 ∧ (∀ p ∈ L1, m < p.2.length) ∧ x.2.length = m := by
  induction L with
  | nil => obtain ⟨p, hp, _⟩ := h; cases hp
  | cons q L ih =>
    by_cases hq : q.2.length = m
    · exact ⟨[], q, L, rfl, fun p hp => (by cases hp), hq⟩
    · obtain ⟨L1, x, L2, rfl, h1, h2⟩ := ih (by
        obtain ⟨p, hp, hpm⟩ := h
        rcases List.mem_cons.1 hp with rfl | hp
        · exact absurd hpm hq
        · exact ⟨p, hp, hpm⟩) (fun p hp => hm p (List.mem_cons_of_mem _ hp))
      refine ⟨q :: L1, x, L2, rfl, fun p hp => ?_, h2⟩
      rcases List.mem_cons.1 hp with rfl | hp
      · have := hm p (List.mem_cons_self ..); omega
      · exact h1 p hp

/-- The least number of boxes of these plans. -/
def Least (L : List (List Int × List Int)) (m : Nat) : Prop := (∃ p ∈ L, p.2.length = m) ∧ ∀ p ∈ L, m ≤ p.2.length

theorem least_exists {L : List (List Int × List Int)} (h : L ≠ []) : ∃ m, Least L m := by
  induction L with
  | nil => exact absurd rfl h
  | cons p L ih =>
    by_cases hL : L = []
    · subst hL
      exact ⟨p.2.length, ⟨p, List.mem_cons_self .., rfl⟩, fun q hq => by obtain rfl := List.mem_singleton.1 hq; exact Nat.le_refl _⟩
    · obtain ⟨m, ⟨q, hq, hqm⟩, hm⟩ := ih hL
      by_cases hlt : p.2.length < m
      · exact ⟨p.2.length, ⟨p, List.mem_cons_self .., rfl⟩, fun q' hq' => by
          rcases List.mem_cons.1 hq' with rfl | hq'
          · exact Nat.le_refl _
          · have := hm q' hq'; omega⟩
      · exact ⟨m, ⟨q, List.mem_cons_of_mem _ hq, hqm⟩, fun q' hq' => by
          rcases List.mem_cons.1 hq' with rfl | hq'
          · omega
          · exact hm q' hq'⟩

theorem visit_least {k m : Nat} {L : List (List Int × List Int)} (h : Least L m) (hk : m ≤ k) :
    L.foldl visit (k, none, 0) = (m, (L.filter fun p => decide (p.2.length ≤ m)).head?.map (·.1), (L.filter fun p => decide (p.2.length ≤ m)).length) := by
  by_cases e : m = k
  · subst e
    rw [visit_at h.2 (fun _ => rfl)]
    simp
  · obtain ⟨L1, x, L2, rfl, h1, h2⟩ := first_least h.1 h.2
    have h3 := visit_few (st := (k, none, 0)) h1 (by show m < k; omega)
    rw [List.foldl_append, List.foldl_cons]
    obtain ⟨st, hst⟩ : ∃ st, L1.foldl visit (k, none, 0) = st := ⟨_, rfl⟩
    rw [hst] at h3 ⊢
    have e : visit st x = (m, some x.1, 1) := by
      rw [visit, if_neg (by omega), if_pos (Or.inr (by omega)), h2]
    have hf1 : L1.filter (fun p => decide (p.2.length ≤ m)) = [] := List.filter_eq_nil_iff.2 fun p hp => by have := h1 p hp; simp; omega
    rw [e, visit_at (fun p hp => h.2 p (by simp [hp])) (by intro h; cases h), List.filter_append, hf1, List.nil_append, List.filter_cons_of_pos (by simp; omega)]
    simp
    omega

/-- The first fit's plan is one of them. -/
theorem run_leaf {room : Int} {xs ls pl : List Int} (hx : ∀ x ∈ xs, x ≤ room) : ((run 102 room xs (ls, pl)).2, (run 102 room xs (ls, pl)).1) ∈ plansL room xs pl ls := by
  induction xs generalizing ls pl with
  | nil => exact List.mem_singleton.2 rfl
  | cons x r ih =>
    rw [run, plansL]
    refine List.mem_flatMap.2 ⟨pick 102 room x ls, List.mem_range.2 (by have := pick_le 102 room x ls; omega), ?_⟩
    rw [if_pos]
    · exact ih fun y hy => hx y (List.mem_cons_of_mem _ hy)
    · unfold pick
      split
      · rw [show ls.getD ls.length 0 = 0 by simp [List.getD]]
        have := hx x (List.mem_cons_self ..)
        omega
      · exact fold_fits 102 room x ls _ (by omega)

/-- The parts of a node. -/
def nodeL (room : Int) (x : Int) (r pl ls : List Int) (k : Nat) : List (List Int × List Int) := (List.range k).flatMap fun b => if ls.getD b 0 + x ≤ room then plansL room r (pl ++ [(b : Int)]) (addTo ls b x) else []
theorem nodeL_all (room : Int) (x : Int) (r pl ls : List Int) : nodeL room x r pl ls (ls.length + 1) = plansL room (x :: r) pl ls := rfl
theorem nodeL_yes {room x : Int} {r pl ls : List Int} {k : Nat} (h : ls.getD k 0 + x ≤ room) : nodeL room x r pl ls (k + 1) = nodeL room x r pl ls k ++ plansL room r (pl ++ [(k : Int)]) (addTo ls k x) := by
  rw [nodeL, List.range_succ, List.flatMap_append, List.flatMap_cons, if_pos h, List.flatMap_nil, List.append_nil]; rfl
theorem nodeL_no {room x : Int} {r pl ls : List Int} {k : Nat} (h : ¬ ls.getD k 0 + x ≤ room) : nodeL room x r pl ls (k + 1) = nodeL room x r pl ls k := by
  rw [nodeL, List.range_succ, List.flatMap_append, List.flatMap_cons, if_neg h]; simp [nodeL]
def nodeM (room : Int) (most : Nat) (x : Int) (r pl ls : List Int) (k : Nat) : List (List Int × List Int) := (List.range k).flatMap fun b => if b < most ∧ ls.getD b 0 + x ≤ room then plansM room most r (pl ++ [(b : Int)]) (addTo ls b x) else []
theorem nodeM_all (room : Int) (most : Nat) (x : Int) (r pl ls : List Int) : nodeM room most x r pl ls (ls.length + 1) = plansM room most (x :: r) pl ls := rfl
theorem nodeM_yes {room x : Int} {most : Nat} {r pl ls : List Int} {k : Nat} (hm : k < most) (h : ls.getD k 0 + x ≤ room) : nodeM room most x r pl ls (k + 1) = nodeM room most x r pl ls k ++ plansM room most r (pl ++ [(k : Int)]) (addTo ls k x) := by
  rw [nodeM, List.range_succ, List.flatMap_append, List.flatMap_cons, if_pos ⟨hm, h⟩, List.flatMap_nil, List.append_nil]; rfl
theorem nodeM_no {room x : Int} {most : Nat} {r pl ls : List Int} {k : Nat} (h : ¬ (k < most ∧ ls.getD k 0 + x ≤ room)) : nodeM room most x r pl ls (k + 1) = nodeM room most x r pl ls k := by
  rw [nodeM, List.range_succ, List.flatMap_append, List.flatMap_cons, if_neg h]; simp [nodeM]
/-- Where no more boxes may be opened, the rest of the node is nothing. -/
theorem nodeM_stop {room x : Int} {most : Nat} {r pl ls : List Int} {k : Nat} (h : most ≤ k) (d : Nat) : nodeM room most x r pl ls (k + d) = nodeM room most x r pl ls k := by
  induction d with
  | zero => rfl
  | succ d ih => rw [Nat.add_succ, nodeM_no (by omega), ih]
end Go.Proofs.Ytoheoojpmndhoaa
