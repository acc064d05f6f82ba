/-
  The fewest boxes, by both programs: the texts of stage 1 that puzzles want.
  Conditions: each part's own.
-/
import Derived.Test.YtoheoojpmndhoaaPkA
import Derived.Test.YtoheoojpmndhoaaCloneI
import Derived.Test.YtoheoojpmndhoaaL1Own
import Derived.Deep.RegionHeld3
import Derived.Deep.DeepCutAuto
namespace Go.Proofs.Ytoheoojpmndhoaa
set_option linter.unusedVariables false

/-- All plans (each with its loads) that go on from one, with the things 'r' still to come. -/
def plansL (room : Int) : List Int → List Int → List Int → List (List Int × List Int)
  | [], pl, ls => [(pl, ls)]
  | x :: r, pl, ls => (List.range (ls.length + 1)).flatMap fun b => if ls.getD b 0 + x ≤ room then plansL room r (pl ++ [(b : Int)]) (addTo ls b x) else []

/-- .. of at most so many boxes. -/
def plansM (room : Int) (most : Nat) : List Int → List Int → List Int → List (List Int × List Int)
  | [], pl, ls => [(pl, ls)]
  | x :: r, pl, ls => (List.range (ls.length + 1)).flatMap fun b => if b < most ∧ ls.getD b 0 + x ≤ room then plansM room most r (pl ++ [(b : Int)]) (addTo ls b x) else []

theorem plansL_len {room : Int} {r pl ls : List Int} {p : List Int × List Int} (h : p ∈ plansL room r pl ls) : ls.length ≤ p.2.length ∧ p.1.length = pl.length + r.length := by
  induction r generalizing pl ls with
  | nil =>
    obtain rfl := List.mem_singleton.1 h
    exact ⟨Nat.le_refl _, by simp⟩
  | cons x r ih =>
    rw [plansL] at h
    obtain ⟨b, _, hb⟩ := List.mem_flatMap.1 h
    split at hb
    · obtain ⟨h1, h2⟩ := ih hb
      rw [addTo_length] at h1
      refine ⟨?_, by rw [h2]; simp; omega⟩
      split at h1 <;> omega
    · cases hb

theorem filter_flatMap' {α β : Type} (p : β → Bool) (f : α → List β) (l : List α) : (l.flatMap f).filter p = l.flatMap fun a => (f a).filter p := by
  induction l with
  | nil => rfl
  | cons a l ih => rw [List.flatMap_cons, List.flatMap_cons, List.filter_append, ih]

theorem flatMap_congr' {α β : Type} {f g : α → List β} {l : List α} (h : ∀ a ∈ l, f a = g a) : l.flatMap f = l.flatMap g := by
  induction l with
  | nil => rfl
  | cons a l ih => rw [List.flatMap_cons, List.flatMap_cons, h a (List.mem_cons_self ..), ih fun b hb => h b (List.mem_cons_of_mem _ hb)]

theorem plansM_filter {room : Int} {most : Nat} {r pl ls : List Int} (h : ls.length ≤ most) : plansM room most r pl ls = (plansL room r pl ls).filter fun p => decide (p.2.length ≤ most) := by
  induction r generalizing pl ls with
  | nil => simp [plansM, plansL, h]
  | cons x r ih =>
    rw [plansM, plansL, filter_flatMap']
    refine flatMap_congr' fun b hb => ?_
    have hb := List.mem_range.1 hb
    by_cases hf : ls.getD b 0 + x ≤ room
    · rw [if_pos hf]
      by_cases hm : b < most
      · rw [if_pos ⟨hm, hf⟩]
        exact ih (by rw [addTo_length]; split <;> omega)
      · rw [if_neg (fun h => hm h.1)]
        symm
        refine List.filter_eq_nil_iff.2 fun p hp => ?_
        have := (plansL_len hp).1
        rw [addTo_length, if_pos (by omega)] at this
        simp
        omega
    · rw [if_neg hf, if_neg (fun h => hf h.2)]
      rfl

/-- What is kept of the plans: the fewest boxes, the first plan with them, how many there are. -/
def visit (st : Nat × Option (List Int) × Nat) (p : List Int × List Int) : Nat × Option (List Int) × Nat :=
  if st.1 < p.2.length then st else if st.2.1 = none ∨ p.2.length < st.1 then (p.2.length, some p.1, 1) else (st.1, st.2.1, st.2.2 + 1)

theorem visit_same {st : Nat × Option (List Int) × Nat} {L : List (List Int × List Int)} (h : ∀ p ∈ L, st.1 < p.2.length) : L.foldl visit st = st := by
  induction L with
  | nil => rfl
  | cons p L ih =>
    rw [List.foldl_cons, visit, if_pos (h p (List.mem_cons_self ..))]
    exact ih fun q hq => h q (List.mem_cons_of_mem _ hq)

/-- A plan that has too many boxes already leads to nothing. -/
theorem visit_prune {room : Int} {st : Nat × Option (List Int) × Nat} {r pl ls : List Int} (h : st.1 < ls.length) : (plansL room r pl ls).foldl visit st = st :=
  visit_same fun p hp => Nat.lt_of_lt_of_le h (plansL_len hp).1

theorem visit_few {m : Nat} {L : List (List Int × List Int)} {st : Nat × Option (List Int) × Nat} (h : ∀ p ∈ L, m < p.2.length) (hs : m < st.1) : m < (L.foldl visit st).1 := by
  induction L generalizing st with
  | nil => exact hs
  | cons p L ih =>
    refine ih (fun q hq => h q (List.mem_cons_of_mem _ hq)) ?_
    have hp := h p (List.mem_cons_self ..)
    rw [visit]
    split
    · exact hs
    · split
      · exact hp
      · exact hs

theorem visit_at {few c : Nat} {fo : Option (List Int)} {L : List (List Int × List Int)} (h : ∀ p ∈ L, few ≤ p.2.length) (h0 : fo = none → c = 0) :
    L.foldl visit (few, fo, c) = (few, fo <|> ((L.filter fun p => decide (p.2.length ≤ few)).head?.map (·.1)), c + (L.filter fun p => decide (p.2.length ≤ few)).length) := by
  induction L generalizing fo c with
  | nil => simp
  | cons p L ih =>
    have hp := h p (List.mem_cons_self ..)
    have hr := fun q hq => h q (List.mem_cons_of_mem p hq)
    rw [List.foldl_cons]
    by_cases hlt : few < p.2.length
    · have e : visit (few, fo, c) p = (few, fo, c) := by rw [visit, if_pos hlt]
      rw [e, ih hr h0, List.filter_cons_of_neg (by simp; omega)]
    · have hq : p.2.length = few := by omega
      have hd : decide (p.2.length ≤ few) = true := by simp; omega
      cases fo with
      | none =>
        obtain rfl := h0 rfl
        have e : visit (few, none, 0) p = (few, some p.1, 1) := by
          rw [visit, if_neg hlt, if_pos (Or.inl rfl), hq]
        rw [e, ih hr (by intro h; cases h), List.filter_cons_of_pos (by exact hd)]
        simp
        omega
      | some v =>
        have e : visit (few, some v, c) p = (few, some v, c + 1) := by
          rw [visit, if_neg hlt, if_neg]
          rintro (h | h)
          · cases h
          · dsimp only at h; omega
        rw [e, ih hr (by intro h; cases h), List.filter_cons_of_pos (by exact hd)]
        simp
        omega

theorem first_least {m : Nat} {L : List (List Int × List Int)} (h : ∃ p ∈ L, p.2.length = m) (hm : ∀ p ∈ L, m ≤ p.2.length) :
    ∃ L1 x L2, L = L1 ++ x :: L2 ∧ (∀ p ∈ L1, m < p.2.length) ∧ x.2.length = m := by
  induction L with
  | nil => obtain ⟨p, hp, _⟩ := h; cases hp
  | cons q L ih =>
    by_cases hq : q.2.length = m
    · exact ⟨[], q, L, rfl, fun p hp => (by cases hp), hq⟩
    · obtain ⟨L1, x, L2, rfl, h1, h2⟩ := ih (by
        obtain ⟨p, hp, hpm⟩ := h
        rcases List.mem_cons.1 hp with rfl | hp
        · exact absurd hpm hq
        · exact ⟨p, hp, hpm⟩) (fun p hp => hm p (List.mem_cons_of_mem _ hp))
      refine ⟨q :: L1, x, L2, rfl, fun p hp => ?_, h2⟩
      rcases List.mem_cons.1 hp with rfl | hp
      · have := hm p (List.mem_cons_self ..); omega
      · exact h1 p hp

/-- The least number of boxes of these plans. -/
def Least (L : List (List Int × List Int)) (m : Nat) : Prop := (∃ p ∈ L, p.2.length = m) ∧ ∀ p ∈ L, m ≤ p.2.length

theorem least_exists {L : List (List Int × List Int)} (h : L ≠ []) : ∃ m, Least L m := by
  induction L with
  | nil => exact absurd rfl h
  | cons p L ih =>
    by_cases hL : L = []
    · subst hL
      exact ⟨p.2.length, ⟨p, List.mem_cons_self .., rfl⟩, fun q hq => by obtain rfl := List.mem_singleton.1 hq; exact Nat.le_refl _⟩
    · obtain ⟨m, ⟨q, hq, hqm⟩, hm⟩ := ih hL
      by_cases hlt : p.2.length < m
      · exact ⟨p.2.length, ⟨p, List.mem_cons_self .., rfl⟩, fun q' hq' => by
          rcases List.mem_cons.1 hq' with rfl | hq'
          · exact Nat.le_refl _
          · have := hm q' hq'; omega⟩
      · exact ⟨m, ⟨q, List.mem_cons_of_mem _ hq, hqm⟩, fun q' hq' => by
          rcases List.mem_cons.1 hq' with rfl | hq'
          · omega
          · exact hm q' hq'⟩

theorem visit_least {k m : Nat} {L : List (List Int × List Int)} (h : Least L m) (hk : m ≤ k) :
    L.foldl visit (k, none, 0) = (m, (L.filter fun p => decide (p.2.length ≤ m)).head?.map (·.1), (L.filter fun p => decide (p.2.length ≤ m)).length) := by
  by_cases e : m = k
  · subst e
    rw [visit_at h.2 (fun _ => rfl)]
    simp
  · obtain ⟨L1, x, L2, rfl, h1, h2⟩ := first_least h.1 h.2
    have h3 := visit_few (st := (k, none, 0)) h1 (by show m < k; omega)
    rw [List.foldl_append, List.foldl_cons]
    obtain ⟨st, hst⟩ : ∃ st, L1.foldl visit (k, none, 0) = st := ⟨_, rfl⟩
    rw [hst] at h3 ⊢
    have e : visit st x = (m, some x.1, 1) := by
      rw [visit, if_neg (by omega), if_pos (Or.inr (by omega)), h2]
    have hf1 : L1.filter (fun p => decide (p.2.length ≤ m)) = [] := List.filter_eq_nil_iff.2 fun p hp => by have := h1 p hp; simp; omega
    rw [e, visit_at (fun p hp => h.2 p (by simp [hp])) (by intro h; cases h), List.filter_append, hf1, List.nil_append, List.filter_cons_of_pos (by simp; omega)]
    simp
    omega

/-- The first fit's plan is one of them. -/
theorem run_leaf {room : Int} {xs ls pl : List Int} (hx : ∀ x ∈ xs, x ≤ room) : ((run 102 room xs (ls, pl)).2, (run 102 room xs (ls, pl)).1) ∈ plansL room xs pl ls := by
  induction xs generalizing ls pl with
  | nil => exact List.mem_singleton.2 rfl
  | cons x r ih =>
    rw [run, plansL]
    refine List.mem_flatMap.2 ⟨pick 102 room x ls, List.mem_range.2 (by have := pick_le 102 room x ls; omega), ?_⟩
    rw [if_pos]
    · exact ih fun y hy => hx y (List.mem_cons_of_mem _ hy)
    · unfold pick
      split
      · rw [show ls.getD ls.length 0 = 0 by simp [List.getD]]
        have := hx x (List.mem_cons_self ..)
        omega
      · exact fold_fits 102 room x ls _ (by omega)

/-- The parts of a node. -/
def nodeL (room : Int) (x : Int) (r pl ls : List Int) (k : Nat) : List (List Int × List Int) := (List.range k).flatMap fun b => if ls.getD b 0 + x ≤ room then plansL room r (pl ++ [(b : Int)]) (addTo ls b x) else []
theorem nodeL_all (room : Int) (x : Int) (r pl ls : List Int) : nodeL room x r pl ls (ls.length + 1) = plansL room (x :: r) pl ls := rfl
theorem nodeL_yes {room x : Int} {r pl ls : List Int} {k : Nat} (h : ls.getD k 0 + x ≤ room) : nodeL room x r pl ls (k + 1) = nodeL room x r pl ls k ++ plansL room r (pl ++ [(k : Int)]) (addTo ls k x) := by
  rw [nodeL, List.range_succ, List.flatMap_append, List.flatMap_cons, if_pos h, List.flatMap_nil, List.append_nil]; rfl
theorem nodeL_no {room x : Int} {r pl ls : List Int} {k : Nat} (h : ¬ ls.getD k 0 + x ≤ room) : nodeL room x r pl ls (k + 1) = nodeL room x r pl ls k := by
  rw [nodeL, List.range_succ, List.flatMap_append, List.flatMap_cons, if_neg h]; simp [nodeL]
def nodeM (room : Int) (most : Nat) (x : Int) (r pl ls : List Int) (k : Nat) : List (List Int × List Int) := (List.range k).flatMap fun b => if b < most ∧ ls.getD b 0 + x ≤ room then plansM room most r (pl ++ [(b : Int)]) (addTo ls b x) else []
theorem nodeM_all (room : Int) (most : Nat) (x : Int) (r pl ls : List Int) : nodeM room most x r pl ls (ls.length + 1) = plansM room most (x :: r) pl ls := rfl
theorem nodeM_yes {room x : Int} {most : Nat} {r pl ls : List Int} {k : Nat} (hm : k < most) (h : ls.getD k 0 + x ≤ room) : nodeM room most x r pl ls (k + 1) = nodeM room most x r pl ls k ++ plansM room most r (pl ++ [(k : Int)]) (addTo ls k x) := by
  rw [nodeM, List.range_succ, List.flatMap_append, List.flatMap_cons, if_pos ⟨hm, h⟩, List.flatMap_nil, List.append_nil]; rfl
theorem nodeM_no {room x : Int} {most : Nat} {r pl ls : List Int} {k : Nat} (h : ¬ (k < most ∧ ls.getD k 0 + x ≤ room)) : nodeM room most x r pl ls (k + 1) = nodeM room most x r pl ls k := by
  rw [nodeM, List.range_succ, List.flatMap_append, List.flatMap_cons, if_neg h]; simp [nodeM]
/-- Where no more boxes may be opened, the rest of the node is nothing. -/
theorem nodeM_stop {room x : Int} {most : Nat} {r pl ls : List Int} {k : Nat} (h : most ≤ k) (d : Nat) : nodeM room most x r pl ls (k + d) = nodeM room most x r pl ls k := by
  induction d with
  | zero => rfl
  | succ d ih => rw [Nat.add_succ, nodeM_no (by omega), ih]
end Go.Proofs.Ytoheoojpmndhoaa

namespace Go.Proofs.Ytoheoojpmndhoaa
set_option linter.unusedVariables false
open Go.RowKit

/-- The plan that is kept, if there is one: in a block of its own. -/
def KeptAt (w : World) (P Bo Bp lo : Nat) (FV : Value) (fo : Option (List Int)) : Prop :=
  (fo = none ∧ FV = .slice none 0 0) ∨ ∃ p g c, fo = some p ∧ FV = .slice (some ⟨g, 0, none⟩) p.length c ∧ Own w g (g + 1) (some ⟨g, 0, none⟩) p ∧ g < w.heap.size ∧ lo ≤ g ∧ g ≠ P ∧ g ≠ Bo ∧ g ≠ Bp

theorem KeptAt.only {w w' : World} {P Bo Bp lo : Nat} {FV : Value} {fo : Option (List Int)} (h : KeptAt w P Bo Bp lo FV fo) (ho : Only (Three P Bo Bp) w w') : KeptAt w' P Bo Bp lo FV fo := by
  rcases h with h | ⟨p, g, c, h1, h2, h3, h4, h5, h6, h7, h8⟩
  · exact .inl h
  · refine .inr ⟨p, g, c, h1, h2, h3.only ho (by omega) (fun b hb => ?_), Nat.lt_of_lt_of_le h4 ho.size, h5, h6, h7, h8⟩
    rcases hb with rfl | rfl | rfl <;> omega

/-- The search's cells behind its packing. -/
def restV (TH : Value) (few : Nat) (FV : Value) (cnt : Nat) : List Value := [TH, .int .i64 (few : Int), FV, .int .i64 (cnt : Int)]

theorem Pk.rest_set {w : World} {P T Bo Bp cap : Nat} {room : Int} {ls pl : List Int} {rest : List Value} (h : Pk w P T Bo Bp cap room ls pl rest) (i : Nat) (v : Value) : Pk (w.setCell ⟨P, 5 + i, none⟩ v) P T Bo Bp cap room ls pl (rest.set i v) := by
  have n1 := h.ne1
  have n2 := h.ne2
  refine ⟨?_, h.boxes.keep (set_far _ (by exact Ne.symm n1) _), h.plan.keep (set_far _ (by exact Ne.symm n2) _), n1, n2, h.ne3, h.len1, h.len2, h.cap9⟩
  rw [set_self h.self _ _]
  congr 2
  apply Array.ext'
  have hl : (five Bo Bp cap room ls pl).length = 5 := rfl
  simp only [Array.toList_setIfInBounds]
  rw [List.set_append_right _ _ (by rw [hl]; omega), hl, Nat.add_sub_cancel_left]

set_option maxHeartbeats 4000000 in
set_option maxRecDepth 100000 in
theorem keep_new (P T Bo Bp cap lo : Nat) (room : Int) (ls pl : List Int) (TH FV : Value) (few cnt : Nat) (fo : Option (List Int)) (w : World) (h : Pk w P T Bo Bp cap room ls pl (restV TH few FV cnt)) (hk : KeptAt w P Bo Bp lo FV fo) (hlo : lo ≤ w.heap.size) (hpl : 0 < pl.length)
    (hc : fo = none ∨ ls.length < few) :
    Calls Try.prog 131 #[.pointer (some ⟨P, 0, none⟩)] w fun e w' => e = .returned (.tuple #[]) ∧ ∃ FV', Pk w' P T Bo Bp cap room ls pl (restV TH ls.length FV' 1) ∧ KeptAt w' P Bo Bp lo FV' (some pl) ∧ Only (Three P Bo Bp) w w' := by
  obtain ⟨f0, f1, f2, f3, f4⟩ := h.facts
  obtain ⟨hP, hBo, hBp⟩ := h.lt
  have hcap := h.cap9
  have hl2 := h.len2
  have c6 := h.cell 6
  have c7 := h.cell 7
  simp [five, restV] at c6 c7
  have hnil : ∀ (w : World) (a : Option Addr) (n c n' c' : Nat), (binOp .eql 39 (.slice a n c) (.slice none n' c')).run Try.prog w = .ok (.bool a.isNone) w := fun w a n c n' c' => Lib.run_eql_slice_nil w _ _ a n c n' c' Try.underlying39
  have HPK := Lib.hid h
  have HKA := Lib.hid hk
  have HSEG := Lib.hid (show Seg w Bp (Bp + 1) (some ⟨Bp, 0, none⟩) pl by
    obtain ⟨cs, hb, hs, hcp⟩ := h.plan
    refine .inr ⟨Bp, 0, rfl, Nat.le_refl _, Nat.lt_succ_self _, fun k hk => ?_⟩
    rw [cell_of hb, Nat.zero_add, hcp k _ (List.getElem?_eq_getElem hk)]
    simp [List.getD, hk])
  clear h
  by_cases hfo : FV = .slice none 0 0
  · subst hfo
    clear hk hc
    go_enter Try.func131, Try.ntmps131
    go_wp2_with fail
    go_quiet (fail)
    go_wp2_with fail
    refine wp_region_held_drew (S := (fun wq => wq.cell? ⟨P, 3, none⟩ = some (.slice (some ⟨Bo, 0, none⟩) ls.length cap) ∧ wq.cell? ⟨P, 4, none⟩ = some (.slice (some ⟨Bp, 0, none⟩) pl.length cap))) (by kernel_rfl) ⟨f3, f4⟩ (fun hH0 => ?_)
    refine wpAnyH_take (i := 0) (v := ?_) (ops_at rfl) (by kernel_rfl) (by kernel_rfl) (by kernel_rfl) (fun _ _ _ h => h) (Or.inl ⟨by rfl, ?yk0⟩) (by assumption) ?nk0
    case yk0 => (intro wS hSw; (try dsimp only at hSw); go_simp; try rfl)
    try simp only [Act.put, List.setIfInBounds_toArray, List.set_cons_zero, List.set_cons_succ]
    refine wpAnyH_take (i := 1) (v := ?_) (ops_at rfl) (by kernel_rfl) (by kernel_rfl) (by kernel_rfl) (fun _ _ _ h => h) (Or.inl ⟨by rfl, ?yk1⟩) (by assumption) ?nk1
    case yk1 => (intro wS hSw; (try dsimp only at hSw); go_simp; try rfl)
    try simp only [Act.put, List.setIfInBounds_toArray, List.set_cons_zero, List.set_cons_succ]
    refine wpAnyH_take (i := 2) (v := ?_) (ops_at rfl) (by kernel_rfl) (by kernel_rfl) (by kernel_rfl) (fun _ _ _ h => h) (Or.inl ⟨by rfl, ?yk2⟩) (by assumption) ?nk2
    case yk2 => (intro wS hSw; (try dsimp only at hSw); go_simp; try rfl)
    try simp only [Act.put, List.setIfInBounds_toArray, List.set_cons_zero, List.set_cons_succ]
    refine wpAnyH_take (i := 3) (v := ?_) (ops_at rfl) (by kernel_rfl) (by kernel_rfl) (by kernel_rfl) (fun _ _ _ h => h) (Or.inl ⟨by rfl, ?yk3⟩) (by assumption) ?nk3
    case yk3 => (intro wS hSw; (try dsimp only at hSw); go_simp; try rfl)
    try simp only [Act.put, List.setIfInBounds_toArray, List.set_cons_zero, List.set_cons_succ]
    refine wpAnyH_take (i := 4) (v := ?_) (ops_at rfl) (by kernel_rfl) (by kernel_rfl) (by kernel_rfl) (fun _ _ _ h => h) (Or.inl ⟨by rfl, ?yk4⟩) (by assumption) ?nk4
    case yk4 => (intro wS hSw; (try dsimp only at hSw); go_simp; try rfl)
    try simp only [Act.put, List.setIfInBounds_toArray, List.set_cons_zero, List.set_cons_succ]
    refine wpAnyH_take (i := 5) (v := ?_) (ops_at rfl) (by kernel_rfl) (by kernel_rfl) (by kernel_rfl) (fun _ _ _ h => h) (Or.inl ⟨by rfl, ?yk5⟩) (by assumption) ?nk5
    case yk5 => (intro wS hSw; (try dsimp only at hSw); go_simp; try rfl)
    try simp only [Act.put, List.setIfInBounds_toArray, List.set_cons_zero, List.set_cons_succ]
    refine wpAnyH_take (i := 6) (v := ?_) (ops_at rfl) (by kernel_rfl) (by kernel_rfl) (by kernel_rfl) (fun _ _ _ h => h) (Or.inl ⟨by rfl, ?yk6⟩) (by assumption) ?nk6
    case yk6 => (intro wS hSw; (try dsimp only at hSw); go_simp; try rfl)
    try simp only [Act.put, List.setIfInBounds_toArray, List.set_cons_zero, List.set_cons_succ]
    refine wpAnyH_take (i := 7) (v := ?_) (ops_at rfl) (by kernel_rfl) (by kernel_rfl) (by kernel_rfl) (fun _ _ _ h => h) (Or.inl ⟨by rfl, ?yk7⟩) (by assumption) ?nk7
    case yk7 => (intro wS hSw; (try dsimp only at hSw); go_simp; try rfl)
    try simp only [Act.put, List.setIfInBounds_toArray, List.set_cons_zero, List.set_cons_succ]
    refine wpAnyH_take (i := 8) (v := ?_) (ops_at rfl) (by kernel_rfl) (by kernel_rfl) (by kernel_rfl) (fun _ _ _ h => h) (Or.inl ⟨by rfl, ?yk8⟩) (by assumption) ?nk8
    case yk8 => (intro wS hSw; (try dsimp only at hSw); go_simp; try rfl)
    try simp only [Act.put, List.setIfInBounds_toArray, List.set_cons_zero, List.set_cons_succ]
    refine wpAnyH_take (i := 9) (v := ?_) (ops_at rfl) (by kernel_rfl) (by kernel_rfl) (by kernel_rfl) (fun _ _ _ h => h) (Or.inl ⟨by rfl, ?yk9⟩) (by assumption) ?nk9
    case yk9 => (intro wS hSw; (try dsimp only at hSw); go_simp; try rfl)
    try simp only [Act.put, List.setIfInBounds_toArray, List.set_cons_zero, List.set_cons_succ]
    refine wpAnyH_take (i := 10) (v := ?_) (ops_at rfl) (by kernel_rfl) (by kernel_rfl) (by kernel_rfl) (fun _ _ _ h => h) (Or.inl ⟨by rfl, ?yk10⟩) (by assumption) ?nk10
    case yk10 => (intro wS hSw; (try dsimp only at hSw); go_simp; try rfl)
    try simp only [Act.put, List.setIfInBounds_toArray, List.set_cons_zero, List.set_cons_succ]
    refine wpAnyH_take (i := 11) (v := ?_) (ops_at rfl) (by kernel_rfl) (by kernel_rfl) (by kernel_rfl) (fun _ _ _ h => h) (Or.inl ⟨by rfl, ?yk11⟩) (by assumption) ?nk11
    case yk11 => (intro wS hSw; (try dsimp only at hSw); go_simp; try rfl)
    try simp only [Act.put, List.setIfInBounds_toArray, List.set_cons_zero, List.set_cons_succ]
    refine wpAnyH_take (i := 12) (v := ?_) (ops_at rfl) (by kernel_rfl) (by kernel_rfl) (by kernel_rfl) (fun _ _ _ h => h) (Or.inl ⟨by rfl, ?yk12⟩) (by assumption) ?nk12
    case yk12 => (intro wS hSw; (try dsimp only at hSw); go_simp; try rfl)
    try simp only [Act.put, List.setIfInBounds_toArray, List.set_cons_zero, List.set_cons_succ]
    refine wpAnyH_take (i := 13) (v := ?_) (ops_at rfl) (by kernel_rfl) (by kernel_rfl) (by kernel_rfl) (fun _ _ _ h => h) (Or.inl ⟨by rfl, ?yk13⟩) (by assumption) ?nk13
    case yk13 => (intro wS hSw; (try dsimp only at hSw); go_simp; try rfl)
    try simp only [Act.put, List.setIfInBounds_toArray, List.set_cons_zero, List.set_cons_succ]
    refine wpAnyH_ready (rs := [14]) (by kernel_rfl) (by simp) ?_
    refine AllReadyH.cons (ops_at rfl) (fun K hK => ?_) AllReadyH.nil
    go_simp
    refine (cloneI_any ⟨Bp, 0, none⟩ pl.length cap pl Bp (Bp + 1) (w.drewN (nq + 1)) rfl (by omega) (show Seg (w.drewN (nq + 1)) Bp (Bp + 1) (some ⟨Bp, 0, none⟩) pl from HSEG.out) (show Bp + 1 ≤ w.heap.size by omega)).mono ?_
    rintro e w2 ⟨v2, rfl, hown2', hb2'⟩
    dsimp only
    have hb2 : Below w.heap.size w w2 := ⟨hb2'.os, hb2'.tape, hb2'.output, hb2'.size, hb2'.block⟩
    have hown2 : w2.ownsRow w.heap.size 3 1 v2 pl.length (pl.map (Value.int .i64)) := hown2'
    have hpk2 := HPK.out.belowAll hb2
    obtain ⟨gc, cc, rfl, hgc0, hgc1, _, _⟩ := ownsRow_head hown2 hpl
    have hcl : Own w2 gc (gc + 1) (some ⟨gc, 0, none⟩) pl := by
      rcases (ownsRow_own (ys := pl) hown2).2 with h | ⟨g', cs', T', e, h1, h2, h3, h4⟩
      · subst h; simp at hpl
      · injection e with e; injection e with e; subst e; exact .inr ⟨_, cs', T', rfl, Nat.le_refl _, Nat.lt_succ_self _, h3, h4⟩
    have hz2 := hb2.size
    clear hb2' hown2' hown2
    refine hK.out _ _ ⟨hpk2.facts.2.2.2.1, hpk2.facts.2.2.2.2⟩ (fun hH14 => ?_)
    clear hK K
    refine wpAnyH_take (i := 15) (v := ?_) (ops_at rfl) (by kernel_rfl) (by kernel_rfl) (by kernel_rfl) (fun _ _ _ h => h) (Or.inl ⟨by rfl, ?yk15⟩) (by assumption) ?nk15
    case yk15 => (intro wS hSw; (try dsimp only at hSw); go_simp; try rfl)
    try simp only [Act.put, List.setIfInBounds_toArray, List.set_cons_zero, List.set_cons_succ]
    refine wpAnyH_take (i := 16) (v := ?_) (ops_at rfl) (by kernel_rfl) (by kernel_rfl) (by kernel_rfl) (fun _ _ _ h => h) (Or.inl ⟨by rfl, ?yk16⟩) (by assumption) ?nk16
    case yk16 => (intro wS hSw; (try dsimp only at hSw); go_simp; try rfl)
    try simp only [Act.put, List.setIfInBounds_toArray, List.set_cons_zero, List.set_cons_succ]
    have x6 := hpk2.cell 6
    have z6 := hpk2.frozen 6
    simp [five, restV] at x6
    have hpk3 := hpk2.rest_set 1 (.int .i64 (ls.length : Int))
    refine wpAnyH_ready (rs := [17]) (by kernel_rfl) (by simp) ?_
    refine AllReadyH.cons (ops_at rfl) (fun K hK => ?_) AllReadyH.nil
    go_simp
    refine hK.out _ _ ⟨hpk3.facts.2.2.2.1, hpk3.facts.2.2.2.2⟩ (fun hH17 => ?_)
    clear hK K
    refine wpAnyH_take (i := 18) (v := ?_) (ops_at rfl) (by kernel_rfl) (by kernel_rfl) (by kernel_rfl) (fun _ _ _ h => h) (Or.inl ⟨by rfl, ?yk18⟩) (by assumption) ?nk18
    case yk18 => (intro wS hSw; (try dsimp only at hSw); go_simp; try rfl)
    try simp only [Act.put, List.setIfInBounds_toArray, List.set_cons_zero, List.set_cons_succ]
    refine wpAnyH_take (i := 19) (v := ?_) (ops_at rfl) (by kernel_rfl) (by kernel_rfl) (by kernel_rfl) (fun _ _ _ h => h) (Or.inl ⟨by rfl, ?yk19⟩) (by assumption) ?nk19
    case yk19 => (intro wS hSw; (try dsimp only at hSw); go_simp; try rfl)
    try simp only [Act.put, List.setIfInBounds_toArray, List.set_cons_zero, List.set_cons_succ]
    have x7 := hpk3.cell 7
    have z7 := hpk3.frozen 7
    simp [five, restV] at x7
    have hpk4 := hpk3.rest_set 2 (.slice (some ⟨gc, 0, none⟩) pl.length cc)
    refine wpAnyH_ready (rs := [20]) (by kernel_rfl) (by simp) ?_
    refine AllReadyH.cons (ops_at rfl) (fun K hK => ?_) AllReadyH.nil
    go_simp
    refine hK.out _ _ ⟨hpk4.facts.2.2.2.1, hpk4.facts.2.2.2.2⟩ (fun hH20 => ?_)
    clear hK K
    refine wpAnyH_take (i := 21) (v := ?_) (ops_at rfl) (by kernel_rfl) (by kernel_rfl) (by kernel_rfl) (fun _ _ _ h => h) (Or.inl ⟨by rfl, ?yk21⟩) (by assumption) ?nk21
    case yk21 => (intro wS hSw; (try dsimp only at hSw); go_simp; try rfl)
    try simp only [Act.put, List.setIfInBounds_toArray, List.set_cons_zero, List.set_cons_succ]
    refine wpAnyH_take (i := 22) (v := ?_) (ops_at rfl) (by kernel_rfl) (by kernel_rfl) (by kernel_rfl) (fun _ _ _ h => h) (Or.inl ⟨by rfl, ?yk22⟩) (by assumption) ?nk22
    case yk22 => (intro wS hSw; (try dsimp only at hSw); go_simp; try rfl)
    try simp only [Act.put, List.setIfInBounds_toArray, List.set_cons_zero, List.set_cons_succ]
    have x8 := hpk4.cell 8
    have z8 := hpk4.frozen 8
    simp [five, restV] at x8
    have hpk5 := hpk4.rest_set 3 (.int .i64 0)
    refine wpAnyH_ready (rs := [23]) (by kernel_rfl) (by simp) ?_
    refine AllReadyH.cons (ops_at rfl) (fun K hK => ?_) AllReadyH.nil
    go_simp
    refine hK.out _ _ ⟨hpk5.facts.2.2.2.1, hpk5.facts.2.2.2.2⟩ (fun hH23 => ?_)
    clear hK K
    refine wpAnyH_done (by kernel_rfl) ?_ _
    have x9 := hpk5.cell 8
    have z9 := hpk5.frozen 8
    simp [five, restV] at x9
    have hpk6 := hpk5.rest_set 3 (.int .i64 1)
    go_wp2_with fail
    go_end0
    have hka : KeptAt w2 P Bo Bp lo (.slice (some ⟨gc, 0, none⟩) pl.length cc) (some pl) := .inr ⟨pl, gc, cc, rfl, rfl, hcl, hgc1, by omega, by omega, by omega, by omega⟩
    have ho2 : Only (Three P Bo Bp) w2 ((((w2.setCell ⟨P, 6, none⟩ (.int .i64 (ls.length : Int))).setCell ⟨P, 7, none⟩ (.slice (some ⟨gc, 0, none⟩) pl.length cc)).setCell ⟨P, 8, none⟩ (.int .i64 0)).setCell ⟨P, 8, none⟩ (.int .i64 1)) :=
      ((((Only.refl _ _).setCell (p := ⟨P, 6, none⟩) (Or.inl rfl) _).setCell (p := ⟨P, 7, none⟩) (Or.inl rfl) _).setCell (p := ⟨P, 8, none⟩) (Or.inl rfl) _).setCell (p := ⟨P, 8, none⟩) (Or.inl rfl) _
    exact ⟨rfl, _, hpk6, hka.only ho2, (Only.of_below hb2 (Nat.le_refl _)).trans ho2⟩
  · obtain ⟨p, g, c, rfl, rfl, _⟩ : ∃ p g c, fo = some p ∧ FV = .slice (some ⟨g, 0, none⟩) p.length c ∧ True := by
      rcases hk with ⟨_, h⟩ | ⟨p, g, c, h1, h2, _⟩
      · exact absurd h hfo
      · exact ⟨p, g, c, h1, h2, trivial⟩
    have hlt : ls.length < few := by rcases hc with h | h; · cases h
                                     · exact h
    have hd : decide ((ls.length : Int) < (few : Int)) = true := decide_eq_true (by omega)
    clear hk hc hfo
    go_enter Try.func131, Try.ntmps131
    go_wp2_with fail
    go_quiet (fail)
    go_wp2_with fail
    refine wp_region_held_drew (S := (fun wq => wq.cell? ⟨P, 3, none⟩ = some (.slice (some ⟨Bo, 0, none⟩) ls.length cap) ∧ wq.cell? ⟨P, 4, none⟩ = some (.slice (some ⟨Bp, 0, none⟩) pl.length cap))) (by kernel_rfl) ⟨f3, f4⟩ (fun hH0 => ?_)
    refine wpAnyH_take (i := 0) (v := ?_) (ops_at rfl) (by kernel_rfl) (by kernel_rfl) (by kernel_rfl) (fun _ _ _ h => h) (Or.inl ⟨by rfl, ?ym0⟩) (by assumption) ?nm0
    case ym0 => (intro wS hSw; (try dsimp only at hSw); go_simp; try rfl)
    try simp only [Act.put, List.setIfInBounds_toArray, List.set_cons_zero, List.set_cons_succ]
    refine wpAnyH_take (i := 1) (v := ?_) (ops_at rfl) (by kernel_rfl) (by kernel_rfl) (by kernel_rfl) (fun _ _ _ h => h) (Or.inl ⟨by rfl, ?ym1⟩) (by assumption) ?nm1
    case ym1 => (intro wS hSw; (try dsimp only at hSw); go_simp; try rfl)
    try simp only [Act.put, List.setIfInBounds_toArray, List.set_cons_zero, List.set_cons_succ]
    refine wpAnyH_take (i := 2) (v := ?_) (ops_at rfl) (by kernel_rfl) (by kernel_rfl) (by kernel_rfl) (fun _ _ _ h => h) (Or.inl ⟨by rfl, ?ym2⟩) (by assumption) ?nm2
    case ym2 => (intro wS hSw; (try dsimp only at hSw); go_simp; try rfl)
    try simp only [Act.put, List.setIfInBounds_toArray, List.set_cons_zero, List.set_cons_succ]
    refine wpAnyH_take (i := 3) (v := ?_) (ops_at rfl) (by kernel_rfl) (by kernel_rfl) (by kernel_rfl) (fun _ _ _ h => h) (Or.inl ⟨by rfl, ?ym3⟩) (by assumption) ?nm3
    case ym3 => (intro wS hSw; (try dsimp only at hSw); go_simp; try rfl)
    try simp only [Act.put, List.setIfInBounds_toArray, List.set_cons_zero, List.set_cons_succ]
    refine wpAnyH_take (i := 4) (v := ?_) (ops_at rfl) (by kernel_rfl) (by kernel_rfl) (by kernel_rfl) (fun _ _ _ h => h) (Or.inl ⟨by rfl, ?ym4⟩) (by assumption) ?nm4
    case ym4 => (intro wS hSw; (try dsimp only at hSw); go_simp; try rfl)
    try simp only [Act.put, List.setIfInBounds_toArray, List.set_cons_zero, List.set_cons_succ]
    refine wpAnyH_take (i := 5) (v := ?_) (ops_at rfl) (by kernel_rfl) (by kernel_rfl) (by kernel_rfl) (fun _ _ _ h => h) (Or.inl ⟨by rfl, ?ym5⟩) (by assumption) ?nm5
    case ym5 => (intro wS hSw; (try dsimp only at hSw); go_simp; try rfl)
    try simp only [Act.put, List.setIfInBounds_toArray, List.set_cons_zero, List.set_cons_succ]
    refine wpAnyH_take (i := 6) (v := ?_) (ops_at rfl) (by kernel_rfl) (by kernel_rfl) (by kernel_rfl) (fun _ _ _ h => h) (Or.inl ⟨by rfl, ?ym6⟩) (by assumption) ?nm6
    case ym6 => (intro wS hSw; (try dsimp only at hSw); go_simp; try rfl)
    try simp only [Act.put, List.setIfInBounds_toArray, List.set_cons_zero, List.set_cons_succ]
    refine wpAnyH_take (i := 7) (v := ?_) (ops_at rfl) (by kernel_rfl) (by kernel_rfl) (by kernel_rfl) (fun _ _ _ h => h) (Or.inl ⟨by rfl, ?ym7⟩) (by assumption) ?nm7
    case ym7 => (intro wS hSw; (try dsimp only at hSw); go_simp; try rfl)
    try simp only [Act.put, List.setIfInBounds_toArray, List.set_cons_zero, List.set_cons_succ]
    refine wpAnyH_take (i := 8) (v := ?_) (ops_at rfl) (by kernel_rfl) (by kernel_rfl) (by kernel_rfl) (fun _ _ _ h => h) (Or.inl ⟨by rfl, ?ym8⟩) (by assumption) ?nm8
    case ym8 => (intro wS hSw; (try dsimp only at hSw); go_simp; try rfl)
    try simp only [Act.put, List.setIfInBounds_toArray, List.set_cons_zero, List.set_cons_succ]
    refine wpAnyH_take (i := 9) (v := ?_) (ops_at rfl) (by kernel_rfl) (by kernel_rfl) (by kernel_rfl) (fun _ _ _ h => h) (Or.inl ⟨by rfl, ?ym9⟩) (by assumption) ?nm9
    case ym9 => (intro wS hSw; (try dsimp only at hSw); go_simp; try rfl)
    try simp only [Act.put, List.setIfInBounds_toArray, List.set_cons_zero, List.set_cons_succ]
    refine wpAnyH_take (i := 10) (v := ?_) (ops_at rfl) (by kernel_rfl) (by kernel_rfl) (by kernel_rfl) (fun _ _ _ h => h) (Or.inl ⟨by rfl, ?ym10⟩) (by assumption) ?nm10
    case ym10 => (intro wS hSw; (try dsimp only at hSw); go_simp; try rfl)
    try simp only [Act.put, List.setIfInBounds_toArray, List.set_cons_zero, List.set_cons_succ]
    refine wpAnyH_take (i := 11) (v := ?_) (ops_at rfl) (by kernel_rfl) (by kernel_rfl) (by kernel_rfl) (fun _ _ _ h => h) (Or.inl ⟨by rfl, ?ym11⟩) (by assumption) ?nm11
    case ym11 => (intro wS hSw; (try dsimp only at hSw); go_simp; try rfl)
    try simp only [Act.put, List.setIfInBounds_toArray, List.set_cons_zero, List.set_cons_succ]
    refine wpAnyH_take (i := 12) (v := ?_) (ops_at rfl) (by kernel_rfl) (by kernel_rfl) (by kernel_rfl) (fun _ _ _ h => h) (Or.inl ⟨by rfl, ?ym12⟩) (by assumption) ?nm12
    case ym12 => (intro wS hSw; (try dsimp only at hSw); go_simp; try rfl)
    try simp only [Act.put, List.setIfInBounds_toArray, List.set_cons_zero, List.set_cons_succ]
    refine wpAnyH_take (i := 13) (v := ?_) (ops_at rfl) (by kernel_rfl) (by kernel_rfl) (by kernel_rfl) (fun _ _ _ h => h) (Or.inl ⟨by rfl, ?ym13⟩) (by assumption) ?nm13
    case ym13 => (intro wS hSw; (try dsimp only at hSw); go_simp; try rfl)
    try simp only [Act.put, List.setIfInBounds_toArray, List.set_cons_zero, List.set_cons_succ]
    refine wpAnyH_ready (rs := [14]) (by kernel_rfl) (by simp) ?_
    refine AllReadyH.cons (ops_at rfl) (fun K hK => ?_) AllReadyH.nil
    go_simp
    refine (cloneI_any ⟨Bp, 0, none⟩ pl.length cap pl Bp (Bp + 1) (w.drewN (nq + 1)) rfl (by omega) (show Seg (w.drewN (nq + 1)) Bp (Bp + 1) (some ⟨Bp, 0, none⟩) pl from HSEG.out) (show Bp + 1 ≤ w.heap.size by omega)).mono ?_
    rintro e w2 ⟨v2, rfl, hown2', hb2'⟩
    dsimp only
    have hb2 : Below w.heap.size w w2 := ⟨hb2'.os, hb2'.tape, hb2'.output, hb2'.size, hb2'.block⟩
    have hown2 : w2.ownsRow w.heap.size 3 1 v2 pl.length (pl.map (Value.int .i64)) := hown2'
    have hpk2 := HPK.out.belowAll hb2
    obtain ⟨gc, cc, rfl, hgc0, hgc1, _, _⟩ := ownsRow_head hown2 hpl
    have hcl : Own w2 gc (gc + 1) (some ⟨gc, 0, none⟩) pl := by
      rcases (ownsRow_own (ys := pl) hown2).2 with h | ⟨g', cs', T', e, h1, h2, h3, h4⟩
      · subst h; simp at hpl
      · injection e with e; injection e with e; subst e; exact .inr ⟨_, cs', T', rfl, Nat.le_refl _, Nat.lt_succ_self _, h3, h4⟩
    have hz2 := hb2.size
    clear hb2' hown2' hown2
    refine hK.out _ _ ⟨hpk2.facts.2.2.2.1, hpk2.facts.2.2.2.2⟩ (fun hH14 => ?_)
    clear hK K
    refine wpAnyH_take (i := 15) (v := ?_) (ops_at rfl) (by kernel_rfl) (by kernel_rfl) (by kernel_rfl) (fun _ _ _ h => h) (Or.inl ⟨by rfl, ?ym15⟩) (by assumption) ?nm15
    case ym15 => (intro wS hSw; (try dsimp only at hSw); go_simp; try rfl)
    try simp only [Act.put, List.setIfInBounds_toArray, List.set_cons_zero, List.set_cons_succ]
    refine wpAnyH_take (i := 16) (v := ?_) (ops_at rfl) (by kernel_rfl) (by kernel_rfl) (by kernel_rfl) (fun _ _ _ h => h) (Or.inl ⟨by rfl, ?ym16⟩) (by assumption) ?nm16
    case ym16 => (intro wS hSw; (try dsimp only at hSw); go_simp; try rfl)
    try simp only [Act.put, List.setIfInBounds_toArray, List.set_cons_zero, List.set_cons_succ]
    have x6 := hpk2.cell 6
    have z6 := hpk2.frozen 6
    simp [five, restV] at x6
    have hpk3 := hpk2.rest_set 1 (.int .i64 (ls.length : Int))
    refine wpAnyH_ready (rs := [17]) (by kernel_rfl) (by simp) ?_
    refine AllReadyH.cons (ops_at rfl) (fun K hK => ?_) AllReadyH.nil
    go_simp
    refine hK.out _ _ ⟨hpk3.facts.2.2.2.1, hpk3.facts.2.2.2.2⟩ (fun hH17 => ?_)
    clear hK K
    refine wpAnyH_take (i := 18) (v := ?_) (ops_at rfl) (by kernel_rfl) (by kernel_rfl) (by kernel_rfl) (fun _ _ _ h => h) (Or.inl ⟨by rfl, ?ym18⟩) (by assumption) ?nm18
    case ym18 => (intro wS hSw; (try dsimp only at hSw); go_simp; try rfl)
    try simp only [Act.put, List.setIfInBounds_toArray, List.set_cons_zero, List.set_cons_succ]
    refine wpAnyH_take (i := 19) (v := ?_) (ops_at rfl) (by kernel_rfl) (by kernel_rfl) (by kernel_rfl) (fun _ _ _ h => h) (Or.inl ⟨by rfl, ?ym19⟩) (by assumption) ?nm19
    case ym19 => (intro wS hSw; (try dsimp only at hSw); go_simp; try rfl)
    try simp only [Act.put, List.setIfInBounds_toArray, List.set_cons_zero, List.set_cons_succ]
    have x7 := hpk3.cell 7
    have z7 := hpk3.frozen 7
    simp [five, restV] at x7
    have hpk4 := hpk3.rest_set 2 (.slice (some ⟨gc, 0, none⟩) pl.length cc)
    refine wpAnyH_ready (rs := [20]) (by kernel_rfl) (by simp) ?_
    refine AllReadyH.cons (ops_at rfl) (fun K hK => ?_) AllReadyH.nil
    go_simp
    refine hK.out _ _ ⟨hpk4.facts.2.2.2.1, hpk4.facts.2.2.2.2⟩ (fun hH20 => ?_)
    clear hK K
    refine wpAnyH_take (i := 21) (v := ?_) (ops_at rfl) (by kernel_rfl) (by kernel_rfl) (by kernel_rfl) (fun _ _ _ h => h) (Or.inl ⟨by rfl, ?ym21⟩) (by assumption) ?nm21
    case ym21 => (intro wS hSw; (try dsimp only at hSw); go_simp; try rfl)
    try simp only [Act.put, List.setIfInBounds_toArray, List.set_cons_zero, List.set_cons_succ]
    refine wpAnyH_take (i := 22) (v := ?_) (ops_at rfl) (by kernel_rfl) (by kernel_rfl) (by kernel_rfl) (fun _ _ _ h => h) (Or.inl ⟨by rfl, ?ym22⟩) (by assumption) ?nm22
    case ym22 => (intro wS hSw; (try dsimp only at hSw); go_simp; try rfl)
    try simp only [Act.put, List.setIfInBounds_toArray, List.set_cons_zero, List.set_cons_succ]
    have x8 := hpk4.cell 8
    have z8 := hpk4.frozen 8
    simp [five, restV] at x8
    have hpk5 := hpk4.rest_set 3 (.int .i64 0)
    refine wpAnyH_ready (rs := [23]) (by kernel_rfl) (by simp) ?_
    refine AllReadyH.cons (ops_at rfl) (fun K hK => ?_) AllReadyH.nil
    go_simp
    refine hK.out _ _ ⟨hpk5.facts.2.2.2.1, hpk5.facts.2.2.2.2⟩ (fun hH23 => ?_)
    clear hK K
    refine wpAnyH_done (by kernel_rfl) ?_ _
    have x9 := hpk5.cell 8
    have z9 := hpk5.frozen 8
    simp [five, restV] at x9
    have hpk6 := hpk5.rest_set 3 (.int .i64 1)
    go_wp2_with fail
    go_end0
    have hka : KeptAt w2 P Bo Bp lo (.slice (some ⟨gc, 0, none⟩) pl.length cc) (some pl) := .inr ⟨pl, gc, cc, rfl, rfl, hcl, hgc1, by omega, by omega, by omega, by omega⟩
    have ho2 : Only (Three P Bo Bp) w2 ((((w2.setCell ⟨P, 6, none⟩ (.int .i64 (ls.length : Int))).setCell ⟨P, 7, none⟩ (.slice (some ⟨gc, 0, none⟩) pl.length cc)).setCell ⟨P, 8, none⟩ (.int .i64 0)).setCell ⟨P, 8, none⟩ (.int .i64 1)) :=
      ((((Only.refl _ _).setCell (p := ⟨P, 6, none⟩) (Or.inl rfl) _).setCell (p := ⟨P, 7, none⟩) (Or.inl rfl) _).setCell (p := ⟨P, 8, none⟩) (Or.inl rfl) _).setCell (p := ⟨P, 8, none⟩) (Or.inl rfl) _
    exact ⟨rfl, _, hpk6, hka.only ho2, (Only.of_below hb2 (Nat.le_refl _)).trans ho2⟩

set_option maxHeartbeats 1000000 in
theorem keep_old (P T Bo Bp cap lo : Nat) (room : Int) (ls pl q : List Int) (TH FV : Value) (few cnt : Nat) (w : World) (h : Pk w P T Bo Bp cap room ls pl (restV TH few FV cnt)) (hk : KeptAt w P Bo Bp lo FV (some q)) (hc : ¬ ls.length < few) (hcn : cnt ≤ 1000000000) :
    Calls Try.prog 131 #[.pointer (some ⟨P, 0, none⟩)] w fun e w' => e = .returned (.tuple #[]) ∧ Pk w' P T Bo Bp cap room ls pl (restV TH few FV (cnt + 1)) ∧ Only (Three P Bo Bp) w w' := by
  obtain ⟨f0, f1, f2, f3, f4⟩ := h.facts
  have c6 := h.cell 6
  have c7 := h.cell 7
  have c8 := h.cell 8
  have z8 := h.frozen 8
  simp [five, restV] at c6 c7 c8
  have hpk6 := h.rest_set 3 (.int .i64 ((cnt : Int) + 1))
  have hnil : ∀ (w : World) (a : Option Addr) (n c n' c' : Nat), (binOp .eql 39 (.slice a n c) (.slice none n' c')).run Try.prog w = .ok (.bool a.isNone) w := fun w a n c n' c' => Lib.run_eql_slice_nil w _ _ a n c n' c' Try.underlying39
  obtain ⟨p, g, c, h1, rfl, _⟩ : ∃ p g c, some q = some p ∧ FV = .slice (some ⟨g, 0, none⟩) p.length c ∧ True := by
    rcases hk with ⟨h, _⟩ | ⟨p, g, c, h1, h2, _⟩
    · cases h
    · exact ⟨p, g, c, h1, h2, trivial⟩
  have hd : decide ((ls.length : Int) < (few : Int)) = false := decide_eq_false (by omega)
  have HPK := Lib.hid hpk6
  clear hk h h1 hpk6
  go_enter Try.func131, Try.ntmps131
  go_wp2_with fail
  go_quiet (fail)
  go_wp2_with fail
  go_end0
  exact ⟨rfl, HPK.out.drewN _, ((Only.refl _ _).setCell (p := ⟨P, 8, none⟩) (Or.inl rfl) _).drewN _⟩
end Go.Proofs.Ytoheoojpmndhoaa

namespace Go.Proofs.Ytoheoojpmndhoaa
set_option linter.unusedVariables false
open Go.RowKit

theorem plansL_count {room : Int} {r pl ls : List Int} (h : ls.length + r.length ≤ 9) : (plansL room r pl ls).length ≤ 10 ^ r.length := by
  induction r generalizing pl ls with
  | nil => simp [plansL]
  | cons x r ih =>
    obtain ⟨T, hT⟩ : ∃ T, 10 ^ r.length = T := ⟨_, rfl⟩
    have hgen : ∀ k, (nodeL room x r pl ls k).length ≤ k * T := by
      intro k
      induction k with
      | zero => simp [nodeL]
      | succ k ihk =>
        by_cases hf : ls.getD k 0 + x ≤ room
        · rw [nodeL_yes hf, List.length_append]
          have h1 := ih (pl := pl ++ [(k : Int)]) (ls := addTo ls k x) (by rw [addTo_length]; simp at h; split <;> omega)
          rw [hT] at h1
          have h2 : (k + 1) * T = k * T + T := Nat.succ_mul _ _
          omega
        · rw [nodeL_no hf]
          have h2 : (k + 1) * T = k * T + T := Nat.succ_mul _ _
          omega
    have h1 := hgen (ls.length + 1)
    rw [nodeL_all] at h1
    have h3 : (ls.length + 1) * T ≤ 10 * T := Nat.mul_le_mul_right _ (by simp at h; omega)
    rw [List.length_cons, Nat.pow_succ, Nat.mul_comm, hT]
    omega

theorem plansM_count {room : Int} {most : Nat} {r pl ls : List Int} (hm : ls.length ≤ most) (h : ls.length + r.length ≤ 9) : (plansM room most r pl ls).length ≤ 1000000000 := by
  rw [plansM_filter hm]
  have h1 := List.length_filter_le (fun p : List Int × List Int => decide (p.2.length ≤ most)) (plansL room r pl ls)
  have h2 := plansL_count (room := room) (pl := pl) h
  have h3 : 10 ^ r.length ≤ 10 ^ 9 := Nat.pow_le_pow_right (by omega) (by omega)
  omega

theorem nodeM_le (room : Int) (most : Nat) (x : Int) (r pl ls : List Int) {k K : Nat} (h : k ≤ K) : (nodeM room most x r pl ls k).length ≤ (nodeM room most x r pl ls K).length := by
  obtain ⟨d, rfl⟩ : ∃ d, K = k + d := ⟨K - k, by omega⟩
  induction d with
  | zero => exact Nat.le_refl _
  | succ d ih =>
    refine Nat.le_trans (ih (by omega)) ?_
    rw [← Nat.add_assoc]
    by_cases hf : k + d < most ∧ ls.getD (k + d) 0 + x ≤ room
    · rw [nodeM_yes hf.1 hf.2, List.length_append]; omega
    · rw [nodeM_no hf]; exact Nat.le_refl _

/-- The first plan, if there is one, in new memory of its own. -/
def FirstR (w : World) (lo hi : Nat) (A : Option Addr) (n : Nat) (fo : Option (List Int × List Int)) : Prop := ∀ p, fo = some p → p.1.length = n ∧ Own w lo hi A p.1

theorem FirstR.below {w w' : World} {lo hi B n : Nat} {A : Option Addr} {fo : Option (List Int × List Int)} (h : FirstR w lo hi A n fo) (hb : Below B w w') (hB : hi ≤ B) : FirstR w' lo hi A n fo :=
  fun p hp => ⟨(h p hp).1, (h p hp).2.below hb hB⟩
theorem FirstR.more {w : World} {lo hi lo' hi' n : Nat} {A : Option Addr} {fo : Option (List Int × List Int)} (h : FirstR w lo hi A n fo) (hl : lo' ≤ lo) (hh : hi ≤ hi') : FirstR w lo' hi' A n fo :=
  fun p hp => ⟨(h p hp).1, (h p hp).2.more hl hh⟩

/-- The first of these plans, and how many there are. -/
def RetP (L : List (List Int × List Int)) (w : World) (e : Ending) (w' : World) : Prop :=
  ∃ A n c, e = .returned (.tuple #[.slice A n c, .int .i64 (L.length : Int)]) ∧ FirstR w' w.heap.size w'.heap.size A n L.head? ∧ Below w.heap.size w w'

theorem drop_at {xs : List Int} {k : Nat} {x : Int} (h : xs[k]? = some x) : xs.drop k = x :: xs.drop (k + 1) := by
  have hk := (List.getElem?_eq_some_iff.1 h).1
  have e := (List.getElem?_eq_some_iff.1 h).2
  rw [List.drop_eq_getElem_cons hk, e]

theorem loads_set {room x l : Int} {ls : List Int} {k : Nat} (h : Loads room ls) (hl : ls[k]? = some l) (hx : 1 ≤ x ∧ x ≤ room) (hf : l + x ≤ room) : Loads room (addTo ls k x) :=
  h.add hx.1 hx.2 (fun _ => by rw [show ls.getD k 0 = l by simp [List.getD, hl]]; exact hf)

theorem head_append {α : Type} (L M : List α) : (L ++ M).head? = if L.length = 0 then M.head? else L.head? := by
  cases L <;> simp

set_option maxRecDepth 100000 in
set_option maxHeartbeats 8000000 in
theorem bxPlans_any (A : Option Addr) (n c : Nat) (xs : List Int) (room : Int) (lo hi : Nat) (hn : xs.length = n) (hn9 : n ≤ 9) (hx : ∀ x ∈ xs, 1 ≤ x ∧ x ≤ 100 ∧ x ≤ room) (hr : 1 ≤ room ∧ room ≤ 1000) :
    ∀ (d : Nat) (pl ls : List Int) (most p1 p2 c1 c2 : Nat) (B C : Option Addr) (l1 h1 l2 h2 : Nat) (w : World), p1 + d = n → pl.length = p1 → ls.length = p2 → p2 ≤ p1 → p2 ≤ most → most ≤ 100 → Loads room ls →
      Seg w lo hi A xs → hi ≤ w.heap.size → Seg w l1 h1 B pl → h1 ≤ w.heap.size → Seg w l2 h2 C ls → h2 ≤ w.heap.size →
      Calls Try.prog 126 #[.slice A n c, .int .i64 room, .slice B p1 c1, .slice C p2 c2, .int .i64 (most : Int)] w (RetP (plansM room most (xs.drop p1) pl ls) w) := by
  intro d
  induction d with
  | zero =>
    intro pl ls most p1 p2 c1 c2 B C l1 h1 l2 h2 w hd hpl hls hp hmo hm2 hlo hs hB hsp hBp hsl hBl
    have hpn : p1 = n := by omega
    subst hpn
    have HPL := Lib.hid hpl
    have HD := Lib.hid (show plansM room most (xs.drop p1) pl ls = [(pl, ls)] by rw [List.drop_of_length_le (by omega)]; rfl)
    clear hpl hls hlo hn hd
    go_enter Try.func126, Try.ntmps126
    go_wp2_with fail
    refine (l1Own_any B p1 c1 pl l1 h1 _ HPL.out (by omega) hsp hBp).mono ?_
    rintro e w1 ⟨A', c', rfl, hown, hb⟩
    have hoo := Lib.hid (ownsRow_own (ys := pl) (by rw [HPL.out]; exact hown)).2
    clear hown
    go_wp2
    go_ret2
    refine ⟨A', p1, c', by rw [HD.out]; rfl, ?_, hb⟩
    rw [HD.out]
    rintro q hq
    injection hq with hq
    subst hq
    exact ⟨HPL.out, hoo.out⟩
  | succ d ih =>
    intro pl ls most p1 p2 c1 c2 B C l1 h1 l2 h2 w hd hpl hls hp hmo hm2 hlo hs hB hsp hBp hsl hBl
    obtain ⟨i0, hi0, hz0, hz1, hz2⟩ := info_parts int_info
    have hlt1 : p1 < n := by omega
    obtain ⟨x, hxk⟩ : ∃ x, xs[p1]? = some x := ⟨_, List.getElem?_eq_getElem (by omega)⟩
    have hxx := hx x (List.mem_of_getElem? hxk)
    obtain ⟨r, hrr⟩ : ∃ r, xs.drop (p1 + 1) = r := ⟨_, rfl⟩
    have hrl : r.length = d := by rw [← hrr, List.length_drop]; omega
    have HPL := Lib.hid hpl
    have HLS := Lib.hid hls
    have HLO := Lib.hid hlo
    have HXK := Lib.hid hxk
    have HIH := Lib.hid ih
    have HRR := Lib.hid hrr
    have HD := Lib.hid (show plansM room most (xs.drop p1) pl ls = nodeM room most x r pl ls (p2 + 1) by rw [drop_at hxk, hrr, ← hls]; exact (nodeM_all room most x r pl ls).symm)
    have hcnt : (nodeM room most x r pl ls (p2 + 1)).length ≤ 1000000000 := by
      rw [← hls, nodeM_all]
      exact plansM_count (by omega) (by simp; omega)
    have HCN := Lib.hid hcnt
    have hne : ((p1 : Int) == (n : Int)) = false := by simp; omega
    clear hpl hls hlo hn hxk ih hrr hcnt
    go_enter Try.func126, Try.ntmps126
    go_wp2_with fail
    go_loopw [13, 14, 15] (fun fv cv iv wr => ∃ k F nf cf, k ≤ p2 + 1 ∧ iv = .int .i64 (k : Int) ∧ fv = .slice F nf cf ∧ cv = .int .i64 ((nodeM room most x r pl ls k).length : Int) ∧ Below w.heap.size w wr ∧ Hid (FirstR wr w.heap.size wr.heap.size F nf (nodeM room most x r pl ls k).head?)) (fun _ _ iv _ => p2 + 1 - (intOf iv).toNat)
    case atStart => exact ⟨0, none, 0, 0, by omega, rfl, rfl, rfl, Below.refl _ _, fun q hq => by cases hq⟩
    case round =>
      obtain ⟨k, F, nf, cf, hk, rfl, rfl, rfl, hb, hfr⟩ := hrel
      have hz := hb.size
      have hst : k ≤ p2 → ¬ k < most → nodeM room most x r pl ls (p2 + 1) = nodeM room most x r pl ls k := fun h1 h2 => by
        rw [show p2 + 1 = k + (p2 + 1 - k) by omega]
        exact nodeM_stop (by omega) _
      obtain ⟨L, hL⟩ : ∃ L, nodeM room most x r pl ls k = L := ⟨_, rfl⟩
      have hLc : L.length ≤ 1000000000 := by rw [← hL]; exact Nat.le_trans (nodeM_le room most x r pl ls hk) HCN.out
      have HST := Lib.hid hst
      have HL := Lib.hid hL
      rw [hL] at hfr ⊢
      clear hst hL
      by_cases hkp : k ≤ p2
      · by_cases hkm : k < most
        · have hsw := hs.below hb hB
          have hpw := hsp.below hb hBp
          have hlw := hsl.below hb hBl
          obtain ⟨bt, ot, x', rfl, _, hbt, hx', hct⟩ := hsw.at_ (k := p1) (by have := (List.getElem?_eq_some_iff.1 HXK.out).1; omega)
          obtain rfl : x = x' := by have := HXK.out.symm.trans hx'; injection this
          have HSW := Lib.hid hsw
          have HPW := Lib.hid hpw
          have HLW := Lib.hid hlw
          clear hx'
          by_cases hold : k < p2
          · obtain ⟨l, hl⟩ : ∃ l, ls[k]? = some l := ⟨_, List.getElem?_eq_getElem (by rw [HLS.out]; exact hold)⟩
            have hlb := HLO.out.at_ hl
            have HLK := Lib.hid hl
            have hgd : ls.getD k 0 = l := by simp [List.getD, hl]
            have HGD := Lib.hid hgd
            have hkn : ¬ ((k : Int) = (p2 : Int)) := by omega
            clear hl hgd
            clear hs hsp hsl
            go_wp2_with fail
            refine (l1Own_any C p2 c2 ls l2 h2 _ HLS.out (by omega) HLW.out (by omega)).mono ?_
            rintro e w1 ⟨A', c', rfl, hown1, hb1⟩
            have hzb1 := hb1.size
            obtain ⟨g, cap, hgv, hg0, hg1, hgc, hgf⟩ := ownsRow_head hown1 (by omega)
            obtain ⟨rfl, rfl⟩ : A' = some ⟨g, 0, none⟩ ∧ cap = c' := by injection hgv with a b c; exact ⟨a, c.symm⟩
            have hcl : w1.cell? ⟨g, k, none⟩ = some (.int .i64 l) := hgc k l HLK.out
            have hfz := hgf k
            have hct1 : w1.cell? ⟨bt, ot + p1, none⟩ = some (.int .i64 x) := (hb1.cell (by show bt < wr.heap.size; omega)).trans hct
            have hwr : IntKind.i64.wrap (l + x) = l + x := by rw [IntKind.wrap_i64]; omega
            have HOW1 := Lib.hid hown1
            have HB1 := Lib.hid hb1
            clear hgv hgc hgf hown1 hb1
            by_cases hfit : l + x ≤ room
            · have hgt : decide (room < l + x) = false := decide_eq_false (by omega)
              have hbS : Below wr.heap.size wr (w1.setCell ⟨g, k, none⟩ (.int .i64 (l + x))) := HB1.out.setCell hg0 _
              have hzS := hbS.size
              obtain ⟨WS, hWS⟩ : ∃ WS, w1.setCell ⟨g, k, none⟩ (.int .i64 (l + x)) = WS := ⟨_, rfl⟩
              have hownS : (w1.setCell ⟨g, k, none⟩ (.int .i64 (l + x))).ownsRow wr.heap.size 3 1 (.slice (some ⟨g, 0, none⟩) p2 cap) p2 ((ls.set k (l + x)).map (Value.int .i64)) := ownsRow_set HOW1.out k (l + x)
              have heq : ls.set k (l + x) = addTo ls k x := (addTo_old HLK.out x).symm
              rw [heq] at hownS
              clear heq
              rw [hWS] at hbS hzS hownS
              have hlsl : (addTo ls k x).length = p2 := by have := hownS.1; simpa using this
              have HSL := Lib.hid (ownsRow_own (ys := addTo ls k x) (by rw [hlsl]; exact hownS)).2.seg
              have HPW1 := Lib.hid (HPW.out.below hbS (by omega))
              have HSW1 := Lib.hid (HSW.out.below hbS (by omega))
              have HBS := Lib.hid hbS
              have HLSL := Lib.hid hlsl
              have HWS := Lib.hid hWS
              have hYES : nodeM room most x r pl ls (k + 1) = L ++ plansM room most r (pl ++ [(k : Int)]) (addTo ls k x) := by rw [nodeM_yes hkm (by rw [HGD.out]; exact hfit), HL.out]
              obtain ⟨M, hM⟩ : ∃ M, plansM room most r (pl ++ [(k : Int)]) (addTo ls k x) = M := ⟨_, rfl⟩
              rw [hM] at hYES
              have hLM : L.length + M.length ≤ 1000000000 := by
                rw [← List.length_append, ← hYES]
                exact Nat.le_trans (nodeM_le room most x r pl ls (by omega)) HCN.out
              have HYES := Lib.hid hYES
              have HMM := Lib.hid hM
              have HLO2 := Lib.hid (show Loads room (addTo ls k x) from HLO.out.add hxx.1 hxx.2.2 (fun _ => (by rw [HGD.out]; exact hfit)))
              clear hownS hlsl hYES hM hWS hbS
              go_wp2_with fail
              go_region
              go_wp2_with fail
              go_region
              go_wp2_with fail
              try rw [HWS.out]
              refine (l1Own_any B p1 c1 pl l1 h1 WS.drew.drew HPL.out (by omega) (show Seg WS.drew.drew l1 h1 B pl from HPW1.out) (show h1 ≤ WS.heap.size by omega)).mono ?_
              rintro e w2 ⟨A2, c2', rfl, hown2', hb2'⟩
              have hb2 : Below WS.heap.size WS w2 := by first | exact hb2' | exact undrew hb2' | exact undrew (undrew hb2')
              have hz2' := hb2.size
              have hown2 : w2.ownsRow WS.heap.size 3 1 (.slice A2 p1 c2') p1 (pl.map (Value.int .i64)) := hown2'
              have HOW2 := Lib.hid (hown2.alloc (.cells #[.int .i64 (k : Int)] 3))
              have HS1 := Lib.hid (seg_one w2 (k : Int) 3)
              have HLT2 := Lib.hid hown2.lt
              have HB2 := Lib.hid hb2
              clear hown2 hown2' hb2' hb2
              go_wp2_with (at_builtin; refine wpList_append_seg _ rfl _ _ 39 rfl WS.heap.size 3 i0 Try.underlying39 hi0 hz0 hz1 hz2 _ p1 _ rfl HOW2.out _ 1 1 [(k : Int)] _ _ rfl rfl HS1.out (by omega) (by simp; omega) ?_; intro v3 w3 hown3 hgr3; obtain ⟨A3, c3, rfl⟩ := ownsRow_form hown3; have HA3 : Hid (Own w3 WS.heap.size w3.heap.size A3 (pl ++ [(k : Int)])) := (ownsRow_own (ys := pl ++ [(k : Int)]) (by rw [List.length_append, HPL.out, List.map_append]; exact hown3)).2; have hb3 : Below WS.heap.size WS w3 := (HB2.out.alloc hz2' _).grown hgr3 (by simp; omega) (fun g' hg' => (HLT2.out g' hg').1); have hz3 := hb3.size; have HL3 := Lib.hid ((HSL.out).below hb3 (Nat.le_refl _)); have HX3 := Lib.hid (HSW1.out.below hb3 (by omega)); have HB3 := Lib.hid (HBS.out.trans (hb3.mono (by omega))); clear hown3 hgr3 hb3)
              refine (HIH.out (pl ++ [(k : Int)]) (addTo ls k x) most (p1 + 1) (p2) c3 cap A3 (some ⟨g, 0, none⟩) _ _ _ _ w3 (by omega) (by rw [List.length_append, HPL.out]; rfl) HLSL.out (by omega) (by omega) hm2 HLO2.out HX3.out (by omega) HA3.out.seg (Nat.le_refl _) HL3.out (by omega)).mono ?_
              rw [HRR.out, HMM.out]
              rintro e w4 ⟨F4, n4, c4, rfl, hf4, hb4⟩
              have HB4 := Lib.hid (HB3.out.trans (hb4.mono (by omega)))
              have HBB := Lib.hid (hb.trans (HB4.out.mono hz))
              have HF4 := Lib.hid (hf4.more (lo' := w.heap.size) (by omega) (Nat.le_refl _))
              have HFO := Lib.hid ((hfr.out.below HB4.out (Nat.le_refl _)).more (Nat.le_refl _) HB4.out.size)
              clear hf4 hb4
              by_cases m0 : M.length = 0
              · have m0' : ¬ ((M.length : Int) > 0) := by omega
                have hM0 : M = [] := List.eq_nil_of_length_eq_zero m0
                have HM0 := Lib.hid hM0
                clear hM0
                go_wp2
                go_roundw
                case rel => exact ⟨k + 1, F, nf, cf, by omega, by go_num, rfl, by rw [HYES.out, List.length_append, m0]; rfl, HBB.out, by rw [HYES.out, HM0.out, List.append_nil]; exact HFO.out⟩
                case measure => first | (simp [intOf]; done) | (simp [intOf]; omega)
              · have m0' : (M.length : Int) > 0 := by omega
                by_cases l0 : L.length = 0
                · have l0' : ((L.length : Int) = 0) := by omega
                  have hL0 : L = [] := List.eq_nil_of_length_eq_zero l0
                  have HL0 := Lib.hid hL0
                  clear hL0
                  go_wp2
                  go_roundw
                  case rel => exact ⟨k + 1, F4, n4, c4, by omega, by go_num, rfl, by rw [HYES.out, List.length_append, l0, Nat.zero_add], HBB.out, by rw [HYES.out, HL0.out, List.nil_append]; exact HF4.out⟩
                  case measure => first | (simp [intOf]; done) | (simp [intOf]; omega)
                · have l0' : ¬ ((L.length : Int) = 0) := by omega
                  go_wp2
                  go_roundw
                  case rel => exact ⟨k + 1, F, nf, cf, by omega, by go_num, rfl, by rw [HYES.out, List.length_append]; push_cast; rfl, HBB.out, by rw [HYES.out, head_append, if_neg l0]; exact HFO.out⟩
                  case measure => first | (simp [intOf]; done) | (simp [intOf]; omega)
            · have hgt : decide (room < l + x) = true := decide_eq_true (by omega)
              have HNO := Lib.hid (show nodeM room most x r pl ls (k + 1) = L by rw [nodeM_no (fun h => hfit (by rw [← HGD.out]; exact h.2)), HL.out])
              have HBB := Lib.hid (hb.trans (HB1.out.mono hz))
              have HFO := Lib.hid ((hfr.out.below HB1.out (Nat.le_refl _)).more (Nat.le_refl _) HB1.out.size)
              go_wp2_with fail
              go_region
              go_wp2
              go_roundw
              case rel => exact ⟨k + 1, F, nf, cf, by omega, by go_num, rfl, by rw [HNO.out], by first | exact HBB.out | exact HBB.out.drew, by rw [HNO.out]; exact HFO.out⟩
              case measure => simp [intOf]; omega
          · obtain rfl : k = p2 := by omega
            clear hs hsp hsl
            go_wp2_with fail
            refine (l1Own_any C k c2 ls l2 h2 _ HLS.out (by omega) HLW.out (by omega)).mono ?_
            rintro e w1 ⟨A', c', rfl, hown1, hb1⟩
            have hzb1 := hb1.size
            have HOW0 := Lib.hid (hown1.alloc (.cells #[.int .i64 0] 3))
            have HS0 := Lib.hid (seg_one w1 0 3)
            have HLT0 := Lib.hid hown1.lt
            have HB0 := Lib.hid hb1
            have hgd : ls.getD k 0 = 0 := by simp [List.getD, HLS.out]
            have HGD := Lib.hid hgd
            have hwr : IntKind.i64.wrap x = x := by rw [IntKind.wrap_i64]; omega
            have hgt : decide (room < x) = false := decide_eq_false (by omega)
            clear hown1 hb1 hgd
            go_wp2_with (at_builtin; refine wpList_append_seg _ rfl _ _ 39 rfl wr.heap.size 3 i0 Try.underlying39 hi0 hz0 hz1 hz2 _ k _ rfl HOW0.out _ 1 1 [(0 : Int)] _ _ rfl rfl HS0.out (by omega) (by simp; omega) ?_; intro v9 w9 hown9 hgr9; have hb9 : Below wr.heap.size wr w9 := (HB0.out.alloc hzb1 _).grown hgr9 (by simp; omega) (fun g' hg' => (HLT0.out g' hg').1); have hown8 : w9.ownsRow wr.heap.size 3 1 v9 (k + 1) ((ls ++ [(0 : Int)]).map (Value.int .i64)) := (by rw [List.map_append]; exact hown9); obtain ⟨g, cap, rfl, hg0, hg1, hgc, hgf⟩ := ownsRow_head hown8 (by omega); have hcl : w9.cell? ⟨g, k, none⟩ = some (.int .i64 0) := hgc k 0 (by rw [List.getElem?_append_right (by rw [HLS.out]; exact Nat.le_refl _), HLS.out, Nat.sub_self]; rfl); have hfz := hgf k; have hct1 : w9.cell? ⟨bt, ot + p1, none⟩ = some (.int .i64 x) := (hb9.cell (by show bt < wr.heap.size; omega)).trans hct; have HOW1 := Lib.hid hown8; have HB1 := Lib.hid hb9; have hz9 := hb9.size; clear hown9 hgr9 hb9 hown8 hgc hgf; skip)
            have hbS : Below wr.heap.size wr (w9.setCell ⟨g, k, none⟩ (.int .i64 (x))) := HB1.out.setCell hg0 _
            have hzS := hbS.size
            obtain ⟨WS, hWS⟩ : ∃ WS, w9.setCell ⟨g, k, none⟩ (.int .i64 (x)) = WS := ⟨_, rfl⟩
            have hownS : (w9.setCell ⟨g, k, none⟩ (.int .i64 (x))).ownsRow wr.heap.size 3 1 (.slice (some ⟨g, 0, none⟩) (k + 1) cap) (k + 1) (((ls ++ [(0 : Int)]).set k x).map (Value.int .i64)) := ownsRow_set HOW1.out k (x)
            have heq : (ls ++ [(0 : Int)]).set k x = addTo ls k x := (by have h := addTo_new ls x; rw [HLS.out] at h; exact h.symm)
            rw [heq] at hownS
            clear heq
            rw [hWS] at hbS hzS hownS
            have hlsl : (addTo ls k x).length = (k + 1) := by have := hownS.1; simpa using this
            have HSL := Lib.hid (ownsRow_own (ys := addTo ls k x) (by rw [hlsl]; exact hownS)).2.seg
            have HPW1 := Lib.hid (HPW.out.below hbS (by omega))
            have HSW1 := Lib.hid (HSW.out.below hbS (by omega))
            have HBS := Lib.hid hbS
            have HLSL := Lib.hid hlsl
            have HWS := Lib.hid hWS
            have hYES : nodeM room most x r pl ls (k + 1) = L ++ plansM room most r (pl ++ [(k : Int)]) (addTo ls k x) := by rw [nodeM_yes hkm (by rw [HGD.out, Int.zero_add]; exact hxx.2.2), HL.out]
            obtain ⟨M, hM⟩ : ∃ M, plansM room most r (pl ++ [(k : Int)]) (addTo ls k x) = M := ⟨_, rfl⟩
            rw [hM] at hYES
            have hLM : L.length + M.length ≤ 1000000000 := by
              rw [← List.length_append, ← hYES]
              exact Nat.le_trans (nodeM_le room most x r pl ls (by omega)) HCN.out
            have HYES := Lib.hid hYES
            have HMM := Lib.hid hM
            have HLO2 := Lib.hid (show Loads room (addTo ls k x) from HLO.out.add hxx.1 hxx.2.2 (fun _ => (by rw [HGD.out, Int.zero_add]; exact hxx.2.2)))
            clear hownS hlsl hYES hM hWS hbS
            go_wp2_with fail
            go_region
            go_wp2_with fail
            go_region
            go_wp2_with fail
            try rw [HWS.out]
            refine (l1Own_any B p1 c1 pl l1 h1 WS.drew.drew HPL.out (by omega) (show Seg WS.drew.drew l1 h1 B pl from HPW1.out) (show h1 ≤ WS.heap.size by omega)).mono ?_
            rintro e w2 ⟨A2, c2', rfl, hown2', hb2'⟩
            have hb2 : Below WS.heap.size WS w2 := by first | exact hb2' | exact undrew hb2' | exact undrew (undrew hb2')
            have hz2' := hb2.size
            have hown2 : w2.ownsRow WS.heap.size 3 1 (.slice A2 p1 c2') p1 (pl.map (Value.int .i64)) := hown2'
            have HOW2 := Lib.hid (hown2.alloc (.cells #[.int .i64 (k : Int)] 3))
            have HS1 := Lib.hid (seg_one w2 (k : Int) 3)
            have HLT2 := Lib.hid hown2.lt
            have HB2 := Lib.hid hb2
            clear hown2 hown2' hb2' hb2
            go_wp2_with (at_builtin; refine wpList_append_seg _ rfl _ _ 39 rfl WS.heap.size 3 i0 Try.underlying39 hi0 hz0 hz1 hz2 _ p1 _ rfl HOW2.out _ 1 1 [(k : Int)] _ _ rfl rfl HS1.out (by omega) (by simp; omega) ?_; intro v3 w3 hown3 hgr3; obtain ⟨A3, c3, rfl⟩ := ownsRow_form hown3; have HA3 : Hid (Own w3 WS.heap.size w3.heap.size A3 (pl ++ [(k : Int)])) := (ownsRow_own (ys := pl ++ [(k : Int)]) (by rw [List.length_append, HPL.out, List.map_append]; exact hown3)).2; have hb3 : Below WS.heap.size WS w3 := (HB2.out.alloc hz2' _).grown hgr3 (by simp; omega) (fun g' hg' => (HLT2.out g' hg').1); have hz3 := hb3.size; have HL3 := Lib.hid ((HSL.out).below hb3 (Nat.le_refl _)); have HX3 := Lib.hid (HSW1.out.below hb3 (by omega)); have HB3 := Lib.hid (HBS.out.trans (hb3.mono (by omega))); clear hown3 hgr3 hb3)
            refine (HIH.out (pl ++ [(k : Int)]) (addTo ls k x) most (p1 + 1) ((k + 1)) c3 cap A3 (some ⟨g, 0, none⟩) _ _ _ _ w3 (by omega) (by rw [List.length_append, HPL.out]; rfl) HLSL.out (by omega) (by omega) hm2 HLO2.out HX3.out (by omega) HA3.out.seg (Nat.le_refl _) HL3.out (by omega)).mono ?_
            rw [HRR.out, HMM.out]
            rintro e w4 ⟨F4, n4, c4, rfl, hf4, hb4⟩
            have HB4 := Lib.hid (HB3.out.trans (hb4.mono (by omega)))
            have HBB := Lib.hid (hb.trans (HB4.out.mono hz))
            have HF4 := Lib.hid (hf4.more (lo' := w.heap.size) (by omega) (Nat.le_refl _))
            have HFO := Lib.hid ((hfr.out.below HB4.out (Nat.le_refl _)).more (Nat.le_refl _) HB4.out.size)
            clear hf4 hb4
            by_cases m0 : M.length = 0
            · have m0' : ¬ ((M.length : Int) > 0) := by omega
              have hM0 : M = [] := List.eq_nil_of_length_eq_zero m0
              have HM0 := Lib.hid hM0
              clear hM0
              go_wp2
              go_roundw
              case rel => exact ⟨k + 1, F, nf, cf, by omega, by go_num, rfl, by rw [HYES.out, List.length_append, m0]; rfl, HBB.out, by rw [HYES.out, HM0.out, List.append_nil]; exact HFO.out⟩
              case measure => first | (simp [intOf]; done) | (simp [intOf]; omega)
            · have m0' : (M.length : Int) > 0 := by omega
              by_cases l0 : L.length = 0
              · have l0' : ((L.length : Int) = 0) := by omega
                have hL0 : L = [] := List.eq_nil_of_length_eq_zero l0
                have HL0 := Lib.hid hL0
                clear hL0
                go_wp2
                go_roundw
                case rel => exact ⟨k + 1, F4, n4, c4, by omega, by go_num, rfl, by rw [HYES.out, List.length_append, l0, Nat.zero_add], HBB.out, by rw [HYES.out, HL0.out, List.nil_append]; exact HF4.out⟩
                case measure => first | (simp [intOf]; done) | (simp [intOf]; omega)
              · have l0' : ¬ ((L.length : Int) = 0) := by omega
                go_wp2
                go_roundw
                case rel => exact ⟨k + 1, F, nf, cf, by omega, by go_num, rfl, by rw [HYES.out, List.length_append]; push_cast; rfl, HBB.out, by rw [HYES.out, head_append, if_neg l0]; exact HFO.out⟩
                case measure => first | (simp [intOf]; done) | (simp [intOf]; omega)
        · have HEND := Lib.hid (HD.out.trans ((HST.out hkp hkm).trans HL.out))
          clear hs hsp hsl
          go_wp2
          go_ret2
          exact ⟨F, nf, cf, by rw [HEND.out]; rfl, by rw [HEND.out]; exact hfr.out, hb⟩
      · obtain rfl : k = p2 + 1 := by omega
        have HEND := Lib.hid (HD.out.trans HL.out)
        clear hs hsp hsl
        go_wp2
        go_ret2
        exact ⟨F, nf, cf, by rw [HEND.out]; rfl, by rw [HEND.out]; exact hfr.out, hb⟩
end Go.Proofs.Ytoheoojpmndhoaa

namespace Go.Proofs.Ytoheoojpmndhoaa
set_option linter.unusedVariables false
open Go.RowKit

/-- What the search leaves. -/
def WalkRet (P T Bo Bp cap lo : Nat) (room : Int) (ls pl : List Int) (TH : Value) (st : Nat × Option (List Int) × Nat) (w : World) (e : Ending) (w' : World) : Prop :=
  e = .returned (.tuple #[]) ∧ ∃ FV, Pk w' P T Bo Bp cap room ls pl (restV TH st.1 FV st.2.2) ∧ KeptAt w' P Bo Bp lo FV st.2.1 ∧ Only (Three P Bo Bp) w w'

theorem visit_count (st : Nat × Option (List Int) × Nat) (L : List (List Int × List Int)) : (L.foldl visit st).2.2 ≤ st.2.2 + L.length := by
  induction L generalizing st with
  | nil => exact Nat.le_refl _
  | cons p L ih =>
    rw [List.foldl_cons, List.length_cons]
    have h1 := ih (visit st p)
    have h2 : (visit st p).2.2 ≤ st.2.2 + 1 := by
      unfold visit
      split
      · omega
      · split
        · dsimp only; omega
        · exact Nat.le_refl _
    omega

theorem nodeL_le (room : Int) (x : Int) (r pl ls : List Int) {k K : Nat} (h : k ≤ K) : (nodeL room x r pl ls k).length ≤ (nodeL room x r pl ls K).length := by
  obtain ⟨d, rfl⟩ : ∃ d, K = k + d := ⟨K - k, by omega⟩
  induction d with
  | zero => exact Nat.le_refl _
  | succ d ih =>
    refine Nat.le_trans (ih (by omega)) ?_
    rw [← Nat.add_assoc]
    by_cases hf : ls.getD (k + d) 0 + x ≤ room
    · rw [nodeL_yes hf, List.length_append]; omega
    · rw [nodeL_no hf]; exact Nat.le_refl _

theorem Seg.three {w w' : World} {lo hi P Bo Bp : Nat} {A : Option Addr} {xs : List Int} (h : Seg w lo hi A xs) (ho : Only (Three P Bo Bp) w w') (hB : hi ≤ w.heap.size) (h3 : hi ≤ P ∧ hi ≤ Bo ∧ hi ≤ Bp) : Seg w' lo hi A xs :=
  h.only ho hB (fun g hg => by rcases hg with rfl | rfl | rfl <;> omega)

set_option maxHeartbeats 8000000 in
set_option maxRecDepth 100000 in
theorem walk_any (A : Option Addr) (n c : Nat) (xs : List Int) (room : Int) (l0 h0 P T Bo Bp lo : Nat) (hn : xs.length = n) (hn1 : 1 ≤ n) (hn9 : n ≤ 9) (hx : ∀ x ∈ xs, 1 ≤ x ∧ x ≤ 100 ∧ x ≤ room) (hr : 1 ≤ room ∧ room ≤ 1000) (h3 : h0 ≤ P ∧ h0 ≤ Bo ∧ h0 ≤ Bp) :
    ∀ (d : Nat) (pl ls : List Int) (few cnt : Nat) (fo : Option (List Int)) (FV : Value) (w : World), pl.length + d = n → ls.length ≤ pl.length → Loads room ls →
      Pk w P T Bo Bp n room ls pl (restV (.slice A n c) few FV cnt) → KeptAt w P Bo Bp lo FV fo → lo ≤ w.heap.size → Seg w l0 h0 A xs → h0 ≤ w.heap.size → cnt + (plansL room (xs.drop pl.length) pl ls).length ≤ 1000000000 →
      Calls Try.prog 125 #[.pointer (some ⟨P, 0, none⟩)] w (WalkRet P T Bo Bp n lo room ls pl (.slice A n c) ((plansL room (xs.drop pl.length) pl ls).foldl visit (few, fo, cnt)) w) := by
  intro d
  induction d with
  | zero =>
    intro pl ls few cnt fo FV w hd hpl hlo h hk hlw hs hB hcn
    obtain ⟨f0, f1, f2, f3, f4⟩ := h.facts
    have c5 := h.cell 5
    have c6 := h.cell 6
    simp [five, restV] at c5 c6
    have hpn : pl.length = n := by omega
    have hD : plansL room (xs.drop pl.length) pl ls = [(pl, ls)] := by rw [List.drop_of_length_le (by omega)]; rfl
    rw [hD] at hcn ⊢
    rw [hpn] at f4
    have HPN := Lib.hid hpn
    have HPK := Lib.hid h
    have HKA := Lib.hid hk
    have hne : ((n : Int) == (n : Int)) = true := by simp
    clear hn hx hd hD hs h hk hpn
    by_cases hgt : few < ls.length
    · have HV := Lib.hid (show visit (few, fo, cnt) (pl, ls) = (few, fo, cnt) by rw [visit, if_pos hgt])
      have hd1 : decide ((few : Int) < (ls.length : Int)) = true := decide_eq_true (by omega)
      go_enter Try.func125, Try.ntmps125
      go_wp2_with fail
      go_quiet (fail)
      go_wp2
      go_end0
      exact ⟨rfl, FV, by rw [List.foldl_cons, List.foldl_nil, HV.out]; exact HPK.out.drewN _, by rw [List.foldl_cons, List.foldl_nil, HV.out]; exact HKA.out.only ((Only.refl _ _).drewN _), (Only.refl _ _).drewN _⟩
    · have hd1 : decide ((few : Int) < (ls.length : Int)) = false := decide_eq_false (by omega)
      by_cases hcc : fo = none ∨ ls.length < few
      · have HV := Lib.hid (show visit (few, fo, cnt) (pl, ls) = (ls.length, some pl, 1) by rw [visit, if_neg hgt, if_pos hcc])
        go_enter Try.func125, Try.ntmps125
        go_wp2_with fail
        go_quiet (fail)
        go_wp2_with fail
        refine (keep_new P T Bo Bp n lo room ls pl (.slice A n c) FV few cnt fo _ (HPK.out.drewN _) (HKA.out.only ((Only.refl _ _).drewN _)) hlw (by rw [HPN.out]; omega) hcc).mono ?_
        rintro e w2 ⟨rfl, FV', hp2, hk2, ho2⟩
        have HP2 := Lib.hid hp2
        have HK2 := Lib.hid hk2
        have HO2 : Hid (Only (Three P Bo Bp) w w2) := ⟨ho2.os, ho2.tape, ho2.output, ho2.size, ho2.block⟩
        clear hp2 hk2 ho2
        go_wp2
        go_end0
        exact ⟨rfl, FV', by rw [List.foldl_cons, List.foldl_nil, HV.out]; exact HP2.out, by rw [List.foldl_cons, List.foldl_nil, HV.out]; exact HK2.out, HO2.out⟩
      · obtain ⟨q, rfl⟩ : ∃ q, fo = some q := by
          cases fo with
          | none => exact absurd (Or.inl rfl) hcc
          | some q => exact ⟨q, rfl⟩
        have hlt : ¬ ls.length < few := fun h => hcc (Or.inr h)
        have HV := Lib.hid (show visit (few, some q, cnt) (pl, ls) = (few, some q, cnt + 1) by rw [visit, if_neg hgt, if_neg hcc])
        simp at hcn
        go_enter Try.func125, Try.ntmps125
        go_wp2_with fail
        go_quiet (fail)
        go_wp2_with fail
        refine (keep_old P T Bo Bp n lo room ls pl q (.slice A n c) FV few cnt _ (HPK.out.drewN _) (HKA.out.only ((Only.refl _ _).drewN _)) hlt (by omega)).mono ?_
        rintro e w2 ⟨rfl, hp2, ho2⟩
        have HP2 := Lib.hid hp2
        have HO2 : Hid (Only (Three P Bo Bp) w w2) := ⟨ho2.os, ho2.tape, ho2.output, ho2.size, ho2.block⟩
        clear hp2 ho2
        go_wp2
        go_end0
        exact ⟨rfl, FV, by rw [List.foldl_cons, List.foldl_nil, HV.out]; exact HP2.out, by rw [List.foldl_cons, List.foldl_nil, HV.out]; exact HKA.out.only HO2.out, HO2.out⟩
  | succ d ih =>
    intro pl ls few cnt fo FV w hd hpl hlo h hk hlw hs hB hcn
    obtain ⟨f0, f1, f2, f3, f4⟩ := h.facts
    have c5 := h.cell 5
    have c6 := h.cell 6
    simp [five, restV] at c5 c6
    obtain ⟨p1, hp1⟩ : ∃ p1, pl.length = p1 := ⟨_, rfl⟩
    obtain ⟨p2, hp2⟩ : ∃ p2, ls.length = p2 := ⟨_, rfl⟩
    rw [hp1] at hd hpl hcn f4 ⊢
    rw [hp2] at hpl f3
    have hlt1 : p1 < n := by omega
    obtain ⟨x, hxk⟩ : ∃ x, xs[p1]? = some x := ⟨_, List.getElem?_eq_getElem (by omega)⟩
    have hxx := hx x (List.mem_of_getElem? hxk)
    obtain ⟨r, hrr⟩ : ∃ r, xs.drop (p1 + 1) = r := ⟨_, rfl⟩
    have hDD : plansL room (xs.drop p1) pl ls = nodeL room x r pl ls (p2 + 1) := by rw [drop_at hxk, hrr, ← hp2]; exact (nodeL_all room x r pl ls).symm
    rw [hDD] at hcn ⊢
    have HPL := Lib.hid hp1
    have HLS := Lib.hid hp2
    have HLO := Lib.hid hlo
    have HXK := Lib.hid hxk
    have HIH := Lib.hid ih
    have HRR := Lib.hid hrr
    have HCN := Lib.hid hcn
    have HPK := Lib.hid h
    have HKA := Lib.hid hk
    by_cases hgt : few < p2
    · have HV := Lib.hid (show (nodeL room x r pl ls (p2 + 1)).foldl visit (few, fo, cnt) = (few, fo, cnt) by rw [← hDD]; exact visit_prune (by show few < ls.length; omega))
      have hd1 : decide ((few : Int) < (p2 : Int)) = true := decide_eq_true (by omega)
      clear hn hx hd hDD hs h hk hp1 hp2 hlo hxk ih hrr hcn
      go_enter Try.func125, Try.ntmps125
      go_wp2_with fail
      go_quiet (fail)
      go_wp2
      go_end0
      exact ⟨rfl, FV, by rw [HV.out]; exact HPK.out.drewN _, by rw [HV.out]; exact HKA.out.only ((Only.refl _ _).drewN _), (Only.refl _ _).drewN _⟩
    · have hd1 : decide ((few : Int) < (p2 : Int)) = false := decide_eq_false (by omega)
      have hne : ((p1 : Int) == (n : Int)) = false := by simp; omega
      obtain ⟨bt, ot, x', rfl, _, hbt, hx', hct⟩ := hs.at_ (k := p1) (by omega)
      obtain rfl : x = x' := by have := hxk.symm.trans hx'; injection this
      have HS := Lib.hid hs
      have hn0 := hn
      clear hx hDD hs h hk hp1 hp2 hlo hxk ih hrr hcn hx' hn
      go_enter Try.func125, Try.ntmps125
      go_wp2_with fail
      go_quiet (fail)
      go_wp2_with fail
      go_loopw [4] (fun iv wr => ∃ k : Nat, k ≤ p2 + 1 ∧ iv = .int .i64 (k : Int) ∧ Hid (∃ FV', Pk wr P T Bo Bp n room ls pl (restV (.slice (some ⟨bt, ot, none⟩) n c) ((nodeL room x r pl ls k).foldl visit (few, fo, cnt)).1 FV' ((nodeL room x r pl ls k).foldl visit (few, fo, cnt)).2.2) ∧ KeptAt wr P Bo Bp lo FV' ((nodeL room x r pl ls k).foldl visit (few, fo, cnt)).2.1) ∧ Only (Three P Bo Bp) w wr) (fun iv _ => p2 + 1 - (intOf iv).toNat)
      case atStart => exact ⟨0, by omega, rfl, ⟨FV, HPK.out.drewN _, HKA.out.only ((Only.refl _ _).drewN _)⟩, (Only.refl _ _).drewN _⟩
      case round =>
        obtain ⟨k, hk, rfl, hst, ho⟩ := hrel
        have hz := ho.size
        obtain ⟨st, hST⟩ : ∃ st, (nodeL room x r pl ls k).foldl visit (few, fo, cnt) = st := ⟨_, rfl⟩
        rw [hST] at hst
        obtain ⟨FV', hpk, hka⟩ := hst.out
        have hcs : st.2.2 ≤ cnt + (nodeL room x r pl ls k).length := by rw [← hST]; exact visit_count _ _
        have HST := Lib.hid hST
        have HPW := Lib.hid hpk
        have HKW := Lib.hid hka
        have HCS := Lib.hid hcs
        obtain ⟨e0, e1, e2, e3, e4⟩ := hpk.facts
        rw [HLS.out] at e3
        clear hST hst hpk hka hcs f0 f1 f2 f3 f4 c5 c6
        by_cases hkp : k ≤ p2
        · obtain ⟨l, hl⟩ : ∃ l, ls.getD k 0 = l := ⟨_, rfl⟩
          have hlb : 0 ≤ l ∧ l ≤ 1000 := by
            rcases Nat.lt_or_ge k ls.length with h | h
            · have h1 := HLO.out.at_ (List.getElem?_eq_getElem h)
              have h2 : ls.getD k 0 = ls[k] := by simp [List.getD, h]
              omega
            · have h2 : ls.getD k 0 = 0 := by simp [List.getD, h]
              omega
          have HGL := Lib.hid hl
          have HCART := Lib.hid (show (Value.agg #[.int .i64 (k : Int), .int .i64 l]) = cart ls k by rw [cart, hl])
          clear hl
          go_wp2_with fail
          refine (cartonAt_any P T Bo Bp n room ls pl _ k wr HPW.out (by rw [HLS.out]; exact hkp)).mono ?_
          unfold Named
          rw [← HCART.out]
          rintro e w1 ⟨rfl, hb1⟩
          have hz1 := hb1.size
          have HPA0 := Lib.hid ((HPW.out.belowAll hb1).alloc (.cells #[.int .i64 (k : Int), .int .i64 l] 105))
          have HON1 := Lib.hid (((Only.of_below (S := Three P Bo Bp) hb1 (Nat.le_refl _)).alloc (.cells #[.int .i64 (k : Int), .int .i64 l] 105)))
          have HCB0 := Lib.hid (new_at w1 (.cells #[.int .i64 (k : Int), .int .i64 l] 105) rfl)
          obtain ⟨wA, hwA⟩ : ∃ wA, w1.alloc (.cells #[.int .i64 (k : Int), .int .i64 l] 105) = wA := ⟨_, rfl⟩
          obtain ⟨cb, hcb⟩ : ∃ cb, w1.heap.size = cb := ⟨_, rfl⟩
          rw [hwA] at HPA0 HON1 HCB0
          rw [hcb] at HCB0
          have HPA := HPA0
          have HCWA := Lib.hid hwA
          have HCC := Lib.hid hcb
          have hcb0 := cell_of HCB0.out 0
          have hcb1 := cell_of HCB0.out 1
          simp at hcb0 hcb1
          have hP3 := HPW.out.lt
          have HC3 := Lib.hid (show ¬ Three P Bo Bp cb by rintro (h | h | h) <;> omega)
          have hzA := HON1.out.size
          clear hwA hcb hb1 e0 e1 e2 e3 e4
          go_wp2_with fail
          rw [HCWA.out, HCC.out]
          by_cases hfit : l + x ≤ room
          · have HFD := Lib.hid (decide_eq_true hfit)
            refine wp_region_held_drew (S := (fun wq => wq.cell? ⟨cb, 0, none⟩ = some (.int .i64 (k : Int)) ∧ wq.cell? ⟨cb, 1, none⟩ = some (.int .i64 l))) (by kernel_rfl) ⟨hcb0, hcb1⟩ (fun hH0 => ?_)
            refine wpAnyH_take (i := 0) (v := ?_) (ops_at rfl) (by kernel_rfl) (by kernel_rfl) (by kernel_rfl) (fun _ _ _ h => h) (Or.inl ⟨by rfl, ?yf0⟩) (by assumption) ?nf0
            case yf0 => (intro wS hSw; (try dsimp only at hSw); go_simp; try rfl)
            try simp only [Act.put, List.setIfInBounds_toArray, List.set_cons_zero, List.set_cons_succ]
            refine wpAnyH_take (i := 1) (v := ?_) (ops_at rfl) (by kernel_rfl) (by kernel_rfl) (by kernel_rfl) (fun _ _ _ h => h) (Or.inl ⟨by rfl, ?yf1⟩) (by assumption) ?nf1
            case yf1 => (intro wS hSw; (try dsimp only at hSw); go_simp; try rfl)
            try simp only [Act.put, List.setIfInBounds_toArray, List.set_cons_zero, List.set_cons_succ]
            refine wpAnyH_take (i := 2) (v := ?_) (ops_at rfl) (by kernel_rfl) (by kernel_rfl) (by kernel_rfl) (fun _ _ _ h => h) (Or.inl ⟨by rfl, ?yf2⟩) (by assumption) ?nf2
            case yf2 => (intro wS hSw; (try dsimp only at hSw); go_simp; try rfl)
            try simp only [Act.put, List.setIfInBounds_toArray, List.set_cons_zero, List.set_cons_succ]
            refine wpAnyH_take (i := 3) (v := ?_) (ops_at rfl) (by kernel_rfl) (by kernel_rfl) (by kernel_rfl) (fun _ _ _ h => h) (Or.inl ⟨by rfl, ?yf3⟩) (by assumption) ?nf3
            case yf3 => (intro wS hSw; (try dsimp only at hSw); go_simp; try rfl)
            try simp only [Act.put, List.setIfInBounds_toArray, List.set_cons_zero, List.set_cons_succ]
            refine wpAnyH_take (i := 4) (v := ?_) (ops_at rfl) (by kernel_rfl) (by kernel_rfl) (by kernel_rfl) (fun _ _ _ h => h) (Or.inl ⟨by rfl, ?yf4⟩) (by assumption) ?nf4
            case yf4 => (intro wS hSw; (try dsimp only at hSw); go_simp; try rfl)
            try simp only [Act.put, List.setIfInBounds_toArray, List.set_cons_zero, List.set_cons_succ]
            refine wpAnyH_ready (rs := [5]) (by kernel_rfl) (by simp) ?_
            refine AllReadyH.cons (ops_at rfl) (fun K hK => ?_) AllReadyH.nil
            go_simp
            refine (fits_any P T Bo Bp n room ls pl _ (k : Int) l x wA.drew (HPA.out.drew) (by omega) (by omega) true HFD.out).mono ?_
            rintro e w2 ⟨rfl, hb2'⟩
            dsimp only
            have hb2 : Below wA.heap.size wA w2 := ⟨hb2'.os, hb2'.tape, hb2'.output, hb2'.size, hb2'.block⟩
            have hcb0_2 := (hb2.cell (cell_lt hcb0)).trans hcb0
            have hcb1_2 := (hb2.cell (cell_lt hcb1)).trans hcb1
            refine hK.out _ _ ⟨hcb0_2, hcb1_2⟩ (fun hHf5 => ?_)
            clear hK K
            refine wpAnyH_done (by kernel_rfl) ?_ _
            have HP2 := Lib.hid (HPA.out.belowAll hb2)
            have HON2 := Lib.hid (Only.of_below (S := Three P Bo Bp) hb2 (Nat.le_refl _))
            go_wp2_with fail
            refine wp_region_held_drew (S := (fun wq => wq.cell? ⟨cb, 0, none⟩ = some (.int .i64 (k : Int)) ∧ wq.cell? ⟨cb, 1, none⟩ = some (.int .i64 l))) (by kernel_rfl) ⟨hcb0_2, hcb1_2⟩ (fun hH0 => ?_)
            refine wpAnyH_take (i := 0) (v := ?_) (ops_at rfl) (by kernel_rfl) (by kernel_rfl) (by kernel_rfl) (fun _ _ _ h => h) (Or.inl ⟨by rfl, ?yq0⟩) (by assumption) ?nq0
            case yq0 => (intro wS hSw; (try dsimp only at hSw); go_simp; try rfl)
            try simp only [Act.put, List.setIfInBounds_toArray, List.set_cons_zero, List.set_cons_succ]
            refine wpAnyH_take (i := 1) (v := ?_) (ops_at rfl) (by kernel_rfl) (by kernel_rfl) (by kernel_rfl) (fun _ _ _ h => h) (Or.inl ⟨by rfl, ?yq1⟩) (by assumption) ?nq1
            case yq1 => (intro wS hSw; (try dsimp only at hSw); go_simp; try rfl)
            try simp only [Act.put, List.setIfInBounds_toArray, List.set_cons_zero, List.set_cons_succ]
            refine wpAnyH_take (i := 2) (v := ?_) (ops_at rfl) (by kernel_rfl) (by kernel_rfl) (by kernel_rfl) (fun _ _ _ h => h) (Or.inl ⟨by rfl, ?yq2⟩) (by assumption) ?nq2
            case yq2 => (intro wS hSw; (try dsimp only at hSw); go_simp; try rfl)
            try simp only [Act.put, List.setIfInBounds_toArray, List.set_cons_zero, List.set_cons_succ]
            refine wpAnyH_take (i := 3) (v := ?_) (ops_at rfl) (by kernel_rfl) (by kernel_rfl) (by kernel_rfl) (fun _ _ _ h => h) (Or.inl ⟨by rfl, ?yq3⟩) (by assumption) ?nq3
            case yq3 => (intro wS hSw; (try dsimp only at hSw); go_simp; try rfl)
            try simp only [Act.put, List.setIfInBounds_toArray, List.set_cons_zero, List.set_cons_succ]
            refine wpAnyH_take (i := 4) (v := ?_) (ops_at rfl) (by kernel_rfl) (by kernel_rfl) (by kernel_rfl) (fun _ _ _ h => h) (Or.inl ⟨by rfl, ?yq4⟩) (by assumption) ?nq4
            case yq4 => (intro wS hSw; (try dsimp only at hSw); go_simp; try rfl)
            try simp only [Act.put, List.setIfInBounds_toArray, List.set_cons_zero, List.set_cons_succ]
            refine wpAnyH_ready (rs := [5]) (by kernel_rfl) (by simp) ?_
            refine AllReadyH.cons (ops_at rfl) (fun K hK => ?_) AllReadyH.nil
            go_simp
            rw [HCART.out]
            refine (put_any P T Bo Bp n room ls pl _ k x w2.drew (HP2.out.drew) (by omega) hr.2 HLO.out (by rw [HLS.out]; omega) (by rw [HLS.out]; omega) (by rw [HPL.out]; omega)).mono ?_
            rintro e w3 ⟨rfl, hpk3, ho3'⟩
            dsimp only
            have ho3 : Only (Three P Bo Bp) w2 w3 := ⟨ho3'.os, ho3'.tape, ho3'.output, ho3'.size, ho3'.block⟩
            have hcb0_3 : w3.cell? ⟨cb, 0, none⟩ = some (.int .i64 (k : Int)) := (World.cell?_of_block (ho3.block cb (by exact cell_lt hcb0_2) HC3.out)).trans hcb0_2
            have hcb1_3 : w3.cell? ⟨cb, 1, none⟩ = some (.int .i64 l) := (World.cell?_of_block (ho3.block cb (by exact cell_lt hcb0_2) HC3.out)).trans hcb1_2
            refine hK.out _ _ ⟨hcb0_3, hcb1_3⟩ (fun hHq5 => ?_)
            clear hK K
            refine wpAnyH_done (by kernel_rfl) ?_ _
            have HON3 := Lib.hid ((HON1.out.trans HON2.out).trans ho3)
            have HPK3 := Lib.hid hpk3
            have HKA3 := Lib.hid (HKW.out.only HON3.out)
            have HS3 := Lib.hid ((HS.out.three ho hB h3).three HON3.out (by omega) h3)
            have hz3 := HON3.out.size
            obtain ⟨M, hM⟩ : ∃ M, plansL room (xs.drop (pl ++ [(k : Int)]).length) (pl ++ [(k : Int)]) (addTo ls k x) = M := ⟨_, rfl⟩
            have hYES : nodeL room x r pl ls (k + 1) = nodeL room x r pl ls k ++ M := by rw [nodeL_yes (by rw [HGL.out]; exact hfit), ← hM, List.length_append, HPL.out]; rw [show p1 + [(k : Int)].length = p1 + 1 from rfl, HRR.out]
            have hcnt : st.2.2 + M.length ≤ 1000000000 := by
              have h1 := HCS.out
              have h2 := nodeL_le room x r pl ls (k := k + 1) (K := p2 + 1) (by omega)
              rw [hYES, List.length_append] at h2
              have h3 := HCN.out
              omega
            have HYES := Lib.hid (show (nodeL room x r pl ls (k + 1)).foldl visit (few, fo, cnt) = M.foldl visit st by rw [hYES, List.foldl_append, HST.out])
            have HLO2 := Lib.hid (show Loads room (addTo ls k x) from HLO.out.add hxx.1 hxx.2.2 (fun _ => by rw [HGL.out]; exact hfit))
            have HMM := Lib.hid hM
            have HAL := Lib.hid (show (addTo ls k x).length ≤ (pl ++ [(k : Int)]).length by rw [addTo_length, List.length_append, HPL.out, HLS.out]; show _ ≤ p1 + 1; split <;> omega)
            clear hM hYES hpk3 ho3
            go_wp2_with fail
            refine (HIH.out (pl ++ [(k : Int)]) (addTo ls k x) st.1 st.2.2 st.2.1 FV' w3 (by rw [List.length_append, HPL.out]; show p1 + 1 + d = n; omega) HAL.out HLO2.out HPK3.out HKA3.out (by omega) HS3.out (by omega) (by rw [HMM.out]; exact hcnt)).mono ?_
            rw [HMM.out]
            rintro e w4 ⟨rfl, FV4, hpk4, hka4, ho4⟩
            have HPK4 := Lib.hid hpk4
            have HKA4 := Lib.hid hka4
            have HON4 := Lib.hid (HON3.out.trans ho4)
            clear hpk4 hka4 ho4
            go_wp2_with fail
            refine (takeBack_any P T Bo Bp n room ls pl _ k x _ HPK4.out (by omega) hr.2 HLO.out (by rw [HLS.out]; omega)).mono ?_
            rintro e w5 ⟨rfl, hpk5, ho5⟩
            have HPK5 := Lib.hid hpk5
            have HKA5 := Lib.hid (HKA4.out.only ho5)
            have HON5 := Lib.hid (HON4.out.trans ho5)
            clear hpk5 ho5
            go_wp2
            go_roundw
            case rel => exact ⟨k + 1, by omega, by go_num, ⟨FV4, by rw [HYES.out]; exact HPK5.out, by rw [HYES.out]; exact HKA5.out⟩, ho.trans HON5.out⟩
            case measure => first | (simp [intOf]; done) | (simp [intOf]; omega)
          · have HFD := Lib.hid (decide_eq_false hfit)
            refine wp_region_held_drew (S := (fun wq => wq.cell? ⟨cb, 0, none⟩ = some (.int .i64 (k : Int)) ∧ wq.cell? ⟨cb, 1, none⟩ = some (.int .i64 l))) (by kernel_rfl) ⟨hcb0, hcb1⟩ (fun hH0 => ?_)
            refine wpAnyH_take (i := 0) (v := ?_) (ops_at rfl) (by kernel_rfl) (by kernel_rfl) (by kernel_rfl) (fun _ _ _ h => h) (Or.inl ⟨by rfl, ?yg0⟩) (by assumption) ?ng0
            case yg0 => (intro wS hSw; (try dsimp only at hSw); go_simp; try rfl)
            try simp only [Act.put, List.setIfInBounds_toArray, List.set_cons_zero, List.set_cons_succ]
            refine wpAnyH_take (i := 1) (v := ?_) (ops_at rfl) (by kernel_rfl) (by kernel_rfl) (by kernel_rfl) (fun _ _ _ h => h) (Or.inl ⟨by rfl, ?yg1⟩) (by assumption) ?ng1
            case yg1 => (intro wS hSw; (try dsimp only at hSw); go_simp; try rfl)
            try simp only [Act.put, List.setIfInBounds_toArray, List.set_cons_zero, List.set_cons_succ]
            refine wpAnyH_take (i := 2) (v := ?_) (ops_at rfl) (by kernel_rfl) (by kernel_rfl) (by kernel_rfl) (fun _ _ _ h => h) (Or.inl ⟨by rfl, ?yg2⟩) (by assumption) ?ng2
            case yg2 => (intro wS hSw; (try dsimp only at hSw); go_simp; try rfl)
            try simp only [Act.put, List.setIfInBounds_toArray, List.set_cons_zero, List.set_cons_succ]
            refine wpAnyH_take (i := 3) (v := ?_) (ops_at rfl) (by kernel_rfl) (by kernel_rfl) (by kernel_rfl) (fun _ _ _ h => h) (Or.inl ⟨by rfl, ?yg3⟩) (by assumption) ?ng3
            case yg3 => (intro wS hSw; (try dsimp only at hSw); go_simp; try rfl)
            try simp only [Act.put, List.setIfInBounds_toArray, List.set_cons_zero, List.set_cons_succ]
            refine wpAnyH_take (i := 4) (v := ?_) (ops_at rfl) (by kernel_rfl) (by kernel_rfl) (by kernel_rfl) (fun _ _ _ h => h) (Or.inl ⟨by rfl, ?yg4⟩) (by assumption) ?ng4
            case yg4 => (intro wS hSw; (try dsimp only at hSw); go_simp; try rfl)
            try simp only [Act.put, List.setIfInBounds_toArray, List.set_cons_zero, List.set_cons_succ]
            refine wpAnyH_ready (rs := [5]) (by kernel_rfl) (by simp) ?_
            refine AllReadyH.cons (ops_at rfl) (fun K hK => ?_) AllReadyH.nil
            go_simp
            refine (fits_any P T Bo Bp n room ls pl _ (k : Int) l x wA.drew (HPA.out.drew) (by omega) (by omega) false HFD.out).mono ?_
            rintro e w2 ⟨rfl, hb2'⟩
            dsimp only
            have hb2 : Below wA.heap.size wA w2 := ⟨hb2'.os, hb2'.tape, hb2'.output, hb2'.size, hb2'.block⟩
            have hcb0_2 := (hb2.cell (cell_lt hcb0)).trans hcb0
            have hcb1_2 := (hb2.cell (cell_lt hcb1)).trans hcb1
            refine hK.out _ _ ⟨hcb0_2, hcb1_2⟩ (fun hHg5 => ?_)
            clear hK K
            refine wpAnyH_done (by kernel_rfl) ?_ _
            have HNO := Lib.hid (show nodeL room x r pl ls (k + 1) = nodeL room x r pl ls k from nodeL_no (by rw [HGL.out]; exact hfit))
            have HON2 := Lib.hid ((HON1.out.trans (Only.of_below (S := Three P Bo Bp) hb2 (Nat.le_refl _))))
            have HP2 := Lib.hid (HPA.out.belowAll hb2)
            have HK2 := Lib.hid (HKW.out.only HON2.out)
            go_wp2
            go_roundw
            case rel => exact ⟨k + 1, by omega, by go_num, ⟨FV', by rw [HNO.out, HST.out]; exact HP2.out, by rw [HNO.out, HST.out]; exact HK2.out⟩, ho.trans HON2.out⟩
            case measure => first | (simp [intOf]; done) | (simp [intOf]; omega)
        · obtain rfl : k = p2 + 1 := by omega
          go_wp2
          go_end0
          exact ⟨rfl, FV', by rw [HST.out]; exact HPW.out, by rw [HST.out]; exact HKW.out, ho⟩
end Go.Proofs.Ytoheoojpmndhoaa

namespace Go.Proofs.Ytoheoojpmndhoaa
set_option linter.unusedVariables false
open Go.RowKit

theorem plansL_len2 {room : Int} {r pl ls : List Int} {p : List Int × List Int} (h : p ∈ plansL room r pl ls) : p.2.length ≤ ls.length + r.length := by
  induction r generalizing pl ls with
  | nil =>
    obtain rfl := List.mem_singleton.1 h
    simp
  | cons x r ih =>
    rw [plansL] at h
    obtain ⟨b, _, hb⟩ := List.mem_flatMap.1 h
    split at hb
    · have := ih hb
      rw [addTo_length] at this
      simp only [List.length_cons]
      split at this <;> omega
    · cases hb

/-- All plans of some things. -/
def allP (room : Int) (xs : List Int) : List (List Int × List Int) := plansL room xs [] []
/-- Those with the fewest boxes. -/
def bestP (room : Int) (xs : List Int) (m : Nat) : List (List Int × List Int) := (allP room xs).filter fun p => decide (p.2.length ≤ m)

theorem least_bounds {room : Int} {xs : List Int} {m : Nat} (h : Least (allP room xs) m) (h1 : 1 ≤ xs.length) (h9 : xs.length ≤ 9) : 1 ≤ m ∧ m ≤ 9 := by
  obtain ⟨⟨p, hp, hpm⟩, _⟩ := h
  have h2 := plansL_len2 hp
  match xs, h1 with
  | x :: r, _ =>
    unfold allP at hp
    rw [plansL] at hp
    obtain ⟨b, hbr, hb⟩ := List.mem_flatMap.1 hp
    have hb0 : b = 0 := by simpa using hbr
    subst hb0
    split at hb
    · have := (plansL_len hb).1
      rw [addTo_length] at this
      simp at this h2 h9
      omega
    · cases hb

theorem best_pos {room : Int} {xs : List Int} {m : Nat} (h : Least (allP room xs) m) : 0 < (bestP room xs m).length := by
  obtain ⟨⟨p, hp, hpm⟩, _⟩ := h
  exact List.length_pos_of_mem (List.mem_filter.2 ⟨hp, by simp; omega⟩)

theorem less_none {room : Int} {xs : List Int} {m q : Nat} (h : Least (allP room xs) m) (hq : q < m) : plansM room q (xs.drop 0) [] [] = [] := by
  rw [List.drop_zero, plansM_filter (Nat.zero_le _)]
  exact List.filter_eq_nil_iff.2 fun p hp => by have := h.2 p hp; simp; omega
theorem best_eq {room : Int} {xs : List Int} (m : Nat) : plansM room m (xs.drop 0) [] [] = bestP room xs m := by
  rw [List.drop_zero, plansM_filter (Nat.zero_le _)]; rfl

theorem best_len {room : Int} {xs : List Int} {m : Nat} {p : List Int × List Int} (h : (bestP room xs m).head? = some p) : p.1.length = xs.length := by
  have hp : p ∈ bestP room xs m := by
    cases hb : bestP room xs m with
    | nil => rw [hb] at h; cases h
    | cons q r => rw [hb] at h; injection h with h; subst h; exact List.mem_cons_self ..
  have := (plansL_len (List.mem_filter.1 hp).1).2
  simpa using this

theorem best_count {room : Int} {xs : List Int} (m : Nat) (h9 : xs.length ≤ 9) : (bestP room xs m).length ≤ 1000000000 := by
  rw [← best_eq]
  exact plansM_count (Nat.zero_le _) (by simpa using h9)

/-- The fewest, the first plan with them, how many there are. -/
def RetF (m : Nat) (L : List (List Int × List Int)) (w : World) (e : Ending) (w' : World) : Prop :=
  ∃ A n c, e = .returned (.tuple #[.int .i64 (m : Int), .slice A n c, .int .i64 (L.length : Int)]) ∧ FirstR w' w.heap.size w'.heap.size A n L.head? ∧ Below w.heap.size w w'

set_option maxHeartbeats 1000000 in
theorem bxFew_any (A : Option Addr) (n c : Nat) (xs : List Int) (room : Int) (lo hi : Nat) (w : World) (hn : xs.length = n) (hn1 : 1 ≤ n) (hn9 : n ≤ 9) (hx : ∀ x ∈ xs, 1 ≤ x ∧ x ≤ 100 ∧ x ≤ room) (hr : 1 ≤ room ∧ room ≤ 1000)
    (hs : Seg w lo hi A xs) (hB : hi ≤ w.heap.size) (m : Nat) (hm : Least (allP room xs) m) :
    Calls Try.prog 116 #[.slice A n c, .int .i64 room] w (RetF m (bestP room xs m) w) := by
  obtain ⟨hm1, hm9⟩ := least_bounds hm (by omega) (by omega)
  have HN := Lib.hid hn
  have HX := Lib.hid hx
  have HM := Lib.hid hm
  have HC := Lib.hid (best_count (room := room) (xs := xs) m (by omega))
  have HP := Lib.hid (best_pos hm)
  clear hn hx hm
  go_enter Try.func116, Try.ntmps116
  go_wp2_with fail
  go_loopw [7] (fun v wr => ∃ q : Nat, 1 ≤ q ∧ q ≤ m ∧ v = .int .i64 (q : Int) ∧ Below w.heap.size w wr) (fun v _ => m + 1 - (intOf v).toNat)
  case atStart => exact ⟨1, Nat.le_refl _, hm1, rfl, Below.refl _ _⟩
  case round =>
    obtain ⟨q, hq1, hqm, rfl, hb⟩ := hrel
    have hz := hb.size
    by_cases e : q = m
    · subst e
      have hp := HP.out
      have hc := HC.out
      go_wp2_with fail
      refine (bxPlans_any A n c xs room lo hi HN.out hn9 HX.out hr n [] [] q 0 0 0 0 none none 0 0 0 0 _ (by omega) rfl rfl (Nat.le_refl _) (Nat.zero_le _) (by omega) (fun y hy => by cases hy) (hs.below hb hB) (by omega) Seg.nil_ (Nat.zero_le _) Seg.nil_ (Nat.zero_le _)).mono ?_
      rw [best_eq]
      rintro e w1 ⟨F, nf, cf, rfl, hf, hb1⟩
      have hpos : ((bestP room xs q).length : Int) > 0 := by omega
      generalize hL : bestP room xs q = L at *
      have HL := Lib.hid hL
      clear hL
      have HF := Lib.hid (hf.more hz (Nat.le_refl _))
      have HB := Lib.hid (hb.trans (hb1.mono hz))
      clear hf hb1
      go_wp2
      go_ret3
      exact ⟨F, nf, cf, by rw [HL.out]; rfl, by rw [HL.out]; exact HF.out, HB.out⟩
    · go_wp2_with fail
      refine (bxPlans_any A n c xs room lo hi HN.out hn9 HX.out hr n [] [] q 0 0 0 0 none none 0 0 0 0 _ (by omega) rfl rfl (Nat.le_refl _) (Nat.zero_le _) (by omega) (fun y hy => by cases hy) (hs.below hb hB) (by omega) Seg.nil_ (Nat.zero_le _) Seg.nil_ (Nat.zero_le _)).mono ?_
      rw [less_none HM.out (by omega)]
      rintro e w1 ⟨F, nf, cf, rfl, hf, hb1⟩
      clear hf
      go_wp2
      go_roundw
      case rel => exact ⟨q + 1, by omega, by omega, by go_num, hb.trans (hb1.mono hz)⟩
      case measure => simp [intOf]; omega

section
variable (A : Option Addr) (n c : Nat) (xs : List Int) (room : Int) (lo hi : Nat) (w : World) (hn : xs.length = n) (hlen : n ≤ 1048576) (hs : Seg w lo hi A xs) (hB : hi ≤ w.heap.size) (q : Bool) (hq : askedB xs room = q) (m : Nat) (hm : q = true → Least (allP room xs) m)
include hn hlen hs hB hq hm

end
end Go.Proofs.Ytoheoojpmndhoaa

namespace Go.Proofs.Ytoheoojpmndhoaa
set_option linter.unusedVariables false
open Go.RowKit

theorem pk_made {w : World} {P T Bo Bp n : Nat} {room : Int} {TH : Value} {few : Nat} {z0 z1 z2 z3 z4 z5 z6 z7 z8 : Value} (hb : w.heap[P]? = some (.cells #[z0, z1, z2, z3, z4, z5, z6, z7, z8] T (0, 0))) (hbo : Boxes w Bo n []) (hbp : Plan w Bp n []) (n1 : P ≠ Bo) (n2 : P ≠ Bp) (n3 : Bo ≠ Bp) (h9 : n ≤ 9) :
    Pk (((((((((w.setCell ⟨P, 0, none⟩ (.int .i64 0)).setCell ⟨P, 1, none⟩ (.int .i64 0)).setCell ⟨P, 2, none⟩ (.int .i64 room)).setCell ⟨P, 3, none⟩ (.slice (some ⟨Bo, 0, none⟩) 0 n)).setCell ⟨P, 4, none⟩ (.slice (some ⟨Bp, 0, none⟩) 0 n)).setCell ⟨P, 5, none⟩ TH).setCell ⟨P, 6, none⟩ (.int .i64 (few : Int))).setCell ⟨P, 7, none⟩ (.slice none 0 0)).setCell ⟨P, 8, none⟩ (.int .i64 0)) P T Bo Bp n room [] [] (restV TH few (.slice none 0 0) 0) := by
  refine ⟨?_, ?_, ?_, n1, n2, n3, Nat.zero_le _, Nat.zero_le _, h9⟩
  · rw [set_self (set_self (set_self (set_self (set_self (set_self (set_self (set_self (set_self hb _ _) _ _) _ _) _ _) _ _) _ _) _ _) _ _) _ _]
    simp [five, restV]
  · refine hbo.keep ?_
    iterate 9 rw [set_far _ (by exact Ne.symm n1)]
  · refine hbp.keep ?_
    iterate 9 rw [set_far _ (by exact Ne.symm n2)]

theorem only_made (w : World) (P : Nat) (v0 v1 v2 v3 v4 v5 v6 v7 v8 : Value) :
    Only (fun b => b = P) w (((((((((w.setCell ⟨P, 0, none⟩ v0).setCell ⟨P, 1, none⟩ v1).setCell ⟨P, 2, none⟩ v2).setCell ⟨P, 3, none⟩ v3).setCell ⟨P, 4, none⟩ v4).setCell ⟨P, 5, none⟩ v5).setCell ⟨P, 6, none⟩ v6).setCell ⟨P, 7, none⟩ v7).setCell ⟨P, 8, none⟩ v8) := by
  have h0 : Only (fun b => b = P) w w := Only.refl _ _
  have h1 := h0.setCell (p := ⟨P, 0, none⟩) (by rfl) v0
  have h2 := h1.setCell (p := ⟨P, 1, none⟩) (by rfl) v1
  have h3 := h2.setCell (p := ⟨P, 2, none⟩) (by rfl) v2
  have h4 := h3.setCell (p := ⟨P, 3, none⟩) (by rfl) v3
  have h5 := h4.setCell (p := ⟨P, 4, none⟩) (by rfl) v4
  have h6 := h5.setCell (p := ⟨P, 5, none⟩) (by rfl) v5
  have h7 := h6.setCell (p := ⟨P, 6, none⟩) (by rfl) v6
  have h8 := h7.setCell (p := ⟨P, 7, none⟩) (by rfl) v7
  exact h8.setCell (p := ⟨P, 8, none⟩) (by rfl) v8

theorem fold_search {room : Int} {xs : List Int} {m kf : Nat} {p : List Int × List Int} (hm : Least (allP room xs) m) (hp : (bestP room xs m).head? = some p) (hkf : (run 102 room xs ([], [])).1.length = kf) (hx : ∀ x ∈ xs, x ≤ room) :
    (plansL room (xs.drop 0) [] []).foldl visit (kf, none, 0) = (m, some p.1, (bestP room xs m).length) := by
  have hk : m ≤ kf := by
    rw [← hkf]
    exact hm.2 _ (run_leaf hx)
  rw [List.drop_zero]
  have := visit_least (L := allP room xs) hm hk
  rw [show plansL room xs [] [] = allP room xs from rfl, this]
  rw [show (allP room xs).filter (fun p => decide (p.2.length ≤ m)) = bestP room xs m from rfl, hp]
  rfl

/-- What the search hands over. -/
def SearchRet (n c m cnt : Nat) (A : Option Addr) (room : Int) (p : List Int) (w : World) (e : Ending) (w' : World) : Prop :=
  ∃ Bo Bp FV, e = .returned (.agg #[.int .i64 0, .int .i64 0, .int .i64 room, .slice (some ⟨Bo, 0, none⟩) 0 n, .slice (some ⟨Bp, 0, none⟩) 0 n, .slice A n c, .int .i64 (m : Int), FV, .int .i64 (cnt : Int)]) ∧
    (∃ g cc, FV = .slice (some ⟨g, 0, none⟩) p.length cc ∧ Own w' g (g + 1) (some ⟨g, 0, none⟩) p ∧ g < w'.heap.size ∧ w.heap.size ≤ g) ∧ Below w.heap.size w w'

set_option maxHeartbeats 4000000 in
set_option maxRecDepth 100000 in
theorem searchFewest_any (A : Option Addr) (n c : Nat) (xs : List Int) (room : Int) (lo hi : Nat) (w : World) (hn : xs.length = n) (hs : Seg w lo hi A xs) (hB : hi ≤ w.heap.size) (ha : askedB xs room = true) (m : Nat) (hm : Least (allP room xs) m) (p : List Int × List Int) (hp : (bestP room xs m).head? = some p) :
    Calls Try.prog 110 #[.slice A n c, .int .i64 room] w (SearchRet n c m (bestP room xs m).length A room p.1 w) := by
  obtain ⟨h1, h9, hx, hr⟩ := askedB_at ha
  rw [hn] at h1 h9
  have HN := Lib.hid hn
  have HX := Lib.hid hx
  have HA := Lib.hid ha
  have HM := Lib.hid hm
  have HP := Lib.hid hp
  clear hn hx ha hm hp
  go_enter Try.func110, Try.ntmps110
  go_wp2_with fail
  have hb0 : Below w.heap.size w (w.alloc (.cells #[.int .i64 0, .int .i64 0, .int .i64 0, .slice none 0 0, .slice none 0 0, .slice none 0 0, .int .i64 0, .slice none 0 0, .int .i64 0] 110)) := (Below.refl _ _).alloc (Nat.le_refl _) _
  obtain ⟨kf, hkf⟩ : ∃ kf, (run 102 room xs ([], [])).1.length = kf := ⟨_, rfl⟩
  have HKF := Lib.hid hkf
  refine (packByRule_first A n c xs room lo hi _ HN.out (hs.below hb0 hB) (Nat.le_trans hB hb0.size) HA.out).mono ?_
  unfold PkVal
  rw [hkf]
  rintro e w1 ⟨Bo0, Bp0, rfl, _, _, _, _, _, hb1⟩
  have hres := new_cells hb1
  have hsz1 := hb1.size
  simp at hsz1
  have hbel1 : Below w.heap.size w w1 := hb0.trans (hb1.mono (by simp))
  obtain ⟨cb, hcb⟩ : ∃ cb, w1.heap.size = cb := ⟨_, rfl⟩
  have HCB := Lib.hid hcb
  obtain ⟨wA, hwA⟩ : ∃ wA, w1.alloc (.cells #[.int .i64 (kf : Int), .int .i64 0, .int .i64 room, .slice (some ⟨Bo0, 0, none⟩) kf n, .slice (some ⟨Bp0, 0, none⟩) (run 102 room xs ([], [])).2.length n] 108) = wA := ⟨_, rfl⟩
  have HWA := Lib.hid hwA
  have hbA : Below w.heap.size w wA := by rw [← hwA]; exact hbel1.alloc hbel1.size _
  have hcbA : wA.heap[cb]? = some (.cells #[.int .i64 (kf : Int), .int .i64 0, .int .i64 room, .slice (some ⟨Bo0, 0, none⟩) kf n, .slice (some ⟨Bp0, 0, none⟩) (run 102 room xs ([], [])).2.length n] 108 (0, 0)) := by rw [← hwA]; exact new_at w1 _ hcb.symm
  have hresA : wA.heap[w.heap.size]? = some (.cells #[.int .i64 0, .int .i64 0, .int .i64 0, .slice none 0 0, .slice none 0 0, .slice none 0 0, .int .i64 0, .slice none 0 0, .int .i64 0] 110 (0, 0)) := by rw [← hwA]; exact (alloc_old w1 (by omega) _).trans hres
  have hcb3 := cell_of hcbA 3
  simp at hcb3
  have HRESA := Lib.hid hresA
  have HBA := Lib.hid hbA
  have hsA : w.heap.size < wA.heap.size := heap_lt hresA
  have hcA : cb < wA.heap.size := heap_lt hcbA
  clear hkf hcb hwA hres hcbA hresA hbel1 hb1 hbA hb0
  go_wp2_with fail
  rw [HWA.out, HCB.out]
  refine wp_region_held_drew (S := (fun wq => wq.cell? ⟨cb, 3, none⟩ = some (.slice (some ⟨Bo0, 0, none⟩) kf n))) (by kernel_rfl) hcb3 (fun hH0 => ?_)
  refine wpAnyH_take (i := 0) (v := ?_) (ops_at rfl) (by kernel_rfl) (by kernel_rfl) (by kernel_rfl) (fun _ _ _ h => h) (Or.inl ⟨by rfl, ?ys0⟩) (by assumption) ?ns0
  case ys0 => (intro wS hSw; (try dsimp only at hSw); go_simp; try rfl)
  try simp only [Act.put, List.setIfInBounds_toArray, List.set_cons_zero, List.set_cons_succ]
  refine wpAnyH_take (i := 1) (v := ?_) (ops_at rfl) (by kernel_rfl) (by kernel_rfl) (by kernel_rfl) (fun _ _ _ h => h) (Or.inl ⟨by rfl, ?ys1⟩) (by assumption) ?ns1
  case ys1 => (intro wS hSw; (try dsimp only at hSw); go_simp; try rfl)
  try simp only [Act.put, List.setIfInBounds_toArray, List.set_cons_zero, List.set_cons_succ]
  refine wpAnyH_take (i := 3) (v := ?_) (ops_at rfl) (by kernel_rfl) (by kernel_rfl) (by kernel_rfl) (fun _ _ _ h => h) (Or.inl ⟨by rfl, ?ys3⟩) (by assumption) ?ns3
  case ys3 => (intro wS hSw; (try dsimp only at hSw); go_simp; try rfl)
  try simp only [Act.put, List.setIfInBounds_toArray, List.set_cons_zero, List.set_cons_succ]
  refine wpAnyH_take (i := 4) (v := ?_) (ops_at rfl) (by kernel_rfl) (by kernel_rfl) (by kernel_rfl) (fun _ _ _ h => h) (Or.inl ⟨by rfl, ?ys4⟩) (by assumption) ?ns4
  case ys4 => (intro wS hSw; (try dsimp only at hSw); go_simp; try rfl)
  try simp only [Act.put, List.setIfInBounds_toArray, List.set_cons_zero, List.set_cons_succ]
  refine wpAnyH_take (i := 5) (v := ?_) (ops_at rfl) (by kernel_rfl) (by kernel_rfl) (by kernel_rfl) (fun _ _ _ h => h) (Or.inl ⟨by rfl, ?ys5⟩) (by assumption) ?ns5
  case ys5 => (intro wS hSw; (try dsimp only at hSw); go_simp; try rfl)
  try simp only [Act.put, List.setIfInBounds_toArray, List.set_cons_zero, List.set_cons_succ]
  refine wpAnyH_take (i := 6) (v := ?_) (ops_at rfl) (by kernel_rfl) (by kernel_rfl) (by kernel_rfl) (fun _ _ _ h => h) (Or.inl ⟨by rfl, ?ys6⟩) (by assumption) ?ns6
  case ys6 => (intro wS hSw; (try dsimp only at hSw); go_simp; try rfl)
  try simp only [Act.put, List.setIfInBounds_toArray, List.set_cons_zero, List.set_cons_succ]
  refine wpAnyH_ready (rs := [2, 8]) (by kernel_rfl) (by simp) ?_
  refine AllReadyH.cons (ops_at rfl) (fun K hK => ?_) (AllReadyH.cons (ops_at rfl) (fun K hK => ?_) AllReadyH.nil)
  · go_simp
    refine (newPacking_any A n c room _ h9).mono ?_
    rintro e w2 ⟨Bo, Bp, rfl, hbo0, hbp0, hne, hl1', hl2', hb2'⟩
    dsimp only
    have hb2 : Below wA.heap.size wA w2 := ⟨hb2'.os, hb2'.tape, hb2'.output, hb2'.size, hb2'.block⟩
    have hl1 : wA.heap.size ≤ Bo := hl1'
    have hl2 : wA.heap.size ≤ Bp := hl2'
    have hcb3b := (hb2.cell (cell_lt hcb3)).trans hcb3
    refine hK.out _ _ hcb3b (fun hH2 => ?_)
    clear hK K
    refine wpAnyH_take (i := 7) (v := ?_) (ops_at rfl) (by kernel_rfl) (by kernel_rfl) (by kernel_rfl) (fun _ _ _ h => h) (Or.inl ⟨by rfl, ?ya7⟩) (by assumption) ?na7
    case ya7 => (intro wS hSw; (try dsimp only at hSw); go_simp; try rfl)
    try simp only [Act.put, List.setIfInBounds_toArray, List.set_cons_zero, List.set_cons_succ]
    refine wpAnyH_ready (rs := [8]) (by kernel_rfl) (by simp) ?_
    refine AllReadyH.cons (ops_at rfl) (fun K hK => ?_) AllReadyH.nil
    go_simp
    have hblk := new_at w2 (.cells #[.int .i64 0, .int .i64 0, .int .i64 0, .slice none 0 0, .slice none 0 0, .slice none 0 0, .int .i64 0, .slice none 0 0, .int .i64 0] 110) rfl
    have hbo := hbo0.keep (w' := w2.alloc (.cells #[.int .i64 0, .int .i64 0, .int .i64 0, .slice none 0 0, .slice none 0 0, .slice none 0 0, .int .i64 0, .slice none 0 0, .int .i64 0] 110)) (alloc_old _ hbo0.lt _)
    have hbp := hbp0.keep (w' := w2.alloc (.cells #[.int .i64 0, .int .i64 0, .int .i64 0, .slice none 0 0, .slice none 0 0, .slice none 0 0, .int .i64 0, .slice none 0 0, .int .i64 0] 110)) (alloc_old _ hbp0.lt _)
    have hbW := hb2.alloc hb2.size (.cells #[.int .i64 0, .int .i64 0, .int .i64 0, .slice none 0 0, .slice none 0 0, .slice none 0 0, .int .i64 0, .slice none 0 0, .int .i64 0] 110)
    have hcb3c := (hbW.cell (cell_lt hcb3)).trans hcb3
    have hbol := hbo0.lt
    have hbpl := hbp0.lt
    refine hK.out _ _ hcb3c (fun hH8 => ?_)
    clear hK K
    have r0 := cell_of hblk 0
    have r1 := cell_of hblk 1
    have r2 := cell_of hblk 2
    have r3 := cell_of hblk 3
    have r4 := cell_of hblk 4
    have r5 := cell_of hblk 5
    have r6 := cell_of hblk 6
    have r7 := cell_of hblk 7
    have r8 := cell_of hblk 8
    simp at r0 r1 r2 r3 r4 r5 r6 r7 r8
    have q0 := frozen_of hblk 0
    have q1 := frozen_of hblk 1
    have q2 := frozen_of hblk 2
    have q3 := frozen_of hblk 3
    have q4 := frozen_of hblk 4
    have q5 := frozen_of hblk 5
    have q6 := frozen_of hblk 6
    have q7 := frozen_of hblk 7
    have q8 := frozen_of hblk 8
    refine wpAnyH_ready (rs := [9]) (by kernel_rfl) (by simp) ?_
    refine AllReadyH.cons (ops_at rfl) (fun K hK => ?_) AllReadyH.nil
    go_simp
    have hblkF := new_at w2 (.cells #[.int .i64 0, .int .i64 0, .int .i64 room, .slice (some ⟨Bo, 0, none⟩) 0 n, .slice (some ⟨Bp, 0, none⟩) 0 n, .slice A n c, .int .i64 (kf : Int), .slice none 0 0, .int .i64 0] 110) rfl
    have hboF := hbo0.keep (w' := w2.alloc (.cells #[.int .i64 0, .int .i64 0, .int .i64 room, .slice (some ⟨Bo, 0, none⟩) 0 n, .slice (some ⟨Bp, 0, none⟩) 0 n, .slice A n c, .int .i64 (kf : Int), .slice none 0 0, .int .i64 0] 110)) (alloc_old _ hbo0.lt _)
    have hbpF := hbp0.keep (w' := w2.alloc (.cells #[.int .i64 0, .int .i64 0, .int .i64 room, .slice (some ⟨Bo, 0, none⟩) 0 n, .slice (some ⟨Bp, 0, none⟩) 0 n, .slice A n c, .int .i64 (kf : Int), .slice none 0 0, .int .i64 0] 110)) (alloc_old _ hbp0.lt _)
    have hbF := hb2.alloc hb2.size (.cells #[.int .i64 0, .int .i64 0, .int .i64 room, .slice (some ⟨Bo, 0, none⟩) 0 n, .slice (some ⟨Bp, 0, none⟩) 0 n, .slice A n c, .int .i64 (kf : Int), .slice none 0 0, .int .i64 0] 110)
    have hcb3d := (hbF.cell (cell_lt hcb3)).trans hcb3
    refine hK.out _ _ hcb3d (fun hH9 => ?_)
    clear hK K r0 r1 r2 r3 r4 r5 r6 r7 r8 q0 q1 q2 q3 q4 q5 q6 q7 q8 hblk hbo hbp hbW hcb3b hcb3c hcb3d hH2 hH8 hH9
    obtain ⟨PP, hPP⟩ : ∃ PP, w2.heap.size = PP := ⟨_, rfl⟩
    obtain ⟨WX, hWX⟩ : ∃ WX, w2.alloc (.cells #[.int .i64 0, .int .i64 0, .int .i64 room, .slice (some ⟨Bo, 0, none⟩) 0 n, .slice (some ⟨Bp, 0, none⟩) 0 n, .slice A n c, .int .i64 (kf : Int), .slice none 0 0, .int .i64 0] 110) = WX := ⟨_, rfl⟩
    rw [hWX] at hblkF hboF hbpF hbF ⊢
    rw [hPP] at hblkF ⊢
    have hzz : WX.heap.size = PP + 1 := by rw [← hWX, ← hPP]; simp
    have hzb := hb2.size
    have HPKX := Lib.hid (show Pk WX PP 110 Bo Bp n room [] [] (restV (.slice A n c) kf (.slice none 0 0) 0) from ⟨hblkF.trans (by simp [five, restV]), hboF, hbpF, by omega, by omega, hne, Nat.zero_le _, Nat.zero_le _, h9⟩)
    have hbX := HBA.out.trans (hbF.mono (by omega))
    have HRX := Lib.hid ((hbF.block w.heap.size (by omega)).trans HRESA.out)
    clear hblkF hboF hbpF
    refine wpAnyH_done (by kernel_rfl) ?_ _
    have hPge : w.heap.size + 1 ≤ PP := by omega
    have hcount : 0 + (plansL room (xs.drop ([] : List Int).length) [] []).length ≤ 1000000000 := by
      have h1 := plansL_count (room := room) (r := xs.drop ([] : List Int).length) (pl := []) (ls := []) (by simp [HN.out]; omega)
      have h2 : 10 ^ (xs.drop ([] : List Int).length).length ≤ 10 ^ 9 := Nat.pow_le_pow_right (by omega) (by simp [HN.out]; omega)
      omega
    have hfold := fold_search HM.out HP.out HKF.out (fun x hx => (HX.out x hx).2.2)
    have HFO := Lib.hid hfold
    have hsX := hs.below hbX hB
    have hzX := hbX.size
    go_wp2_with fail
    refine (walk_any A n c xs room lo hi PP 110 Bo Bp (w.heap.size + 1) HN.out h1 h9 HX.out hr (by omega) n [] [] kf 0 none (.slice none 0 0) _ (by simp) (Nat.le_refl _) (fun y hy => by cases hy) (HPKX.out.keep (fun _ _ => rfl)) (.inl ⟨rfl, rfl⟩) (show w.heap.size + 1 ≤ WX.heap.size by omega) (hsX.keep (fun _ _ _ => rfl)) (show hi ≤ WX.heap.size by omega) hcount).mono ?_
    rw [show ([] : List Int).length = 0 from rfl, HFO.out]
    rintro e w4 ⟨rfl, FV, hpk4, hka4, ho4'⟩
    have ho4 : Only (Three PP Bo Bp) WX w4 := ⟨ho4'.os, ho4'.tape, ho4'.output, ho4'.size, ho4'.block⟩
    obtain ⟨g, cc, rfl, hg1, hg2, hg3⟩ : ∃ g cc, FV = .slice (some ⟨g, 0, none⟩) p.1.length cc ∧ Own w4 g (g + 1) (some ⟨g, 0, none⟩) p.1 ∧ g < w4.heap.size ∧ w.heap.size + 1 ≤ g := by
      rcases hka4 with ⟨h, _⟩ | ⟨q, g, cc, h1, h2, h3, h4, h5, _⟩
      · cases h
      · injection h1 with h1
        subst h1
        exact ⟨g, cc, h2, h3, h4, h5⟩
    have hres4 := (ho4.block w.heap.size (by omega) (by rintro (h | h | h) <;> omega)).trans HRX.out
    have c0 := hpk4.cell 0
    have c1 := hpk4.cell 1
    have c2 := hpk4.cell 2
    have c3 := hpk4.cell 3
    have c4 := hpk4.cell 4
    have c5 := hpk4.cell 5
    have c6 := hpk4.cell 6
    have c7 := hpk4.cell 7
    have c8 := hpk4.cell 8
    simp [five, restV] at c0 c1 c2 c3 c4 c5 c6 c7 c8
    have r0 := cell_of hres4 0
    have r1 := cell_of hres4 1
    have r2 := cell_of hres4 2
    have r3 := cell_of hres4 3
    have r4 := cell_of hres4 4
    have r5 := cell_of hres4 5
    have r6 := cell_of hres4 6
    have r7 := cell_of hres4 7
    have r8 := cell_of hres4 8
    simp at r0 r1 r2 r3 r4 r5 r6 r7 r8
    have q0 := frozen_of hres4 0
    have q1 := frozen_of hres4 1
    have q2 := frozen_of hres4 2
    have q3 := frozen_of hres4 3
    have q4 := frozen_of hres4 4
    have q5 := frozen_of hres4 5
    have q6 := frozen_of hres4 6
    have q7 := frozen_of hres4 7
    have q8 := frozen_of hres4 8
    have HG1 := Lib.hid hg1
    have hbF := Lib.hid (hbX.trans (ho4.below (by omega) (fun b hb => by rcases hb with rfl | rfl | rfl <;> omega)))
    have hw4 := ho4.size
    clear hpk4 hka4 ho4 ho4' hg1 hcount hfold
    have hgne : g ≠ w.heap.size := by omega
    go_wp2_with fail
    refine bodyPost_ret (v := .agg #[.int .i64 0, .int .i64 0, .int .i64 room, .slice (some ⟨Bo, 0, none⟩) 0 n, .slice (some ⟨Bp, 0, none⟩) 0 n, .slice A n c, .int .i64 (m : Int), .slice (some ⟨g, 0, none⟩) p.1.length cc, .int .i64 ((bestP room xs m).length : Int)]) (by simp [results, Try.results110, go_sem, r0, r1, r2, r3, r4, r5, r6, r7, r8]) rfl ?_
    refine ⟨Bo, Bp, _, rfl, ⟨g, cc, rfl, HG1.out.keep (fun b hb1 hb2 => ?_), ?_, by omega⟩, ?_⟩
    · obtain rfl : b = g := by omega
      iterate 9 rw [set_far _ (by exact hgne)]
    · simp only [World.size_setCell]
      exact hg2
    · exact ((((((((hbF.out.setCell (p := ⟨w.heap.size, 0, none⟩) (Nat.le_refl _) _).setCell (p := ⟨w.heap.size, 1, none⟩) (Nat.le_refl _) _).setCell (p := ⟨w.heap.size, 2, none⟩) (Nat.le_refl _) _).setCell (p := ⟨w.heap.size, 3, none⟩) (Nat.le_refl _) _).setCell (p := ⟨w.heap.size, 4, none⟩) (Nat.le_refl _) _).setCell (p := ⟨w.heap.size, 5, none⟩) (Nat.le_refl _) _).setCell (p := ⟨w.heap.size, 6, none⟩) (Nat.le_refl _) _).setCell (p := ⟨w.heap.size, 7, none⟩) (Nat.le_refl _) _).setCell (p := ⟨w.heap.size, 8, none⟩) (Nat.le_refl _) _
  · go_simp
    have hblk0 := new_at wA (.cells #[.int .i64 0, .int .i64 0, .int .i64 0, .slice none 0 0, .slice none 0 0, .slice none 0 0, .int .i64 0, .slice none 0 0, .int .i64 0] 110) rfl
    obtain ⟨wB, hwB⟩ : ∃ wB, wA.alloc (.cells #[.int .i64 0, .int .i64 0, .int .i64 0, .slice none 0 0, .slice none 0 0, .slice none 0 0, .int .i64 0, .slice none 0 0, .int .i64 0] 110) = wB := ⟨_, rfl⟩
    obtain ⟨PP, hPP⟩ : ∃ PP, wA.heap.size = PP := ⟨_, rfl⟩
    have hbB : Below wA.heap.size wA wB := by rw [← hwB]; exact (Below.refl _ _).alloc (Nat.le_refl _) _
    have hzB : wB.heap.size = PP + 1 := by rw [← hwB, ← hPP]; simp
    have hcb3b := (hbB.cell (cell_lt hcb3)).trans hcb3
    rw [hwB] at hblk0 ⊢
    rw [hPP] at hblk0 ⊢
    refine hK.out _ _ hcb3b (fun hH8 => ?_)
    clear hK K
    refine wpAnyH_ready (rs := [2]) (by kernel_rfl) (by simp) ?_
    refine AllReadyH.cons (ops_at rfl) (fun K hK => ?_) AllReadyH.nil
    go_simp
    refine (newPacking_any A n c room _ h9).mono ?_
    rintro e w2 ⟨Bo, Bp, rfl, hbo0, hbp0, hne, hl1', hl2', hb2'⟩
    dsimp only
    have hb2 : Below wB.heap.size wB w2 := ⟨hb2'.os, hb2'.tape, hb2'.output, hb2'.size, hb2'.block⟩
    have hl1 : wB.heap.size ≤ Bo := hl1'
    have hl2 : wB.heap.size ≤ Bp := hl2'
    have hcb3c := (hb2.cell (cell_lt hcb3b)).trans hcb3b
    have hblk := (hb2.block PP (by omega)).trans hblk0
    refine hK.out _ _ hcb3c (fun hH2 => ?_)
    clear hK K
    refine wpAnyH_take (i := 7) (v := ?_) (ops_at rfl) (by kernel_rfl) (by kernel_rfl) (by kernel_rfl) (fun _ _ _ h => h) (Or.inl ⟨by rfl, ?yb7⟩) (by assumption) ?nb7
    case yb7 => (intro wS hSw; (try dsimp only at hSw); go_simp; try rfl)
    try simp only [Act.put, List.setIfInBounds_toArray, List.set_cons_zero, List.set_cons_succ]
    have r0 := cell_of hblk 0
    have r1 := cell_of hblk 1
    have r2 := cell_of hblk 2
    have r3 := cell_of hblk 3
    have r4 := cell_of hblk 4
    have r5 := cell_of hblk 5
    have r6 := cell_of hblk 6
    have r7 := cell_of hblk 7
    have r8 := cell_of hblk 8
    simp at r0 r1 r2 r3 r4 r5 r6 r7 r8
    have q0 := frozen_of hblk 0
    have q1 := frozen_of hblk 1
    have q2 := frozen_of hblk 2
    have q3 := frozen_of hblk 3
    have q4 := frozen_of hblk 4
    have q5 := frozen_of hblk 5
    have q6 := frozen_of hblk 6
    have q7 := frozen_of hblk 7
    have q8 := frozen_of hblk 8
    have n1 : PP ≠ Bo := by omega
    have n2 : PP ≠ Bp := by omega
    have hpk := pk_made (TH := .slice A n c) (few := kf) (room := room) (n := n) hblk hbo0 hbp0 n1 n2 hne h9
    have hcbne : ¬ cb = PP := by omega
    refine wpAnyH_ready (rs := [9]) (by kernel_rfl) (by simp) ?_
    refine AllReadyH.cons (ops_at rfl) (fun K hK => ?_) AllReadyH.nil
    go_simp
    have hoF : Only (fun b => b = PP) w2 (((((((((w2.setCell ⟨PP, 0, none⟩ (.int .i64 0)).setCell ⟨PP, 1, none⟩ (.int .i64 0)).setCell ⟨PP, 2, none⟩ (.int .i64 room)).setCell ⟨PP, 3, none⟩ (.slice (some ⟨Bo, 0, none⟩) 0 n)).setCell ⟨PP, 4, none⟩ (.slice (some ⟨Bp, 0, none⟩) 0 n)).setCell ⟨PP, 5, none⟩ (.slice A n c)).setCell ⟨PP, 6, none⟩ (.int .i64 (kf : Int))).setCell ⟨PP, 7, none⟩ (.slice none 0 0)).setCell ⟨PP, 8, none⟩ (.int .i64 0)) := only_made w2 PP _ _ _ _ _ _ _ _ _
    obtain ⟨WX, hWX⟩ : ∃ WX, (((((((((w2.setCell ⟨PP, 0, none⟩ (.int .i64 0)).setCell ⟨PP, 1, none⟩ (.int .i64 0)).setCell ⟨PP, 2, none⟩ (.int .i64 room)).setCell ⟨PP, 3, none⟩ (.slice (some ⟨Bo, 0, none⟩) 0 n)).setCell ⟨PP, 4, none⟩ (.slice (some ⟨Bp, 0, none⟩) 0 n)).setCell ⟨PP, 5, none⟩ (.slice A n c)).setCell ⟨PP, 6, none⟩ (.int .i64 (kf : Int))).setCell ⟨PP, 7, none⟩ (.slice none 0 0)).setCell ⟨PP, 8, none⟩ (.int .i64 0)) = WX := ⟨_, rfl⟩
    rw [hWX] at hpk hoF ⊢
    have hcb3d : WX.cell? ⟨cb, 3, none⟩ = some (.slice (some ⟨Bo0, 0, none⟩) kf n) := (World.cell?_of_block (w := w2) (w' := WX) (a := ⟨cb, 3, none⟩) (hoF.block cb (cell_lt hcb3c) hcbne)).trans hcb3c
    refine hK.out _ _ hcb3d (fun hH9 => ?_)
    clear hK K r0 r1 r2 r3 r4 r5 r6 r7 r8 q0 q1 q2 q3 q4 q5 q6 q7 q8
    have HPKX := Lib.hid hpk
    have hzX2 := hoF.size
    have hzb := hb2.size
    have hbX := (HBA.out.trans ((hbB.trans (hb2.mono (by omega))).mono (by omega))).trans (hoF.below (B := w.heap.size) (by omega) (fun b hb => by subst hb; omega))
    have HRX := Lib.hid ((hoF.block w.heap.size (by omega) (by omega)).trans ((hb2.block w.heap.size (by omega)).trans ((hbB.block w.heap.size (by omega)).trans HRESA.out)))
    clear hpk hoF hblk hblk0 hcb3b hcb3c hcb3d hH2 hH8 hH9
    refine wpAnyH_done (by kernel_rfl) ?_ _
    have hPge : w.heap.size + 1 ≤ PP := by omega
    have hcount : 0 + (plansL room (xs.drop ([] : List Int).length) [] []).length ≤ 1000000000 := by
      have h1 := plansL_count (room := room) (r := xs.drop ([] : List Int).length) (pl := []) (ls := []) (by simp [HN.out]; omega)
      have h2 : 10 ^ (xs.drop ([] : List Int).length).length ≤ 10 ^ 9 := Nat.pow_le_pow_right (by omega) (by simp [HN.out]; omega)
      omega
    have hfold := fold_search HM.out HP.out HKF.out (fun x hx => (HX.out x hx).2.2)
    have HFO := Lib.hid hfold
    have hsX := hs.below hbX hB
    have hzX := hbX.size
    go_wp2_with fail
    refine (walk_any A n c xs room lo hi PP 110 Bo Bp (w.heap.size + 1) HN.out h1 h9 HX.out hr (by omega) n [] [] kf 0 none (.slice none 0 0) _ (by simp) (Nat.le_refl _) (fun y hy => by cases hy) (HPKX.out.keep (fun _ _ => rfl)) (.inl ⟨rfl, rfl⟩) (show w.heap.size + 1 ≤ WX.heap.size by omega) (hsX.keep (fun _ _ _ => rfl)) (show hi ≤ WX.heap.size by omega) hcount).mono ?_
    rw [show ([] : List Int).length = 0 from rfl, HFO.out]
    rintro e w4 ⟨rfl, FV, hpk4, hka4, ho4'⟩
    have ho4 : Only (Three PP Bo Bp) WX w4 := ⟨ho4'.os, ho4'.tape, ho4'.output, ho4'.size, ho4'.block⟩
    obtain ⟨g, cc, rfl, hg1, hg2, hg3⟩ : ∃ g cc, FV = .slice (some ⟨g, 0, none⟩) p.1.length cc ∧ Own w4 g (g + 1) (some ⟨g, 0, none⟩) p.1 ∧ g < w4.heap.size ∧ w.heap.size + 1 ≤ g := by
      rcases hka4 with ⟨h, _⟩ | ⟨q, g, cc, h1, h2, h3, h4, h5, _⟩
      · cases h
      · injection h1 with h1
        subst h1
        exact ⟨g, cc, h2, h3, h4, h5⟩
    have hres4 := (ho4.block w.heap.size (by omega) (by rintro (h | h | h) <;> omega)).trans HRX.out
    have c0 := hpk4.cell 0
    have c1 := hpk4.cell 1
    have c2 := hpk4.cell 2
    have c3 := hpk4.cell 3
    have c4 := hpk4.cell 4
    have c5 := hpk4.cell 5
    have c6 := hpk4.cell 6
    have c7 := hpk4.cell 7
    have c8 := hpk4.cell 8
    simp [five, restV] at c0 c1 c2 c3 c4 c5 c6 c7 c8
    have r0 := cell_of hres4 0
    have r1 := cell_of hres4 1
    have r2 := cell_of hres4 2
    have r3 := cell_of hres4 3
    have r4 := cell_of hres4 4
    have r5 := cell_of hres4 5
    have r6 := cell_of hres4 6
    have r7 := cell_of hres4 7
    have r8 := cell_of hres4 8
    simp at r0 r1 r2 r3 r4 r5 r6 r7 r8
    have q0 := frozen_of hres4 0
    have q1 := frozen_of hres4 1
    have q2 := frozen_of hres4 2
    have q3 := frozen_of hres4 3
    have q4 := frozen_of hres4 4
    have q5 := frozen_of hres4 5
    have q6 := frozen_of hres4 6
    have q7 := frozen_of hres4 7
    have q8 := frozen_of hres4 8
    have HG1 := Lib.hid hg1
    have hbF := Lib.hid (hbX.trans (ho4.below (by omega) (fun b hb => by rcases hb with rfl | rfl | rfl <;> omega)))
    have hw4 := ho4.size
    clear hpk4 hka4 ho4 ho4' hg1 hcount hfold
    have hgne : g ≠ w.heap.size := by omega
    go_wp2_with fail
    refine bodyPost_ret (v := .agg #[.int .i64 0, .int .i64 0, .int .i64 room, .slice (some ⟨Bo, 0, none⟩) 0 n, .slice (some ⟨Bp, 0, none⟩) 0 n, .slice A n c, .int .i64 (m : Int), .slice (some ⟨g, 0, none⟩) p.1.length cc, .int .i64 ((bestP room xs m).length : Int)]) (by simp [results, Try.results110, go_sem, r0, r1, r2, r3, r4, r5, r6, r7, r8]) rfl ?_
    refine ⟨Bo, Bp, _, rfl, ⟨g, cc, rfl, HG1.out.keep (fun b hb1 hb2 => ?_), ?_, by omega⟩, ?_⟩
    · obtain rfl : b = g := by omega
      iterate 9 rw [set_far _ (by exact hgne)]
    · simp only [World.size_setCell]
      exact hg2
    · exact ((((((((hbF.out.setCell (p := ⟨w.heap.size, 0, none⟩) (Nat.le_refl _) _).setCell (p := ⟨w.heap.size, 1, none⟩) (Nat.le_refl _) _).setCell (p := ⟨w.heap.size, 2, none⟩) (Nat.le_refl _) _).setCell (p := ⟨w.heap.size, 3, none⟩) (Nat.le_refl _) _).setCell (p := ⟨w.heap.size, 4, none⟩) (Nat.le_refl _) _).setCell (p := ⟨w.heap.size, 5, none⟩) (Nat.le_refl _) _).setCell (p := ⟨w.heap.size, 6, none⟩) (Nat.le_refl _) _).setCell (p := ⟨w.heap.size, 7, none⟩) (Nat.le_refl _) _).setCell (p := ⟨w.heap.size, 8, none⟩) (Nat.le_refl _) _
end Go.Proofs.Ytoheoojpmndhoaa
