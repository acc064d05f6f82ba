/-
  The rules by which things go into boxes, as functions on lists: which box is picked, what a box holds then; no program is spoken of here.
  Conditions: none.
-/
import Derived.Test.YtoheoojpmndhoaaGood
namespace Go.Proofs.Ytoheoojpmndhoaa
set_option linter.unusedVariables false

theorem goodB_at {xs : List Int} (h : goodB xs = true) : 1 ≤ xs.length ∧ xs.length ≤ 9 ∧ ∀ x ∈ xs, 1 ≤ x ∧ x ≤ 100 := by
  obtain ⟨h1, h2⟩ := goodB_true.1 h
  rw [inB_true] at h1
  unfold allB at h2
  rw [List.all_eq_true] at h2
  exact ⟨by omega, by omega, fun x hx => inB_true.1 (h2 x hx)⟩

/-- There are things, and a room that holds the greatest one. -/
def askedB (xs : List Int) (room : Int) : Bool := goodB xs && inB room (mostOf xs) 1000

theorem askedB_true {xs : List Int} {room : Int} : askedB xs room = true ↔ goodB xs = true ∧ mostOf xs ≤ room ∧ room ≤ 1000 := by
  simp [askedB, inB_true]

theorem askedB_at {xs : List Int} {room : Int} (h : askedB xs room = true) :
    1 ≤ xs.length ∧ xs.length ≤ 9 ∧ (∀ x ∈ xs, 1 ≤ x ∧ x ≤ 100 ∧ x ≤ room) ∧ 1 ≤ room ∧ room ≤ 1000 := by
  obtain ⟨h1, h2, h3⟩ := askedB_true.1 h
  obtain ⟨a, b, c⟩ := goodB_at h1
  have hx : ∀ x ∈ xs, 1 ≤ x ∧ x ≤ 100 ∧ x ≤ room := fun x hx => ⟨(c x hx).1, (c x hx).2, Int.le_trans (le_foldl_max hx) h2⟩
  refine ⟨a, b, hx, ?_, h3⟩
  have hm : xs[0]'(by omega) ∈ xs := List.getElem_mem _
  have := hx _ hm
  omega

/-- The box that is picked among the first 'k' ones (-1: none has room): 'n' (110) the last one alone, 'b' (98) the greatest load, 'w' (119) the least, else the first one. -/
def fold (rule room size : Int) (ls : List Int) : Nat → Int
  | 0 => -1
  | k + 1 =>
    if room < ls.getD k 0 + size ∨ (rule = 110 ∧ (k : Int) < (ls.length : Int) - 1) then fold rule room size ls k
    else if fold rule room size ls k < 0 ∨ (rule = 98 ∧ ls.getD (fold rule room size ls k).toNat 0 < ls.getD k 0) ∨ (rule = 119 ∧ ls.getD k 0 < ls.getD (fold rule room size ls k).toNat 0) then (k : Int)
    else fold rule room size ls k

theorem fold_bd (rule room size : Int) (ls : List Int) (k : Nat) : -1 ≤ fold rule room size ls k ∧ fold rule room size ls k < k := by
  induction k with
  | zero => simp [fold]
  | succ k ih =>
    unfold fold
    split
    · omega
    · split <;> omega

theorem fold_skip {rule room size : Int} {ls : List Int} {k : Nat} {l : Int} (hl : ls[k]? = some l) (h : room < l + size ∨ (rule = 110 ∧ (k : Int) < (ls.length : Int) - 1)) :
    fold rule room size ls (k + 1) = fold rule room size ls k := by
  have e : ls.getD k 0 = l := by simp [List.getD, hl]
  rw [fold, e, if_pos h]

theorem fold_keep {rule room size : Int} {ls : List Int} {k : Nat} {l : Int} (hl : ls[k]? = some l) {m : Nat} {lm : Int} (hm : fold rule room size ls k = (m : Int)) (hlm : ls[m]? = some lm)
    (h : ¬ ((rule = 98 ∧ lm < l) ∨ (rule = 119 ∧ l < lm))) : fold rule room size ls (k + 1) = fold rule room size ls k := by
  have e : ls.getD k 0 = l := by simp [List.getD, hl]
  have e2 : ls.getD m 0 = lm := by simp [List.getD, hlm]
  rw [fold, e, hm, Int.toNat_natCast, e2]
  split
  · rfl
  · rw [if_neg]
    rintro (h1 | h1)
    · omega
    · exact h h1

theorem fold_set {rule room size : Int} {ls : List Int} {k : Nat} {l : Int} (hl : ls[k]? = some l) (h : ¬ (room < l + size ∨ (rule = 110 ∧ (k : Int) < (ls.length : Int) - 1))) 
    (h2 : fold rule room size ls k < 0 ∨ ∃ (m : Nat) (lm : Int), fold rule room size ls k = (m : Int) ∧ ls[m]? = some lm ∧ ((rule = 98 ∧ lm < l) ∨ (rule = 119 ∧ l < lm))) : fold rule room size ls (k + 1) = (k : Int) := by
  have e : ls.getD k 0 = l := by simp [List.getD, hl]
  rw [fold, e, if_neg h]
  rcases h2 with h2 | ⟨m, lm, hm, hlm, h2⟩
  · rw [if_pos (Or.inl h2)]
  · have e2 : ls.getD m 0 = lm := by simp [List.getD, hlm]
    rw [hm, Int.toNat_natCast, e2, if_pos (Or.inr h2)]

def pick (rule room size : Int) (ls : List Int) : Nat := if fold rule room size ls ls.length < 0 then ls.length else (fold rule room size ls ls.length).toNat

theorem pick_le (rule room size : Int) (ls : List Int) : pick rule room size ls ≤ ls.length := by
  unfold pick
  have := fold_bd rule room size ls ls.length
  split <;> omega

theorem pick_neg {rule room size : Int} {ls : List Int} (h : fold rule room size ls ls.length < 0) : pick rule room size ls = ls.length := by unfold pick; rw [if_pos h]
theorem pick_pos {rule room size : Int} {ls : List Int} {m : Nat} (h : fold rule room size ls ls.length = (m : Int)) : pick rule room size ls = m := by
  unfold pick; rw [if_neg (by omega), h]; rfl

/-- The last box alone. -/
theorem fold_last {room size : Int} {ls : List Int} {k : Nat} (hk : k + 1 ≤ ls.length) : fold 110 room size ls k = -1 := by
  induction k with
  | zero => rfl
  | succ k ih => rw [fold, if_pos (Or.inr ⟨rfl, by omega⟩), ih (by omega)]

theorem pick_last {room size l : Int} {ls : List Int} {k : Nat} (hk : k + 1 = ls.length) (hl : ls[k]? = some l) : pick 110 room size ls = if l + size ≤ room then k else ls.length := by
  have e : ls.getD k 0 = l := by simp [List.getD, hl]
  have h0 := fold_last (room := room) (size := size) (ls := ls) (k := k) (by omega)
  have h1 : fold 110 room size ls ls.length = if l + size ≤ room then (k : Int) else -1 := by
    rw [← hk, fold, e, h0]
    by_cases h : l + size ≤ room
    · rw [if_neg (by omega), if_pos (by omega), if_pos h]
    · rw [if_pos (by omega), if_neg h]
  by_cases h : l + size ≤ room
  · rw [if_pos h] at h1 ⊢
    exact pick_pos h1
  · rw [if_neg h] at h1 ⊢
    exact pick_neg (by omega)

theorem pick_none (rule room size : Int) : pick rule room size [] = 0 := rfl

/-- The first box that has room. -/
theorem fold_no {rule room size : Int} {ls : List Int} {k : Nat} (h : ∀ (j : Nat) l, j < k → ls[j]? = some l → room < l + size) (hk : k ≤ ls.length) : fold rule room size ls k = -1 := by
  induction k with
  | zero => rfl
  | succ k ih =>
    have hl : ls[k]? = some ls[k] := List.getElem?_eq_getElem (by omega)
    rw [fold_skip hl (Or.inl (h k _ (by omega) hl)), ih (fun j l hj hl' => h j l (by omega) hl') (by omega)]

theorem fold_stays {room size : Int} {ls : List Int} {k q : Nat} (h : fold 102 room size ls k = (q : Int)) (d : Nat) : fold 102 room size ls (k + d) = (q : Int) := by
  induction d with
  | zero => exact h
  | succ d ih =>
    rw [Nat.add_succ, fold, ih]
    split
    · rfl
    · rw [if_neg]
      rintro (h1 | ⟨h1, _⟩ | ⟨h1, _⟩) <;> omega

theorem pick_first {room size l : Int} {ls : List Int} {k : Nat} (h : ∀ (j : Nat) l, j < k → ls[j]? = some l → room < l + size) (hl : ls[k]? = some l) (hf : l + size ≤ room) : pick 102 room size ls = k := by
  have hk := (List.getElem?_eq_some_iff.1 hl).1
  have h0 := fold_no (rule := 102) h (by omega)
  have h1 : fold 102 room size ls (k + 1) = (k : Int) := fold_set hl (by rintro (h | ⟨h, _⟩) <;> omega) (Or.inl (by omega))
  have h2 := fold_stays h1 (ls.length - (k + 1))
  rw [show k + 1 + (ls.length - (k + 1)) = ls.length by omega] at h2
  exact pick_pos h2

theorem pick_first_none {room size : Int} {ls : List Int} (h : ∀ (j : Nat) l, j < ls.length → ls[j]? = some l → room < l + size) : pick 102 room size ls = ls.length :=
  pick_neg (by rw [fold_no h (Nat.le_refl _)]; omega)

/-- The box picked among the first 'k', the next one if none has room. -/
def bestAt (rule room size : Int) (ls : List Int) (k : Nat) : Nat := if fold rule room size ls k < 0 then ls.length else (fold rule room size ls k).toNat

theorem bestAt_zero (rule room size : Int) (ls : List Int) : bestAt rule room size ls 0 = ls.length := rfl
theorem bestAt_all (rule room size : Int) (ls : List Int) : bestAt rule room size ls ls.length = pick rule room size ls := rfl

theorem bestAt_le (rule room size : Int) (ls : List Int) (k : Nat) (hk : k ≤ ls.length) : bestAt rule room size ls k ≤ ls.length := by
  have := fold_bd rule room size ls k
  unfold bestAt
  split <;> omega

theorem bestAt_old {rule room size : Int} {ls : List Int} {k : Nat} (hk : k ≤ ls.length) (h : bestAt rule room size ls k ≠ ls.length) : fold rule room size ls k = (bestAt rule room size ls k : Int) := by
  have := fold_bd rule room size ls k
  unfold bestAt at h ⊢
  split at h
  · exact absurd rfl h
  · next hn => rw [if_neg hn]; omega

theorem bestAt_new {rule room size : Int} {ls : List Int} {k : Nat} (hk : k ≤ ls.length) (h : bestAt rule room size ls k = ls.length) : fold rule room size ls k < 0 := by
  have := fold_bd rule room size ls k
  unfold bestAt at h
  split at h
  · assumption
  · omega

theorem bestAt_skip {rule room size l : Int} {ls : List Int} {k : Nat} (hl : ls[k]? = some l) (h : room < l + size) : bestAt rule room size ls (k + 1) = bestAt rule room size ls k := by
  unfold bestAt
  rw [fold_skip hl (Or.inl h)]

theorem bestAt_set {rule room size l : Int} {ls : List Int} {k : Nat} (hl : ls[k]? = some l) (hr : rule ≠ 110) (h : l + size ≤ room)
    (h2 : bestAt rule room size ls k = ls.length ∨ (rule = 98 ∧ ls.getD (bestAt rule room size ls k) 0 < l) ∨ (rule = 119 ∧ l < ls.getD (bestAt rule room size ls k) 0)) : bestAt rule room size ls (k + 1) = k := by
  have hk := (List.getElem?_eq_some_iff.1 hl).1
  have hf : fold rule room size ls (k + 1) = (k : Int) := by
    refine fold_set hl (by rintro (h | ⟨h, _⟩) <;> omega) ?_
    by_cases hb : bestAt rule room size ls k = ls.length
    · exact Or.inl (bestAt_new (by omega) hb)
    · rcases h2 with h2 | h2
      · exact absurd h2 hb
      · have hle := bestAt_le rule room size ls k (by omega)
        have hlt : bestAt rule room size ls k < ls.length := by omega
        refine Or.inr ⟨_, _, bestAt_old (by omega) hb, List.getElem?_eq_getElem hlt, ?_⟩
        have e : ls.getD (bestAt rule room size ls k) 0 = ls[bestAt rule room size ls k] := by simp [List.getD, hlt]
        rw [e] at h2
        exact h2
  unfold bestAt
  rw [hf, if_neg (by omega)]
  rfl

theorem bestAt_keep {rule room size l : Int} {ls : List Int} {k : Nat} (hl : ls[k]? = some l) (hb : bestAt rule room size ls k ≠ ls.length)
    (h : ¬ ((rule = 98 ∧ ls.getD (bestAt rule room size ls k) 0 < l) ∨ (rule = 119 ∧ l < ls.getD (bestAt rule room size ls k) 0))) : bestAt rule room size ls (k + 1) = bestAt rule room size ls k := by
  have hk := (List.getElem?_eq_some_iff.1 hl).1
  have hle := bestAt_le rule room size ls k (by omega)
  have hlt : bestAt rule room size ls k < ls.length := by omega
  have e : ls.getD (bestAt rule room size ls k) 0 = ls[bestAt rule room size ls k] := by simp [List.getD, hlt]
  rw [e] at h
  have hf := fold_keep hl (bestAt_old (by omega) hb) (List.getElem?_eq_getElem hlt) h
  show (if fold rule room size ls (k + 1) < 0 then _ else _) = _
  rw [hf]
  rfl

/-- A thing goes into box 'b', which may be the next one. -/
def addTo (ls : List Int) (b : Nat) (size : Int) : List Int := if b = ls.length then ls ++ [size] else ls.set b (ls.getD b 0 + size)

theorem addTo_length (ls : List Int) (b : Nat) (size : Int) : (addTo ls b size).length = if b = ls.length then ls.length + 1 else ls.length := by
  unfold addTo
  split <;> simp

/-- What a box that was picked holds is at most the room. -/
theorem fold_fits (rule room size : Int) (ls : List Int) (k : Nat) (h : 0 ≤ fold rule room size ls k) : ls.getD (fold rule room size ls k).toNat 0 + size ≤ room := by
  induction k with
  | zero => simp [fold] at h
  | succ k ih =>
    unfold fold at h ⊢
    split at h
    · next h1 => rw [if_pos h1]; exact ih h
    · next h1 =>
      rw [if_neg h1]
      split at h
      · next h2 =>
        rw [if_pos h2]
        rw [Int.toNat_natCast]
        omega
      · next h2 => rw [if_neg h2]; exact ih h

def Loads (room : Int) (ls : List Int) : Prop := ∀ x ∈ ls, 1 ≤ x ∧ x ≤ room

theorem Loads.add {room size : Int} {ls : List Int} {b : Nat} (h : Loads room ls) (h1 : 1 ≤ size) (h2 : size ≤ room) (hb : b < ls.length → ls.getD b 0 + size ≤ room) : Loads room (addTo ls b size) := by
  intro x hx
  unfold addTo at hx
  split at hx
  · rcases List.mem_append.1 hx with hx | hx
    · exact h x hx
    · simp at hx; omega
  · next hne =>
    rcases List.mem_or_eq_of_mem_set hx with hx | hx
    · exact h x hx
    · rcases Nat.lt_or_ge b ls.length with hlt | hge
      · have := hb hlt
        have hm : ls.getD b 0 ∈ ls := by simp [List.getD, hlt]
        have := (h _ hm).1
        omega
      · have hg : ls.getD b 0 = 0 := by simp [List.getD, hge]
        rw [hg] at hx
        omega

theorem Loads.picked {rule room size : Int} {ls : List Int} (h : Loads room ls) (h1 : 1 ≤ size) (h2 : size ≤ room) : Loads room (addTo ls (pick rule room size ls) size) := by
  refine h.add h1 h2 fun hb => ?_
  unfold pick at hb ⊢
  split
  · next hn => rw [if_pos hn] at hb; omega
  · next hn => exact fold_fits rule room size ls _ (by omega)

theorem Loads.at_ {room : Int} {ls : List Int} (h : Loads room ls) {k : Nat} {u : Int} (hu : ls[k]? = some u) : 1 ≤ u ∧ u ≤ room := h u (List.mem_of_getElem? hu)

/-- Things in an order: the loads, and the box of each thing. -/
def runOrd (rule room : Int) (xs : List Int) : List Nat → List Int × List Int → List Int × List Int
  | [], s => s
  | i :: is, s => runOrd rule room xs is (addTo s.1 (pick rule room (xs.getD i 0) s.1) (xs.getD i 0), s.2.set i (pick rule room (xs.getD i 0) s.1 : Nat))

theorem runOrd_snoc (rule room : Int) (xs : List Int) (is : List Nat) (i : Nat) (s : List Int × List Int) :
    runOrd rule room xs (is ++ [i]) s = (addTo (runOrd rule room xs is s).1 (pick rule room (xs.getD i 0) (runOrd rule room xs is s).1) (xs.getD i 0),
      (runOrd rule room xs is s).2.set i (pick rule room (xs.getD i 0) (runOrd rule room xs is s).1 : Nat)) := by
  induction is generalizing s with
  | nil => rfl
  | cons j js ih => exact ih _

theorem runOrd_step {rule room : Int} {xs : List Int} {is : List Nat} {k i : Nat} {size : Int} {ls pl : List Int} {s0 : List Int × List Int} {b : Nat}
    (h : (ls, pl) = runOrd rule room xs (is.take k) s0) (hi : is[k]? = some i) (hx : xs[i]? = some size) (hb : pick rule room size ls = b) :
    (addTo ls b size, pl.set i (b : Int)) = runOrd rule room xs (is.take (k + 1)) s0 := by
  have e : is.take (k + 1) = is.take k ++ [i] := by
    obtain ⟨hk, rfl⟩ := List.getElem?_eq_some_iff.1 hi
    exact List.take_succ_eq_append_getElem hk
  have ex : xs.getD i 0 = size := by simp [List.getD, hx]
  rw [e, runOrd_snoc, ← h, ex, hb]

theorem addTo_new (ls : List Int) (size : Int) : addTo ls ls.length size = (ls ++ [0]).set ls.length size := by
  unfold addTo
  rw [if_pos rfl, List.set_append_right _ _ (Nat.le_refl _), Nat.sub_self, List.set_cons_zero]

theorem addTo_old {ls : List Int} {b : Nat} {l : Int} (h : ls[b]? = some l) (size : Int) : addTo ls b size = ls.set b (l + size) := by
  unfold addTo
  have hb := (List.getElem?_eq_some_iff.1 h).1
  have e : ls.getD b 0 = l := by simp [List.getD, h]
  rw [if_neg (by omega), e]

theorem runOrd_len (rule room : Int) (xs : List Int) (is : List Nat) (s : List Int × List Int) : (runOrd rule room xs is s).2.length = s.2.length := by
  induction is generalizing s with
  | nil => rfl
  | cons j js ih => rw [runOrd, ih]; simp

theorem runOrd_len1 (rule room : Int) (xs : List Int) (is : List Nat) (s : List Int × List Int) : (runOrd rule room xs is s).1.length ≤ s.1.length + is.length := by
  induction is generalizing s with
  | nil => simp [runOrd]
  | cons j js ih =>
    rw [runOrd]
    refine Nat.le_trans (ih _) ?_
    rw [addTo_length]
    simp only [List.length_cons]
    split <;> omega

theorem runOrd_loads {rule room : Int} {xs : List Int} {is : List Nat} {s : List Int × List Int} (hx : ∀ x ∈ xs, 1 ≤ x ∧ x ≤ 100 ∧ x ≤ room) (hi : ∀ i ∈ is, i < xs.length) (h : Loads room s.1) :
    Loads room (runOrd rule room xs is s).1 := by
  induction is generalizing s with
  | nil => exact h
  | cons j js ih =>
    rw [runOrd]
    have hj : xs.getD j 0 ∈ xs := by
      have := hi j (List.mem_cons_self)
      simp [List.getD, this]
    exact ih (fun i hi' => hi i (List.mem_cons_of_mem _ hi')) (h.picked (hx _ hj).1 (hx _ hj).2.2)

/-- Things as they come: the loads, and the boxes of the things. -/
def run (rule room : Int) : List Int → List Int × List Int → List Int × List Int
  | [], s => s
  | x :: xs, s => run rule room xs (addTo s.1 (pick rule room x s.1) x, s.2 ++ [(pick rule room x s.1 : Int)])

theorem run_snoc (rule room : Int) (xs : List Int) (x : Int) (s : List Int × List Int) :
    run rule room (xs ++ [x]) s = (addTo (run rule room xs s).1 (pick rule room x (run rule room xs s).1) x, (run rule room xs s).2 ++ [(pick rule room x (run rule room xs s).1 : Int)]) := by
  induction xs generalizing s with
  | nil => rfl
  | cons j js ih => exact ih _

theorem run_len (rule room : Int) (xs : List Int) (s : List Int × List Int) : (run rule room xs s).2.length = s.2.length + xs.length := by
  induction xs generalizing s with
  | nil => rfl
  | cons j js ih => rw [run, ih]; simp; omega

theorem run_len1 (rule room : Int) (xs : List Int) (s : List Int × List Int) : (run rule room xs s).1.length ≤ s.1.length + xs.length := by
  induction xs generalizing s with
  | nil => simp [run]
  | cons j js ih =>
    rw [run]
    refine Nat.le_trans (ih _) ?_
    rw [addTo_length]
    simp only [List.length_cons]
    split <;> omega

theorem run_loads {rule room : Int} {xs : List Int} {s : List Int × List Int} (hx : ∀ x ∈ xs, 1 ≤ x ∧ x ≤ 100 ∧ x ≤ room) (h : Loads room s.1) : Loads room (run rule room xs s).1 := by
  induction xs generalizing s with
  | nil => exact h
  | cons x xs ih =>
    rw [run]
    exact ih (fun i hi' => hx i (List.mem_cons_of_mem _ hi')) (h.picked (hx _ List.mem_cons_self).1 (hx _ List.mem_cons_self).2.2)

/-- In their own order both are one. -/
theorem runOrd_run (rule room : Int) (xs : List Int) (k : Nat) (hk : k ≤ xs.length) :
    runOrd rule room xs (List.range k) ([], List.replicate xs.length 0) = ((run rule room (xs.take k) ([], [])).1, (run rule room (xs.take k) ([], [])).2 ++ List.replicate (xs.length - k) 0) := by
  induction k with
  | zero => simp [runOrd, run]
  | succ k ih =>
    have hk' : k < xs.length := hk
    have hx : xs[k]? = some xs[k] := List.getElem?_eq_getElem hk'
    have hg : xs.getD k 0 = xs[k] := by simp [List.getD, hk']
    rw [List.range_succ, runOrd_snoc, ih (by omega), take_snoc hx, run_snoc, hg]
    refine Prod.ext rfl ?_
    show List.set _ k _ = _
    have hl := run_len rule room (xs.take k) ([], [])
    have hlk : (run rule room (xs.take k) ([], [])).2.length = k := by rw [hl]; simp; omega
    obtain ⟨m, hm⟩ : ∃ m, xs.length - k = m + 1 := ⟨xs.length - k - 1, by omega⟩
    rw [hm, List.replicate_succ, List.set_append_right _ _ (by omega), hlk, Nat.sub_self, List.set_cons_zero]
    have : xs.length - (k + 1) = m := by omega
    rw [this]
    simp

theorem runOrd_id (rule room : Int) (xs : List Int) :
    runOrd rule room xs (List.range xs.length) ([], List.replicate xs.length 0) = run rule room xs ([], []) := by
  rw [runOrd_run _ _ _ _ (Nat.le_refl _)]
  simp
end Go.Proofs.Ytoheoojpmndhoaa
