/-
  Clues, hidden things in their order, and the next ones; no program is spoken of here.
  Conditions: none.
-/
import Derived.Test.YtoheoojpmndhoabDoorNum
namespace Go.Proofs.YtoheoojpmndhoabDoor
set_option linter.unusedVariables false

/-- A clue: its kind and three numbers. -/
abbrev Clu := Int × Int × Int × Int

def noneC (c : Clu) : Bool := decide (c.2.1 = 0) && decide (c.2.2.1 = 0)
def twoC (n : Int) (c : Clu) : Bool := inB c.2.1 0 (n - 1) && (inB c.2.2.1 0 (n - 1) && decide (c.2.1 ≠ c.2.2.1))
/-- This is a clue of so many things. -/
def clueB (n : Int) (c : Clu) : Bool :=
  if c.1 = 0 then noneC c && inB c.2.2.2 0 24
  else if c.1 = 1 then twoC n c && inB c.2.2.2 0 1
  else if c.1 = 2 then inB c.2.1 6 24 && (decide (c.2.2.1 = 0) && inB c.2.2.2 1 4)
  else if c.1 = 3 then inB c.2.1 1 24 && (decide (c.2.2.1 = 0) && inB c.2.2.2 0 1)
  else if c.1 = 4 then twoC n c && inB c.2.2.2 1 36
  else if c.1 = 5 then noneC c && inB c.2.2.2 1 6
  else false

/-- All hidden things of so many, in their order. -/
def allT : Nat → List (List Int)
  | 0 => [[]]
  | n + 1 => (allT n).map (1 :: ·) ++ ((allT n).map (2 :: ·) ++ ((allT n).map (3 :: ·) ++ ((allT n).map (4 :: ·) ++ ((allT n).map (5 :: ·) ++ (allT n).map (6 :: ·)))))

theorem allT_succ (n : Nat) : allT (n + 1) = (allT n).map (1 :: ·) ++ ((allT n).map (2 :: ·) ++ ((allT n).map (3 :: ·) ++ ((allT n).map (4 :: ·) ++ ((allT n).map (5 :: ·) ++ (allT n).map (6 :: ·))))) := rfl

theorem allT_length (n : Nat) : (allT n).length = 6 ^ n := by
  induction n with
  | zero => rfl
  | succ n ih => rw [allT_succ, Nat.pow_succ]; simp only [List.length_append, List.length_map, ih]; omega

theorem allT_mem {n : Nat} {l : List Int} (h : l ∈ allT n) : l.length = n ∧ ∀ x ∈ l, 1 ≤ x ∧ x ≤ 6 := by
  induction n generalizing l with
  | zero => simp [allT] at h; subst h; simp
  | succ n ih =>
    rw [allT_succ] at h
    simp only [List.mem_append, List.mem_map] at h
    rcases h with ⟨t, ht, rfl⟩ | ⟨t, ht, rfl⟩ | ⟨t, ht, rfl⟩ | ⟨t, ht, rfl⟩ | ⟨t, ht, rfl⟩ | ⟨t, ht, rfl⟩
    all_goals
      obtain ⟨h1, h2⟩ := ih ht
      refine ⟨by simp [h1], fun x hx => ?_⟩
      rcases List.mem_cons.1 hx with rfl | hx
      · omega
      · exact h2 x hx

/-- The next hidden things. -/
def nextT : List Int → Option (List Int)
  | [] => none
  | x :: t => match nextT t with
    | some t' => some (x :: t')
    | none => if x = 6 then none else some ((x + 1) :: List.replicate t.length 1)

/-- Each one is followed by the next one, and the last one has none. -/
inductive RunT : List (List Int) → Prop
  | one {l} : nextT l = none → RunT [l]
  | more {l l' ls} : nextT l = some l' → RunT (l' :: ls) → RunT (l :: l' :: ls)

theorem RunT.cons_map {x : Int} {ls ms : List (List Int)} {y : List Int} (h : RunT ls) (hl : ∀ l, ls.getLast? = some l → x ≠ 6 ∧ y = (x + 1) :: List.replicate l.length 1) (hm : RunT (y :: ms)) : RunT (ls.map (x :: ·) ++ y :: ms) := by
  induction h with
  | one h =>
    obtain ⟨h6, rfl⟩ := hl _ rfl
    exact .more (by rw [nextT, h]; simp [h6]) hm
  | more h1 h2 ih =>
    exact .more (by rw [nextT, h1]) (ih fun l hl' => hl l (by rw [List.getLast?_cons_cons]; exact hl'))

theorem RunT.last_map {ls : List (List Int)} (h : RunT ls) : RunT (ls.map (6 :: ·)) := by
  induction h with
  | one h => exact .one (by rw [nextT, h]; simp)
  | more h1 _ ih => exact .more (by rw [nextT, h1]) ih

theorem allT_head (n : Nat) : ∃ ms, allT n = List.replicate n 1 :: ms := by
  induction n with
  | zero => exact ⟨[], rfl⟩
  | succ n ih =>
    obtain ⟨ms, h⟩ := ih
    rw [allT_succ, h]
    exact ⟨_, rfl⟩

theorem allT_last {n : Nat} {l : List Int} (h : (allT n).getLast? = some l) : l.length = n := (allT_mem (List.mem_of_getLast? h)).1

theorem allT_run (n : Nat) : RunT (allT n) := by
  induction n with
  | zero => exact .one rfl
  | succ n ih =>
    obtain ⟨ms, hms⟩ := allT_head n
    have step : ∀ (x : Int) (rest : List (List Int)), x ≠ 6 → RunT ((allT n).map ((x + 1) :: ·) ++ rest) → RunT ((allT n).map (x :: ·) ++ ((allT n).map ((x + 1) :: ·) ++ rest)) := fun x rest h6 hr => by
      have e : (allT n).map ((x + 1) :: ·) ++ rest = ((x + 1) :: List.replicate n 1) :: (ms.map ((x + 1) :: ·) ++ rest) := by rw [hms]; rfl
      rw [e] at hr ⊢
      exact ih.cons_map (fun l hl => ⟨h6, by rw [allT_last hl]⟩) hr
    rw [allT_succ]
    refine step 1 _ (by decide) (step 2 _ (by decide) (step 3 _ (by decide) (step 4 _ (by decide) ?_)))
    have h5 := step 5 [] (by decide) (by rw [List.append_nil]; exact ih.last_map)
    rw [List.append_nil] at h5
    exact h5

theorem RunT.next {ls : List (List Int)} (h : RunT ls) : ∀ {i : Nat} {l : List Int}, ls[i]? = some l → nextT l = ls[i + 1]? := by
  induction h with
  | one h =>
    intro i l hl
    cases i with
    | zero => simp at hl; subst hl; simpa using h
    | succ i => simp at hl
  | more h1 _ ih =>
    intro i l hl
    cases i with
    | zero => simp at hl; subst hl; simpa using h1
    | succ i => exact ih hl

/-- Behind so many hidden things come the next ones. -/
theorem allT_next {n i : Nat} {l : List Int} (h : (allT n)[i]? = some l) : nextT l = (allT n)[i + 1]? := (allT_run n).next h

theorem nextT_all (m : Nat) : nextT (List.replicate m 6) = none := by
  induction m with
  | zero => rfl
  | succ m ih => rw [List.replicate_succ, nextT, ih]; simp

theorem nextT_at {p : List Int} {x : Int} {m : Nat} (h : x ≠ 6) : nextT (p ++ x :: List.replicate m 6) = some (p ++ (x + 1) :: List.replicate m 1) := by
  induction p with
  | nil => simp [nextT, nextT_all, h]
  | cons y p ih => rw [List.cons_append, nextT, ih]; rfl

/-- Hidden things that fit some clues, told by what a clue tells of them. -/
def fitB (v : Clu → List Int → Int) (cs : List Clu) (xs : List Int) : Bool := cs.all fun c => decide (v c xs = c.2.2.2)
def solF (v : Clu → List Int → Int) (n : Nat) (cs : List Clu) : List (List Int) := (allT n).filter (fitB v cs)

theorem solF_length (v : Clu → List Int → Int) (n : Nat) (cs : List Clu) : (solF v n cs).length ≤ 6 ^ n := by
  have := List.length_filter_le (fitB v cs) (allT n)
  rw [allT_length] at this
  exact this
theorem solF_mem {v : Clu → List Int → Int} {n : Nat} {cs : List Clu} {l : List Int} (h : l ∈ solF v n cs) : l.length = n ∧ ∀ x ∈ l, 1 ≤ x ∧ x ≤ 6 := allT_mem (List.mem_filter.1 h).1

/-- All hidden things that go on so. -/
def onT (b : List Int) (m : Nat) : List (List Int) := (allT m).map (b ++ ·)
theorem onT_zero (b : List Int) : onT b 0 = [b] := by simp [onT, allT]
theorem onT_succ (b : List Int) (m : Nat) : onT b (m + 1) = onT (b ++ [1]) m ++ (onT (b ++ [2]) m ++ (onT (b ++ [3]) m ++ (onT (b ++ [4]) m ++ (onT (b ++ [5]) m ++ onT (b ++ [6]) m)))) := by
  simp [onT, allT_succ, List.map_append, Function.comp_def]
/-- Those that go on with sizes below one. -/
def upT (b : List Int) (m : Nat) : Nat → List (List Int)
  | 0 => []
  | k + 1 => upT b m k ++ onT (b ++ [((k : Int) + 1)]) m
theorem upT_all (b : List Int) (m : Nat) : upT b m 6 = onT b (m + 1) := by
  rw [onT_succ]; simp [upT, List.append_assoc]

/-! ### Sizes that are some of the things -/

/-- The sum of the things of a set, told by its bits. -/
def maskS : List Int → Nat → Int
  | [], _ => 0
  | x :: xs, s => ((s % 2 : Nat) : Int) * x + maskS xs (s / 2)

/-- Some of the things have just these sizes together. -/
def someS : List Int → Int → Bool
  | [], a => decide (a = 0)
  | x :: xs, a => someS xs a || someS xs (a - x)

theorem someS_mask (xs : List Int) (a : Int) : someS xs a = true ↔ ∃ s, s < 2 ^ xs.length ∧ maskS xs s = a := by
  induction xs generalizing a with
  | nil =>
    simp only [someS, decide_eq_true_eq, maskS, List.length_nil, Nat.pow_zero]
    exact ⟨fun h => ⟨0, by omega, h.symm⟩, fun ⟨_, _, h⟩ => h.symm⟩
  | cons x xs ih =>
    simp only [someS, Bool.or_eq_true, ih, List.length_cons]
    constructor
    · rintro (⟨s, hs, he⟩ | ⟨s, hs, he⟩)
      · refine ⟨2 * s, by rw [Nat.pow_succ]; omega, ?_⟩
        simp only [maskS]
        rw [show 2 * s % 2 = 0 by omega, show 2 * s / 2 = s by omega, he]; simp
      · refine ⟨2 * s + 1, by rw [Nat.pow_succ]; omega, ?_⟩
        simp only [maskS]
        rw [show (2 * s + 1) % 2 = 1 by omega, show (2 * s + 1) / 2 = s by omega, he]; simp; omega
    · rintro ⟨s, hs, he⟩
      rw [Nat.pow_succ] at hs
      simp only [maskS] at he
      have hm : s % 2 = 0 ∨ s % 2 = 1 := by omega
      rcases hm with hm | hm
      · refine .inl ⟨s / 2, by omega, ?_⟩
        rw [hm] at he; simpa using he
      · refine .inr ⟨s / 2, by omega, ?_⟩
        rw [hm] at he; simp at he; omega

theorem maskS_zero (xs : List Int) : maskS xs 0 = 0 := by
  induction xs with
  | nil => rfl
  | cons x xs ih => simp [maskS, ih]

/-- From a set on, up to all. -/
theorem someS_from {xs : List Int} {a : Int} (ha : a ≠ 0) : (someS xs a = true ↔ ∃ s, 1 ≤ s ∧ s < 2 ^ xs.length ∧ maskS xs s = a) := by
  rw [someS_mask]
  constructor
  · rintro ⟨s, hs, he⟩
    refine ⟨s, ?_, hs, he⟩
    rcases Nat.eq_zero_or_pos s with rfl | h
    · rw [maskS_zero] at he; exact absurd he.symm ha
    · exact h
  · rintro ⟨s, _, hs, he⟩
    exact ⟨s, hs, he⟩
theorem someS_neg {xs : List Int} (h : ∀ x ∈ xs, 0 ≤ x) {a : Int} (ha : a < 0) : someS xs a = false := by
  induction xs generalizing a with
  | nil => simp [someS]; omega
  | cons x xs ih =>
    have := h x (List.mem_cons_self)
    rw [someS, ih (fun y hy => h y (List.mem_cons_of_mem _ hy)) ha, ih (fun y hy => h y (List.mem_cons_of_mem _ hy)) (by omega)]; rfl
theorem someS_zero (xs : List Int) : someS xs 0 = true := (someS_mask xs 0).2 ⟨0, Nat.two_pow_pos _, maskS_zero xs⟩
end Go.Proofs.YtoheoojpmndhoabDoor
