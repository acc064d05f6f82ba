/-
  Things that are stacked: what is asked of them, stacks, weights above, safe stacks; no program is spoken of here.
  Conditions: none.
-/
import Derived.Test.YtbaofgbkcolmmabDoorTriM
import Derived.Test.YtbaofgbkcolmmabDoorAllB
namespace Go.Proofs.YtbaofgbkcolmmabDoor
set_option linter.unusedVariables false
open Go.RowKit

def thgB (t : Int × Int × Int) : Bool := inB t.1 1 1000 && inB t.2.1 0 1000 && inB t.2.2 1 1000
theorem thgB_true {t : Int × Int × Int} : thgB t = true ↔ (1 ≤ t.1 ∧ t.1 ≤ 1000) ∧ (0 ≤ t.2.1 ∧ t.2.1 ≤ 1000) ∧ 1 ≤ t.2.2 ∧ t.2.2 ≤ 1000 := by simp [thgB, inB_true, and_assoc]

/-- These are things. -/
def goodT (ts : List (Int × Int × Int)) : Bool := inB (ts.length : Int) 1 7 && ts.all thgB

theorem allT_of {ts : List (Int × Int × Int)} (h : ∀ (k : Nat) b, ts[k]? = some b → thgB b = true) : ts.all thgB = true := by
  rw [List.all_eq_true]
  intro x hx
  obtain ⟨k, hk⟩ := List.getElem?_of_mem hx
  exact h k x hk
theorem allT_not {ts : List (Int × Int × Int)} {k : Nat} {b : Int × Int × Int} (h : ts[k]? = some b) (hu : thgB b = false) : ts.all thgB = false := by
  rw [List.all_eq_false]
  exact ⟨b, List.mem_of_getElem? h, by simp [hu]⟩
theorem goodT_at {ts : List (Int × Int × Int)} (h : goodT ts = true) : 1 ≤ ts.length ∧ ts.length ≤ 7 ∧ ∀ b ∈ ts, thgB b = true := by
  simp only [goodT, Bool.and_eq_true, inB_true, List.all_eq_true] at h
  exact ⟨by omega, by omega, h.2⟩

/-- Thing 'k'. -/
def thg (ts : List (Int × Int × Int)) (k : Int) : Int × Int × Int := ts.getD k.toNat (1, 0, 1)
def wT (ts : List (Int × Int × Int)) (k : Int) : Int := (thg ts k).1
def bT (ts : List (Int × Int × Int)) (k : Int) : Int := (thg ts k).2.1
def hT (ts : List (Int × Int × Int)) (k : Int) : Int := (thg ts k).2.2
theorem thg_at {ts : List (Int × Int × Int)} {k : Nat} {t : Int × Int × Int} (h : ts[k]? = some t) : thg ts (k : Int) = t := by simp [thg, List.getD, h]
theorem thg_bd {ts : List (Int × Int × Int)} (h : goodT ts = true) (k : Int) : (1 ≤ wT ts k ∧ wT ts k ≤ 1000) ∧ (0 ≤ bT ts k ∧ bT ts k ≤ 1000) ∧ 1 ≤ hT ts k ∧ hT ts k ≤ 1000 := by
  unfold wT bT hT thg
  rcases Nat.lt_or_ge k.toNat ts.length with hlt | hge
  · have e : ts[k.toNat]? = some ts[k.toNat] := List.getElem?_eq_getElem hlt
    rw [List.getD, e]
    exact thgB_true.1 ((goodT_at h).2.2 _ (List.getElem_mem hlt))
  · rw [List.getD, List.getElem?_eq_none hge]
    simp

/-- 'k' is there and is not in the stack. -/
def canT (n : Nat) (ks : List Int) (k : Int) : Bool := decide (0 ≤ k) && decide (k < (n : Int)) && !decide (k ∈ ks)
theorem canT_true {n : Nat} {ks : List Int} {k : Int} : canT n ks k = true ↔ (0 ≤ k ∧ k < (n : Int)) ∧ k ∉ ks := by simp [canT]

/-- A stack of 'n' things. -/
def stackB (n : Nat) (ks : List Int) : Bool := decide (∀ k ∈ ks, 0 ≤ k ∧ k < (n : Int)) && decide ks.Nodup
theorem stackB_true {n : Nat} {ks : List Int} : stackB n ks = true ↔ (∀ k ∈ ks, 0 ≤ k ∧ k < (n : Int)) ∧ ks.Nodup := by simp [stackB]

theorem nodup_take {ks : List Int} : ks.Nodup ↔ ∀ (j : Nat) u, ks[j]? = some u → u ∉ ks.take j := by
  constructor
  · intro h j u hj hm
    obtain ⟨i, hi, e⟩ := List.mem_iff_getElem.1 hm
    rw [List.length_take] at hi
    rw [List.getElem_take] at e
    obtain ⟨hjl, ej⟩ := List.getElem?_eq_some_iff.1 hj
    exact (List.pairwise_iff_getElem.1 h i j (by omega) hjl (by omega)) (by rw [e, ej])
  · intro h
    refine List.pairwise_iff_getElem.2 fun i j hi hj hij e => ?_
    refine h j ks[j] (List.getElem?_eq_getElem hj) (List.mem_iff_getElem.2 ⟨i, by rw [List.length_take]; omega, ?_⟩)
    rw [List.getElem_take]
    exact e

theorem stackB_of {n : Nat} {ks : List Int} (h : ∀ (j : Nat) u, ks[j]? = some u → canT n (ks.take j) u = true) : stackB n ks = true := by
  refine stackB_true.2 ⟨fun k hk => ?_, nodup_take.2 fun j u hj => (canT_true.1 (h j u hj)).2⟩
  obtain ⟨j, hj⟩ := List.getElem?_of_mem hk
  exact (canT_true.1 (h j k hj)).1
theorem stackB_not {n : Nat} {ks : List Int} {j : Nat} {u : Int} (hj : ks[j]? = some u) (h : canT n (ks.take j) u = false) : stackB n ks = false := by
  rw [Bool.eq_false_iff]
  intro hs
  rw [Bool.eq_false_iff] at h
  obtain ⟨h1, h2⟩ := stackB_true.1 hs
  exact h (canT_true.2 ⟨h1 u (List.mem_of_getElem? hj), nodup_take.1 h2 j u hj⟩)
theorem stackB_can {n : Nat} {ks : List Int} {j : Nat} {u : Int} (h : stackB n ks = true) (hj : ks[j]? = some u) : canT n (ks.take j) u = true := by
  obtain ⟨h1, h2⟩ := stackB_true.1 h
  exact canT_true.2 ⟨h1 u (List.mem_of_getElem? hj), nodup_take.1 h2 j u hj⟩
theorem stackB_snoc {n : Nat} {ks : List Int} {k : Int} (h : stackB n ks = true) (hk : canT n ks k = true) : stackB n (ks ++ [k]) = true := by
  obtain ⟨h1, h2⟩ := stackB_true.1 h
  obtain ⟨h3, h4⟩ := canT_true.1 hk
  refine stackB_true.2 ⟨fun x hx => ?_, ?_⟩
  · rcases List.mem_append.1 hx with hx | hx
    · exact h1 x hx
    · rw [List.mem_singleton.1 hx]; exact h3
  · rw [List.nodup_append]
    refine ⟨h2, by simp, fun x hx y hy e => ?_⟩
    rw [List.mem_singleton] at hy
    subst hy e
    exact h4 hx
theorem stackB_take {n : Nat} {ks : List Int} (h : stackB n ks = true) (j : Nat) : stackB n (ks.take j) = true := by
  obtain ⟨h1, h2⟩ := stackB_true.1 h
  exact stackB_true.2 ⟨fun k hk => h1 k (List.mem_of_mem_take hk), h2.sublist (List.take_sublist j ks)⟩
theorem stackB_nil (n : Nat) : stackB n [] = true := stackB_true.2 ⟨fun k hk => (by cases hk), List.nodup_nil⟩

theorem nodup_len (n : Nat) : ∀ ks : List Int, (∀ k ∈ ks, 0 ≤ k ∧ k < (n : Int)) → ks.Nodup → ks.length ≤ n := by
  induction n with
  | zero =>
    intro ks h _
    cases ks with
    | nil => exact Nat.le_refl _
    | cons k ks => have := h k List.mem_cons_self; omega
  | succ n ih =>
    intro ks h hd
    by_cases hm : (n : Int) ∈ ks
    · have h1 := ih (ks.erase (n : Int)) (fun k hk => by
        have h2 := h k (List.mem_of_mem_erase hk)
        have h3 : k ≠ (n : Int) := (hd.mem_erase_iff.1 hk).1
        omega) (hd.erase _)
      rw [List.length_erase_of_mem hm] at h1
      omega
    · have h1 := ih ks (fun k hk => by
        have h2 := h k hk
        have h3 : k ≠ (n : Int) := fun e => hm (e ▸ hk)
        omega) hd
      omega
theorem stackB_len {n : Nat} {ks : List Int} (h : stackB n ks = true) : ks.length ≤ n := nodup_len n ks (stackB_true.1 h).1 (stackB_true.1 h).2
theorem stackB_len_take {n : Nat} {ks : List Int} {j : Nat} (h : ∀ (i : Nat) u, i < j → ks[i]? = some u → canT n (ks.take i) u = true) (hj : j ≤ ks.length) : j ≤ n := by
  have h1 : stackB n (ks.take j) = true := stackB_of fun i u hi => by
    have hil := (List.getElem?_eq_some_iff.1 hi).1
    rw [List.length_take] at hil
    rw [List.getElem?_take_of_lt (by omega)] at hi
    rw [List.take_take, Nat.min_eq_left (by omega)]
    exact h i u (by omega) hi
  have h2 := stackB_len h1
  rw [List.length_take] at h2
  omega

/-- The sum of a number of each thing of a stack. -/
def sumF (f : Int → Int) : List Int → Int
  | [] => 0
  | k :: ks => f k + sumF f ks
theorem sumF_append (f : Int → Int) (xs ys : List Int) : sumF f (xs ++ ys) = sumF f xs + sumF f ys := by
  induction xs with
  | nil => simp [sumF]
  | cons x xs ih => simp only [List.cons_append, sumF, ih]; omega
theorem sumF_next (f : Int → Int) {ks : List Int} {j : Nat} {u : Int} (h : ks[j]? = some u) : sumF f (ks.take (j + 1)) = sumF f (ks.take j) + f u := by
  rw [take_snoc h, sumF_append]
  simp [sumF]
theorem sumF_bd {f : Int → Int} (hf : ∀ k, 1 ≤ f k ∧ f k ≤ 1000) (ks : List Int) : 0 ≤ sumF f ks ∧ sumF f ks ≤ 1000 * (ks.length : Int) := by
  induction ks with
  | nil => simp [sumF]
  | cons k ks ih =>
    have := hf k
    simp only [sumF, List.length_cons]
    push_cast
    omega
theorem sumF_drop (f : Int → Int) {ks : List Int} {j : Nat} {u : Int} (h : ks[j]? = some u) : sumF f (ks.drop j) = f u + sumF f (ks.drop (j + 1)) := by
  obtain ⟨hj, e⟩ := List.getElem?_eq_some_iff.1 h
  rw [List.drop_eq_getElem_cons hj, sumF, e]

/-- The weights above each thing. -/
def aboveL (ts : List (Int × Int × Int)) : List Int → List Int
  | [] => []
  | k :: ks => sumF (wT ts) ks :: aboveL ts ks
theorem aboveL_length (ts : List (Int × Int × Int)) (ks : List Int) : (aboveL ts ks).length = ks.length := by
  induction ks with
  | nil => rfl
  | cons k ks ih => simp [aboveL, ih]
theorem aboveL_at (ts : List (Int × Int × Int)) (ks : List Int) {j : Nat} (hj : j < ks.length) : (aboveL ts ks)[j]? = some (sumF (wT ts) (ks.drop (j + 1))) := by
  induction ks generalizing j with
  | nil => simp at hj
  | cons k ks ih =>
    cases j with
    | zero => rfl
    | succ j => simpa [aboveL] using ih (j := j) (by simpa using hj)

/-- The stack is safe. -/
def safeB (ts : List (Int × Int × Int)) : List Int → Bool
  | [] => true
  | k :: ks => decide (sumF (wT ts) ks ≤ bT ts k) && safeB ts ks
theorem safeB_at {ts : List (Int × Int × Int)} {ks : List Int} : safeB ts ks = true ↔ ∀ (j : Nat) u, ks[j]? = some u → sumF (wT ts) (ks.drop (j + 1)) ≤ bT ts u := by
  induction ks with
  | nil => simp [safeB]
  | cons k ks ih =>
    simp only [safeB, Bool.and_eq_true, decide_eq_true_eq, ih]
    constructor
    · rintro ⟨h1, h2⟩ j u hj
      cases j with
      | zero => simp at hj; subst hj; simpa using h1
      | succ j => exact h2 j u (by simpa using hj)
    · intro h
      exact ⟨by simpa using h 0 k rfl, fun j u hj => by simpa using h (j + 1) u (by simpa using hj)⟩
theorem safeB_not {ts : List (Int × Int × Int)} {ks : List Int} {j : Nat} {u : Int} (hj : ks[j]? = some u) (h : bT ts u < sumF (wT ts) (ks.drop (j + 1))) : safeB ts ks = false := by
  rw [Bool.eq_false_iff]
  intro hs
  have := safeB_at.1 hs j u hj
  omega

/-- What can be put on a stack still, on a ground that bears 'c'. -/
def capF (ts : List (Int × Int × Int)) (c : Int) (ks : List Int) : Int := ks.foldl (fun c k => min (c - wT ts k) (bT ts k)) c
theorem capF_snoc (ts : List (Int × Int × Int)) (c : Int) (ks : List Int) (k : Int) : capF ts c (ks ++ [k]) = min (capF ts c ks - wT ts k) (bT ts k) := by simp [capF]
theorem capF_safe (ts : List (Int × Int × Int)) (c : Int) (ks : List Int) : 0 ≤ capF ts c ks ↔ sumF (wT ts) ks ≤ c ∧ safeB ts ks = true := by
  induction ks generalizing c with
  | nil => simp [capF, sumF, safeB]
  | cons k ks ih =>
    have e : capF ts c (k :: ks) = capF ts (min (c - wT ts k) (bT ts k)) ks := rfl
    rw [e, ih]
    simp only [sumF, safeB, Bool.and_eq_true, decide_eq_true_eq]
    constructor
    · rintro ⟨h1, h2⟩; exact ⟨by omega, by omega, h2⟩
    · rintro ⟨h1, h2, h3⟩; exact ⟨by omega, h3⟩
theorem safe_weight {ts : List (Int × Int × Int)} (hg : goodT ts = true) {ks : List Int} (h : safeB ts ks = true) : sumF (wT ts) ks ≤ 2000 := by
  cases ks with
  | nil => simp [sumF]
  | cons k ks =>
    simp only [safeB, Bool.and_eq_true, decide_eq_true_eq] at h
    have := thg_bd hg k
    simp only [sumF]
    omega
theorem safe_cap {ts : List (Int × Int × Int)} (hg : goodT ts = true) (ks : List Int) : safeB ts ks = true ↔ 0 ≤ capF ts 7000 ks := by
  rw [capF_safe]
  exact ⟨fun h => ⟨by have := safe_weight hg h; omega, h⟩, fun h => h.2⟩
theorem safe_snoc {ts : List (Int × Int × Int)} (hg : goodT ts = true) (ks : List Int) (k : Int) : safeB ts (ks ++ [k]) = decide (wT ts k ≤ capF ts 7000 ks) := by
  rw [Bool.eq_iff_iff, safe_cap hg, capF_snoc, decide_eq_true_iff]
  have := thg_bd hg k
  omega
theorem cap_bd {ts : List (Int × Int × Int)} (hg : goodT ts = true) (ks : List Int) (h : 0 ≤ capF ts 7000 ks) : capF ts 7000 ks ≤ 7000 := by
  rcases List.eq_nil_or_concat ks with rfl | ⟨xs, x, rfl⟩
  · exact Int.le_refl _
  · rw [List.concat_eq_append, capF_snoc]
    have := thg_bd hg x
    omega

/-- It is taken if there is room. -/
def okT (ts : List (Int × Int × Int)) (c : Int) (beg : List Int) (k : Nat) : Bool := decide (wT ts (k : Int) ≤ c) && canT ts.length beg (k : Int)

/-- The safe stacks that go on from one, which bears 'c' more. -/
def visF (ts : List (Int × Int × Int)) : Nat → Int → List Int → List (List Int)
  | 0, _, beg => [beg]
  | f + 1, c, beg => beg :: (List.range ts.length).flatMap fun k => if okT ts c beg k = true then visF ts f (min (c - wT ts (k : Int)) (bT ts (k : Int))) (beg ++ [(k : Int)]) else []
/-- Those whose next thing is among the first 'j'. -/
def kidsF (ts : List (Int × Int × Int)) (f : Nat) (c : Int) (beg : List Int) (j : Nat) : List (List Int) :=
  (List.range j).flatMap fun k => if okT ts c beg k = true then visF ts (f - 1) (min (c - wT ts (k : Int)) (bT ts (k : Int))) (beg ++ [(k : Int)]) else []
theorem kidsF_zero (ts : List (Int × Int × Int)) (f : Nat) (c : Int) (beg : List Int) : kidsF ts f c beg 0 = [] := rfl
theorem kidsF_yes {ts : List (Int × Int × Int)} {f : Nat} {c : Int} {beg : List Int} {j : Nat} (h : okT ts c beg j = true) : kidsF ts f c beg (j + 1) = kidsF ts f c beg j ++ visF ts (f - 1) (min (c - wT ts (j : Int)) (bT ts (j : Int))) (beg ++ [(j : Int)]) := by
  simp [kidsF, List.range_succ, h]
theorem kidsF_no {ts : List (Int × Int × Int)} {f : Nat} {c : Int} {beg : List Int} {j : Nat} (h : okT ts c beg j = false) : kidsF ts f c beg (j + 1) = kidsF ts f c beg j := by
  simp [kidsF, List.range_succ, h]
theorem can_fuel {n f : Nat} {beg : List Int} {k : Int} (hs : stackB n beg = true) (hf : f + beg.length = n) (h : canT n beg k = true) : 1 ≤ f := by
  have := stackB_len (stackB_snoc hs h)
  simp at this
  omega
theorem visF_eq {ts : List (Int × Int × Int)} {f : Nat} {c : Int} {beg : List Int} (hs : stackB ts.length beg = true) (hf : f + beg.length = ts.length) : visF ts f c beg = beg :: kidsF ts f c beg ts.length := by
  cases f with
  | zero =>
    have : ∀ j, kidsF ts 0 c beg j = [] := by
      intro j
      induction j with
      | zero => rfl
      | succ j ih =>
        have hno : okT ts c beg j = false := by
          rw [Bool.eq_false_iff]
          intro h
          simp only [okT, Bool.and_eq_true] at h
          have := can_fuel hs hf h.2
          omega
        rw [kidsF_no hno, ih]
    rw [this]; rfl
  | succ f => rfl

/-- The first stack of the greatest size so far, and this. -/
def bestT (g : List Int → Int) (s : List Int × Int) (xs : List Int) : List Int × Int := if s.2 < g xs then (xs, g xs) else s

theorem visF_stack {ts : List (Int × Int × Int)} (hg : goodT ts = true) (f : Nat) : ∀ (c : Int) (beg : List Int), stackB ts.length beg = true → ∀ xs ∈ visF ts f c beg, stackB ts.length xs = true := by
  induction f with
  | zero => intro c beg h xs hx; rw [visF, List.mem_singleton] at hx; subst hx; exact h
  | succ f ih =>
    intro c beg h xs hx
    rw [visF] at hx
    rcases List.mem_cons.1 hx with rfl | hx
    · exact h
    · obtain ⟨k, _, hk⟩ := List.mem_flatMap.1 hx
      split at hk
      · rename_i hok
        simp only [okT, Bool.and_eq_true] at hok
        exact ih _ _ (stackB_snoc h hok.2) xs hk
      · cases hk
/-- How many there are at most. -/
def facT : Nat → Nat
  | 0 => 1
  | f + 1 => 1 + 7 * facT f
theorem flat_len {α : Type} (g : Nat → List α) (m : Nat) (h : ∀ k, (g k).length ≤ m) : ∀ j, ((List.range j).flatMap g).length ≤ j * m := by
  intro j
  induction j with
  | zero => simp
  | succ j ih =>
    rw [List.range_succ, List.flatMap_append, List.length_append, Nat.succ_mul]
    have := h j
    have e : List.flatMap g [j] = g j := by simp
    rw [e]
    omega
theorem visF_len {ts : List (Int × Int × Int)} (h7 : ts.length ≤ 7) (f : Nat) : ∀ (c : Int) (beg : List Int), (visF ts f c beg).length ≤ facT f := by
  induction f with
  | zero => intro c beg; exact Nat.le_refl _
  | succ f ih =>
    intro c beg
    rw [visF, List.length_cons, facT]
    have := flat_len (fun k => if okT ts c beg k = true then visF ts f (min (c - wT ts (k : Int)) (bT ts (k : Int))) (beg ++ [(k : Int)]) else []) (facT f) (fun k => by split; exact ih _ _; simp) ts.length
    have h2 : ts.length * facT f ≤ 7 * facT f := Nat.mul_le_mul_right _ h7
    omega
theorem facT_mono {a b : Nat} (h : a ≤ b) : facT a ≤ facT b := by
  induction h with
  | refl => exact Nat.le_refl _
  | step _ ih => rw [facT]; omega
theorem facT_seven : facT 7 = 960800 := by decide
theorem visF_few {ts : List (Int × Int × Int)} (h7 : ts.length ≤ 7) {f : Nat} (hf : f ≤ 7) (c : Int) (beg : List Int) : (visF ts f c beg).length ≤ 960800 :=
  Nat.le_trans (visF_len h7 f c beg) (by rw [← facT_seven]; exact facT_mono hf)
theorem kids_few {ts : List (Int × Int × Int)} {f : Nat} {c : Int} {beg : List Int} (h7 : ts.length ≤ 7) (hf7 : f ≤ 7) (hs : stackB ts.length beg = true) (hf : f + beg.length = ts.length) {j : Nat} (hj : j ≤ ts.length) : (kidsF ts f c beg j).length ≤ 960800 := by
  have h1 := visF_few h7 hf7 c beg
  rw [visF_eq hs hf, List.length_cons] at h1
  have h2 : (kidsF ts f c beg j).length ≤ (kidsF ts f c beg ts.length).length := by
    obtain ⟨d, hd⟩ : ∃ d, ts.length = j + d := ⟨ts.length - j, by omega⟩
    rw [hd]
    clear hd
    induction d with
    | zero => exact Nat.le_refl _
    | succ d ih =>
      refine Nat.le_trans ih ?_
      rw [← Nat.add_assoc]
      cases e : okT ts c beg (j + d)
      · rw [kidsF_no e]; exact Nat.le_refl _
      · rw [kidsF_yes e, List.length_append]; omega
  omega
end Go.Proofs.YtbaofgbkcolmmabDoor
