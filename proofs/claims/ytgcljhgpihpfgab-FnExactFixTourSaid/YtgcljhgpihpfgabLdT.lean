/-
  Tours as lists of letters: what is in the van, letter by letter; no program is spoken of here.
  Conditions: none.
-/
import Derived.Test.YtgcljhgpihpfgabLdM
namespace Go.Proofs.Ytgcljhgpihpfgab
set_option linter.unusedVariables false

/-- A van on a tour: all boxes loaded, those still in it, the most at one time, and whether one was unloaded with another one in the way. -/
structure Trip where
  ld : List Int
  op : List Int
  full : Int
  blk : Bool

def isLoad (c : Int) : Bool := decide (97 ≤ c) && decide (c ≤ 104)
def isUnload (c : Int) : Bool := decide (65 ≤ c) && decide (c ≤ 72)
theorem isLoad_true {c : Int} : isLoad c = true ↔ 97 ≤ c ∧ c ≤ 104 := by simp [isLoad]
theorem isUnload_true {c : Int} : isUnload c = true ↔ 65 ≤ c ∧ c ≤ 72 := by simp [isUnload]
/-- Where a number stands first in a list: its length if it doesn't. -/
def atT (xs : List Int) (c : Int) : Nat := xs.findIdx fun x => decide (x = c)
theorem atT_le (xs : List Int) (c : Int) : atT xs c ≤ xs.length := List.findIdx_le_length
def stepT (t : Trip) (c : Int) : Option Trip :=
  if isLoad c = true then (if t.ld.contains c = true then none else some ⟨t.ld ++ [c], t.op ++ [c], max t.full ((t.op.length : Int) + 1), t.blk⟩)
  else if isUnload c = true then (if atT t.op (c + 32) = t.op.length then none else some ⟨t.ld, t.op.eraseIdx (atT t.op (c + 32)), t.full, t.blk || decide (atT t.op (c + 32) + 1 < t.op.length)⟩)
  else none
def trip0 : Trip := ⟨[], [], 0, false⟩
def runT (l : List Int) : Option Trip := l.foldl (fun t c => t.bind fun t => stepT t c) (some trip0)
theorem runT_snoc (l : List Int) (c : Int) : runT (l ++ [c]) = (runT l).bind fun t => stepT t c := by simp [runT]
theorem runT_take {l : List Int} {k : Nat} {c : Int} (h : l[k]? = some c) : runT (l.take (k + 1)) = (runT (l.take k)).bind fun t => stepT t c := by
  rw [List.take_add_one, h]
  exact runT_snoc _ _
theorem foldT_none (l : List Int) : l.foldl (fun t c => t.bind fun t => stepT t c) (none : Option Trip) = none := by
  induction l with
  | nil => rfl
  | cons c l ih => simpa using ih
theorem runT_none {l : List Int} (k : Nat) (h : runT (l.take k) = none) : runT l = none := by
  rw [← List.take_append_drop k l, runT, List.foldl_append]
  unfold runT at h
  rw [h]
  exact foldT_none _
theorem runT_part {l : List Int} {t : Trip} (k : Nat) (h : runT l = some t) : ∃ t', runT (l.take k) = some t' := by
  cases e : runT (l.take k) with
  | none => rw [runT_none k e] at h; cases h
  | some t' => exact ⟨t', rfl⟩
/-- A step's parts. -/
theorem stepT_cases {t t' : Trip} {c : Int} (h : stepT t c = some t') :
    (isLoad c = true ∧ t.ld.contains c = false ∧ t' = ⟨t.ld ++ [c], t.op ++ [c], max t.full ((t.op.length : Int) + 1), t.blk⟩) ∨
    (isLoad c = false ∧ isUnload c = true ∧ atT t.op (c + 32) < t.op.length ∧ t' = ⟨t.ld, t.op.eraseIdx (atT t.op (c + 32)), t.full, t.blk || decide (atT t.op (c + 32) + 1 < t.op.length)⟩) := by
  unfold stepT at h
  split at h
  · rename_i h1
    split at h
    · cases h
    · rename_i h2
      injection h with h
      exact .inl ⟨h1, by simpa using h2, h.symm⟩
  · rename_i h1
    split at h
    · rename_i h2
      split at h
      · cases h
      · rename_i h3
        injection h with h
        have := atT_le t.op (c + 32)
        exact .inr ⟨by simpa using h1, h2, by omega, h.symm⟩
    · cases h
theorem runT_ind {P : List Int → Trip → Prop} (h0 : P [] trip0) (hs : ∀ l t c t', runT l = some t → P l t → stepT t c = some t' → P (l ++ [c]) t') :
    ∀ {l : List Int} {t : Trip}, runT l = some t → P l t := by
  have h : ∀ n, ∀ (l : List Int) (t : Trip), l.length = n → runT l = some t → P l t := by
    intro n
    induction n with
    | zero =>
      intro l t hl h
      obtain rfl := List.length_eq_zero_iff.1 hl
      injection h with h
      rw [← h]; exact h0
    | succ n ih =>
      intro l t hl h
      obtain ⟨m, c, rfl⟩ : ∃ m c, l = m ++ [c] := ⟨l.dropLast, l.getLast (by intro e; simp [e] at hl), (List.dropLast_concat_getLast _).symm⟩
      simp only [List.length_append, List.length_singleton] at hl
      rw [runT_snoc] at h
      cases e : runT m with
      | none => rw [e] at h; cases h
      | some t0 =>
        rw [e] at h
        exact hs m t0 c t e (ih m t0 (by omega) e) h
  exact fun {l t} h1 => h _ l t rfl h1
/-- What a tour keeps. -/
theorem runT_keeps {l : List Int} {t : Trip} (h : runT l = some t) :
    t.ld = l.filter isLoad ∧ t.op.length ≤ t.ld.length ∧ (t.op.length : Int) ≤ t.full ∧ (∀ c ∈ t.op, isLoad c = true) ∧ (∀ c ∈ l, isLoad c = true ∨ isUnload c = true) := by
  refine runT_ind (P := fun l t => t.ld = l.filter isLoad ∧ t.op.length ≤ t.ld.length ∧ (t.op.length : Int) ≤ t.full ∧ (∀ c ∈ t.op, isLoad c = true) ∧ (∀ c ∈ l, isLoad c = true ∨ isUnload c = true)) ⟨rfl, Nat.le_refl _, by simp [trip0], by simp [trip0], by simp⟩ ?_ h
  rintro l t c t' _ ⟨h1, h2, h3, h4, h5⟩ hs
  rcases stepT_cases hs with ⟨hc, hn, rfl⟩ | ⟨hc, hu, hat, rfl⟩
  · refine ⟨?_, ?_, ?_, ?_, ?_⟩
    · simp [List.filter_append, hc, h1]
    · simp only [List.length_append, List.length_singleton]; omega
    · simp only [List.length_append, List.length_singleton]; omega
    · intro x hx
      rcases List.mem_append.1 hx with hx | hx
      · exact h4 x hx
      · rw [List.mem_singleton.1 hx]; exact hc
    · intro x hx
      rcases List.mem_append.1 hx with hx | hx
      · exact h5 x hx
      · rw [List.mem_singleton.1 hx]; exact .inl hc
  · refine ⟨?_, ?_, ?_, ?_, ?_⟩
    · simp [List.filter_append, hc, h1]
    · simp only [List.length_eraseIdx]; split <;> omega
    · simp only [List.length_eraseIdx]; split <;> omega
    · intro x hx; exact h4 x (List.mem_of_mem_eraseIdx hx)
    · intro x hx
      rcases List.mem_append.1 hx with hx | hx
      · exact h5 x hx
      · rw [List.mem_singleton.1 hx]; exact .inr hu
/-- The most boxes at one time are those behind some letters. -/
def opAt (l : List Int) (k : Nat) : Int := match runT (l.take k) with | some t => (t.op.length : Int) | none => 0
theorem opAt_part {l m : List Int} {k : Nat} (h : k ≤ l.length) : opAt (l ++ m) k = opAt l k := by
  unfold opAt
  rw [List.take_append_of_le_length h]
theorem full_most {l : List Int} {t : Trip} (h : runT l = some t) : t.full = ((List.range (l.length + 1)).map (opAt l)).foldl max 0 := by
  refine runT_ind (P := fun l t => t.full = ((List.range (l.length + 1)).map (opAt l)).foldl max 0) (by simp [trip0, opAt, runT]) ?_ h
  intro l t c t' hr ih hs
  have hlast : opAt (l ++ [c]) (l.length + 1) = (t'.op.length : Int) := by
    unfold opAt
    rw [List.take_of_length_le (by simp), runT_snoc, hr]
    show (match stepT t c with | some t => (t.op.length : Int) | none => 0) = _
    rw [hs]
  have hsame : (List.range (l.length + 1)).map (opAt (l ++ [c])) = (List.range (l.length + 1)).map (opAt l) := by
    refine List.map_congr_left fun k hk => ?_
    exact opAt_part (by have := List.mem_range.1 hk; omega)
  rw [List.length_append, List.length_singleton, List.range_succ, List.map_append, List.foldl_append, hsame, ← ih]
  simp only [List.map_cons, List.map_nil, List.foldl_cons, List.foldl_nil, hlast]
  have hk := (runT_keeps hr).2.2.1
  rcases stepT_cases hs with ⟨hc, hn, rfl⟩ | ⟨hc, hu, hat, rfl⟩
  · simp only [List.length_append, List.length_singleton]; omega
  · simp only [List.length_eraseIdx]
    split <;> omega

/-- The checking program's small letter of a letter, 32 for another sign. -/
def smallT (c : Int) : Int := if isLoad c = true then c else if isUnload c = true then c + 32 else 32
theorem smallT_32 {c : Int} (h0 : 0 ≤ c) : smallT c = 32 ↔ ¬ (isLoad c = true ∨ isUnload c = true) := by
  unfold smallT
  by_cases h1 : isLoad c = true
  · have := isLoad_true.1 h1; simp [h1]; omega
  · by_cases h2 : isUnload c = true
    · have := isUnload_true.1 h2; simp [h1, h2]; omega
    · simp [h1, h2]
/-- All letters are letters of a tour, and each step goes. -/
theorem runT_tour (l : List Int) : (runT l).isSome = true → ∀ c ∈ l, isLoad c = true ∨ isUnload c = true := by
  intro h
  obtain ⟨t, ht⟩ := Option.isSome_iff_exists.1 h
  exact (runT_keeps ht).2.2.2.2
end Go.Proofs.Ytgcljhgpihpfgab
