/-
  Which room is enough for so many boxes, and the least of them, as functions on lists; no program is spoken of here.
  Conditions: none.
-/
import Derived.Test.YtplohhmggfifkabFewFew
namespace Go.Proofs.Ytplohhmggfifkab
set_option linter.unusedVariables false

/-- So many boxes are enough. -/
def enoughR (xs : List Int) (b room : Int) : Bool := (allP room xs).any fun p => decide ((p.2.length : Int) ≤ b)

theorem enough_least {xs : List Int} {room b : Int} {m : Nat} (h : Least (allP room xs) m) : enoughR xs b room = decide ((m : Int) ≤ b) := by
  obtain ⟨⟨p, hp, hpm⟩, hall⟩ := h
  unfold enoughR
  rw [Bool.eq_iff_iff, List.any_eq_true, decide_eq_true_iff]
  constructor
  · rintro ⟨q, hq, hqb⟩
    have h1 := hall q hq
    have h2 := of_decide_eq_true hqb
    omega
  · intro h
    exact ⟨p, hp, by rw [decide_eq_true_iff]; omega⟩

theorem plans_mono {room room' : Int} (h : room ≤ room') {r pl ls : List Int} {p : List Int × List Int} (hp : p ∈ plansL room r pl ls) : p ∈ plansL room' r pl ls := by
  induction r generalizing pl ls with
  | nil => exact hp
  | cons x r ih =>
    rw [plansL] at hp ⊢
    obtain ⟨b, hb, hpb⟩ := List.mem_flatMap.1 hp
    refine List.mem_flatMap.2 ⟨b, hb, ?_⟩
    split at hpb
    · rw [if_pos (by omega)]
      exact ih hpb
    · cases hpb

/-- More room never needs more boxes. -/
theorem enough_up {xs : List Int} {b room room' : Int} (h : room ≤ room') (he : enoughR xs b room = true) : enoughR xs b room' = true := by
  obtain ⟨p, hp, hb⟩ := List.any_eq_true.1 he
  exact List.any_eq_true.2 ⟨p, plans_mono h hp, hb⟩

theorem set_sum (x : Int) (ls : List Int) : ∀ b, b < ls.length → (ls.set b (ls.getD b 0 + x)).sum = ls.sum + x := by
  induction ls with
  | nil => intro b hb; simp at hb
  | cons y ls ih =>
    intro b hb
    cases b with
    | zero => simp [List.getD]; omega
    | succ b =>
      have := ih b (by simpa using hb)
      simp only [List.set_cons_succ, List.sum_cons, List.getD_cons_succ] at this ⊢
      omega

theorem addTo_sum {ls : List Int} {b : Nat} (x : Int) (h : b ≤ ls.length) : (addTo ls b x).sum = ls.sum + x := by
  unfold addTo
  split
  · simp
  · exact set_sum x ls b (by omega)

theorem plans_sum {room : Int} {r pl ls : List Int} {p : List Int × List Int} (hp : p ∈ plansL room r pl ls) : p.2.sum = ls.sum + r.sum := by
  induction r generalizing pl ls with
  | nil =>
    obtain rfl := List.mem_singleton.1 hp
    simp
  | cons x r ih =>
    rw [plansL] at hp
    obtain ⟨b, hb, hpb⟩ := List.mem_flatMap.1 hp
    have hb := List.mem_range.1 hb
    split at hpb
    · rw [ih hpb, addTo_sum x (by omega), List.sum_cons]
      omega
    · cases hpb

theorem plans_room {room : Int} {r pl ls : List Int} {p : List Int × List Int} (hp : p ∈ plansL room r pl ls) (hl : ∀ y ∈ ls, y ≤ room) : ∀ y ∈ p.2, y ≤ room := by
  induction r generalizing pl ls with
  | nil =>
    obtain rfl := List.mem_singleton.1 hp
    exact hl
  | cons x r ih =>
    rw [plansL] at hp
    obtain ⟨b, hb, hpb⟩ := List.mem_flatMap.1 hp
    split at hpb
    · rename_i hfit
      refine ih hpb fun y hy => ?_
      unfold addTo at hy
      split at hy
      · rename_i hbl
        rcases List.mem_append.1 hy with h | h
        · exact hl y h
        · obtain rfl := List.mem_singleton.1 h
          rw [hbl, show ls.getD ls.length 0 = 0 by simp [List.getD]] at hfit
          omega
      · rcases List.mem_or_eq_of_mem_set hy with h | h
        · exact hl y h
        · omega
    · cases hpb

theorem sum_room {room : Int} {ls : List Int} (h : ∀ y ∈ ls, y ≤ room) : ls.sum ≤ (ls.length : Int) * room := by
  induction ls with
  | nil => simp
  | cons y ls ih =>
    have h1 := h y List.mem_cons_self
    have h2 := ih fun z hz => h z (List.mem_cons_of_mem _ hz)
    rw [List.sum_cons, List.length_cons, Int.natCast_succ, Int.add_mul]
    omega

/-- So many boxes hold no more than their room. -/
theorem enough_sum {xs : List Int} {b room : Int} (hr : 0 ≤ room) (h : enoughR xs b room = true) : xs.sum ≤ b * room := by
  obtain ⟨p, hp, hb⟩ := List.any_eq_true.1 h
  have hb := of_decide_eq_true hb
  have h1 := plans_sum (room := room) (r := xs) (pl := []) (ls := []) hp
  have h2 := sum_room (plans_room (room := room) (r := xs) (pl := []) (ls := []) hp (fun y hy => by cases hy))
  have h3 : (p.2.length : Int) * room ≤ b * room := Int.mul_le_mul_of_nonneg_right hb hr
  simp only [List.sum_nil] at h1
  omega

theorem plans_one {room : Int} (r : List Int) (hr : ∀ x ∈ r, 0 ≤ x) : ∀ (pl : List Int) (l : Int), l + r.sum ≤ room → ∃ p ∈ plansL room r pl [l], p.2.length = 1 := by
  induction r with
  | nil => exact fun pl l _ => ⟨(pl, [l]), List.mem_singleton.2 rfl, rfl⟩
  | cons x r ih =>
    intro pl l h
    rw [List.sum_cons] at h
    have hpos : 0 ≤ r.sum := by
      have : ∀ ys : List Int, (∀ y ∈ ys, 0 ≤ y) → 0 ≤ ys.sum := by
        intro ys
        induction ys with
        | nil => intro _; simp
        | cons y ys ih =>
          intro hy
          have h1 := hy y List.mem_cons_self
          have h2 := ih fun z hz => hy z (List.mem_cons_of_mem _ hz)
          rw [List.sum_cons]
          omega
      exact this r fun y hy => hr y (List.mem_cons_of_mem _ hy)
    obtain ⟨p, hp, h1⟩ := ih (fun y hy => hr y (List.mem_cons_of_mem _ hy)) (pl ++ [((0 : Nat) : Int)]) (l + x) (by omega)
    refine ⟨p, ?_, h1⟩
    rw [plansL]
    refine List.mem_flatMap.2 ⟨0, List.mem_range.2 (by simp), ?_⟩
    rw [if_pos (by simp [List.getD]; omega)]
    simpa [addTo, List.getD] using hp

/-- A room for all needs one box. -/
theorem enough_all {xs : List Int} {b room : Int} (h0 : ∀ x ∈ xs, 0 ≤ x) (h1 : 1 ≤ xs.length) (hs : xs.sum ≤ room) (hb : 1 ≤ b) : enoughR xs b room = true := by
  cases xs with
  | nil => simp at h1
  | cons x r =>
    rw [List.sum_cons] at hs
    have hpos := plans_one (room := room) r (fun y hy => h0 y (List.mem_cons_of_mem _ hy)) [((0 : Nat) : Int)] x (by omega)
    obtain ⟨p, hp, hp1⟩ := hpos
    refine List.any_eq_true.2 ⟨p, ?_, by rw [decide_eq_true_iff]; omega⟩
    have hr0 : 0 ≤ r.sum := by
      have : ∀ ys : List Int, (∀ y ∈ ys, 0 ≤ y) → 0 ≤ ys.sum := by
        intro ys
        induction ys with
        | nil => intro _; simp
        | cons y ys ih =>
          intro hy
          have h1 := hy y List.mem_cons_self
          have h2 := ih fun z hz => hy z (List.mem_cons_of_mem _ hz)
          rw [List.sum_cons]
          omega
      exact this r fun y hy => h0 y (List.mem_cons_of_mem _ hy)
    unfold allP
    rw [plansL]
    refine List.mem_flatMap.2 ⟨0, List.mem_range.2 (by simp), ?_⟩
    rw [if_pos (by simp [List.getD]; omega)]
    simpa [addTo] using hp

/-- How much more room than the greatest thing is looked at. -/
def overOf (xs : List Int) : Nat := (xs.sum - mostOf xs).toNat
/-- The least room for so many boxes. -/
def leastR (xs : List Int) (b : Int) : Int := mostOf xs + ((((List.range (overOf xs + 1)).find? fun i => enoughR xs b (mostOf xs + (i : Nat))).getD 0 : Nat) : Int)

theorem leastR_eq {xs : List Int} {b : Int} {i : Nat} (hi : i ≤ overOf xs) (h1 : enoughR xs b (mostOf xs + (i : Nat)) = true) (h2 : ∀ j : Nat, j < i → enoughR xs b (mostOf xs + (j : Nat)) = false) :
    leastR xs b = mostOf xs + (i : Nat) := by
  have : (List.range (overOf xs + 1)).find? (fun i => enoughR xs b (mostOf xs + (i : Nat))) = some i := by
    rw [List.find?_range_eq_some]
    exact ⟨h1, by simp; omega, fun j hj => by simp [h2 j hj]⟩
  unfold leastR
  rw [this]
  rfl
end Go.Proofs.Ytplohhmggfifkab
