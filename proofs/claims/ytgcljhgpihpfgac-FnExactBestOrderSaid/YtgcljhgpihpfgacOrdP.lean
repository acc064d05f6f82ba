/-
  The least number that was not used yet; how many orders there are.
  Conditions: none.
-/
import Derived.Test.YtgcljhgpihpfgacOrdM
namespace Go.Proofs.Ytgcljhgpihpfgac
set_option linter.unusedVariables false

theorem drop_more {a : Int} {t : List Int} (h : Up t) : ∀ y ∈ t.dropWhile (fun y => decide (y ≤ a)), a < y := by
  intro y hy
  have hu := up_drop (fun y => decide (y ≤ a)) h
  cases e : t.dropWhile (fun y => decide (y ≤ a)) with
  | nil => rw [e] at hy; cases hy
  | cons b D =>
    have hb := drop_head e
    simp at hb
    rw [e] at hy hu
    rcases List.mem_cons.1 hy with rfl | hy
    · omega
    · have := (List.pairwise_cons.1 hu).1 y hy; omega
theorem upV_mem : ∀ {m : Nat} {S : List Int}, Up S → S.length ≤ m → ∀ x, x ∈ upV m S ↔ x ∈ S
  | 0, S, _, h, x => by
    rw [List.length_eq_zero_iff.1 (Nat.le_zero.1 h)]
    exact Iff.rfl
  | m + 1, [], _, _, x => Iff.rfl
  | m + 1, a :: t, hu, h, x => by
    have ht := up_tail hu
    have hl := (List.dropWhile_sublist (l := t) (fun y => decide (y ≤ a))).length_le
    have ih := upV_mem (m := m) (up_drop (fun y => decide (y ≤ a)) ht) (by simp at h; omega) x
    rw [upV, List.mem_cons, List.mem_cons, ih]
    constructor
    · rintro (h1 | h1)
      · exact .inl h1
      · exact .inr ((List.dropWhile_sublist _).subset h1)
    · rintro (h1 | h1)
      · exact .inl h1
      · rw [← List.takeWhile_append_dropWhile (p := fun y => decide (y ≤ a)) (l := t)] at h1
        rcases List.mem_append.1 h1 with h2 | h2
        · have h3 := take_mem h2
          simp at h3
          have h4 := (List.pairwise_cons.1 hu).1 x ((List.takeWhile_sublist _).subset h2)
          exact .inl (by omega)
        · exact .inr h2
theorem upV_strict : ∀ {m : Nat} {S : List Int}, Up S → (upV m S).Pairwise (· < ·)
  | 0, S, _ => List.Pairwise.nil
  | m + 1, [], _ => List.Pairwise.nil
  | m + 1, a :: t, hu => by
    have ht := up_tail hu
    rw [upV]
    refine List.pairwise_cons.2 ⟨fun y hy => ?_, upV_strict (up_drop _ ht)⟩
    have hy2 : y ∈ t.dropWhile (fun y => decide (y ≤ a)) := upV_sub hy
    exact drop_more ht y hy2
where upV_sub : ∀ {m : Nat} {S : List Int} {y : Int}, y ∈ upV m S → y ∈ S
  | 0, S, y, h => by cases h
  | m + 1, [], y, h => by cases h
  | m + 1, a :: t, y, h => by
    rw [upV] at h
    rcases List.mem_cons.1 h with rfl | h
    · simp
    · exact List.mem_cons_of_mem _ ((List.dropWhile_sublist _).subset (upV_sub h))
theorem upV_len : ∀ {m : Nat} {S : List Int}, (upV m S).length ≤ m
  | 0, S => Nat.le_refl _
  | m + 1, [] => Nat.zero_le _
  | m + 1, a :: t => by rw [upV, List.length_cons]; have := upV_len (m := m) (S := t.dropWhile fun y => decide (y ≤ a)); omega

/-- The different numbers of a list, rising. -/
def vals7 (L : List Int) : List Int := upV L.length (srt L)
theorem vals7_mem (L : List Int) (x : Int) : x ∈ vals7 L ↔ x ∈ L := by
  unfold vals7
  rw [upV_mem (srt_up L) (by rw [(srt_perm L).length_eq]; exact Nat.le_refl _), (srt_perm L).mem_iff]
theorem vals7_strict (L : List Int) : (vals7 L).Pairwise (· < ·) := upV_strict (srt_up L)
theorem vals7_len (L : List Int) : (vals7 L).length ≤ L.length := upV_len
theorem vals7_next {L : List Int} {k : Nat} {v : Int} (h : (vals7 L)[k]? = some v) : v ∈ L ∧ v ∉ (vals7 L).take k ∧ ∀ x ∈ L, x ∉ (vals7 L).take k → v ≤ x := by
  have hs := List.pairwise_iff_getElem.1 (vals7_strict L)
  obtain ⟨hk, he⟩ := List.getElem?_eq_some_iff.1 h
  refine ⟨(vals7_mem L v).1 (List.mem_of_getElem? h), fun hm => ?_, fun x hx hn => ?_⟩
  · obtain ⟨i, hi, e⟩ := List.mem_iff_getElem.1 hm
    rw [List.length_take] at hi
    rw [List.getElem_take] at e
    have := hs i k (by omega) hk (by omega)
    omega
  · obtain ⟨i, hi, e⟩ := List.mem_iff_getElem.1 ((vals7_mem L x).2 hx)
    rcases Nat.lt_or_ge i k with h1 | h1
    · exact absurd (List.mem_iff_getElem.2 ⟨i, by rw [List.length_take]; omega, by rw [List.getElem_take]; exact e⟩) hn
    · rcases Nat.lt_or_ge k i with h2 | h2
      · have := hs k i hk hi h2; omega
      · have : i = k := by omega
        subst this
        omega
theorem vals7_end {L : List Int} {k : Nat} (h : (vals7 L).length ≤ k) : ∀ x ∈ L, x ∈ (vals7 L).take k := by
  intro x hx
  rw [List.take_of_length_le h]
  exact (vals7_mem L x).2 hx

/-- Place 'b' holds the least number that was not used, the first of its kind, of the first 'i'. -/
def BestAt (L used : List Int) (i : Nat) (b : Int) : Prop :=
  (b = -1 ∧ ∀ j y, j < i → L[j]? = some y → y ∈ used) ∨ ∃ (j : Nat) (x : Int), b = (j : Int) ∧ j < i ∧ L[j]? = some x ∧ x ∉ used ∧ ∀ k y, k < i → L[k]? = some y → y ∉ used → x ≤ y ∧ (k < j → x < y)
theorem BestAt.zero (L used : List Int) : BestAt L used 0 (-1) := .inl ⟨rfl, fun j y h => absurd h (Nat.not_lt_zero _)⟩
theorem BestAt.skip {L used : List Int} {i : Nat} {b n : Int} (h : BestAt L used i b) (hn : L[i]? = some n) (hu : n ∈ used) : BestAt L used (i + 1) b := by
  rcases h with ⟨rfl, h⟩ | ⟨j, x, rfl, hj, hx, hxu, h⟩
  · refine .inl ⟨rfl, fun k y hk hy => ?_⟩
    rcases Nat.lt_or_ge k i with h1 | h1
    · exact h k y h1 hy
    · obtain rfl : k = i := by omega
      rw [hn] at hy; injection hy with hy; rw [← hy]; exact hu
  · refine .inr ⟨j, x, rfl, by omega, hx, hxu, fun k y hk hy hyu => ?_⟩
    rcases Nat.lt_or_ge k i with h1 | h1
    · exact h k y h1 hy hyu
    · obtain rfl : k = i := by omega
      rw [hn] at hy; injection hy with hy; rw [← hy] at hyu; exact absurd hu hyu
theorem BestAt.first {L used : List Int} {i : Nat} {n : Int} (h : BestAt L used i (-1)) (hn : L[i]? = some n) (hu : n ∉ used) : BestAt L used (i + 1) (i : Int) := by
  rcases h with ⟨_, h⟩ | ⟨j, x, e, _⟩
  · refine .inr ⟨i, n, rfl, by omega, hn, hu, fun k y hk hy hyu => ?_⟩
    rcases Nat.lt_or_ge k i with h1 | h1
    · exact absurd (h k y h1 hy) hyu
    · obtain rfl : k = i := by omega
      rw [hn] at hy; injection hy with hy; exact ⟨by omega, fun h => absurd h (by omega)⟩
  · omega
theorem BestAt.less {L used : List Int} {i j : Nat} {n x : Int} (h : BestAt L used i (j : Int)) (hn : L[i]? = some n) (hu : n ∉ used) (hx : L[j]? = some x) (hlt : n < x) : BestAt L used (i + 1) (i : Int) := by
  rcases h with ⟨e, _⟩ | ⟨j', x', e, hj, hx', hxu, h⟩
  · omega
  · obtain rfl : j = j' := by omega
    rw [hx] at hx'; injection hx' with hx'; subst hx'
    refine .inr ⟨i, n, rfl, by omega, hn, hu, fun k y hk hy hyu => ?_⟩
    rcases Nat.lt_or_ge k i with h1 | h1
    · have := (h k y h1 hy hyu).1
      exact ⟨by omega, fun _ => by omega⟩
    · obtain rfl : k = i := by omega
      rw [hn] at hy; injection hy with hy; exact ⟨by omega, fun h => absurd h (by omega)⟩
theorem BestAt.stay {L used : List Int} {i j : Nat} {n x : Int} (h : BestAt L used i (j : Int)) (hn : L[i]? = some n) (hx : L[j]? = some x) (hge : ¬ n < x) : BestAt L used (i + 1) (j : Int) := by
  rcases h with ⟨e, _⟩ | ⟨j', x', e, hj, hx', hxu, h⟩
  · omega
  · obtain rfl : j = j' := by omega
    rw [hx] at hx'; injection hx' with hx'; subst hx'
    refine .inr ⟨j, x, rfl, by omega, hx, hxu, fun k y hk hy hyu => ?_⟩
    rcases Nat.lt_or_ge k i with h1 | h1
    · exact h k y h1 hy hyu
    · obtain rfl : k = i := by omega
      rw [hn] at hy; injection hy with hy; exact ⟨by omega, fun h => absurd h (by omega)⟩
theorem BestAt.end_ {L : List Int} {k : Nat} {v : Int} {i : Nat} {b : Int} (h : BestAt L ((vals7 L).take k) i b) (hi : i = L.length) (hv : (vals7 L)[k]? = some v) :
    ∃ j : Nat, b = (j : Int) ∧ L[j]? = some v ∧ ∀ j', j' < j → L[j']? ≠ some v := by
  obtain ⟨h1, h2, h3⟩ := vals7_next hv
  rcases h with ⟨rfl, h⟩ | ⟨j, x, rfl, hj, hx, hxu, h⟩
  · obtain ⟨i', hi', e⟩ := List.mem_iff_getElem.1 h1
    exact absurd (h i' v (by omega) (by rw [List.getElem?_eq_getElem hi', e])) h2
  · have hvx := h3 x (List.mem_of_getElem? hx) hxu
    obtain ⟨i', hi', e⟩ := List.mem_iff_getElem.1 h1
    have hxv := (h i' v (by omega) (by rw [List.getElem?_eq_getElem hi', e]) h2).1
    obtain rfl : x = v := by omega
    refine ⟨j, rfl, hx, fun j' hj' e' => ?_⟩
    have := (h j' x (by omega) e' hxu).2 hj'
    omega
theorem BestAt.none_ {L : List Int} {k i : Nat} {b : Int} (h : BestAt L ((vals7 L).take k) i b) (hk : (vals7 L).length ≤ k) : b = -1 := by
  rcases h with ⟨rfl, h⟩ | ⟨j, x, rfl, hj, hx, hxu, h⟩
  · rfl
  · exact absurd (vals7_end hk x (List.mem_of_getElem? hx)) hxu
theorem erase_at : ∀ {L : List Int} {j : Nat} {v : Int}, L[j]? = some v → (∀ j', j' < j → L[j']? ≠ some v) → L.erase v = L.take j ++ L.drop (j + 1)
  | [], _, _, h, _ => by simp at h
  | a :: L, 0, v, h, _ => by
    injection h with h; subst h
    simp
  | a :: L, j + 1, v, h, hno => by
    have hne : ¬ a = v := fun e => hno 0 (by omega) (by rw [e]; rfl)
    rw [List.erase_cons_tail (by simpa using hne), erase_at (L := L) (j := j) (by simpa using h) (fun j' hj' e => hno (j' + 1) (by omega) (by simpa using e))]
    rfl

/-- What the first 'k' numbers give. -/
def kidsO (f : Nat) (beg L : List Int) (k : Nat) : List (List Int) := ((vals7 L).take k).flatMap fun v => (ordF f (L.erase v)).map fun l => (beg ++ [v]) ++ l
theorem kidsO_next {f : Nat} {beg L : List Int} {k : Nat} {v : Int} (h : (vals7 L)[k]? = some v) : kidsO f beg L (k + 1) = kidsO f beg L k ++ (ordF f (L.erase v)).map fun l => (beg ++ [v]) ++ l := by
  unfold kidsO
  rw [List.take_add_one, h, List.flatMap_append]
  simp
theorem kidsO_all (f : Nat) (beg L : List Int) {k : Nat} (h : (vals7 L).length ≤ k) : kidsO f beg L k = (ordF (f + 1) L).map fun l => beg ++ l := by
  unfold kidsO
  rw [List.take_of_length_le h, ordF, List.map_flatMap]
  unfold vals7
  congr 1
  funext v
  rw [List.map_map]
  congr 1
  funext l
  simp
theorem flat_len {α : Type} {g : Int → List α} {b : Nat} : ∀ {U : List Int}, (∀ v ∈ U, (g v).length ≤ b) → (U.flatMap g).length ≤ U.length * b
  | [], _ => by simp
  | a :: U, h => by
    rw [List.flatMap_cons, List.length_append, List.length_cons, Nat.add_mul, Nat.one_mul]
    have h1 := h a (by simp)
    have h2 := flat_len (U := U) fun v hv => h v (by simp [hv])
    omega
theorem ordF_few : ∀ (f : Nat) (L : List Int), L.length ≤ 7 → (ordF f L).length ≤ 7 ^ f
  | 0, _, _ => by simp [ordF]
  | f + 1, L, h => by
    rw [ordF]
    have h1 := flat_len (U := vals7 L) (b := 7 ^ f) (g := fun v => (ordF f (L.erase v)).map (v :: ·)) (fun v _ => by
      rw [List.length_map]
      exact ordF_few f _ (Nat.le_trans (List.erase_sublist.length_le) h))
    have h2 := vals7_len L
    have h3 : (vals7 L).length * 7 ^ f ≤ 7 * 7 ^ f := Nat.mul_le_mul_right _ (by omega)
    rw [Nat.pow_succ, Nat.mul_comm (7 ^ f) 7]
    exact Nat.le_trans h1 h3
theorem kidsO_few {f : Nat} {beg L : List Int} {k : Nat} (hL : L.length ≤ 7) (hf : f ≤ 6) : (kidsO f beg L k).length ≤ 823543 := by
  have h1 := flat_len (U := (vals7 L).take k) (b := 7 ^ f) (g := fun v => (ordF f (L.erase v)).map fun l => (beg ++ [v]) ++ l) (fun v _ => by
    rw [List.length_map]
    exact ordF_few f _ (Nat.le_trans (List.erase_sublist.length_le) hL))
  have h2 : ((vals7 L).take k).length ≤ 7 := by rw [List.length_take]; have := vals7_len L; omega
  have h3 : 7 ^ f ≤ 7 ^ 6 := Nat.pow_le_pow_right (by omega) hf
  have h4 := Nat.mul_le_mul h2 h3
  exact Nat.le_trans h1 (Nat.le_trans h4 (by decide))
end Go.Proofs.Ytgcljhgpihpfgac
