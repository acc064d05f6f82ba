/-
  Loadings as lists of digits: sorted ones, places, ways of tours; no program is spoken of here.
  Conditions: none.
-/
import Derived.Test.YtgcljhgpihpfgabInsG
namespace Go.Proofs.Ytgcljhgpihpfgab
set_option linter.unusedVariables false

/-- A digit for a stop. -/
def ldD (c : UInt8) : Bool := decide (49 ≤ c.toNat) && decide (c.toNat ≤ 57)
/-- A loading. -/
def ldB (l : List UInt8) : Bool := decide (l.length ≤ 12) && l.all ldD
theorem ldD_true {c : UInt8} : ldD c = true ↔ 49 ≤ c.toNat ∧ c.toNat ≤ 57 := by simp [ldD]
theorem ldB_true {l : List UInt8} : ldB l = true ↔ l.length ≤ 12 ∧ ∀ c ∈ l, 49 ≤ c.toNat ∧ c.toNat ≤ 57 := by
  simp only [ldB, Bool.and_eq_true, decide_eq_true_eq, List.all_eq_true, ldD_true]
theorem ldB_take {l : List UInt8} (h : ldB l = true) (k : Nat) : ldB (l.take k) = true := by
  rw [ldB_true] at h ⊢
  exact ⟨by rw [List.length_take]; omega, fun c hc => h.2 c (List.mem_of_mem_take hc)⟩

/-- The numbers of bytes. -/
def u8 (l : List UInt8) : List Int := l.map fun c => (c.toNat : Int)
theorem u8_len (l : List UInt8) : (u8 l).length = l.length := by simp [u8]
theorem u8_at {l : List UInt8} {k : Nat} {c : UInt8} (h : l[k]? = some c) : (u8 l)[k]? = some (c.toNat : Int) := by simp [u8, h]
theorem u8_back (l : List UInt8) : (u8 l).foldl (fun r n => r.push (UInt8.ofNat n.toNat)) ByteArray.empty = ⟨l.toArray⟩ := by
  have h : ∀ (l : List UInt8) (acc : List UInt8), (u8 l).foldl (fun r n => r.push (UInt8.ofNat n.toNat)) (ByteArray.mk acc.toArray) = ⟨(acc ++ l).toArray⟩ := by
    intro l
    induction l with
    | nil => intro acc; simp [u8]
    | cons c l ih =>
      intro acc
      have h2 : ((ByteArray.mk acc.toArray).push (UInt8.ofNat ((c.toNat : Int)).toNat)) = ByteArray.mk (acc ++ [c]).toArray := by
        simp [ByteArray.push]
      simp only [u8, List.map_cons, List.foldl_cons] at ih ⊢
      rw [h2, ih]
      simp
  exact (h l []).trans (by simp)
theorem u8_inj {a b : List UInt8} (h : u8 a = u8 b) : a = b := by
  induction a generalizing b with
  | nil => cases b with
    | nil => rfl
    | cons y b => simp [u8] at h
  | cons x a ih =>
    cases b with
    | nil => simp [u8] at h
    | cons y b =>
      simp only [u8, List.map_cons, List.cons.injEq] at h
      have h1 : x = y := UInt8.toNat_inj.1 (by omega)
      rw [h1, ih (by simpa [u8] using h.2)]

/-- The boxes for one stop. -/
def ofS (k : Nat) (l : List UInt8) : List UInt8 := l.filter fun c => decide (c.toNat = k)
theorem ofS_snoc (k : Nat) (l : List UInt8) (c : UInt8) : ofS k (l ++ [c]) = ofS k l ++ (if c.toNat = k then [c] else []) := by
  simp only [ofS, List.filter_append]
  congr 1
  by_cases h : c.toNat = k <;> simp [h]
/-- Those for the stops '9', '8', .., so many. -/
def srtN : Nat → List UInt8 → List UInt8
  | 0, _ => []
  | n + 1, l => srtN n l ++ ofS (57 - n) l
/-- Later stops first. -/
def srtL (l : List UInt8) : List UInt8 := srtN 9 l
theorem srtN_mem {n : Nat} {l : List UInt8} {c : UInt8} (hn : n ≤ 9) (h : c ∈ srtN n l) : 57 < c.toNat + n ∧ c.toNat ≤ 57 := by
  induction n with
  | zero => simp [srtN] at h
  | succ n ih =>
    rw [srtN] at h
    rcases List.mem_append.1 h with h | h
    · have := ih (by omega) h; omega
    · simp [ofS] at h; omega
theorem srtN_falls {n : Nat} (l : List UInt8) (hn : n ≤ 9) : (srtN n l).Pairwise (fun a b => b.toNat ≤ a.toNat) := by
  induction n with
  | zero => simp [srtN]
  | succ n ih =>
    rw [srtN, List.pairwise_append]
    refine ⟨ih (by omega), ?_, fun a ha b hb => ?_⟩
    · rw [List.pairwise_iff_getElem]
      intro i j hi hj _
      have h1 : (ofS (57 - n) l)[i].toNat = 57 - n := by simpa using (List.mem_filter.1 (List.getElem_mem hi)).2
      have h2 : (ofS (57 - n) l)[j].toNat = 57 - n := by simpa using (List.mem_filter.1 (List.getElem_mem hj)).2
      omega
    · have h1 := srtN_mem (by omega) ha
      simp [ofS] at hb
      omega
theorem srtN_count {n : Nat} (l : List UInt8) (hn : n ≤ 9) (c : UInt8) : (srtN n l).count c = if 57 < c.toNat + n ∧ c.toNat ≤ 57 then l.count c else 0 := by
  induction n with
  | zero => rw [if_neg (by omega)]; simp [srtN]
  | succ n ih =>
    rw [srtN, List.count_append, ih (by omega)]
    have h2 : (ofS (57 - n) l).count c = if c.toNat = 57 - n then l.count c else 0 := by
      by_cases h : c.toNat = 57 - n
      · rw [if_pos h, ofS, List.count_filter (by simpa using h)]
      · rw [if_neg h]
        refine List.count_eq_zero.2 fun hm => ?_
        simp [ofS] at hm
        exact h hm.2
    rw [h2]
    by_cases h : c.toNat = 57 - n
    · rw [if_neg (by omega), if_pos h, if_pos (by omega)]; omega
    · rw [if_neg h]
      by_cases h3 : 57 < c.toNat + n ∧ c.toNat ≤ 57
      · rw [if_pos h3, if_pos (by omega)]; omega
      · rw [if_neg h3, if_neg (by omega)]
theorem srtL_perm {l : List UInt8} (h : ∀ c ∈ l, 49 ≤ c.toNat ∧ c.toNat ≤ 57) : List.Perm (srtL l) l := by
  rw [List.perm_iff_count]
  intro c
  rw [srtL, srtN_count l (Nat.le_refl _)]
  by_cases hc : c ∈ l
  · rw [if_pos (by have := h c hc; omega)]
  · rw [List.count_eq_zero.2 hc]; split <;> rfl
theorem srtL_len {l : List UInt8} (h : ldB l = true) : (srtL l).length = l.length := (srtL_perm (ldB_true.1 h).2).length_eq
theorem srtN_small (n : Nat) (l : List UInt8) (h : l.length ≤ 12) : (srtN n l).length ≤ 12 * n := by
  induction n with
  | zero => simp [srtN]
  | succ n ih =>
    have h2 : (ofS (57 - n) l).length ≤ l.length := List.length_filter_le _ _
    rw [srtN, List.length_append]
    omega

theorem insG_perm (up : Int → Int → Bool) (out : List Int) (b : Int) : List.Perm (insG up out b) (b :: out) := by
  have h : List.Perm (insG up out b) (b :: (out.take (posG up out b out.length) ++ out.drop (posG up out b out.length))) := List.perm_middle
  rwa [List.take_append_drop] at h
theorem sortG_perm (up : Int → Int → Bool) (bs : List Int) : List.Perm (sortG up bs) bs := by
  have h : ∀ (bs acc : List Int), List.Perm (bs.foldl (insG up) acc) (acc ++ bs) := by
    intro bs
    induction bs with
    | nil => intro acc; simp
    | cons b bs ih =>
      intro acc
      rw [List.foldl_cons]
      refine (ih _).trans ?_
      refine ((insG_perm up acc b).append_right bs).trans ?_
      exact (List.perm_middle (l₁ := acc) (a := b) (l₂ := bs)).symm
  exact (h bs []).trans (by simp)
theorem posG_before (out : List Int) (b : Int) : ∀ k, posG upLt out b k = 0 ∨ out.getD (posG upLt out b k - 1) 0 ≤ b := by
  intro k
  induction k with
  | zero => exact .inl rfl
  | succ k ih =>
    rw [posG]
    split
    · exact ih
    · rename_i h
      right
      simp only [upLt, decide_eq_true_eq] at h
      rw [show k + 1 - 1 = k by omega]; omega
theorem posG_behind (out : List Int) (b : Int) : ∀ k, ∀ j, posG upLt out b k ≤ j → j < k → b < out.getD j 0 := by
  intro k
  induction k with
  | zero => intro j _ h; omega
  | succ k ih =>
    intro j h1 h2
    rw [posG] at h1
    split at h1
    · rename_i h3
      by_cases e : j = k
      · subst e; simpa [upLt] using h3
      · exact ih j h1 (by omega)
    · omega
theorem insG_rises {out : List Int} (b : Int) (h : out.Pairwise (fun x y => x ≤ y)) : (insG upLt out b).Pairwise (fun x y => x ≤ y) := by
  obtain ⟨p, hp⟩ : ∃ p, posG upLt out b out.length = p := ⟨_, rfl⟩
  have hle := posG_le upLt out b out.length
  have hbef := posG_before out b out.length
  have hbeh := posG_behind out b out.length
  rw [hp] at hle hbef hbeh
  rw [insG, hp, atG]
  have h0 := h
  rw [← List.take_append_drop p out] at h
  have h' := List.pairwise_append.1 h
  refine List.pairwise_append.2 ⟨h'.1, List.pairwise_cons.2 ⟨fun x hx => ?_, h'.2.1⟩, fun a ha x hx => ?_⟩
  · obtain ⟨j, hj⟩ := List.getElem?_of_mem hx
    rw [List.getElem?_drop] at hj
    have hl := (List.getElem?_eq_some_iff.1 hj).1
    have := hbeh (p + j) (by omega) hl
    simp [List.getD, hj] at this
    omega
  · have hpa : p ≠ 0 := by rintro rfl; simp at ha
    have hax : a ≤ b := by
      obtain ⟨j, hj⟩ := List.getElem?_of_mem ha
      have hjp : j < p := by have := (List.getElem?_eq_some_iff.1 hj).1; rw [List.length_take] at this; omega
      rw [List.getElem?_take_of_lt hjp] at hj
      have hxp : out.getD (p - 1) 0 ≤ b := by rcases hbef with h | h; exact absurd h hpa; exact h
      by_cases e : j = p - 1
      · subst e; simpa [List.getD, hj] using hxp
      · have hg := List.pairwise_iff_getElem.1 h0 j (p - 1) (by omega) (by omega) (by omega)
        obtain ⟨hl, he⟩ := List.getElem?_eq_some_iff.1 hj
        rw [he] at hg
        simp [List.getD, show p - 1 < out.length by omega] at hxp
        omega
    rcases List.mem_cons.1 hx with rfl | hx
    · exact hax
    · exact h'.2.2 a ha x hx
theorem sortG_rises (bs : List Int) : (sortG upLt bs).Pairwise (fun x y => x ≤ y) := by
  have h : ∀ (bs acc : List Int), acc.Pairwise (fun x y => x ≤ y) → (bs.foldl (insG upLt) acc).Pairwise (fun x y => x ≤ y) := by
    intro bs
    induction bs with
    | nil => intro acc h; exact h
    | cons b bs ih => intro acc h; exact ih _ (insG_rises b h)
  exact h bs [] (by simp)
/-- Sorted and turned round. -/
theorem sorted_back {l : List UInt8} (h : ∀ c ∈ l, 49 ≤ c.toNat ∧ c.toNat ≤ 57) : (sortG upLt (u8 l)).reverse = u8 (srtL l) := by
  refine List.Perm.eq_of_pairwise (le := fun x y : Int => y ≤ x) (fun a b _ _ h1 h2 => by omega) ?_ ?_ ?_
  · rw [List.pairwise_reverse]; exact sortG_rises _
  · have h2 := srtN_falls (n := 9) l (Nat.le_refl _)
    unfold u8
    rw [List.pairwise_map]
    exact h2.imp fun h => by omega
  · refine (List.reverse_perm _).trans ((sortG_perm _ _).trans ?_)
    exact ((srtL_perm h).map _).symm

/-- The ways in which a served tour goes on. -/
def waysO (m : Nat) (f : Nat → Nat) : Nat → Nat
  | 0 => m * f 1
  | o + 1 => m * f (o + 2) + waysO m f o
def waysW : Nat → Nat → Nat
  | 0, _ => 1
  | l + 1, o => waysO (l + 1) (waysW l) o
theorem waysW_bd : ∀ l, l ≤ 8 → ∀ o, o ≤ 8 - l → waysW l o ≤ 100000000 := by
  have h : ∀ l : Fin 9, ∀ o : Fin (9 - l), waysW l o ≤ 100000000 := by decide +kernel
  intro l hl o ho
  exact h ⟨l, by omega⟩ ⟨o, by show o < 9 - l; omega⟩
/-- The checking program's product. -/
def prodW : Nat → Nat
  | 0 => 1
  | k + 1 => prodW k * (4 * (k + 1) - 2)
theorem prodW_bd : ∀ k, k ≤ 8 → prodW k ≤ 1000000000 := by
  have h : ∀ k : Fin 9, prodW k ≤ 1000000000 := by decide +kernel
  exact fun k hk => h ⟨k, by omega⟩
theorem ways_same : ∀ k, k ≤ 8 → prodW k / (k + 1) = waysW k 0 := by
  have h : ∀ k : Fin 9, prodW k / (k + 1) = waysW k 0 := by decide +kernel
  exact fun k hk => h ⟨k, by omega⟩

/-- The first place on which a box can be. -/
def fitP (tops : List Int) (c : Int) : Nat := tops.findIdx fun t => decide (c ≤ t)
def putP (tops : List Int) (k : Nat) (c : Int) : List Int := if k = tops.length then tops ++ [c] else tops.set k c
/-- The boxes on top, and the places so far. -/
def plcS (l : List Int) : List Int × List Int := l.foldl (fun s c => (putP s.1 (fitP s.1 c) c, s.2 ++ [((fitP s.1 c : Nat) : Int)])) ([], [])
theorem fitP_le (tops : List Int) (c : Int) : fitP tops c ≤ tops.length := List.findIdx_le_length
theorem putP_len (tops : List Int) (k : Nat) (c : Int) (h : k ≤ tops.length) : (putP tops k c).length = max tops.length (k + 1) := by
  unfold putP
  split
  · rw [List.length_append, List.length_singleton]; omega
  · rw [List.length_set]; omega
theorem plcS_snoc (l : List Int) (c : Int) : plcS (l ++ [c]) = (putP (plcS l).1 (fitP (plcS l).1 c) c, (plcS l).2 ++ [((fitP (plcS l).1 c : Nat) : Int)]) := by
  simp [plcS]
theorem plcS_len (l : List Int) : (plcS l).2.length = l.length ∧ (plcS l).1.length ≤ l.length := by
  have h : ∀ n, ∀ l : List Int, l.length = n → (plcS l).2.length = l.length ∧ (plcS l).1.length ≤ l.length := by
    intro n
    induction n with
    | zero => intro l hl; obtain rfl := List.length_eq_zero_iff.1 hl; simp [plcS]
    | succ n ih =>
      intro l hl
      obtain ⟨m, c, rfl⟩ : ∃ m c, l = m ++ [c] := ⟨l.dropLast, l.getLast (by intro e; simp [e] at hl), (List.dropLast_concat_getLast _).symm⟩
      simp only [List.length_append, List.length_singleton] at hl
      have := ih m (by omega)
      have h2 := fitP_le (plcS m).1 c
      rw [plcS_snoc]
      simp only [List.length_append, List.length_singleton, putP_len _ _ _ h2]
      omega
  exact h _ l rfl
/-- The greatest place is the last one of those that have a box. -/
theorem plcS_most (l : List Int) : ∀ m c, l = m ++ [c] → ((plcS l).2.foldl max 0) + 1 = ((plcS l).1.length : Int) := by
  have h : ∀ n, ∀ l : List Int, l.length = n → 0 < n → ((plcS l).2.foldl max 0) + 1 = ((plcS l).1.length : Int) := by
    intro n
    induction n with
    | zero => intro l _ h; omega
    | succ n ih =>
      intro l hl _
      obtain ⟨m, c, rfl⟩ : ∃ m c, l = m ++ [c] := ⟨l.dropLast, l.getLast (by intro e; simp [e] at hl), (List.dropLast_concat_getLast _).symm⟩
      simp only [List.length_append, List.length_singleton] at hl
      have h2 := fitP_le (plcS m).1 c
      rw [plcS_snoc]
      simp only [List.foldl_append, List.foldl_cons, List.foldl_nil, putP_len _ _ _ h2]
      rcases Nat.eq_zero_or_pos n with rfl | hp
      · obtain rfl : m = [] := List.length_eq_zero_iff.1 (by omega)
        simp only [plcS, List.foldl_nil] at h2 ⊢
        simp only [List.length_nil] at h2 ⊢
        omega
      · have := ih m (by omega) hp
        omega
  intro m c e
  exact h _ l rfl (by rw [e]; simp)
end Go.Proofs.Ytgcljhgpihpfgab
