/-
  What boards are worth, by what lesser ones are: the fewest squares, the values by pieces, the ways of cutting; no program is spoken of here.
  Conditions: none.
-/
import Derived.Test.YtjpejhpilfjheaaNum
namespace Go.Proofs.Ytjpejhpilfjheaa
set_option linter.unusedVariables false

/-- What a board is worth by what lesser ones are, so many steps deep. -/
def bdRec (step : (Nat → Nat → Int) → Nat → Nat → Int) : Nat → Nat → Nat → Int
  | 0, _, _ => 0
  | n + 1, a, b => step (bdRec step n) a b
def bdV (step : (Nat → Nat → Int) → Nat → Nat → Int) (a b : Nat) : Int := bdRec step (a + b + 1) a b

/-- A step looks at lesser boards alone. -/
def Loc (step : (Nat → Nat → Int) → Nat → Nat → Int) : Prop :=
  ∀ t t' a b, (∀ a' b', 1 ≤ a' → 1 ≤ b' → a' + b' < a + b → t a' b' = t' a' b') → 1 ≤ a → 1 ≤ b → step t a b = step t' a b

theorem bdRec_same {step : (Nat → Nat → Int) → Nat → Nat → Int} (hl : Loc step) : ∀ n m a b, 1 ≤ a → 1 ≤ b → a + b < n → a + b < m → bdRec step n a b = bdRec step m a b := by
  intro n
  induction n with
  | zero => intro m a b _ _ h; omega
  | succ n ih =>
    intro m a b ha hb h1 h2
    cases m with
    | zero => omega
    | succ m =>
      exact hl _ _ a b (fun a' b' ha' hb' h => ih m a' b' ha' hb' (by omega) (by omega)) ha hb

theorem bdV_eq {step : (Nat → Nat → Int) → Nat → Nat → Int} (hl : Loc step) {a b : Nat} (ha : 1 ≤ a) (hb : 1 ≤ b) : bdV step a b = step (bdV step) a b :=
  hl _ _ a b (fun a' b' ha' hb' h => bdRec_same hl _ _ a' b' ha' hb' h (by omega)) ha hb

/-- Whatever agrees with the step on all boards is that. -/
theorem bdV_same {step : (Nat → Nat → Int) → Nat → Nat → Int} (hl : Loc step) (t : Nat → Nat → Int) : ∀ n a b, a + b ≤ n → 1 ≤ a → 1 ≤ b → (∀ a' b', 1 ≤ a' → 1 ≤ b' → a' + b' ≤ a + b → t a' b' = step t a' b') → t a b = bdV step a b := by
  intro n
  induction n with
  | zero => intro a b h ha; omega
  | succ n ih =>
    intro a b h ha hb ht
    rw [ht a b ha hb (Nat.le_refl _), bdV_eq hl ha hb]
    exact hl _ _ a b (fun a' b' ha' hb' h' => ih a' b' (by omega) ha' hb' (fun a'' b'' h1 h2 h3 => ht a'' b'' h1 h2 (by omega))) ha hb

/-- The cuts of a board: upright ones, then level ones, those with a lesser first part before others. -/
def cutsL (a b : Nat) : List ((Nat × Nat) × (Nat × Nat)) :=
  ((List.range (a - 1)).map fun k => ((k + 1, b), (a - (k + 1), b))) ++ ((List.range (b - 1)).map fun k => ((a, k + 1), (a, b - (k + 1))))
/-- The same, a first part not greater than the other. -/
def halfL (a b : Nat) : List ((Nat × Nat) × (Nat × Nat)) :=
  ((List.range (a / 2)).map fun k => ((k + 1, b), (a - (k + 1), b))) ++ ((List.range (b / 2)).map fun k => ((a, k + 1), (a, b - (k + 1))))

theorem mem_cutsL {a b : Nat} {c : (Nat × Nat) × (Nat × Nat)} : c ∈ cutsL a b ↔ (∃ k, 1 ≤ k ∧ k < a ∧ c = ((k, b), (a - k, b))) ∨ ∃ k, 1 ≤ k ∧ k < b ∧ c = ((a, k), (a, b - k)) := by
  simp only [cutsL, List.mem_append, List.mem_map, List.mem_range]
  constructor
  · rintro (⟨k, h, rfl⟩ | ⟨k, h, rfl⟩)
    · exact .inl ⟨k + 1, by omega, by omega, rfl⟩
    · exact .inr ⟨k + 1, by omega, by omega, rfl⟩
  · rintro (⟨k, h, h2, rfl⟩ | ⟨k, h, h2, rfl⟩)
    · exact .inl ⟨k - 1, by omega, by rw [show k - 1 + 1 = k by omega]⟩
    · exact .inr ⟨k - 1, by omega, by rw [show k - 1 + 1 = k by omega]⟩
theorem mem_halfL {a b : Nat} {c : (Nat × Nat) × (Nat × Nat)} : c ∈ halfL a b ↔ (∃ k, 1 ≤ k ∧ 2 * k ≤ a ∧ c = ((k, b), (a - k, b))) ∨ ∃ k, 1 ≤ k ∧ 2 * k ≤ b ∧ c = ((a, k), (a, b - k)) := by
  simp only [halfL, List.mem_append, List.mem_map, List.mem_range]
  constructor
  · rintro (⟨k, h, rfl⟩ | ⟨k, h, rfl⟩)
    · exact .inl ⟨k + 1, by omega, by omega, rfl⟩
    · exact .inr ⟨k + 1, by omega, by omega, rfl⟩
  · rintro (⟨k, h, h2, rfl⟩ | ⟨k, h, h2, rfl⟩)
    · exact .inl ⟨k - 1, by omega, by rw [show k - 1 + 1 = k by omega]⟩
    · exact .inr ⟨k - 1, by omega, by rw [show k - 1 + 1 = k by omega]⟩
theorem cut_less {a b : Nat} {c : (Nat × Nat) × (Nat × Nat)} (h : c ∈ cutsL a b) (ha : 1 ≤ a) (hb : 1 ≤ b) : (1 ≤ c.1.1 ∧ 1 ≤ c.1.2 ∧ c.1.1 + c.1.2 < a + b ∧ c.1.1 ≤ a ∧ c.1.2 ≤ b) ∧ 1 ≤ c.2.1 ∧ 1 ≤ c.2.2 ∧ c.2.1 + c.2.2 < a + b ∧ c.2.1 ≤ a ∧ c.2.2 ≤ b := by
  rcases mem_cutsL.1 h with ⟨k, h1, h2, rfl⟩ | ⟨k, h1, h2, rfl⟩
  · simp only []; omega
  · simp only []; omega
theorem half_cut {a b : Nat} {c : (Nat × Nat) × (Nat × Nat)} (h : c ∈ halfL a b) : c ∈ cutsL a b := by
  rcases mem_halfL.1 h with ⟨k, h1, h2, rfl⟩ | ⟨k, h1, h2, rfl⟩
  · exact mem_cutsL.2 (.inl ⟨k, h1, by omega, rfl⟩)
  · exact mem_cutsL.2 (.inr ⟨k, h1, by omega, rfl⟩)

/-- What the two parts of a cut are worth together. -/
def sumT (t : Nat → Nat → Int) (c : (Nat × Nat) × (Nat × Nat)) : Int := t c.1.1 c.1.2 + t c.2.1 c.2.2
theorem sumT_same {t t' : Nat → Nat → Int} {a b : Nat} (h : ∀ a' b', 1 ≤ a' → 1 ≤ b' → a' + b' < a + b → t a' b' = t' a' b') (ha : 1 ≤ a) (hb : 1 ≤ b) {c : (Nat × Nat) × (Nat × Nat)} (hc : c ∈ cutsL a b) : sumT t c = sumT t' c := by
  have := cut_less hc ha hb
  rw [sumT, sumT, h _ _ this.1.1 this.1.2.1 this.1.2.2.1, h _ _ this.2.1 this.2.2.1 this.2.2.2.1]
/-- Each cut has its mirror among the half ones. -/
theorem cut_half {a b : Nat} (t : Nat → Nat → Int) {c : (Nat × Nat) × (Nat × Nat)} (h : c ∈ cutsL a b) : ∃ d ∈ halfL a b, sumT t d = sumT t c := by
  rcases mem_cutsL.1 h with ⟨k, h1, h2, rfl⟩ | ⟨k, h1, h2, rfl⟩
  · by_cases h3 : 2 * k ≤ a
    · exact ⟨_, mem_halfL.2 (.inl ⟨k, h1, h3, rfl⟩), rfl⟩
    · refine ⟨_, mem_halfL.2 (.inl ⟨a - k, by omega, by omega, rfl⟩), ?_⟩
      simp only [sumT]
      rw [show a - (a - k) = k by omega]
      omega
  · by_cases h3 : 2 * k ≤ b
    · exact ⟨_, mem_halfL.2 (.inr ⟨k, h1, h3, rfl⟩), rfl⟩
    · refine ⟨_, mem_halfL.2 (.inr ⟨b - k, by omega, by omega, rfl⟩), ?_⟩
      simp only [sumT]
      rw [show b - (b - k) = k by omega]
      omega

def leastL (x : Int) (xs : List Int) : Int := xs.foldl min x
def mostL (x : Int) (xs : List Int) : Int := xs.foldl max x
theorem leastL_le (xs : List Int) : ∀ x, leastL x xs ≤ x ∧ ∀ y ∈ xs, leastL x xs ≤ y := by
  induction xs with
  | nil => intro x; simp [leastL]
  | cons z zs ih =>
    intro x
    have h := ih (min x z)
    simp only [leastL, List.foldl_cons] at *
    refine ⟨by omega, fun y hy => ?_⟩
    rcases List.mem_cons.1 hy with rfl | hy
    · omega
    · exact h.2 y hy
theorem leastL_mem (xs : List Int) : ∀ x, leastL x xs = x ∨ leastL x xs ∈ xs := by
  induction xs with
  | nil => intro x; simp [leastL]
  | cons z zs ih =>
    intro x
    rcases ih (min x z) with h | h
    · simp only [leastL, List.foldl_cons, List.mem_cons] at *
      rw [h]
      omega
    · simp only [leastL, List.foldl_cons, List.mem_cons] at *
      exact .inr (.inr h)
theorem mostL_ge (xs : List Int) : ∀ x, x ≤ mostL x xs ∧ ∀ y ∈ xs, y ≤ mostL x xs := by
  induction xs with
  | nil => intro x; simp [mostL]
  | cons z zs ih =>
    intro x
    have h := ih (max x z)
    simp only [mostL, List.foldl_cons] at *
    refine ⟨by omega, fun y hy => ?_⟩
    rcases List.mem_cons.1 hy with rfl | hy
    · omega
    · exact h.2 y hy
theorem mostL_mem (xs : List Int) : ∀ x, mostL x xs = x ∨ mostL x xs ∈ xs := by
  induction xs with
  | nil => intro x; simp [mostL]
  | cons z zs ih =>
    intro x
    rcases ih (max x z) with h | h
    · simp only [mostL, List.foldl_cons, List.mem_cons] at *
      rw [h]
      omega
    · simp only [mostL, List.foldl_cons, List.mem_cons] at *
      exact .inr (.inr h)
theorem leastL_same {x : Int} {xs ys : List Int} (h : ∀ y, y ∈ xs ↔ y ∈ ys) : leastL x xs = leastL x ys := by
  have h1 := leastL_le xs x
  have h2 := leastL_le ys x
  rcases leastL_mem xs x with h3 | h3 <;> rcases leastL_mem ys x with h4 | h4
  · omega
  · have := h1.2 _ ((h _).2 h4); omega
  · have := h2.2 _ ((h _).1 h3); omega
  · have := h2.2 _ ((h _).1 h3); have := h1.2 _ ((h _).2 h4); omega
theorem mostL_same {x : Int} {xs ys : List Int} (h : ∀ y, y ∈ xs ↔ y ∈ ys) : mostL x xs = mostL x ys := by
  have h1 := mostL_ge xs x
  have h2 := mostL_ge ys x
  rcases mostL_mem xs x with h3 | h3 <;> rcases mostL_mem ys x with h4 | h4
  · omega
  · have := h1.2 _ ((h _).2 h4); omega
  · have := h2.2 _ ((h _).1 h3); omega
  · have := h2.2 _ ((h _).1 h3); have := h1.2 _ ((h _).2 h4); omega
theorem half_all (t : Nat → Nat → Int) (a b : Nat) (y : Int) : y ∈ (halfL a b).map (sumT t) ↔ y ∈ (cutsL a b).map (sumT t) := by
  simp only [List.mem_map]
  constructor
  · rintro ⟨c, hc, rfl⟩; exact ⟨c, half_cut hc, rfl⟩
  · rintro ⟨c, hc, rfl⟩
    obtain ⟨d, hd, e⟩ := cut_half t hc
    exact ⟨d, hd, e⟩

/-- The fewest squares: the written program's step, and the given one's. -/
def fewI (t : Nat → Nat → Int) (a b : Nat) : Int := if a = b then 1 else leastL ((a * b : Nat) : Int) ((cutsL a b).map (sumT t))
def fewS (t : Nat → Nat → Int) (a b : Nat) : Int := leastL (if a = b then 1 else ((a * b : Nat) : Int)) ((halfL a b).map (sumT t))
theorem map_same {t t' : Nat → Nat → Int} {a b : Nat} (h : ∀ a' b', 1 ≤ a' → 1 ≤ b' → a' + b' < a + b → t a' b' = t' a' b') (ha : 1 ≤ a) (hb : 1 ≤ b) : (cutsL a b).map (sumT t) = (cutsL a b).map (sumT t') :=
  List.map_congr_left fun c hc => sumT_same h ha hb hc
theorem fewI_loc : Loc fewI := by
  intro t t' a b h ha hb
  simp only [fewI, map_same h ha hb]
/-- The fewest squares of a board. -/
def fewB (a b : Nat) : Int := bdV fewI a b
theorem fewB_eq {a b : Nat} (ha : 1 ≤ a) (hb : 1 ≤ b) : fewB a b = fewI fewB a b := bdV_eq fewI_loc ha hb
theorem prod_posB {a b : Nat} (ha : 1 ≤ a) (hb : 1 ≤ b) : 1 ≤ a * b := Nat.mul_pos ha hb
theorem fewB_one : ∀ n a b, a + b ≤ n → 1 ≤ a → 1 ≤ b → 1 ≤ fewB a b ∧ fewB a b ≤ ((a * b : Nat) : Int) := by
  intro n
  induction n with
  | zero => intro a b h ha; omega
  | succ n ih =>
    intro a b h ha hb
    have hp := prod_posB ha hb
    rw [fewB_eq ha hb, fewI]
    split
    · omega
    · have h1 := leastL_le ((cutsL a b).map (sumT fewB)) ((a * b : Nat) : Int)
      refine ⟨?_, h1.1⟩
      rcases leastL_mem ((cutsL a b).map (sumT fewB)) ((a * b : Nat) : Int) with h2 | h2
      · omega
      · obtain ⟨c, hc, e⟩ := List.mem_map.1 h2
        have hl := cut_less hc ha hb
        have h3 := ih c.1.1 c.1.2 (by omega) (by omega) (by omega)
        have h4 := ih c.2.1 c.2.2 (by omega) (by omega) (by omega)
        rw [← e, sumT]
        omega
theorem fewB_spec {a b : Nat} (ha : 1 ≤ a) (hb : 1 ≤ b) : fewB a b = fewS fewB a b := by
  rw [fewB_eq ha hb, fewI, fewS, leastL_same (half_all fewB a b)]
  split
  · have h1 := leastL_le ((cutsL a b).map (sumT fewB)) 1
    rcases leastL_mem ((cutsL a b).map (sumT fewB)) 1 with h2 | h2
    · exact h2.symm
    · obtain ⟨c, hc, e⟩ := List.mem_map.1 h2
      have hl := cut_less hc ha hb
      have h3 := fewB_one _ c.1.1 c.1.2 (Nat.le_refl _) (by omega) (by omega)
      have h4 := fewB_one _ c.2.1 c.2.2 (Nat.le_refl _) (by omega) (by omega)
      rw [sumT] at e
      omega
  · rfl

/-- A board is just a piece. -/
def isP (a b : Nat) (p : Int × Int × Int) (tu : Bool) : Bool := ((a : Int) == p.1 && (b : Int) == p.2.1) || (tu && ((a : Int) == p.2.1 && (b : Int) == p.1))
/-- The greatest Value of the pieces that a board is. -/
def pcV (ps : List (Int × Int × Int)) (tu : Bool) (a b : Nat) : Int := ps.foldl (fun m p => if isP a b p tu then max m p.2.2 else m) 0
def valI (ps : List (Int × Int × Int)) (tu : Bool) (t : Nat → Nat → Int) (a b : Nat) : Int := mostL (pcV ps tu a b) ((cutsL a b).map (sumT t))
def valS (ps : List (Int × Int × Int)) (tu : Bool) (t : Nat → Nat → Int) (a b : Nat) : Int := mostL (pcV ps tu a b) ((halfL a b).map (sumT t))
theorem valI_loc (ps : List (Int × Int × Int)) (tu : Bool) : Loc (valI ps tu) := by
  intro t t' a b h ha hb
  simp only [valI, map_same h ha hb]
/-- The value of a board. -/
def valB (ps : List (Int × Int × Int)) (tu : Bool) (a b : Nat) : Int := bdV (valI ps tu) a b
theorem valB_eq (ps : List (Int × Int × Int)) (tu : Bool) {a b : Nat} (ha : 1 ≤ a) (hb : 1 ≤ b) : valB ps tu a b = valI ps tu (valB ps tu) a b := bdV_eq (valI_loc ps tu) ha hb
theorem valB_spec (ps : List (Int × Int × Int)) (tu : Bool) {a b : Nat} (ha : 1 ≤ a) (hb : 1 ≤ b) : valB ps tu a b = valS ps tu (valB ps tu) a b := by
  rw [valB_eq ps tu ha hb, valI, valS, mostL_same (half_all (valB ps tu) a b)]
theorem pcV_fold_bd {tu : Bool} {a b : Nat} {ps : List (Int × Int × Int)} (h : ∀ p ∈ ps, 0 ≤ p.2.2 ∧ p.2.2 ≤ 1000) : ∀ m : Int, 0 ≤ m → m ≤ 1000 → 0 ≤ ps.foldl (fun m p => if isP a b p tu then max m p.2.2 else m) m ∧ ps.foldl (fun m p => if isP a b p tu then max m p.2.2 else m) m ≤ 1000 := by
  induction ps with
  | nil => intro m h0 h1; exact ⟨h0, h1⟩
  | cons p ps ih =>
    intro m h0 h1
    have hp := h p List.mem_cons_self
    simp only [List.foldl_cons]
    apply ih (fun q hq => h q (List.mem_cons_of_mem _ hq))
    · split <;> omega
    · split <;> omega
theorem pcV_bd {ps : List (Int × Int × Int)} (h : ∀ p ∈ ps, 0 ≤ p.2.2 ∧ p.2.2 ≤ 1000) (tu : Bool) (a b : Nat) : 0 ≤ pcV ps tu a b ∧ pcV ps tu a b ≤ 1000 := pcV_fold_bd h 0 (by omega) (by omega)
theorem valB_bd {ps : List (Int × Int × Int)} (h : ∀ p ∈ ps, 0 ≤ p.2.2 ∧ p.2.2 ≤ 1000) (tu : Bool) : ∀ n a b, a + b ≤ n → 1 ≤ a → 1 ≤ b → 0 ≤ valB ps tu a b ∧ valB ps tu a b ≤ 1000 * ((a * b : Nat) : Int) := by
  intro n
  induction n with
  | zero => intro a b h ha; omega
  | succ n ih =>
    intro a b hab ha hb
    have hp := prod_posB ha hb
    have hpc := pcV_bd h tu a b
    rw [valB_eq ps tu ha hb, valI]
    have h1 := mostL_ge ((cutsL a b).map (sumT (valB ps tu))) (pcV ps tu a b)
    refine ⟨by omega, ?_⟩
    rcases mostL_mem ((cutsL a b).map (sumT (valB ps tu))) (pcV ps tu a b) with h2 | h2
    · omega
    · obtain ⟨c, hc, e⟩ := List.mem_map.1 h2
      rw [← e, sumT]
      rcases mem_cutsL.1 hc with ⟨k, k1, k2, rfl⟩ | ⟨k, k1, k2, rfl⟩
      · have h3 := ih k b (by omega) (by omega) (by omega)
        have h4 := ih (a - k) b (by omega) (by omega) (by omega)
        have e2 : a * b = k * b + (a - k) * b := by rw [← Nat.add_mul]; congr 1; omega
        simp only []
        rw [e2]
        push_cast
        omega
      · have h3 := ih a k (by omega) (by omega) (by omega)
        have h4 := ih a (b - k) (by omega) (by omega) (by omega)
        have e2 : a * b = a * k + a * (b - k) := by rw [← Nat.mul_add]; congr 1; omega
        simp only []
        rw [e2]
        push_cast
        omega

/-- Products and sums of ways, capped. -/
def capI (x y : Int) : Int := if 1000000000000001 / y < x then 1000000000000001 else x * y
def capS (x y : Int) : Int := if 0 < x ∧ 1000000000000000 / x < y then 1000000000000001 else x * y
def wayF (cap : Int → Int → Int) (t : Nat → Nat → Int) (s : Int) (cs : List ((Nat × Nat) × (Nat × Nat))) : Int := cs.foldl (fun s c => min (s + cap (t c.1.1 c.1.2) (t c.2.1 c.2.2)) 1000000000000001) s
def wayI (t : Nat → Nat → Int) (a b : Nat) : Int := if a = 1 ∧ b = 1 then 1 else wayF capI t 0 (cutsL a b)
def wayS (t : Nat → Nat → Int) (a b : Nat) : Int := wayF capS t (if a = 1 ∧ b = 1 then 1 else 0) (cutsL a b)
def WayOk (x : Int) : Prop := 1 ≤ x ∧ x ≤ 1000000000000001
theorem cap_same {x y : Int} (hx : WayOk x) (hy : WayOk y) : capI x y = capS x y ∧ WayOk (capI x y) := by
  obtain ⟨hx1, hx2⟩ := hx
  obtain ⟨hy1, hy2⟩ := hy
  have e1 : (1000000000000001 / y < x) ↔ 1000000000000001 < x * y := by
    rw [Int.ediv_lt_iff_lt_mul (by omega)]
  have e2 : (1000000000000000 / x < y) ↔ 1000000000000000 < x * y := by
    rw [Int.ediv_lt_iff_lt_mul (by omega), Int.mul_comm]
  have hp : 1 ≤ x * y := Int.mul_pos (by omega) (by omega)
  simp only [capI, capS, e1, e2, WayOk]
  obtain ⟨m, hm⟩ : ∃ m, x * y = m := ⟨_, rfl⟩
  rw [hm] at hp ⊢
  split <;> split <;> omega
theorem wayF_same {cap cap' : Int → Int → Int} {t t' : Nat → Nat → Int} {cs : List ((Nat × Nat) × (Nat × Nat))} (h : ∀ c ∈ cs, cap (t c.1.1 c.1.2) (t c.2.1 c.2.2) = cap' (t' c.1.1 c.1.2) (t' c.2.1 c.2.2)) : ∀ s, wayF cap t s cs = wayF cap' t' s cs := by
  induction cs with
  | nil => intro s; rfl
  | cons c cs ih =>
    intro s
    have := ih (fun d hd => h d (List.mem_cons_of_mem _ hd))
    simp only [wayF, List.foldl_cons] at *
    rw [h c List.mem_cons_self]
    exact this _
theorem wayI_loc : Loc wayI := by
  intro t t' a b h ha hb
  simp only [wayI]
  split
  · rfl
  · exact wayF_same (fun c hc => by have := cut_less hc ha hb; rw [h _ _ this.1.1 this.1.2.1 this.1.2.2.1, h _ _ this.2.1 this.2.2.1 this.2.2.2.1]) 0
def wayB (a b : Nat) : Int := bdV wayI a b
theorem wayB_eq {a b : Nat} (ha : 1 ≤ a) (hb : 1 ≤ b) : wayB a b = wayI wayB a b := bdV_eq wayI_loc ha hb
theorem wayF_ok {t : Nat → Nat → Int} {cs : List ((Nat × Nat) × (Nat × Nat))} (h : ∀ c ∈ cs, WayOk (t c.1.1 c.1.2) ∧ WayOk (t c.2.1 c.2.2)) : ∀ s, 0 ≤ s → s ≤ 1000000000000001 → (cs ≠ [] ∨ 1 ≤ s) → WayOk (wayF capI t s cs) := by
  induction cs with
  | nil => intro s h0 h1 h2; simp at h2; exact ⟨h2, h1⟩
  | cons c cs ih =>
    intro s h0 h1 _
    have hc := h c List.mem_cons_self
    have hk := (cap_same hc.1 hc.2).2
    simp only [wayF, List.foldl_cons] at *
    have h3 : 1 ≤ min (s + capI (t c.1.1 c.1.2) (t c.2.1 c.2.2)) 1000000000000001 ∧ min (s + capI (t c.1.1 c.1.2) (t c.2.1 c.2.2)) 1000000000000001 ≤ 1000000000000001 := by
      simp only [WayOk] at hk
      omega
    exact ih (fun d hd => h d (List.mem_cons_of_mem _ hd)) _ (by omega) h3.2 (.inr h3.1)
theorem cutsL_some {a b : Nat} (h : ¬ (a = 1 ∧ b = 1)) (ha : 1 ≤ a) (hb : 1 ≤ b) : cutsL a b ≠ [] := by
  intro e
  by_cases h1 : a = 1
  · have : (((a, 1), (a, b - 1)) : (Nat × Nat) × (Nat × Nat)) ∈ cutsL a b := mem_cutsL.2 (.inr ⟨1, by omega, by omega, rfl⟩)
    rw [e] at this; cases this
  · have : (((1, b), (a - 1, b)) : (Nat × Nat) × (Nat × Nat)) ∈ cutsL a b := mem_cutsL.2 (.inl ⟨1, by omega, by omega, rfl⟩)
    rw [e] at this; cases this
theorem wayB_ok : ∀ n a b, a + b ≤ n → 1 ≤ a → 1 ≤ b → WayOk (wayB a b) := by
  intro n
  induction n with
  | zero => intro a b h ha; omega
  | succ n ih =>
    intro a b h ha hb
    rw [wayB_eq ha hb, wayI]
    split
    · exact ⟨by omega, by omega⟩
    · rename_i h1
      refine wayF_ok (fun c hc => ?_) 0 (by omega) (by omega) (.inl (cutsL_some h1 ha hb))
      have hl := cut_less hc ha hb
      exact ⟨ih _ _ (by omega) hl.1.1 hl.1.2.1, ih _ _ (by omega) hl.2.1 hl.2.2.1⟩
theorem wayB_spec {a b : Nat} (ha : 1 ≤ a) (hb : 1 ≤ b) : wayB a b = wayS wayB a b := by
  rw [wayB_eq ha hb, wayI, wayS]
  split
  · rename_i h1
    obtain ⟨rfl, rfl⟩ := h1
    rfl
  · refine wayF_same (fun c hc => ?_) 0
    have hl := cut_less hc ha hb
    exact (cap_same (wayB_ok _ _ _ (Nat.le_refl _) hl.1.1 hl.1.2.1) (wayB_ok _ _ _ (Nat.le_refl _) hl.2.1 hl.2.2.1)).1
end Go.Proofs.Ytjpejhpilfjheaa
