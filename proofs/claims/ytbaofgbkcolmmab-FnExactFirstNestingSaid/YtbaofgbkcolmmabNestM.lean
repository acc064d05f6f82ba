/-
  Boxes with their sides ordered, what fits into what, nestings; no program is spoken of here.
  Conditions: none.
-/
import Derived.Test.YtbaofgbkcolmmabBoxIn
import Derived.Test.YtbaofgbkcolmmabInsG
namespace Go.Proofs.Ytbaofgbkcolmmab
set_option linter.unusedVariables false
open Go.RowKit

theorem three {xs : List Int} (h : xs.length = 3) : ∃ a b c, xs = [a, b, c] := by
  match xs, h with
  | [a, b, c], _ => exact ⟨a, b, c, rfl⟩

/-- The sides of a box, ordered. -/
def sidesL (b : Int × Int × Int) : List Int := sortG upLt [b.1, b.2.1, b.2.2]
theorem sidesL_length (b : Int × Int × Int) : (sidesL b).length = 3 := by rw [sidesL, sortG_length]; rfl
def s3 (b : Int × Int × Int) : Int × Int × Int := ((sidesL b).getD 0 0, (sidesL b).getD 1 0, (sidesL b).getD 2 0)
theorem s3_eq (b : Int × Int × Int) : sidesL b = [(s3 b).1, (s3 b).2.1, (s3 b).2.2] := by
  obtain ⟨x, y, z, h⟩ := three (sidesL_length b)
  simp [s3, h]

/-- One box fits into another one. -/
def fitT (a b : Int × Int × Int) : Bool := insideB (s3 a) (s3 b)
theorem fitT_lt {a b : Int × Int × Int} (h : fitT a b = true) : (s3 a).1 < (s3 b).1 := by
  unfold fitT insideB at h
  simp only [decide_eq_true_eq] at h
  exact h.1

theorem s3_mem {P : Int → Prop} {b : Int × Int × Int} (h1 : P b.1) (h2 : P b.2.1) (h3 : P b.2.2) : P (s3 b).1 := by
  have hm : ∀ x ∈ sidesL b, P x := sortG_mem (fun x hx => by
    simp only [List.mem_cons, List.not_mem_nil, or_false] at hx
    rcases hx with rfl | rfl | rfl <;> assumption)
  apply hm
  rw [s3_eq]
  simp

theorem s3_bd {b : Int × Int × Int} (h : boxB b = true) : 1 ≤ (s3 b).1 ∧ (s3 b).1 ≤ 50 := by
  rw [boxB_true] at h
  exact s3_mem (P := fun x => 1 ≤ x ∧ x ≤ 50) h.1 h.2.1 h.2.2

/-- Of the boxes the one fits into the other. -/
def fitL (bs : List (Int × Int × Int)) (i j : Nat) : Bool :=
  match bs[i]?, bs[j]? with
  | some a, some b => fitT a b
  | _, _ => false
theorem fitL_at {bs : List (Int × Int × Int)} {i j : Nat} {a b : Int × Int × Int} (h1 : bs[i]? = some a) (h2 : bs[j]? = some b) : fitL bs i j = fitT a b := by rw [fitL, h1, h2]
theorem fitL_self (bs : List (Int × Int × Int)) (i : Nat) : fitL bs i i = false := by
  rcases h : bs[i]? with _ | a
  · rw [fitL, h]
  · rw [fitL_at h h, Bool.eq_false_iff]
    intro hf
    have := fitT_lt hf
    omega

/-- A box may be put into another one, or into none, behind those that were put before. -/
def freeB (bs : List (Int × Int × Int)) (plan : List Int) (i : Nat) (into : Int) : Bool :=
  decide (into = -1) || (decide (0 ≤ into ∧ into < (bs.length : Int)) && (!decide (into ∈ plan)) && fitL bs i into.toNat)

/-- This is a nesting, as far as it goes. -/
def goesB (bs : List (Int × Int × Int)) (plan : List Int) : Nat → Bool
  | 0 => true
  | k + 1 => goesB bs plan k && freeB bs (plan.take k) k (plan.getD k 0)
def isNB (bs : List (Int × Int × Int)) (plan : List Int) : Bool := decide (plan.length = bs.length) && goesB bs plan plan.length
def bothN (bs : List (Int × Int × Int)) (plan : List Int) : Bool := goodN bs && isNB bs plan

theorem goesB_at {bs : List (Int × Int × Int)} {plan : List Int} {k : Nat} {u : Int} (h : plan[k]? = some u) : goesB bs plan (k + 1) = (goesB bs plan k && freeB bs (plan.take k) k u) := by
  rw [goesB]
  simp [List.getD, h]
theorem goesB_no {bs : List (Int × Int × Int)} {plan : List Int} {k m : Nat} (h : goesB bs plan k = false) (hm : k ≤ m) : goesB bs plan m = false := by
  induction m with
  | zero => obtain rfl : k = 0 := by omega
            exact h
  | succ m ih =>
    by_cases e : k = m + 1
    · subst e; exact h
    · rw [goesB, ih (by omega), Bool.false_and]
theorem goesB_le {bs : List (Int × Int × Int)} {plan : List Int} {k m : Nat} (h : goesB bs plan m = true) (hm : k ≤ m) : goesB bs plan k = true := by
  rcases hk : goesB bs plan k with _ | _
  · rw [goesB_no hk hm] at h; cases h
  · rfl

theorem bothN_at {bs : List (Int × Int × Int)} {plan : List Int} (h : bothN bs plan = true) : goodN bs = true ∧ plan.length = bs.length ∧ goesB bs plan plan.length = true := by
  simp only [bothN, isNB, Bool.and_eq_true, decide_eq_true_eq] at h
  exact ⟨h.1, h.2.1, h.2.2⟩
theorem bothN_no {bs : List (Int × Int × Int)} {plan : List Int} (h : goodN bs = false) : bothN bs plan = false := by rw [bothN, h, Bool.false_and]
theorem bothN_yes {bs : List (Int × Int × Int)} {plan : List Int} (h : goodN bs = true) : bothN bs plan = isNB bs plan := by rw [bothN, h, Bool.true_and]
theorem isNB_len {bs : List (Int × Int × Int)} {plan : List Int} (h : ¬ plan.length = bs.length) : isNB bs plan = false := by rw [isNB]; simp [h]
theorem isNB_goes {bs : List (Int × Int × Int)} {plan : List Int} (h : plan.length = bs.length) : isNB bs plan = goesB bs plan plan.length := by rw [isNB]; simp [h]

/-- What is known of each place of a nesting. -/
theorem nest_at {bs : List (Int × Int × Int)} {plan : List Int} (h : bothN bs plan = true) {i : Nat} {u : Int} (hu : plan[i]? = some u) : freeB bs (plan.take i) i u = true := by
  obtain ⟨_, _, h3⟩ := bothN_at h
  have hl := (List.getElem?_eq_some_iff.1 hu).1
  have := goesB_le h3 (show i + 1 ≤ plan.length by omega)
  rw [goesB_at hu, Bool.and_eq_true] at this
  exact this.2
theorem free_bd {bs : List (Int × Int × Int)} {plan : List Int} {i : Nat} {u : Int} (h : freeB bs plan i u = true) : u = -1 ∨ (0 ≤ u ∧ u < (bs.length : Int) ∧ u ∉ plan ∧ fitL bs i u.toNat = true) := by
  simp only [freeB, Bool.or_eq_true, Bool.and_eq_true, decide_eq_true_eq, Bool.not_eq_true', decide_eq_false_iff_not] at h
  rcases h with h | ⟨⟨h1, h2⟩, h3⟩
  · exact .inl h
  · exact .inr ⟨h1.1, h1.2, h2, h3⟩
theorem nest_bd {bs : List (Int × Int × Int)} {plan : List Int} (h : bothN bs plan = true) {i : Nat} {u : Int} (hu : plan[i]? = some u) : u = -1 ∨ (0 ≤ u ∧ u < (plan.length : Int) ∧ fitL bs i u.toNat = true) := by
  rcases free_bd (nest_at h hu) with h1 | ⟨h1, h2, _, h4⟩
  · exact .inl h1
  · rw [← (bothN_at h).2.1] at h2
    exact .inr ⟨h1, h2, h4⟩
end Go.Proofs.Ytbaofgbkcolmmab
