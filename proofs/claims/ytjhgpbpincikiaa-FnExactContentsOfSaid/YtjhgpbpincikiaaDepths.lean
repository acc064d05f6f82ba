/-
  Both programs' depths of the boxes of a nesting.
  Conditions: the lists have at most 1048576 elements.
-/
import Derived.Test.YtjhgpbpincikiaaOuter
namespace Go.Proofs.Ytjhgpbpincikiaa
set_option linter.unusedVariables false
open Go.RowKit

/-- How many boxes are around, counted from the one at once around, with so many steps at most. -/
def depthF (plan : List Int) : Nat → Int → Nat
  | 0, _ => 0
  | f + 1, u => if u < 0 then 0 else 1 + depthF plan f (plan.getD u.toNat 0)
def depthU (plan : List Int) (u : Int) : Nat := depthF plan 51 u
def depthN (plan : List Int) : List Int := plan.map fun u => (depthU plan u : Int)
theorem depthN_length (plan : List Int) : (depthN plan).length = plan.length := by simp [depthN]
theorem depthN_at {plan : List Int} {k : Nat} {u : Int} (h : plan[k]? = some u) : (depthN plan)[k]? = some ((depthU plan u : Nat) : Int) := by simp [depthN, h]
theorem depthF_neg (plan : List Int) (f : Nat) {u : Int} (h : u < 0) : depthF plan f u = 0 := by
  cases f with
  | zero => rfl
  | succ f => rw [depthF, if_pos h]
theorem depthF_le (plan : List Int) (f : Nat) (u : Int) : depthF plan f u ≤ f := by
  induction f generalizing u with
  | zero => exact Nat.le_refl _
  | succ f ih =>
    rw [depthF]
    split
    · omega
    · have := ih (plan.getD u.toNat 0)
      omega
theorem depthF_some (plan : List Int) (f : Nat) {j : Nat} {v : Int} (h : plan[j]? = some v) : depthF plan (f + 1) (j : Int) = 1 + depthF plan f v := by
  rw [depthF, if_neg (by omega)]
  simp [List.getD, h]

/-- How great a box is that is told by its number; behind all boxes where it tells none. -/
def sizeU (bs : List (Int × Int × Int)) (u : Int) : Nat := if u < 0 then 51 else ((s3 (bs.getD u.toNat (0, 0, 0))).1).toNat

/-- What is known of a number on the way outward. -/
def OnWay (bs : List (Int × Int × Int)) (plan : List Int) (u : Int) (c f D : Nat) : Prop :=
  (u = -1 ∨ ∃ j : Nat, u = (j : Int) ∧ j < plan.length) ∧ c + depthF plan f u = D ∧ 51 ≤ sizeU bs u + f

theorem sizeU_le {bs : List (Int × Int × Int)} {plan : List Int} (h : bothN bs plan = true) {j : Nat} (hj : j < plan.length) : 1 ≤ sizeU bs (j : Int) ∧ sizeU bs (j : Int) ≤ 50 := by
  obtain ⟨h1, h2, _⟩ := bothN_at h
  have hb : bs[j]? = some bs[j] := List.getElem?_eq_getElem (by omega)
  have hbd := s3_bd ((goodN_at h1).2.2 _ (List.mem_of_getElem? hb))
  rw [sizeU, if_neg (by omega)]
  have e : bs.getD ((j : Int).toNat) (0, 0, 0) = bs[j] := by simp [List.getD, hb]
  rw [e]
  omega

theorem sizeU_up {bs : List (Int × Int × Int)} {plan : List Int} (h : bothN bs plan = true) {j : Nat} {v : Int} (hv : plan[j]? = some v) : sizeU bs (j : Int) + 1 ≤ sizeU bs v := by
  have hj := (List.getElem?_eq_some_iff.1 hv).1
  have hl := (sizeU_le h hj).2
  rcases nest_bd h hv with rfl | ⟨h0, h1, h2⟩
  · have : sizeU bs (-1) = 51 := rfl
    omega
  · obtain ⟨i, rfl⟩ : ∃ i : Nat, v = (i : Int) := ⟨v.toNat, by omega⟩
    have hlb := (bothN_at h).2.1
    have hb : bs[j]? = some bs[j] := List.getElem?_eq_getElem (by omega)
    have hi : bs[i]? = some bs[i] := List.getElem?_eq_getElem (by omega)
    rw [show (i : Int).toNat = i from rfl, fitL_at hb hi] at h2
    have hlt := fitT_lt h2
    have hbd := s3_bd ((goodN_at (bothN_at h).1).2.2 _ (List.mem_of_getElem? hb))
    have hbd2 := s3_bd ((goodN_at (bothN_at h).1).2.2 _ (List.mem_of_getElem? hi))
    rw [sizeU, if_neg (by omega), sizeU, if_neg (by omega)]
    have e : bs.getD ((j : Int).toNat) (0, 0, 0) = bs[j] := by simp [List.getD, hb]
    have e2 : bs.getD ((i : Int).toNat) (0, 0, 0) = bs[i] := by simp [List.getD, hi]
    rw [e, e2]
    omega

theorem way_start {bs : List (Int × Int × Int)} {plan : List Int} (h : bothN bs plan = true) {k : Nat} {u : Int} (hu : plan[k]? = some u) : OnWay bs plan u 0 51 (depthU plan u) := by
  refine ⟨?_, by rw [depthU]; omega, by omega⟩
  rcases nest_bd h hu with rfl | ⟨h0, h1, _⟩
  · exact .inl rfl
  · exact .inr ⟨u.toNat, by omega, by omega⟩

theorem way_end {bs : List (Int × Int × Int)} {plan : List Int} {c f D : Nat} (h : OnWay bs plan (-1) c f D) : c = D := by
  have := h.2.1
  rw [depthF_neg _ _ (by omega)] at this
  omega

theorem way_step {bs : List (Int × Int × Int)} {plan : List Int} (hb : bothN bs plan = true) {j c f D : Nat} {v : Int} (h : OnWay bs plan (j : Int) c f D) (hv : plan[j]? = some v) :
    ∃ f', f = f' + 1 ∧ OnWay bs plan v (c + 1) f' D ∧ 51 - sizeU bs v < 51 - sizeU bs (j : Int) ∧ c ≤ 1000 + D := by
  obtain ⟨h1, h2, h3⟩ := h
  have hj := (List.getElem?_eq_some_iff.1 hv).1
  have hsz := sizeU_le hb hj
  have hup := sizeU_up hb hv
  obtain ⟨f', rfl⟩ : ∃ f', f = f' + 1 := ⟨f - 1, by omega⟩
  rw [depthF_some plan f' hv] at h2
  refine ⟨f', rfl, ⟨?_, by omega, by omega⟩, by omega, by omega⟩
  rcases nest_bd hb hv with rfl | ⟨h0, h1, _⟩
  · exact .inl rfl
  · exact .inr ⟨v.toNat, by omega, by omega⟩

theorem depthU_le (plan : List Int) (u : Int) : depthU plan u ≤ 51 := depthF_le _ _ _
theorem way_le {bs : List (Int × Int × Int)} {plan : List Int} {u : Int} {c f D : Nat} (h : OnWay bs plan u c f D) : c ≤ D := by have := h.2.1; omega

/-- The depths so far, nothing behind them. -/
def depthP (plan : List Int) (k : Nat) : List Int := (depthN plan).take k ++ List.replicate (plan.length - k) 0
theorem depthP_set {plan : List Int} {k : Nat} {u : Int} (h : plan[k]? = some u) : (depthP plan k).set k ((depthU plan u : Nat) : Int) = depthP plan (k + 1) := by
  have hk := (List.getElem?_eq_some_iff.1 h).1
  have hl : ((depthN plan).take k).length = k := by rw [List.length_take, depthN_length]; omega
  rw [depthP, List.set_append_right _ _ (by omega), hl, Nat.sub_self, depthP, ← take_last (depthN_at h)]
  obtain ⟨r, hr⟩ : ∃ r, plan.length - k = r + 1 := ⟨plan.length - k - 1, by omega⟩
  rw [hr, show plan.length - (k + 1) = r by omega, List.replicate_succ, List.set_cons_zero, List.append_assoc]
  rfl
theorem depthP_at {plan : List Int} {k : Nat} (hk : k < plan.length) : (depthP plan k)[k]? = some 0 := by
  have hl : ((depthN plan).take k).length = k := by rw [List.length_take, depthN_length]; omega
  rw [depthP, List.getElem?_append_right (by omega), hl, Nat.sub_self, List.getElem?_replicate, if_pos (by omega)]
theorem depthP_length {plan : List Int} {k : Nat} (hk : k ≤ plan.length) : (depthP plan k).length = plan.length := by
  rw [depthP, List.length_append, List.length_take, depthN_length, List.length_replicate]
  omega

end Go.Proofs.Ytjhgpbpincikiaa
