/-
  The lightest choices of a value: both programs keep the same; room for all weights lets all choices by; no program is spoken of here.
  Conditions: none.
-/
import Derived.Test.YtmgloknghoeheaaSuY
namespace Go.Proofs.Ytmgloknghoeheaa
set_option linter.unusedVariables false
open Go.RowKit

/-- One choice more: the first of the lightest ones so far, and how heavy it is. -/
def lowF (ts : List (Int × Int × Int)) (val : Int) (s : List Int × Int) (c : List Int) : List Int × Int :=
  if val ≤ valI ts c ∧ (s.2 < 0 ∨ sumF (wI ts) c < s.2) then (c, sumF (wI ts) c) else s
def lowL (ts : List (Int × Int × Int)) (val : Int) (L : List (List Int)) : List Int × Int := L.foldl (lowF ts val) ([], -1)
theorem lowL_next (ts : List (Int × Int × Int)) (val : Int) {L : List (List Int)} {k : Nat} {c : List Int} (h : L[k]? = some c) : lowL ts val (L.take (k + 1)) = lowF ts val (lowL ts val (L.take k)) c := by
  rw [take_snocI h, lowL, List.foldl_append]; rfl
theorem low_off {ts : List (Int × Int × Int)} (hg : OkI ts) (val : Int) (L : List (List Int)) : ∀ (s : List Int × Int) (t : Int × List Int × Nat),
    ((t = (0, [], 0) ∧ s = ([], -1)) ∨ (t.2.2 ≠ 0 ∧ s = (t.2.1, -t.1) ∧ t.1 ≤ 0)) →
    (((worthF ts val L).foldl (fun s c => offF s c (litI ts c)) t = (0, [], 0) ∧ L.foldl (lowF ts val) s = ([], -1)) ∨ (((worthF ts val L).foldl (fun s c => offF s c (litI ts c)) t).2.2 ≠ 0 ∧ L.foldl (lowF ts val) s = (((worthF ts val L).foldl (fun s c => offF s c (litI ts c)) t).2.1, -((worthF ts val L).foldl (fun s c => offF s c (litI ts c)) t).1) ∧ ((worthF ts val L).foldl (fun s c => offF s c (litI ts c)) t).1 ≤ 0)) := by
  induction L with
  | nil => intro s t h; exact h
  | cons c L ih =>
    intro s t h
    have hw := (sumF_bd (wI_f hg) c).1
    rw [List.foldl_cons]
    by_cases hv : val ≤ valI ts c
    · have e : worthF ts val (c :: L) = c :: worthF ts val L := by simp [worthF, hv]
      rw [e, List.foldl_cons]
      refine ih _ _ (.inr ?_)
      unfold litI
      rcases h with ⟨rfl, rfl⟩ | ⟨h1, rfl, h3⟩
      · have e1 : offF (0, [], 0) c (-sumF (wI ts) c) = (-sumF (wI ts) c, c, 1) := by unfold offF; simp
        have e2 : lowF ts val ([], -1) c = (c, sumF (wI ts) c) := by unfold lowF; rw [if_pos ⟨hv, .inl (by simp)⟩]
        rw [e1, e2]
        exact ⟨by simp, by simp, by simp; omega⟩
      · by_cases h5 : t.1 < -sumF (wI ts) c
        · have e1 : offF t c (-sumF (wI ts) c) = (-sumF (wI ts) c, c, 1) := by unfold offF; rw [if_pos (.inr h5)]
          have e2 : lowF ts val (t.2.1, -t.1) c = (c, sumF (wI ts) c) := by unfold lowF; rw [if_pos ⟨hv, .inr (by simp; omega)⟩]
          rw [e1, e2]
          exact ⟨by simp, by simp, by simp; omega⟩
        · have e2 : lowF ts val (t.2.1, -t.1) c = (t.2.1, -t.1) := by unfold lowF; rw [if_neg (fun h => by rcases h.2 with h6 | h6 <;> simp at h6 <;> omega)]
          have h6 : ¬ (t.2.2 = 0 ∨ t.1 < -sumF (wI ts) c) := by omega
          rw [e2]
          by_cases h7 : -sumF (wI ts) c = t.1
          · have e1 : offF t c (-sumF (wI ts) c) = (t.1, t.2.1, t.2.2 + 1) := by unfold offF; rw [if_neg h6, if_pos h7]
            rw [e1]
            exact ⟨by simp, rfl, h3⟩
          · have e1 : offF t c (-sumF (wI ts) c) = t := by unfold offF; rw [if_neg h6, if_neg h7]
            rw [e1]
            exact ⟨h1, rfl, h3⟩
    · have e : worthF ts val (c :: L) = worthF ts val L := by simp [worthF, hv]
      have e2 : lowF ts val s c = s := by unfold lowF; rw [if_neg (fun h => hv h.1)]
      rw [e, e2]
      exact ih _ _ h
/-- The first of the lightest choices, how light it is, how many. -/
def lightT (ts : List (Int × Int × Int)) (bulk val : Int) : Int × List Int × Nat := offL (litI ts) (worthF ts val (allC ts 2000 bulk))
theorem light_same {ts : List (Int × Int × Int)} (hg : OkI ts) (bulk val : Int) : (lightT ts bulk val = (0, [], 0) ∧ lowL ts val (allC ts 2000 bulk) = ([], -1)) ∨ ((lightT ts bulk val).2.2 ≠ 0 ∧ lowL ts val (allC ts 2000 bulk) = ((lightT ts bulk val).2.1, -(lightT ts bulk val).1) ∧ (lightT ts bulk val).1 ≤ 0) :=
  low_off hg val _ _ _ (.inl ⟨rfl, rfl⟩)
theorem worthF_mem {ts : List (Int × Int × Int)} {val : Int} {L : List (List Int)} {x : List Int} (h : x ∈ worthF ts val L) : x ∈ L := (List.mem_filter.1 h).1
theorem lightT_len {ts : List (Int × Int × Int)} (hg : OkI ts) {bulk : Int} (hb : 0 ≤ bulk) (val : Int) : (lightT ts bulk val).2.1.length ≤ 10 := by
  rcases offL_mem (litI ts) (worthF ts val (allC ts 2000 bulk)) with e | e
  · unfold lightT; rw [e]; simp
  · exact Nat.le_trans (incI_len (allC_mem (by omega) hb (worthF_mem e)).1) hg.len
theorem lightT_bd {ts : List (Int × Int × Int)} (hg : OkI ts) {bulk : Int} (hb : 0 ≤ bulk) (val : Int) : -2000 ≤ (lightT ts bulk val).1 ∧ (lightT ts bulk val).1 ≤ 0 :=
  offL_bd (by omega) _ fun c hc => by
    have h1 := sumF_bd (wI_f hg) c
    have h2 := incI_len (allC_mem (W := 2000) (by omega) hb (worthF_mem hc)).1
    have h3 := hg.len
    unfold litI
    omega

/-- There are items, and a bulk and a value that can be asked for. -/
def litOk (ts : List (Int × Int × Int)) (bulk val : Int) : Bool := goodI ts && (inB bulk 0 200 && inB val 0 10000)
def litB (ts : List (Int × Int × Int)) (bulk val : Int) : Bool := litOk ts bulk val && decide (0 < (lightT ts bulk val).2.2)
def litV (ts : List (Int × Int × Int)) (bulk val : Int) : Int := if litOk ts bulk val = true then -(lightT ts bulk val).1 else 0
def litL (ts : List (Int × Int × Int)) (bulk val : Int) : List Int := if litOk ts bulk val = true then (lightT ts bulk val).2.1 else []
theorem litL_len (ts : List (Int × Int × Int)) (bulk val : Int) : (litL ts bulk val).length ≤ 10 := by
  unfold litL
  split
  · rename_i h
    simp only [litOk, Bool.and_eq_true, inB_true] at h
    exact lightT_len (goodI_ok h.1) h.2.1.1 val
  · simp

/-- All items together are not too heavy. -/
theorem kids_room {ts : List (Int × Int × Int)} (hg : OkI ts) {W W' B : Int} (h1 : sumC (fun t => t.1) ts ≤ W) (h2 : sumC (fun t => t.1) ts ≤ W') (r : Nat) : ∀ beg : List Int, r ≤ ts.length → sumF (wI ts) beg ≤ sumC (fun t => t.1) (ts.take (ts.length - r)) →
    kidsC ts W B r beg = kidsC ts W' B r beg := by
  have hmono : ∀ k, sumC (fun t : Int × Int × Int => t.1) (ts.take k) ≤ sumC (fun t => t.1) ts := by
    intro k
    have e := sumC_append (fun t : Int × Int × Int => t.1) (ts.take k) (ts.drop k)
    rw [List.take_append_drop] at e
    have := (sumC_bd (f := fun t : Int × Int × Int => t.1) (ts := ts.drop k) (fun t ht => by have := itB_true.1 (hg.all t (List.mem_of_mem_drop ht)); exact ⟨by omega, by omega⟩)).1
    omega
  induction r with
  | zero => intro beg _ _; rfl
  | succ r ih =>
    intro beg hr hb
    have hk : ts.length - (r + 1) < ts.length := by omega
    have hx : ts[ts.length - (r + 1)]? = some ts[ts.length - (r + 1)] := List.getElem?_eq_getElem hk
    obtain ⟨ew, _, _⟩ := itm_w (ts := ts) (k := ts.length - (r + 1)) (x := ts[ts.length - (r + 1)].1) (y := ts[ts.length - (r + 1)].2.1) (z := ts[ts.length - (r + 1)].2.2) hx
    have hn := sumC_next (fun t : Int × Int × Int => t.1) hx
    have e1 : ts.length - (r + 1) + 1 = ts.length - r := by omega
    rw [e1] at hn
    have h3 := hmono (ts.length - r)
    have hs : sumF (wI ts) (beg ++ [((ts.length - (r + 1) : Nat) : Int)]) ≤ sumC (fun t => t.1) (ts.take (ts.length - r)) := by rw [sumF_snoc, ew]; omega
    have hw0 := (itB_true.1 (hg.all _ (List.getElem_mem hk))).1.1
    have hf : fitI ts W B (beg ++ [((ts.length - (r + 1) : Nat) : Int)]) = fitI ts W' B (beg ++ [((ts.length - (r + 1) : Nat) : Int)]) := by
      unfold fitI
      rw [decide_eq_true (show sumF (wI ts) (beg ++ [((ts.length - (r + 1) : Nat) : Int)]) ≤ W by omega), decide_eq_true (show sumF (wI ts) (beg ++ [((ts.length - (r + 1) : Nat) : Int)]) ≤ W' by omega)]
    rw [kidsC, kidsC, hf, ih _ (by omega) hs, ih beg (by omega) (by omega)]
theorem all_room {ts : List (Int × Int × Int)} (hg : OkI ts) {W W' B : Int} (h1 : sumC (fun t => t.1) ts ≤ W) (h2 : sumC (fun t => t.1) ts ≤ W') : allC ts W B = allC ts W' B := by
  unfold allC
  rw [kids_room hg h1 h2 _ [] (Nat.le_refl _) (by rw [Nat.sub_self]; simp [sumF, sumC])]
theorem total_bd {ts : List (Int × Int × Int)} (hg : OkI ts) : 0 ≤ sumC (fun t => t.1) ts ∧ sumC (fun t => t.1) ts ≤ 2000 := by
  have h := sumC_take_bd (f := fun t : Int × Int × Int => t.1) hg.len (fun t ht => by have := itB_true.1 (hg.all t ht); exact ⟨by omega, by omega⟩) ts.length
  rwa [List.take_length] at h
end Go.Proofs.Ytmgloknghoeheaa
