/-
  Items taken in some order if there is room, as both programs do it; no program is spoken of here.
  Conditions: none.
-/
import Derived.Test.YtjpejhpilfjheabSuM
import Derived.Test.YtjpejhpilfjheabInsG
import Derived.Test.YtjpejhpilfjheabBelowS
namespace Go.Proofs.Ytjpejhpilfjheab
set_option linter.unusedVariables false
open Go.RowKit

/-- Which of two items comes first: the greater value; the greater value for its size. -/
def szI (ts : List (Int × Int × Int)) (k : Int) : Int := wI ts k + bI ts k
def befV (z z2 : Int) : Bool := decide (z2 < z)
def befR (a z a2 z2 : Int) : Bool := if a = 0 ∨ a2 = 0 then decide (a = 0) && decide (0 < a2) else decide (z2 * a < z * a2)
def bef2 (ra : Bool) (x y z x2 y2 z2 : Int) : Bool := if ra = true then befR (x + y) z (x2 + y2) z2 else befV z z2
def upP (ra : Bool) (ts : List (Int × Int × Int)) (b c : Int) : Bool := bef2 ra (wI ts b) (bI ts b) (vI ts b) (wI ts c) (bI ts c) (vI ts c)
def ordP (ra : Bool) (ts : List (Int × Int × Int)) : List Int := sortG (upP ra ts) (below ts.length)
/-- Those taken. -/
def stepP (ts : List (Int × Int × Int)) (W B : Int) (ch : List Int) (k : Int) : List Int := if fitI ts W B (ch ++ [k]) = true then ch ++ [k] else ch
def chP (ts : List (Int × Int × Int)) (W B : Int) (ks : List Int) : List Int := ks.foldl (stepP ts W B) []
def outP (ts : List (Int × Int × Int)) (W B : Int) (ks : List Int) : List Int := sortG upLt (chP ts W B ks)
def packP (ra : Bool) (ts : List (Int × Int × Int)) (W B : Int) : List Int := outP ts W B (ordP ra ts)

theorem insG_perm (up : Int → Int → Bool) (out : List Int) (b : Int) : (insG up out b).Perm (b :: out) := by
  have h : List.Perm (insG up out b) (b :: (out.take (posG up out b out.length) ++ out.drop (posG up out b out.length))) := List.perm_middle
  rwa [List.take_append_drop] at h
theorem sortG_snoc (up : Int → Int → Bool) (xs : List Int) (b : Int) : sortG up (xs ++ [b]) = insG up (sortG up xs) b := by simp [sortG]
theorem foldG_perm (up : Int → Int → Bool) (xs : List Int) : ∀ acc : List Int, (xs.foldl (insG up) acc).Perm (xs ++ acc) := by
  induction xs with
  | nil => intro acc; exact List.Perm.refl _
  | cons x xs ih =>
    intro acc
    rw [List.foldl_cons]
    refine (ih _).trans (((insG_perm up acc x).append_left xs).trans ?_)
    exact List.perm_middle
theorem sortG_perm (up : Int → Int → Bool) (xs : List Int) : (sortG up xs).Perm xs := by
  have h := foldG_perm up xs []
  rwa [List.append_nil] at h
theorem posLt_ge (out : List Int) (b : Int) : ∀ k, k ≤ out.length → ∀ j, posG upLt out b k ≤ j → j < k → b < out.getD j 0 := by
  intro k
  induction k with
  | zero => intro _ j _ h; omega
  | succ k ih =>
    intro hk j h1 h2
    rw [posG] at h1
    split at h1
    · rename_i h3
      by_cases e : j = k
      · subst e; simpa [upLt] using h3
      · exact ih (by omega) j h1 (by omega)
    · omega
theorem posLt_at (out : List Int) (b : Int) : ∀ k, posG upLt out b k = 0 ∨ out.getD (posG upLt out b k - 1) 0 ≤ b := by
  intro k
  induction k with
  | zero => left; rfl
  | succ k ih =>
    rw [posG]
    split
    · exact ih
    · rename_i h3; right; rw [show k + 1 - 1 = k by omega]; simp only [upLt, decide_eq_true_eq] at h3; omega
/-- A number put among those that rise. -/
theorem insLt_rises {out : List Int} {b : Int} (h : out.Pairwise (· < ·)) (hb : b ∉ out) : (insG upLt out b).Pairwise (· < ·) := by
  obtain ⟨p, hp⟩ : ∃ p, posG upLt out b out.length = p := ⟨_, rfl⟩
  have hle := posG_le upLt out b out.length
  have hge := posLt_ge out b out.length (Nat.le_refl _)
  have hat := posLt_at out b out.length
  rw [hp] at hle hge hat
  rw [insG, hp, atG]
  have h0 := h
  rw [← List.take_append_drop p out] at h
  have h' := List.pairwise_append.1 h
  refine List.pairwise_append.2 ⟨h'.1, List.pairwise_cons.2 ⟨fun c hc => ?_, h'.2.1⟩, fun a ha c hc => ?_⟩
  · obtain ⟨j, hj⟩ := List.getElem?_of_mem hc
    rw [List.getElem?_drop] at hj
    have hl := (List.getElem?_eq_some_iff.1 hj).1
    have := hge (p + j) (by omega) hl
    simp [List.getD, hj] at this
    omega
  · have hpa : p ≠ 0 := by rintro rfl; simp at ha
    have hax : a < b := by
      have hne : a ≠ b := fun e => hb (e ▸ List.mem_of_mem_take ha)
      have hle2 : a ≤ b := by
        obtain ⟨j, hj⟩ := List.getElem?_of_mem ha
        have hjp : j < p := by have := (List.getElem?_eq_some_iff.1 hj).1; rw [List.length_take] at this; omega
        rw [List.getElem?_take_of_lt hjp] at hj
        have hxp : out.getD (p - 1) 0 ≤ b := by rcases hat with h | h; exact absurd h hpa; exact h
        by_cases e : j = p - 1
        · subst e; simpa [List.getD, hj] using hxp
        · have hg := List.pairwise_iff_getElem.1 h0 j (p - 1) (by omega) (by omega) (by omega)
          obtain ⟨hl, he⟩ := List.getElem?_eq_some_iff.1 hj
          rw [he] at hg
          simp [List.getD, show p - 1 < out.length by omega] at hxp
          omega
      omega
    rcases List.mem_cons.1 hc with rfl | hc
    · exact hax
    · exact h'.2.2 a ha c hc
theorem sortLt_rises {xs : List Int} (h : xs.Nodup) : (sortG upLt xs).Pairwise (· < ·) := by
  have key : ∀ xs acc : List Int, (xs ++ acc).Nodup → acc.Pairwise (· < ·) → (xs.foldl (insG upLt) acc).Pairwise (· < ·) := by
    intro xs
    induction xs with
    | nil => intro acc _ h; exact h
    | cons x xs ih =>
      intro acc hn ha
      rw [List.foldl_cons]
      have hn' : (x :: (xs ++ acc)).Nodup := hn
      have hx : x ∉ acc := fun e => (List.nodup_cons.1 hn').1 (List.mem_append_right _ e)
      refine ih _ ?_ (insLt_rises ha hx)
      refine (((insG_perm upLt acc x).append_left xs).trans List.perm_middle).nodup_iff.2 hn'
  exact key xs [] (by rw [List.append_nil]; exact h) List.Pairwise.nil
/-- Two lists that rise and hold the same are the same. -/
theorem rises_same {xs ys : List Int} (hx : xs.Pairwise (· < ·)) (hy : ys.Pairwise (· < ·)) (hp : xs.Perm ys) : xs = ys :=
  List.Perm.eq_of_pairwise (le := fun a b => a < b) (fun a b _ _ h h' => by omega) hx hy hp

theorem sumF_perm (f : Int → Int) {xs ys : List Int} (h : xs.Perm ys) : sumF f xs = sumF f ys := by
  induction h with
  | nil => rfl
  | cons x _ ih => simp only [sumF]; rw [ih]
  | swap x y l => simp only [sumF]; omega
  | trans _ _ ih1 ih2 => exact ih1.trans ih2
theorem fitI_perm (ts : List (Int × Int × Int)) (W B : Int) {xs ys : List Int} (h : xs.Perm ys) : fitI ts W B xs = fitI ts W B ys := by
  rw [fitI, fitI, sumF_perm _ h, sumF_perm _ h]

/-- Where a number is put from the front, and the list with it. -/
def putL (l : List Int) (n : Int) : Nat → Nat
  | 0 => 0
  | r + 1 => if decide (l.getD (l.length - (r + 1)) 0 < n) = true then putL l n r else l.length - (r + 1)
def frontL (l : List Int) (n : Int) (k : Nat) : Prop := k ≤ l.length ∧ (∀ j, j < k → l.getD j 0 < n) ∧ (k < l.length → n ≤ l.getD k 0)
theorem frontL_put {l : List Int} {n : Int} {k : Nat} (h : l.Pairwise (· < ·)) (hn : n ∉ l) (hf : frontL l n k) : l.take k ++ n :: l.drop k = insG upLt l n := by
  obtain ⟨hk, h1, h2⟩ := hf
  have hp : List.Perm (l.take k ++ n :: l.drop k) (n :: l) := by
    have h : List.Perm (l.take k ++ n :: l.drop k) (n :: (l.take k ++ l.drop k)) := List.perm_middle
    rwa [List.take_append_drop] at h
  refine rises_same ?_ (insLt_rises h hn) (hp.trans (insG_perm upLt l n).symm)
  have h0 := h
  rw [← List.take_append_drop k l] at h
  have h' := List.pairwise_append.1 h
  have ht : ∀ a ∈ l.take k, a < n := by
    intro a ha
    obtain ⟨j, hj⟩ := List.getElem?_of_mem ha
    have hjk : j < k := by have := (List.getElem?_eq_some_iff.1 hj).1; rw [List.length_take] at this; omega
    rw [List.getElem?_take_of_lt hjk] at hj
    have := h1 j hjk
    simpa [List.getD, hj] using this
  have hd : ∀ c ∈ l.drop k, n < c := by
    intro c hc
    obtain ⟨j, hj⟩ := List.getElem?_of_mem hc
    rw [List.getElem?_drop] at hj
    have hl := (List.getElem?_eq_some_iff.1 hj).1
    have hk2 := h2 (by omega)
    have hne : n ≠ c := fun e => hn (e ▸ List.mem_of_mem_drop hc)
    by_cases e : j = 0
    · subst e
      rw [Nat.add_zero] at hj
      simp [List.getD, hj] at hk2
      omega
    · have hg := List.pairwise_iff_getElem.1 h0 k (k + j) (by omega) hl (by omega)
      obtain ⟨_, he⟩ := List.getElem?_eq_some_iff.1 hj
      rw [he] at hg
      simp [List.getD, show k < l.length by omega] at hk2
      omega
  refine List.pairwise_append.2 ⟨h'.1, List.pairwise_cons.2 ⟨hd, h'.2.1⟩, fun a ha c hc => ?_⟩
  rcases List.mem_cons.1 hc with rfl | hc
  · exact ht a ha
  · exact h'.2.2 a ha c hc

theorem chP_snoc (ts : List (Int × Int × Int)) (W B : Int) (ks : List Int) (k : Int) : chP ts W B (ks ++ [k]) = stepP ts W B (chP ts W B ks) k := by simp [chP]
theorem chP_sub (ts : List (Int × Int × Int)) (W B : Int) : ∀ ks : List Int, (chP ts W B ks).Sublist ks := by
  have key : ∀ (ks acc pre : List Int), acc.Sublist pre → (ks.foldl (stepP ts W B) acc).Sublist (pre ++ ks) := by
    intro ks
    induction ks with
    | nil => intro acc pre h; simpa using h
    | cons k ks ih =>
      intro acc pre h
      rw [List.foldl_cons]
      have h2 := ih (stepP ts W B acc k) (pre ++ [k]) (by
        rw [stepP]
        split
        · exact h.append (List.Sublist.refl _)
        · exact h.trans (List.sublist_append_left _ _))
      simpa using h2
  intro ks
  have h := key ks [] [] (List.Sublist.refl _)
  simpa [chP] using h
theorem ordP_perm (ra : Bool) (ts : List (Int × Int × Int)) : (ordP ra ts).Perm (below ts.length) := sortG_perm _ _
theorem below_nodup (n : Nat) : (below n).Nodup := by
  rw [below, List.nodup_iff_pairwise_ne, List.pairwise_map]
  exact (List.nodup_range (n := n)).imp fun h e => h (by omega)
theorem ordP_nodup (ra : Bool) (ts : List (Int × Int × Int)) : (ordP ra ts).Nodup := (ordP_perm ra ts).nodup_iff.2 (below_nodup _)
theorem ordP_mem {ra : Bool} {ts : List (Int × Int × Int)} {x : Int} (h : x ∈ ordP ra ts) : 0 ≤ x ∧ x < (ts.length : Int) := below_mem ((ordP_perm ra ts).mem_iff.1 h)
theorem ordP_length (ra : Bool) (ts : List (Int × Int × Int)) : (ordP ra ts).length = ts.length := by rw [ordP, sortG_length, below_length]
/-- Of some that come in the order: those taken, put in their own order. -/
theorem outP_rises {ra : Bool} {ts : List (Int × Int × Int)} {W B : Int} (k : Nat) : (outP ts W B ((ordP ra ts).take k)).Pairwise (· < ·) :=
  sortLt_rises (((chP_sub ts W B _).trans (List.take_sublist k _)).nodup (ordP_nodup ra ts))
theorem chP_mem {ra : Bool} {ts : List (Int × Int × Int)} {W B : Int} {k : Nat} {x : Int} (h : x ∈ chP ts W B ((ordP ra ts).take k)) : 0 ≤ x ∧ x < (ts.length : Int) :=
  ordP_mem (ra := ra) (List.mem_of_mem_take ((chP_sub ts W B _).subset h))
theorem outP_mem {ra : Bool} {ts : List (Int × Int × Int)} {W B : Int} {k : Nat} {x : Int} (h : x ∈ outP ts W B ((ordP ra ts).take k)) : 0 ≤ x ∧ x < (ts.length : Int) :=
  chP_mem (ra := ra) ((sortG_perm _ _).mem_iff.1 h)
theorem inc_of_rises {n : Nat} {ks : List Int} (h : ks.Pairwise (· < ·)) (hm : ∀ x ∈ ks, 0 ≤ x ∧ x < (n : Int)) : incI n ks = true := by
  rw [incI_true]
  intro j u hu
  have hm' := hm u (List.mem_of_getElem? hu)
  refine ⟨hm', ?_⟩
  rw [befI]
  split
  · omega
  · rename_i hj
    obtain ⟨hl, he⟩ := List.getElem?_eq_some_iff.1 hu
    have hg := List.pairwise_iff_getElem.1 h (j - 1) j (by omega) hl (by omega)
    rw [he] at hg
    simp [List.getD, show j - 1 < ks.length by omega]
    exact hg
/-- The next one of the order. -/
theorem next_fresh {ra : Bool} {ts : List (Int × Int × Int)} {W B : Int} {k : Nat} {x : Int} (h : (ordP ra ts)[k]? = some x) : x ∉ chP ts W B ((ordP ra ts).take k) := by
  intro hm
  have h2 := (chP_sub ts W B _).subset hm
  obtain ⟨j, hj⟩ := List.getElem?_of_mem h2
  have hjk : j < k := by have := (List.getElem?_eq_some_iff.1 hj).1; rw [List.length_take] at this; omega
  rw [List.getElem?_take_of_lt hjk] at hj
  obtain ⟨l1, e1⟩ := List.getElem?_eq_some_iff.1 hj
  obtain ⟨l2, e2⟩ := List.getElem?_eq_some_iff.1 h
  have := (List.pairwise_iff_getElem.1 (List.nodup_iff_pairwise_ne.1 (ordP_nodup ra ts))) j k l1 l2 hjk
  exact this (e1.trans e2.symm)
theorem take_nextP {xs : List Int} {k : Nat} {x : Int} (h : xs[k]? = some x) : xs.take (k + 1) = xs.take k ++ [x] := by
  rw [List.take_add_one, h]; rfl
theorem outP_yes {ra : Bool} {ts : List (Int × Int × Int)} {W B : Int} {k : Nat} {x : Int} (h : (ordP ra ts)[k]? = some x) (hf : fitI ts W B (chP ts W B ((ordP ra ts).take k) ++ [x]) = true) :
    outP ts W B ((ordP ra ts).take (k + 1)) = insG upLt (outP ts W B ((ordP ra ts).take k)) x := by
  rw [outP, take_nextP h, chP_snoc, stepP, if_pos hf, sortG_snoc]; rfl
theorem outP_no {ra : Bool} {ts : List (Int × Int × Int)} {W B : Int} {k : Nat} {x : Int} (h : (ordP ra ts)[k]? = some x) (hf : ¬ fitI ts W B (chP ts W B ((ordP ra ts).take k) ++ [x]) = true) :
    outP ts W B ((ordP ra ts).take (k + 1)) = outP ts W B ((ordP ra ts).take k) := by
  rw [outP, take_nextP h, chP_snoc, stepP, if_neg hf]; rfl
/-- The test of both programs is the same. -/
theorem fit_ins {ra : Bool} {ts : List (Int × Int × Int)} {W B : Int} {k : Nat} (x : Int) :
    fitI ts W B (insG upLt (outP ts W B ((ordP ra ts).take k)) x) = fitI ts W B (chP ts W B ((ordP ra ts).take k) ++ [x]) := by
  refine fitI_perm ts W B ((insG_perm _ _ _).trans ?_)
  exact ((sortG_perm _ _).cons x).trans (List.perm_append_singleton x _).symm
theorem chP_len {ra : Bool} {ts : List (Int × Int × Int)} {W B : Int} (k : Nat) : (chP ts W B ((ordP ra ts).take k)).length ≤ ts.length := by
  have h1 := (chP_sub ts W B ((ordP ra ts).take k)).length_le
  rw [List.length_take, ordP_length] at h1
  omega
theorem outP_len {ra : Bool} {ts : List (Int × Int × Int)} {W B : Int} (k : Nat) : (outP ts W B ((ordP ra ts).take k)).length ≤ ts.length := by
  rw [outP, sortG_length]; exact chP_len k
theorem packP_len (ra : Bool) (ts : List (Int × Int × Int)) (W B : Int) : (packP ra ts W B).length ≤ ts.length := by
  have h := outP_len (ra := ra) (ts := ts) (W := W) (B := B) ts.length
  rw [List.take_of_length_le (by rw [ordP_length]; exact Nat.le_refl _)] at h
  exact h
end Go.Proofs.Ytjpejhpilfjheab
