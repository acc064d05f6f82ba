/-
  All orders of a list, one behind the other.
  Conditions: none.
-/
import Derived.Test.YtgcljhgpihpfgacNum
namespace Go.Proofs.Ytgcljhgpihpfgac
set_option linter.unusedVariables false

/-- In rising order. -/
def srt (L : List Int) : List Int := L.mergeSort fun x y => decide (x ≤ y)
def Up (S : List Int) : Prop := S.Pairwise (· ≤ ·)
theorem srt_up (L : List Int) : Up (srt L) := by
  have h := List.pairwise_mergeSort (le := fun x y : Int => decide (x ≤ y)) (fun a b c h1 h2 => by simp at *; omega) (fun a b => by simp; omega) L
  exact h.imp fun h => by simpa using h
theorem srt_perm (L : List Int) : (srt L).Perm L := List.mergeSort_perm L _
theorem up_eq {A B : List Int} (hp : A.Perm B) (ha : Up A) (hb : Up B) : A = B := hp.eq_of_pairwise (fun a b _ _ h1 h2 => Int.le_antisymm h1 h2) ha hb
theorem srt_of_up {S : List Int} (h : Up S) : srt S = S := up_eq (srt_perm S) (srt_up S) h
theorem srt_congr {A B : List Int} (h : A.Perm B) : srt A = srt B := up_eq ((srt_perm A).trans (h.trans (srt_perm B).symm)) (srt_up A) (srt_up B)

/-- The next order, where the tail has none: the tail falls. -/
def pivR (v : Int) (t : List Int) : Option (List Int) :=
  match t.reverse.dropWhile (fun y => decide (y ≤ v)) with
  | [] => none
  | x :: A => some (x :: (t.reverse.takeWhile (fun y => decide (y ≤ v)) ++ v :: A))
/-- The next order. -/
def nextR : List Int → Option (List Int)
  | [] => none
  | v :: t => match nextR t with
    | some t' => some (v :: t')
    | none => pivR v t

/-- Each one is the next order of the one before it; the last has none. -/
inductive Runs : List Int → List (List Int) → List Int → Prop
  | last {l} : nextR l = none → Runs l [l] l
  | more {l l' ls z} : nextR l = some l' → Runs l' ls z → Runs l (l :: ls) z

theorem Runs.end_ {l z : List Int} {ls : List (List Int)} (h : Runs l ls z) : nextR z = none := by
  induction h with
  | last h => exact h
  | more _ _ ih => exact ih
theorem Runs.lift {t z : List Int} {ls : List (List Int)} (v : Int) (h : Runs t ls z) (hz : pivR v z = none) : Runs (v :: t) (ls.map (v :: ·)) (v :: z) := by
  induction h with
  | last h => exact .last (by rw [nextR, h]; exact hz)
  | more h1 _ ih => exact .more (by rw [nextR, h1]) (ih hz)
theorem Runs.lift_on {t z l' y : List Int} {ls ms : List (List Int)} (v : Int) (h : Runs t ls z) (hz : pivR v z = some l') (hm : Runs l' ms y) : Runs (v :: t) (ls.map (v :: ·) ++ ms) y := by
  induction h with
  | last h => exact .more (by rw [nextR, h]; exact hz) hm
  | more h1 _ ih => exact .more (by rw [nextR, h1]) (ih hz)

/-- The different numbers of a rising list. -/
def upV : Nat → List Int → List Int
  | 0, _ => []
  | _ + 1, [] => []
  | f + 1, a :: t => a :: upV f (t.dropWhile fun y => decide (y ≤ a))
/-- All orders, in their order. -/
def ordF : Nat → List Int → List (List Int)
  | 0, _ => [[]]
  | f + 1, L => (upV L.length (srt L)).flatMap fun v => (ordF f (L.erase v)).map (v :: ·)

theorem ordF_congr : ∀ (f : Nat) {A B : List Int}, A.Perm B → ordF f A = ordF f B
  | 0, _, _, _ => rfl
  | f + 1, A, B, h => by
    unfold ordF
    rw [srt_congr h, h.length_eq]
    congr 1
    funext v
    rw [ordF_congr f (h.erase v)]

theorem up_tail {a : Int} {t : List Int} (h : Up (a :: t)) : Up t := (List.pairwise_cons.1 h).2
theorem up_drop {S : List Int} (p : Int → Bool) (h : Up S) : Up (S.dropWhile p) := h.sublist (List.dropWhile_sublist p)
theorem up_erase {S : List Int} (v : Int) (h : Up S) : Up (S.erase v) := h.sublist List.erase_sublist

theorem piv_none {v : Int} {T : List Int} (h : T.dropWhile (fun y => decide (y ≤ v)) = []) : pivR v T.reverse = none := by
  unfold pivR; rw [List.reverse_reverse, h]
theorem piv_some {v x : Int} {T A : List Int} (h : T.dropWhile (fun y => decide (y ≤ v)) = x :: A) : pivR v T.reverse = some (x :: (T.takeWhile (fun y => decide (y ≤ v)) ++ v :: A)) := by
  unfold pivR; rw [List.reverse_reverse, h]

theorem drop_head {p : Int → Bool} {y : Int} {D : List Int} : ∀ {l : List Int}, l.dropWhile p = y :: D → p y = false
  | [], h => by cases h
  | a :: l, h => by
    rw [List.dropWhile_cons] at h
    by_cases ha : p a = true
    · rw [if_pos ha] at h; exact drop_head h
    · rw [if_neg ha] at h; injection h with h1 _; subst h1; simpa using ha

theorem drop_nil {p : Int → Bool} : ∀ {l : List Int}, l.dropWhile p = [] → ∀ a ∈ l, p a = true
  | [], _, a, ha => by cases ha
  | b :: l, h, a, ha => by
    rw [List.dropWhile_cons] at h
    by_cases hb : p b = true
    · rw [if_pos hb] at h
      rcases List.mem_cons.1 ha with rfl | ha
      · exact hb
      · exact drop_nil h a ha
    · rw [if_neg hb] at h; cases h
theorem take_mem {p : Int → Bool} : ∀ {l : List Int} {a : Int}, a ∈ l.takeWhile p → p a = true
  | [], a, ha => by cases ha
  | b :: l, a, ha => by
    rw [List.takeWhile_cons] at ha
    by_cases hb : p b = true
    · rw [if_pos hb] at ha
      rcases List.mem_cons.1 ha with rfl | ha
      · exact hb
      · exact take_mem ha
    · rw [if_neg hb] at ha; cases ha

theorem runs_from {f : Nat} {S : List Int} (hS : Up S) (hIH : ∀ T : List Int, Up T → T.length = f → Runs T (ordF f T) T.reverse) (hl : S.length = f + 1) :
    ∀ (m : Nat) (P U : List Int) (x : Int), S = P ++ x :: U → (∀ p ∈ P, p < x) → U.length < m →
      Runs (x :: S.erase x) ((upV m (x :: U)).flatMap fun v => (ordF f (S.erase v)).map (v :: ·)) S.reverse
  | 0, _, _, _, _, _, h => absurd h (Nat.not_lt_zero _)
  | m + 1, P, U, x, hs, hP, hm => by
    have hxS : x ∈ S := by rw [hs]; simp
    have hxP : x ∉ P := fun h => Int.lt_irrefl _ (hP x h)
    have hT : S.erase x = P ++ U := by rw [hs, List.erase_append_right _ hxP, List.erase_cons_head]
    have hTu := up_erase x hS
    have hTl : (S.erase x).length = f := by rw [List.length_erase_of_mem hxS, hl]; rfl
    have hR := hIH _ hTu hTl
    have hd : (S.erase x).dropWhile (fun y => decide (y ≤ x)) = U.dropWhile (fun y => decide (y ≤ x)) := by
      rw [hT, List.dropWhile_append_of_pos]
      intro p hp
      have := hP p hp
      simp; omega
    have hup : upV (m + 1) (x :: U) = x :: upV m (U.dropWhile fun y => decide (y ≤ x)) := rfl
    have hxT : S.Perm (x :: S.erase x) := List.perm_cons_erase hxS
    rw [hup, List.flatMap_cons]
    cases hD : U.dropWhile (fun y => decide (y ≤ x)) with
    | nil =>
      rw [hD] at hd
      have he : upV m [] = [] := by cases m <;> rfl
      rw [he, List.flatMap_nil, List.append_nil]
      have hmax : ∀ y ∈ S.erase x, y ≤ x := fun y hy => by
        have := drop_nil hd y hy
        simpa using this
      have hS2 : S = S.erase x ++ [x] := by
        refine up_eq (hxT.trans ?_) hS ?_
        · exact (List.perm_append_comm (l₁ := [x]) (l₂ := S.erase x))
        · exact List.pairwise_append.2 ⟨hTu, List.pairwise_singleton _ _, fun a ha b hb => by rw [List.mem_singleton] at hb; subst hb; exact hmax a ha⟩
      have hz : S.reverse = x :: (S.erase x).reverse := by
        conv => lhs; rw [hS2]
        simp
      rw [hz]
      exact hR.lift x (piv_none hd)
    | cons y D =>
      rw [hD] at hd
      have hxy : x < y := by have := drop_head hd; simp at this; omega
      have hsp : S.erase x = (S.erase x).takeWhile (fun y => decide (y ≤ x)) ++ y :: D := by rw [← hd, List.takeWhile_append_dropWhile]
      obtain ⟨W, hW⟩ : ∃ W, (S.erase x).takeWhile (fun y => decide (y ≤ x)) = W := ⟨_, rfl⟩
      have hWx : ∀ a ∈ W, a ≤ x := fun a ha => by
        rw [← hW] at ha
        have := take_mem ha
        simpa using this
      have hpv := piv_some hd
      rw [hW] at hsp hpv
      have hTu2 := hTu
      rw [hsp] at hTu2
      have hp2 := List.pairwise_append.1 hTu2
      have hp3 := List.pairwise_cons.1 hp2.2.1
      have hn : W ++ x :: D = S.erase y := by
        refine up_eq ?_ ?_ (up_erase y hS)
        · have h1 : S.Perm (y :: (W ++ x :: D)) := by
            refine hxT.trans ?_
            rw [hsp]
            exact ((List.perm_middle (a := y) (l₁ := W) (l₂ := D)).cons x).trans ((List.Perm.swap y x (W ++ D)).trans ((List.perm_middle (a := x) (l₁ := W) (l₂ := D)).symm.cons y))
          have h2 := h1.erase y
          rw [List.erase_cons_head] at h2
          exact h2.symm
        · refine List.pairwise_append.2 ⟨hp2.1, List.pairwise_cons.2 ⟨fun b hb => by have := hp3.1 b hb; omega, hp3.2⟩, fun a ha b hb => ?_⟩
          have h1 := hWx a ha
          rcases List.mem_cons.1 hb with rfl | hb
          · exact h1
          · have := hp3.1 b hb; omega
      rw [hn] at hpv
      refine hR.lift_on x hpv (runs_from hS hIH hl m (P ++ x :: U.takeWhile fun y => decide (y ≤ x)) D y ?_ ?_ ?_)
      · rw [hs, List.append_assoc, List.cons_append, ← hD, List.takeWhile_append_dropWhile]
      · intro p hp
        rcases List.mem_append.1 hp with hp | hp
        · have := hP p hp; omega
        · rcases List.mem_cons.1 hp with rfl | hp
          · exact hxy
          · have := take_mem hp; simp at this; omega
      · have h1 := (List.dropWhile_sublist (l := U) (fun y => decide (y ≤ x))).length_le
        rw [hD, List.length_cons] at h1
        omega

/-- From the rising order on, the next orders are all orders. -/
theorem runs_all : ∀ (f : Nat) (S : List Int), Up S → S.length = f → Runs S (ordF f S) S.reverse
  | 0, S, _, h => by
    rw [List.length_eq_zero_iff] at h
    subst h
    exact .last rfl
  | f + 1, S, hS, h => by
    cases S with
    | nil => cases h
    | cons a t =>
      have hr := runs_from hS (runs_all f) h (a :: t).length [] t a rfl (by simp) (by simp)
      rw [List.erase_cons_head] at hr
      unfold ordF
      rw [srt_of_up hS]
      exact hr
theorem runs_srt (L : List Int) : Runs (srt L) (ordF L.length L) (srt L).reverse := by
  have h := runs_all (srt L).length (srt L) (srt_up L) rfl
  rw [(srt_perm L).length_eq, ordF_congr _ (srt_perm L)] at h
  exact h
end Go.Proofs.Ytgcljhgpihpfgac
