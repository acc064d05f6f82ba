/-
  The next order told by places; rows in memory for it.
  Conditions: none.
-/
import Derived.Test.YtgcljhgpihpfgacOrdM
import Derived.Test.YtgcljhgpihpfgacRowI
import Derived.Shelf.Slices.Reverse
namespace Go.Proofs.Ytgcljhgpihpfgac
set_option linter.unusedVariables false
open Go.RowKit Go.Sort

def Falls (t : List Int) : Prop := t.Pairwise (fun a b => b ≤ a)
theorem drop_all {p : Int → Bool} : ∀ {l : List Int}, (∀ a ∈ l, p a = true) → l.dropWhile p = []
  | [], _ => rfl
  | b :: l, h => by
    rw [List.dropWhile_cons, if_pos (h b (by simp))]
    exact drop_all fun a ha => h a (by simp [ha])
theorem take_all {p : Int → Bool} : ∀ {l : List Int} {r : List Int} {x : Int}, (∀ a ∈ l, p a = true) → p x = false → (l ++ x :: r).takeWhile p = l ∧ (l ++ x :: r).dropWhile p = x :: r
  | [], r, x, _, hx => by simp [hx]
  | b :: l, r, x, h, hx => by
    have hb := h b (by simp)
    obtain ⟨h1, h2⟩ := take_all (l := l) (r := r) (fun a ha => h a (by simp [ha])) hx
    rw [List.cons_append, List.takeWhile_cons, List.dropWhile_cons, if_pos hb, if_pos hb, h1, h2]
    exact ⟨rfl, rfl⟩
theorem falls_none : ∀ {t : List Int}, Falls t → nextR t = none
  | [], _ => rfl
  | v :: t, h => by
    have h2 := List.pairwise_cons.1 h
    rw [nextR, falls_none h2.2]
    show pivR v t = none
    unfold pivR
    rw [drop_all (l := t.reverse) (fun a ha => by have := h2.1 a (List.mem_reverse.1 ha); simpa using this)]
theorem nextR_pre : ∀ (P : List Int) {l l' : List Int}, nextR l = some l' → nextR (P ++ l) = some (P ++ l')
  | [], _, _, h => h
  | v :: P, l, l', h => by rw [List.cons_append, nextR, nextR_pre P h]; rfl
theorem nextR_at {v x : Int} {t1 t2 : List Int} (hf : Falls (t1 ++ x :: t2)) (hx : v < x) (h2 : ∀ y ∈ t2, y ≤ v) : nextR (v :: (t1 ++ x :: t2)) = some (x :: (t1 ++ v :: t2).reverse) := by
  rw [nextR, falls_none hf]
  show pivR v _ = _
  unfold pivR
  have hr : (t1 ++ x :: t2).reverse = t2.reverse ++ x :: t1.reverse := by simp
  obtain ⟨e1, e2⟩ := take_all (p := fun y => decide (y ≤ v)) (l := t2.reverse) (r := t1.reverse) (x := x) (fun a ha => by have := h2 a (List.mem_reverse.1 ha); simpa using this) (by simp; omega)
  rw [hr, e1, e2]
  simp
theorem split_at : ∀ {xs : List Int} {k : Nat} {v : Int}, xs[k]? = some v → ∃ P t, xs = P ++ v :: t ∧ P.length = k
  | [], _, _, h => by simp at h
  | a :: xs, 0, v, h => by injection h with h; subst h; exact ⟨[], xs, rfl, rfl⟩
  | a :: xs, k + 1, v, h => by
    obtain ⟨P, t, e, hl⟩ := split_at (xs := xs) (k := k) (by simpa using h)
    exact ⟨a :: P, t, by rw [e]; rfl, by simp [hl]⟩
theorem next_ix {xs : List Int} {i j : Nat} {v x : Int} (hi : xs[i]? = some v) (hj : xs[j]? = some x) (hij : i < j) (hf : Falls (xs.drop (i + 1))) (hv : v < x) (h2 : ∀ k y, j < k → xs[k]? = some y → y ≤ v) :
    nextR xs = some ((((xs.set i x).set j v).take (i + 1)) ++ (((xs.set i x).set j v).drop (i + 1)).reverse) := by
  obtain ⟨P, t, rfl, rfl⟩ := split_at hi
  obtain ⟨d, hd⟩ : ∃ d, j = P.length + (d + 1) := ⟨j - P.length - 1, by omega⟩
  subst hd
  rw [List.getElem?_append_right (by omega), Nat.add_sub_cancel_left, List.getElem?_cons_succ] at hj
  obtain ⟨t1, t2, rfl, rfl⟩ := split_at hj
  have hdr : (P ++ v :: (t1 ++ x :: t2)).drop (P.length + 1) = t1 ++ x :: t2 := by simp [List.drop_append]
  rw [hdr] at hf
  have hset : ((P ++ v :: (t1 ++ x :: t2)).set P.length x).set (P.length + (t1.length + 1)) v = P ++ x :: (t1 ++ v :: t2) := by
    rw [List.set_append_right _ _ (by omega), Nat.sub_self, List.set_cons_zero, List.set_append_right _ _ (by omega), Nat.add_sub_cancel_left, List.set_cons_succ, List.set_append_right _ _ (by omega), Nat.sub_self, List.set_cons_zero]
  rw [hset]
  have hn := nextR_pre P (nextR_at (t1 := t1) (t2 := t2) hf hv (fun y hy => by
    obtain ⟨k, hk, e⟩ := List.mem_iff_getElem.1 hy
    refine h2 (P.length + (t1.length + 1) + (k + 1)) y (by omega) ?_
    rw [List.getElem?_append_right (by omega), show P.length + (t1.length + 1) + (k + 1) - P.length = (t1.length + (k + 1)) + 1 by omega, List.getElem?_cons_succ, List.getElem?_append_right (by omega), Nat.add_sub_cancel_left, List.getElem?_cons_succ, List.getElem?_eq_getElem hk, e]))
  have ht : (P ++ x :: (t1 ++ v :: t2)).take (P.length + 1) = P ++ [x] := by
    rw [List.take_append, List.take_of_length_le (by omega), Nat.add_sub_cancel_left]; rfl
  have hd : (P ++ x :: (t1 ++ v :: t2)).drop (P.length + 1) = t1 ++ v :: t2 := by
    rw [List.drop_append, List.drop_of_length_le (by omega), Nat.add_sub_cancel_left]; rfl
  rw [hn, ht, hd, List.append_assoc]
  rfl

theorem falls_step {xs : List Int} {i : Nat} {a b : Int} (ha : xs[i]? = some a) (hb : xs[i + 1]? = some b) (hab : b ≤ a) (hf : Falls (xs.drop (i + 1))) : Falls (xs.drop i) := by
  have e1 : xs.drop i = a :: xs.drop (i + 1) := by
    have hl := (List.getElem?_eq_some_iff.1 ha)
    obtain ⟨h1, h2⟩ := hl
    rw [List.drop_eq_getElem_cons h1, h2]
  have e2 : xs.drop (i + 1) = b :: xs.drop (i + 1 + 1) := by
    obtain ⟨h1, h2⟩ := List.getElem?_eq_some_iff.1 hb
    rw [List.drop_eq_getElem_cons h1, h2]
  rw [e1]
  refine List.pairwise_cons.2 ⟨fun c hc => ?_, hf⟩
  rw [e2] at hc hf
  rcases List.mem_cons.1 hc with rfl | hc
  · exact hab
  · have := (List.pairwise_cons.1 hf).1 c hc; omega
theorem falls_end {xs : List Int} {i : Nat} (h : xs.length ≤ i + 1) : Falls (xs.drop i) := by
  have hl : (xs.drop i).length ≤ 1 := by rw [List.length_drop]; omega
  cases e : xs.drop i with
  | nil => exact List.Pairwise.nil
  | cons a t =>
    rw [e] at hl
    have : t = [] := List.length_eq_zero_iff.1 (by simpa using hl)
    subst this
    exact List.pairwise_singleton _ _

theorem Row.put {w : World} {g T N : Nat} {ys : List Int} (h : Row w g T N ys) (off : Nat) (d : List Int) (hd : off + d.length = ys.length) (q : Nat) :
    Row (putRow (Value.int .i64) (Sort.ahead w q) g off d.toArray) g T N (ys.take off ++ d) := by
  obtain ⟨cs, hb, hs, hc⟩ := h
  refine ⟨putCells (Value.int .i64) off d.toArray cs, by simp [putRow, mapBlock, Sort.ahead, Array.getElem?_modify, hb, onCells], by simpa [putCells] using hs, fun j u hu => ?_⟩
  have hj : j < ys.length := by
    have := (List.getElem?_eq_some_iff.1 hu).1
    rw [List.length_append, List.length_take] at this; omega
  have h0 := hc j _ (List.getElem?_eq_getElem hj)
  have hjc := (Array.getElem?_eq_some_iff.1 h0).1
  simp only [putCells, Array.getElem?_mapIdx, Array.getElem?_eq_getElem hjc, Option.map_some]
  by_cases e : off ≤ j
  · rw [if_pos ⟨e, by simp; omega⟩]
    rw [List.getElem?_append_right (by rw [List.length_take]; omega), List.length_take, Nat.min_eq_left (by omega)] at hu
    obtain ⟨h1, h2⟩ := List.getElem?_eq_some_iff.1 hu
    rw [getElem!_pos d.toArray (j - off) (by simpa using h1)]
    simp [h2]
  · rw [if_neg (by omega)]
    rw [List.getElem?_append_left (by rw [List.length_take]; omega), List.getElem?_take, if_pos (by omega)] at hu
    have h1 := hc j u hu
    rw [Array.getElem?_eq_getElem hjc] at h1
    exact h1
theorem Row.holds {w : World} {g T N : Nat} {ys : List Int} (h : Row w g T N ys) (off : Nat) : Holds (Value.int .i64) w g off (ys.drop off).toArray := by
  intro j hj
  have hj2 : off + j < ys.length := by simp at hj; omega
  refine ⟨?_, h.frozen _⟩
  rw [h.cell (List.getElem?_eq_getElem hj2)]
  rw [getElem!_pos (ys.drop off).toArray j hj]
  simp
theorem only_put (w : World) (g off q : Nat) (d : Array Int) : Only (fun b => b = g) w (putRow (Value.int .i64) (Sort.ahead w q) g off d) := by
  refine ⟨rfl, rfl, rfl, by simp [putRow, mapBlock, Sort.ahead], fun k _ hk => ?_⟩
  simp [putRow, mapBlock, Sort.ahead, Array.getElem?_modify, show g ≠ k from fun e => hk e.symm]
end Go.Proofs.Ytgcljhgpihpfgac
