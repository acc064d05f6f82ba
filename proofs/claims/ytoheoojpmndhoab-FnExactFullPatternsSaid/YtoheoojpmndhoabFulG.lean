/-
  A variable that holds a growing row of lists, beside blocks that it has no part in; no program is spoken of here.
  Conditions: none.
-/
import Derived.Test.YtoheoojpmndhoabRws
import Derived.Test.YtoheoojpmndhoabNest
import Derived.RangeFuncBox
namespace Go.Proofs.Ytoheoojpmndhoab
set_option linter.unusedVariables false
open Go.RowKit

theorem grown_setF (w : World) (p : Addr) (u : Value) : w.grownBy (w.setCell p u) (some p.block) :=
  ⟨rfl, rfl, rfl, by simp [World.setCell], fun k _ hk => Below.heap_setCell _ _ _ k (fun e => hk (by rw [e]))⟩
theorem Rows1.bothG {w w' : World} {base : Nat} {row ob : Option Nat} {xss : List (List Int)} {vs : List Value} (h : Rows1 w base row xss vs) (k : Rows1 w base ob xss vs) (hg : w.grownBy w' row) : Rows1 w' base ob xss vs := by
  refine ⟨h.1, fun j xs hj => ?_⟩
  obtain ⟨B, c, e, ho, hf⟩ := h.2 j xs hj
  obtain ⟨B', c', e', ho', hf'⟩ := k.2 j xs hj
  rw [e] at e'
  injection e' with e'
  injection e' with e1 e2 e3
  subst e1
  exact ⟨B, c, e, (ho.grownFar hg (Nat.le_refl _) hf).more (Nat.le_refl _) hg.size, hf'⟩
theorem Rows1.newer {w : World} {base p : Nat} {ob : Option Nat} {xss : List (List Int)} {vs : List Value} (h : Rows1 w base ob xss vs) (hp : w.heap.size ≤ p) : Rows1 w base (some p) xss vs := by
  refine ⟨h.1, fun j xs hj => ?_⟩
  obtain ⟨B, c, e, ho, hf⟩ := h.2 j xs hj
  refine ⟨B, c, e, ho, fun hx g hB e' => ?_⟩
  have h1 := ho.lt_ hx hB
  injection e' with e'
  omega

/-- The lists lie in blocks that rise. -/
def AscF (vs : List Value) : Prop := vs.Pairwise fun u v => ∀ g h, u.ownBlock = some g → v.ownBlock = some h → g < h
/-- All of the lists' blocks lie below one. -/
def UpF (vs : List Value) (b : Nat) : Prop := ∀ u ∈ vs, ∀ g, u.ownBlock = some g → g < b
theorem AscF.nil_ : AscF [] := List.Pairwise.nil
theorem UpF.nil_ (b : Nat) : UpF [] b := fun u hu => by cases hu
theorem UpF.mono {vs : List Value} {b c : Nat} (h : UpF vs b) (hb : b ≤ c) : UpF vs c := fun u hu g e => Nat.lt_of_lt_of_le (h u hu g e) hb
theorem AscF.snoc {vs : List Value} {u : Value} (h : AscF vs) (hu : ∀ g, u.ownBlock = some g → UpF vs g) : AscF (vs ++ [u]) := by
  refine List.pairwise_append.2 ⟨h, List.pairwise_singleton _ _, fun a ha b hb g k e1 e2 => ?_⟩
  obtain rfl : b = u := by simpa using hb
  exact hu k e2 a ha g e1
theorem UpF.snoc {vs : List Value} {u : Value} {b : Nat} (h : UpF vs b) (hu : ∀ g, u.ownBlock = some g → g < b) : UpF (vs ++ [u]) b := fun a ha g e => by
  rcases List.mem_append.1 ha with ha | ha
  · exact h a ha g e
  · obtain rfl : a = u := by simpa using ha
    exact hu g e

theorem rws_nestF {w : World} {base n c : Nat} {A : Option Addr} {xss : List (List Int)} {vs : List Value} (h : Rws w base (.slice A n c) xss vs) (ha : AscF vs) : Nest w base w.heap.size A xss := by
  by_cases hx : xss = []
  · exact .inl hx
  have hpos : 0 < xss.length := List.length_pos_iff.2 hx
  obtain ⟨h1, h2⟩ := h
  rcases h1.2 with ⟨_, h0⟩ | ⟨g, cap, cur, hv, hg, hb, hnc, _, hs, ht⟩
  · omega
  · injection hv with e1 e2 e3
    subst e1
    have row : ∀ (k : Nat) xs, xss[k]? = some xs → ∃ B d, vs[k]? = some (.slice B xs.length d) ∧ cur[k]? = some (.slice B xs.length d) ∧ Own w base w.heap.size B xs ∧ (xs ≠ [] → ∃ b, B = some ⟨b, 0, none⟩ ∧ b ≠ g) := by
      intro k xs hk
      obtain ⟨B, d, e, ho, hf⟩ := h2.2 k xs hk
      have hkl := (List.getElem?_eq_some_iff.1 hk).1
      refine ⟨B, d, e, ?_, ho, fun hne => ?_⟩
      · rw [← Array.getElem?_toList, ← e, ← ht, List.getElem?_take_of_lt (by omega)]
      · obtain ⟨b, hbB⟩ := ho.head_ hne
        exact ⟨b, hbB, fun e' => hf hne b hbB (by rw [← e']; rfl)⟩
    refine .inr ⟨g, cur, _, fun k => match vs[k]? with | some (.slice (some a) _ _) => a.block | _ => 0, rfl, hg, heap_lt hb, hb, fun k xs hk => ?_, fun i j xs ys hi hj hxi hyj hij => ?_⟩
    · obtain ⟨B, d, e1, e2, ho, hf⟩ := row k xs hk
      refine ⟨B, d, e2, ho, fun hne => ?_⟩
      obtain ⟨b, rfl, hbg⟩ := hf hne
      exact ⟨by simp only [e1], by simpa only [e1] using hbg⟩
    · obtain ⟨B, d, e1, _, _, hf⟩ := row i xs hi
      obtain ⟨B', d', e1', _, _, hf'⟩ := row j ys hj
      obtain ⟨b, rfl, -⟩ := hf hxi
      obtain ⟨b', rfl, -⟩ := hf' hyj
      simp only [e1, e1']
      have hil := (List.getElem?_eq_some_iff.1 e1).1
      have hjl := (List.getElem?_eq_some_iff.1 e1').1
      have key : ∀ p q, p < q → ∀ (u v : Value) (bu bv : Nat), vs[p]? = some u → vs[q]? = some v → u.ownBlock = some bu → v.ownBlock = some bv → bu < bv := fun p q hpq u v bu bv hu hv' h3 h4 => by
        obtain ⟨hp, rfl⟩ := List.getElem?_eq_some_iff.1 hu
        obtain ⟨hq, rfl⟩ := List.getElem?_eq_some_iff.1 hv'
        exact List.pairwise_iff_getElem.1 ha p q hp hq hpq _ _ h3 h4
      rcases Nat.lt_or_gt_of_ne hij with hlt | hlt
      · exact Nat.ne_of_lt (key i j hlt _ _ b b' e1 e1' rfl rfl)
      · exact Nat.ne_of_gt (key j i hlt _ _ b' b e1' e1 rfl rfl)

/-- Block B holds the row L of lists; all of it lies from base on, outside X. -/
def Lst (w : World) (B T base : Nat) (X : Nat → Prop) (L : List (List Int)) : Prop :=
  ∃ v vs, w.heap[B]? = some (.cells #[v] T (0, 0)) ∧ Rws w base v L vs ∧ B < base ∧ base ≤ w.heap.size ∧ (∀ p, X p → base ≤ p ∧ v.ownBlock ≠ some p ∧ Rows1 w base (some p) L vs) ∧ AscF vs ∧ UpF vs w.heap.size

section
variable {w w' : World} {B T base : Nat} {X : Nat → Prop} {L : List (List Int)}
theorem Lst.below (h : Lst w B T base X L) (hb : Below w.heap.size w w') : Lst w' B T base X L := by
  obtain ⟨v, vs, h1, h2, h3, h4, h5, h6, h7⟩ := h
  exact ⟨v, vs, (hb.block _ (by omega)).trans h1, h2.below hb, h3, Nat.le_trans h4 hb.size, fun p hp => ⟨(h5 p hp).1, (h5 p hp).2.1, (h5 p hp).2.2.below hb⟩, h6, h7.mono hb.size⟩
theorem Lst.more (h : Lst w B T base X L) : Lst w B T base (fun p => X p ∨ w.heap.size ≤ p) L := by
  obtain ⟨v, vs, h1, h2, h3, h4, h5, h6, h7⟩ := h
  refine ⟨v, vs, h1, h2, h3, h4, fun p hp => ?_, h6, h7⟩
  rcases hp with hp | hp
  · exact h5 p hp
  · exact ⟨by omega, fun e => by have := (h2.1.lt p e).2; omega, h2.2.newer hp⟩
theorem Lst.less {Y : Nat → Prop} (h : Lst w B T base X L) (hy : ∀ p, Y p → X p) : Lst w B T base Y L := by
  obtain ⟨v, vs, h1, h2, h3, h4, h5, h6, h7⟩ := h
  exact ⟨v, vs, h1, h2, h3, h4, fun p hp => h5 p (hy p hp), h6, h7⟩
theorem Lst.set (h : Lst w B T base X L) {p : Addr} (hp : X p.block) (u : Value) : Lst (w.setCell p u) B T base X L := by
  obtain ⟨v, vs, h1, h2, h3, h4, h5, h6, h7⟩ := h
  obtain ⟨g1, g2, g3⟩ := h5 _ hp
  have hg := grown_setF w p u
  refine ⟨v, vs, (hg.block B (by omega) (fun e => by injection e with e; omega)).trans h1, ⟨h2.1.kept hg ?_, g3.bothG h2.2 hg⟩, h3, Nat.le_trans h4 hg.size, fun q hq => ⟨(h5 q hq).1, (h5 q hq).2.1, g3.bothG (h5 q hq).2.2 hg⟩, h6, h7.mono hg.size⟩
  cases e : v.ownBlock with
  | none => exact .inl rfl
  | some g => exact .inr fun e' => g2 (by rw [e, e'])
/-- One list more has been appended, and what came out stored. -/
theorem lst_app {v v' : Value} {vs : List Value} {xs : List Int} {B' : Option Addr} {c m w0 : Nat} {W : World} (h1 : w.heap[B]? = some (.cells #[v] T (0, 0))) (h2 : Rws w base v L vs) (h3 : B < base) (h4 : base ≤ w.heap.size)
    (h5 : ∀ p, X p → base ≤ p ∧ v.ownBlock ≠ some p ∧ Rows1 w base (some p) L vs) (hX : ∀ p, X p → p < w0) (hw0 : base ≤ w0) (hws : w0 ≤ w.heap.size) (hm : xs.length = m) (ho : Own w w0 w.heap.size B' xs) (hv0 : ∀ g, v.ownBlock = some g → g < w0)
    (hx0 : xs ≠ []) (ha : AscF vs) (hu : UpF vs w0)
    (hown : w'.ownsRow base 22 1 v' (L.length + 1) (vs ++ [.slice B' m c])) (hg : w.grownBy w' v.ownBlock) (hloc : v'.ownBlock = v.ownBlock ∨ v'.ownBlock = some w.heap.size) :
    Lst (w'.setCell ⟨B, 0, none⟩ v') B T base X (L ++ [xs]) ∧ w'.heap[B]? = some (.cells #[v] T (0, 0)) := by
  have k1 : ∀ ob : Option Nat, (∀ g, ob = some g → g < w0) → Rows1 w base ob [xs] [.slice B' m c] := fun ob hob => by
    refine ⟨rfl, fun j ys hj => ?_⟩
    obtain rfl : j = 0 := by
      have := (List.getElem?_eq_some_iff.1 hj).1
      simp at this
      exact this
    obtain rfl : xs = ys := by simpa using hj
    refine ⟨B', c, by rw [hm]; rfl, ho.more hw0 (Nat.le_refl _), fun hx g hB e => ?_⟩
    have := (ho.lt_ hx hB).1
    have := hob g e
    omega
  have hnew : ∀ g, (Value.slice B' m c).ownBlock = some g → w0 ≤ g ∧ g < w.heap.size := fun g hg' => by
    obtain ⟨g', e⟩ := ho.head_ hx0
    have h1 := ho.lt_ hx0 e
    rw [e] at hg'
    injection hg' with hg'
    have : g' = g := hg'
    omega
  have hB : w'.heap[B]? = some (.cells #[v] T (0, 0)) := (hg.block B (by omega) (fun e => by
    have := (h2.1.lt B e.symm).1
    omega)).trans h1
  have hR := h2.app (k1 _ hv0) hown hg hloc
  have hgs := grown_setF w' ⟨B, 0, none⟩ v'
  have hsz := hg.size
  have hfB : Rows1 w' base (some B) (L ++ [xs]) (vs ++ [.slice B' m c]) := hR.2.far (Nat.le_refl _) (fun g e => by injection e with e; omega)
  refine ⟨⟨v', vs ++ [.slice B' m c], set_self hB 0 v', ⟨hR.1.kept hgs ?_, hfB.bothG hR.2 hgs⟩, h3, by rw [World.size_setCell]; omega, fun p hp => ?_, ha.snoc (fun g hg' => hu.mono (hnew g hg').1), by rw [World.size_setCell]; exact (hu.mono (by omega)).snoc (fun g hg' => by have := (hnew g hg').2; omega)⟩, hB⟩
  · cases e : v'.ownBlock with
    | none => exact .inl rfl
    | some g =>
      refine .inr fun e' => ?_
      have := (hR.1.lt g e).1
      injection e' with e'
      have : g = B := e'
      omega
  · obtain ⟨q1, q2, q3⟩ := h5 p hp
    have hpl := hX p hp
    refine ⟨q1, fun e => ?_, hfB.bothG ?_ hgs⟩
    · rcases hloc with e2 | e2
      · exact q2 (by rw [← e2, e])
      · rw [e] at e2
        injection e2 with e2
        omega
    · exact (h2.2.app (k1 _ hv0)).bothG (q3.app (k1 _ (fun g e => by injection e with e; omega))) hg
end
end Go.Proofs.Ytoheoojpmndhoab
