/-
  Lists of numbers in memory, each in a block of its own, while the row of them grows; no program is spoken of here.
  Conditions: none.
-/
import Derived.Test.YtoheoojpmndhoabAppend
import Derived.Test.YtoheoojpmndhoabMem
import Derived.Maps.AppendAt
namespace Go.Proofs.Ytoheoojpmndhoab
set_option linter.unusedVariables false
open Go.RowKit

theorem Own.lt_ {w : World} {lo hi g : Nat} {B : Option Addr} {xs : List Int} (h : Own w lo hi B xs) (hx : xs ≠ []) (hB : B = some ⟨g, 0, none⟩) : lo ≤ g ∧ g < hi := by
  rcases h with h | ⟨b, cs, T, e, h1, h2, hb, hc⟩
  · exact absurd h hx
  · rw [hB] at e
    injection e with e
    injection e with e1 e2
    subst e1
    exact ⟨h1, h2⟩
theorem Own.head_ {w : World} {lo hi : Nat} {B : Option Addr} {xs : List Int} (h : Own w lo hi B xs) (hx : xs ≠ []) : ∃ g, B = some ⟨g, 0, none⟩ := by
  rcases h with h | ⟨b, cs, T, e, h1, h2, hb, hc⟩
  · exact absurd h hx
  · exact ⟨b, e⟩
/-- Another row has grown. -/
theorem Own.grownFar {w w' : World} {row : Option Nat} {lo hi : Nat} {B : Option Addr} {xs : List Int} (h : Own w lo hi B xs) (hg : w.grownBy w' row) (hhi : hi ≤ w.heap.size) (hr : xs ≠ [] → ∀ g, B = some ⟨g, 0, none⟩ → row ≠ some g) : Own w' lo hi B xs := by
  rcases h with h | ⟨b, cs, T, e, h1, h2, hb, hc⟩
  · exact .inl h
  · by_cases hx : xs = []
    · exact .inl hx
    · exact .inr ⟨b, cs, T, e, h1, h2, (hg.block b (by omega) (fun e' => hr hx b e e'.symm)).trans hb, hc⟩

/-- The lists 'xss' lie where 'vs' tell, none of them in block 'ob'. -/
def Rows1 (w : World) (base : Nat) (ob : Option Nat) (xss : List (List Int)) (vs : List Value) : Prop :=
  vs.length = xss.length ∧ ∀ (j : Nat) xs, xss[j]? = some xs → ∃ B c, vs[j]? = some (.slice B xs.length c) ∧ Own w base w.heap.size B xs ∧ (xs ≠ [] → ∀ g, B = some ⟨g, 0, none⟩ → ob ≠ some g)
/-- The row 'v' of lists. -/
def Rws (w : World) (base : Nat) (v : Value) (xss : List (List Int)) (vs : List Value) : Prop :=
  w.ownsRow base 22 1 v xss.length vs ∧ Rows1 w base v.ownBlock xss vs

theorem Rows1.one {w : World} {base : Nat} {ob : Option Nat} {xss : List (List Int)} {vs : List Value} (h : Rows1 w base ob xss vs) : ∀ u ∈ vs, u.oneCell' = true := by
  intro u hu
  obtain ⟨j, hj⟩ := List.getElem?_of_mem hu
  have hjl := (List.getElem?_eq_some_iff.1 hj).1
  obtain ⟨B, c, e, _⟩ := h.2 j _ (List.getElem?_eq_getElem (by rw [← h.1]; exact hjl))
  rw [hj] at e
  injection e with e
  subst e
  rfl
theorem Rows1.far {w : World} {base lo : Nat} {ob ob' : Option Nat} {xss : List (List Int)} {vs : List Value} (h : Rows1 w base ob xss vs) (hlo : lo ≤ base) (hob : ∀ g, ob' = some g → g < base) : Rows1 w lo ob' xss vs := by
  refine ⟨h.1, fun j xs hj => ?_⟩
  obtain ⟨B, c, e, ho, _⟩ := h.2 j xs hj
  refine ⟨B, c, e, ho.more hlo (Nat.le_refl _), fun hx g hB e' => ?_⟩
  have := ho.lt_ hx hB
  have := hob g e'
  omega
theorem Rows1.grown {w w' : World} {base : Nat} {row ob' : Option Nat} {xss : List (List Int)} {vs : List Value} (h : Rows1 w base row xss vs) (hg : w.grownBy w' row) (hob : ob' = row ∨ ob' = some w.heap.size) : Rows1 w' base ob' xss vs := by
  refine ⟨h.1, fun j xs hj => ?_⟩
  obtain ⟨B, c, e, ho, hf⟩ := h.2 j xs hj
  refine ⟨B, c, e, (ho.grownFar hg (Nat.le_refl _) hf).more (Nat.le_refl _) hg.size, fun hx g hB => ?_⟩
  have h1 := ho.lt_ hx hB
  rcases hob with rfl | rfl
  · exact hf hx g hB
  · intro e'
    injection e' with e'
    omega
theorem Rows1.below {w w' : World} {base : Nat} {ob : Option Nat} {xss : List (List Int)} {vs : List Value} (h : Rows1 w base ob xss vs) (hb : Below w.heap.size w w') : Rows1 w' base ob xss vs := by
  refine ⟨h.1, fun j xs hj => ?_⟩
  obtain ⟨B, c, e, ho, hf⟩ := h.2 j xs hj
  exact ⟨B, c, e, (ho.below hb (Nat.le_refl _)).more (Nat.le_refl _) hb.size, hf⟩
theorem Rows1.app {w : World} {base : Nat} {ob : Option Nat} {xss yss : List (List Int)} {vs us : List Value} (h : Rows1 w base ob xss vs) (k : Rows1 w base ob yss us) : Rows1 w base ob (xss ++ yss) (vs ++ us) := by
  refine ⟨by simp [h.1, k.1], fun j xs hj => ?_⟩
  by_cases hlt : j < xss.length
  · rw [List.getElem?_append_left hlt] at hj
    rw [List.getElem?_append_left (by rw [h.1]; exact hlt)]
    exact h.2 j xs hj
  · rw [List.getElem?_append_right (by omega)] at hj
    rw [List.getElem?_append_right (by rw [h.1]; omega), h.1]
    exact k.2 _ xs hj

theorem Rws.nil_ (w : World) (base : Nat) : Rws w base (.slice none 0 0) [] [] := ⟨World.ownsRow_nil _ _ _ _, rfl, fun j xs hj => by simp at hj⟩
theorem Rws.below {w w' : World} {base : Nat} {v : Value} {xss : List (List Int)} {vs : List Value} (h : Rws w base v xss vs) (hb : Below w.heap.size w w') : Rws w' base v xss vs :=
  ⟨row_below h.1 hb, h.2.below hb⟩
/-- More lists are appended. -/
theorem Rws.app {w w' : World} {base : Nat} {v v' : Value} {xss yss : List (List Int)} {vs us : List Value} (h : Rws w base v xss vs) (k : Rows1 w base v.ownBlock yss us)
    (hown : w'.ownsRow base 22 1 v' (xss.length + yss.length) (vs ++ us)) (hg : w.grownBy w' v.ownBlock) (hloc : v'.ownBlock = v.ownBlock ∨ v'.ownBlock = some w.heap.size) : Rws w' base v' (xss ++ yss) (vs ++ us) :=
  ⟨by rw [List.length_append]; exact hown, (h.2.app k).grown hg hloc⟩
theorem Rws.form {w : World} {base : Nat} {v : Value} {xss : List (List Int)} {vs : List Value} (h : Rws w base v xss vs) : ∃ A c, v = .slice A xss.length c := ownsRow_form h.1
theorem Rws.at_ {w : World} {base n c : Nat} {A : Option Addr} {xss : List (List Int)} {vs : List Value} (h : Rws w base (.slice A n c) xss vs) {k : Nat} {xs : List Int} (hk : xss[k]? = some xs) :
    ∃ g B d, A = some ⟨g, 0, none⟩ ∧ base ≤ g ∧ g < w.heap.size ∧ w.cell? ⟨g, k, none⟩ = some (.slice B xs.length d) ∧ Own w base w.heap.size B xs := by
  obtain ⟨B, d, e, ho, _⟩ := h.2.2 k xs hk
  have hkl := (List.getElem?_eq_some_iff.1 hk).1
  rcases h.1.2 with ⟨_, h0⟩ | ⟨g, cap, cur, hv, hg, hb, hnc, _, hs, ht⟩
  · omega
  · injection hv with e1 e2 e3
    subst e1
    refine ⟨g, B, d, rfl, hg, heap_lt hb, ?_, ho⟩
    rw [cell_of hb, ← Array.getElem?_toList]
    rw [← e, ← ht, List.getElem?_take_of_lt (by omega)]

theorem wpList_append_rows {P : Program} (w : World) {ops : Array Oper} {rest : List Oper} {o : Oper} {a : Act} {Q : Exit → Act → World → Prop} (hgd : o.guard = none) (s x : Operand) (t : TypeId)
    (ho : o.op = .call { callee := .builtin .append, args := #[s, x], argTypes := #[t, t] })
    (base : Nat) (e : TypeId) (i : TypeInfo) (ht : P.underlying t = some (.slice e)) (hi : P.info? e = some i) (hz : i.zero = some (.slice none 0 0)) (hsize : i.size = 1) (hby : i.bytes = 24)
    (v : Value) (n : Nat) (xs : List Value) (hs : a.eval s = v) (hown : w.ownsRow base e 1 v n xs)
    (b2 : Nat) (v2 : Value) (m : Nat) (news : List Value) (hx : a.eval x = v2) (hown2 : w.ownsRow b2 e 1 v2 m news) (h1 : ∀ u ∈ news, u.oneCell' = true)
    (hlen : n + m ≤ 4194304) (hbase : base ≤ w.heap.size)
    (h : ∀ v' w', w'.ownsRow base e 1 v' (n + m) (xs ++ news) → w.grownBy w' v.ownBlock → (v'.ownBlock = v.ownBlock ∨ v'.ownBlock = some w.heap.size) → wpList P ops Q rest (a.put o.dst v') w') : wpList P ops Q (o :: rest) a w := by
  have hnl : news.length = m := by have := hown2.1; omega
  rcases id hown2.2 with ⟨h0, hm⟩ | ⟨g, cap, cur, hv, hg, hb, hnc, _, hsz, htk⟩
  · subst hm
    have : news = [] := List.eq_nil_of_length_eq_zero hnl
    subst this
    refine wpList_plain hgd fun K hK => ?_
    have hrun := run_append_nothing (P := P) w base t o.type e i 1 ht hi v n xs hown 0
    unfold Oper.wp
    rw [h0] at hx
    simp [execOp, ho, resolve, invoke, builtin, hs, hx, hrun, Result.andThen]
    exact hK _ _ (h v w (by simpa using hown) (World.grownBy.refl w _) (.inl rfl))
  · subst hv
    exact wpList_append_own_at w hgd s x t ho base e i (.slice none 0 0) 1 24 ht hi hz hsize hby rfl (by decide) v n xs hs hown ⟨g, 0, none⟩ m cap news hx (by omega) (hown2.cells (g := g) rfl) h1 (by unfold maxLen; omega) (by omega) hbase
      fun v' w' h2 h3 _ h5 => h v' w' h2 h3 h5
end Go.Proofs.Ytoheoojpmndhoab
