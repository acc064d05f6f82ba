/-
  A block of whole numbers that is known whole, and a slice that a call has built by appending; no program is spoken of here.
  Conditions: none.
-/
import Derived.Test.YtoheoojpmndhoabNum
import Derived.Deep.OwnRows
namespace Go.Proofs.Ytoheoojpmndhoab
set_option linter.unusedVariables false
open Go.RowKit

/-- Block 'g' is just the numbers 'ys'. -/
def Arr (w : World) (g T : Nat) (ys : List Int) : Prop := ∃ cs : Array Value, w.heap[g]? = some (.cells cs T (0, 0)) ∧ cs.toList = ys.map (Value.int .i64)

section
variable {w w' : World} {g T : Nat} {ys : List Int}

theorem Arr.lt (h : Arr w g T ys) : g < w.heap.size := by
  obtain ⟨cs, hb, _⟩ := h
  rcases Nat.lt_or_ge g w.heap.size with hlt | hge
  · exact hlt
  · rw [Array.getElem?_eq_none hge] at hb; cases hb

theorem Arr.get {cs : Array Value} (h : cs.toList = ys.map (Value.int .i64)) (k : Nat) : cs[k]? = ys[k]?.map (Value.int .i64) := by
  rw [← Array.getElem?_toList, h, List.getElem?_map]

theorem Arr.cell (h : Arr w g T ys) {k : Nat} {u : Int} (hu : ys[k]? = some u) : w.cell? ⟨g, k, none⟩ = some (.int .i64 u) := by
  obtain ⟨cs, hb, hc⟩ := h
  rw [cell_of_row w g k cs T (0, 0) hb, Arr.get hc, hu]
  rfl

theorem Arr.at_ (h : Arr w g T ys) {k : Nat} (hk : k < ys.length) : ∃ u, ys[k]? = some u ∧ w.cell? ⟨g, k, none⟩ = some (.int .i64 u) :=
  ⟨ys[k], List.getElem?_eq_getElem hk, h.cell (List.getElem?_eq_getElem hk)⟩

theorem Arr.frozen (h : Arr w g T ys) (k : Nat) : w.frozen? ⟨g, k, none⟩ = false := by
  obtain ⟨cs, hb, hc⟩ := h
  simp [World.frozen?, hb]

theorem Arr.set (h : Arr w g T ys) (k : Nat) (u : Int) : Arr (w.setCell ⟨g, k, none⟩ (.int .i64 u)) g T (ys.set k u) := by
  obtain ⟨cs, hb, hc⟩ := h
  refine ⟨cs.setIfInBounds k (.int .i64 u), by simp [World.setCell, Array.getElem?_modify, hb], ?_⟩
  rw [Array.toList_setIfInBounds, hc, List.map_set]

theorem Arr.keep (h : Arr w g T ys) (hb : w'.heap[g]? = w.heap[g]?) : Arr w' g T ys := by
  obtain ⟨cs, hb', hc⟩ := h
  exact ⟨cs, hb.trans hb', hc⟩

theorem Arr.far (h : Arr w g T ys) {p : Addr} (hp : p.block ≠ g) (u : Value) : Arr (w.setCell p u) g T ys := h.keep (Below.heap_setCell w p u g (Ne.symm hp))

theorem Arr.alloc (h : Arr w g T ys) (o : Obj) : Arr (w.alloc o) g T ys := h.keep (Below.heap_alloc w o g h.lt)

theorem Arr.grown {row : Option Nat} (h : Arr w g T ys) (hg : w.grownBy w' row) (hr : row ≠ some g) : Arr w' g T ys := h.keep (hg.block g h.lt (fun e => hr e.symm))

theorem Arr.own {lo hi : Nat} (h : Arr w g T ys) (h1 : lo ≤ g) (h2 : g < hi) : Own w lo hi (some ⟨g, 0, none⟩) ys := by
  obtain ⟨cs, hb, hc⟩ := h
  refine .inr ⟨g, cs, T, rfl, h1, h2, hb, fun k hk => ?_⟩
  rw [Arr.get hc, List.getElem?_eq_getElem hk]
  simp [List.getD, hk]

theorem arr_new (w : World) (T n : Nat) : Arr (w.alloc (.cells (madeCells #[.int .i64 0] n) T)) w.heap.size T (List.replicate n 0) :=
  ⟨_, heap_alloc_new w _, by rw [toList_madeCells_one]; simp⟩
end

theorem ownsRow_own {w : World} {base T : Nat} {A : Option Addr} {n c : Nat} {ys : List Int} (h : w.ownsRow base T 1 (.slice A n c) ys.length (ys.map (Value.int .i64))) : ys.length = n ∧ Own w base w.heap.size A ys := by
  obtain ⟨hl, h | ⟨g, cap, cur, hv, hg, hb, hnc, _, hs, ht⟩⟩ := h
  · obtain ⟨hv, hn⟩ := h
    have : ys = [] := List.eq_nil_of_length_eq_zero hn
    subst this
    injection hv with h1 h2 h3
    subst h2
    exact ⟨rfl, .inl rfl⟩
  · injection hv with h1 h2 h3
    subst h1 h2 h3
    have hlt : g < w.heap.size := by
      rcases Nat.lt_or_ge g w.heap.size with hlt | hge
      · exact hlt
      · rw [Array.getElem?_eq_none hge] at hb; cases hb
    refine ⟨rfl, .inr ⟨g, cur, T, rfl, hg, hlt, hb, fun k hk => ?_⟩⟩
    have e : cur.toList[k]? = (ys.map (Value.int .i64))[k]? := by
      rw [← ht, List.getElem?_take_of_lt (by omega)]
    rw [← Array.getElem?_toList, e]
    simp [List.getD, hk]

theorem ownsRow_form {w : World} {base T : Nat} {v : Value} {n : Nat} {xs : List Value} (h : w.ownsRow base T 1 v n xs) : ∃ A c, v = .slice A n c := by
  obtain ⟨_, h | ⟨g, cap, cur, hv, _⟩⟩ := h
  · obtain ⟨rfl, rfl⟩ := h
    exact ⟨none, 0, rfl⟩
  · exact ⟨_, _, hv⟩

theorem ownsRow_head {w : World} {base T : Nat} {v : Value} {n : Nat} {ys : List Int} (h : w.ownsRow base T 1 v n (ys.map (Value.int .i64))) (hn : 0 < n) :
    ∃ g cap, v = .slice (some ⟨g, 0, none⟩) n cap ∧ base ≤ g ∧ g < w.heap.size ∧ (∀ (k : Nat) u, ys[k]? = some u → w.cell? ⟨g, k, none⟩ = some (.int .i64 u)) ∧ (∀ k, w.frozen? ⟨g, k, none⟩ = false) := by
  have hl := h.1
  have hlt := h.lt
  obtain ⟨_, h0 | ⟨g, cap, cur, rfl, hg, _⟩⟩ := id h
  · omega
  · have hown : (Value.slice (some ⟨g, 0, none⟩) n cap).ownBlock = some g := rfl
    refine ⟨g, cap, rfl, hg, (hlt g hown).2, fun k u hu => ?_, fun k => h.frozenAt k⟩
    have hk := (List.getElem?_eq_some_iff.1 hu).1
    rw [h.cellAt k (by simp at hl; omega), List.getElem?_map, hu]
    rfl

theorem ownsRow_set {w : World} {base T g n cap : Nat} {ys : List Int} (h : w.ownsRow base T 1 (.slice (some ⟨g, 0, none⟩) n cap) n (ys.map (Value.int .i64))) (k : Nat) (u : Int) :
    (w.setCell ⟨g, k, none⟩ (.int .i64 u)).ownsRow base T 1 (.slice (some ⟨g, 0, none⟩) n cap) n ((ys.set k u).map (Value.int .i64)) := by
  rw [List.map_set]
  exact (h.stored k _).1

/-- One new cell is where it is asked for. -/
theorem one_new (w : World) (v : Value) (T : Nat) : ∀ (j : Nat) (u : Value), [v][j]? = some u → (w.alloc (.cells #[v] T)).cell? ((⟨w.heap.size, 0, none⟩ : Addr).add j) = some u := by
  intro j u hj
  match j, hj with
  | 0, hj => simp at hj; subst hj; simp [Addr.add]

theorem row_below {w w' : World} {base e size n : Nat} {v : Value} {xs : List Value} (h : w.ownsRow base e size v n xs) (hb : Below w.heap.size w w') : w'.ownsRow base e size v n xs :=
  h.kept (row := none) ⟨hb.os, hb.tape, hb.output, hb.size, fun i hi _ => hb.block i hi⟩ (by by_cases h : v.ownBlock = none <;> simp [h])
end Go.Proofs.Ytoheoojpmndhoab
