/-
  An appended byte, and the block it lies in.
  Conditions: none.
-/
import Derived.Laws.AppendOwnNone
import Derived.Test.YtgcljhgpihpfgabArr
import Derived.Test.YtgcljhgpihpfgabMem
import Derived.Laws.OwnMore
namespace Go.Proofs.Ytgcljhgpihpfgab
set_option linter.unusedVariables false
open Go.RowKit

theorem u8_info : (Try.prog.info? 5).map (fun i => (i.zero, i.size, i.bytes)) = some (some (.int .u8 0), 1, 1) := by kernel_rfl

/-- The list of a row's slice reads as bytes. -/
abbrev OwnU (w : World) (base : Nat) (A : Option Addr) (n c : Nat) (xs : List Int) : Prop := w.ownsRow base 5 1 (.slice A n c) n (xs.map (Value.int .u8))
theorem OwnU.len {w : World} {base : Nat} {A : Option Addr} {n c : Nat} {xs : List Int} (h : OwnU w base A n c xs) : xs.length = n := by have := h.1; simpa using this
theorem OwnU.at_ {w : World} {base : Nat} {A : Option Addr} {n c j : Nat} {xs : List Int} {u : Int} (h : OwnU w base A n c xs) (hu : xs[j]? = some u) :
    ∃ g, A = some ⟨g, 0, none⟩ ∧ base ≤ g ∧ g < w.heap.size ∧ n ≤ c ∧ j < n ∧ w.cell? ⟨g, j, none⟩ = some (.int .u8 u) ∧ w.frozen? ⟨g, j, none⟩ = false := by
  have hl := h.len
  have hj := (List.getElem?_eq_some_iff.1 hu).1
  rcases id h.2 with ⟨h', hn⟩ | ⟨g, cap, cur, h', hb, hg, hnc, _⟩
  · omega
  · injection h' with h1 h2 h3
    subst h1 h3
    refine ⟨g, rfl, hb, heap_lt hg, hnc, by omega, ?_, h.frozenAt j⟩
    rw [h.cellAt j (by omega), List.getElem?_map, hu]; rfl
theorem OwnU.set {w : World} {base g n c : Nat} {xs : List Int} (h : OwnU w base (some ⟨g, 0, none⟩) n c xs) (j : Nat) (u : Int) :
    OwnU (w.setCell ⟨g, j, none⟩ (.int .u8 u)) base (some ⟨g, 0, none⟩) n c (xs.set j u) := by
  have := (h.stored j (.int .u8 u)).1
  rwa [← List.map_set] at this
theorem slice_form {w : World} {base T : Nat} {v : Value} {n : Nat} {xs : List Value} (h : w.ownsRow base T 1 v n xs) : ∃ A c, v = .slice A n c := by
  rcases h.2 with ⟨rfl, rfl⟩ | ⟨g, cap, cur, rfl, _⟩
  · exact ⟨_, _, rfl⟩
  · exact ⟨_, _, rfl⟩
theorem OwnU.only {S : Nat → Prop} {w w' : World} {base : Nat} {A : Option Addr} {n c : Nat} {xs : List Int} (h : OwnU w base A n c xs) (ho : Only S w w') (hs : ∀ g, A = some ⟨g, 0, none⟩ → ¬ S g) : OwnU w' base A n c xs := by
  refine ⟨h.1, ?_⟩
  rcases id h.2 with h' | ⟨g, cap, cur, h', hb, hg, h3⟩
  · exact .inl h'
  · injection h' with h1 _ h4
    exact .inr ⟨g, cap, cur, by rw [h1, h4], hb, (ho.block g (heap_lt hg) (hs g h1)).trans hg, h3⟩

/-- One byte is appended: where the row lies then. -/
theorem run_append_ownU {P : Program} (w : World) (base : Nat) (t ty e : TypeId) (i : TypeInfo) (ht : P.underlying t = some (.slice e)) (hi : P.info? e = some i) (hz : i.zero = some (.int .u8 0)) (hsize : i.size = 1) (hby : i.bytes = 1)
    (v : Value) (n : Nat) (xs : List Value) (hown : w.ownsRow base e 1 v n xs) (gb : Nat) (c : Nat) (x : Value) (hnews : w.cell? ⟨gb, 0, none⟩ = some x) (h1 : x.oneCell' = true) (hn : n ≤ 1048576) (hbase : base ≤ w.heap.size) :
    ∃ v' w', (Builtin.append_ #[t, t] ty #[v, .slice (some ⟨gb, 0, none⟩) 1 c]).run P w = .ok v' w' ∧ w'.ownsRow base e 1 v' (n + 1) (xs ++ [x]) ∧ w.grownBy w' v.ownBlock ∧ (v'.ownBlock = v.ownBlock ∨ v'.ownBlock = some w.heap.size) := by
  have hnw : ∀ (j : Nat) (u : Value), [x][j]? = some u → w.cell? ((⟨gb, 0, none⟩ : Addr).add j) = some u := by
    intro j u hj
    match j, hj with
    | 0, hj => rw [Addr.add_lit]; simp at hj; rw [← hj]; exact hnews
  have h1' : ∀ u ∈ [x], u.oneCell' = true := by
    intro u hu
    obtain rfl := List.mem_singleton.1 hu
    exact h1
  obtain ⟨v', w', hr, h2, h3, _⟩ := run_append_own (P := P) w base t ty e i (.int .u8 0) 1 1 ht hi hz hsize hby rfl (by decide) v n xs hown ⟨gb, 0, none⟩ 1 c [x] rfl hnw h1' (by unfold maxLen; omega) (by omega) hbase
  refine ⟨v', w', hr, h2, h3, ?_⟩
  rcases hown.2 with ⟨rfl, rfl⟩ | ⟨g, cap, cur, rfl, hbg, hg, hnc, hcm, hcs, htake⟩
  · rw [run_append_nil (P := P) w t ty e i _ ht hi hz ⟨gb, 0, none⟩ 1 c [x] (by rw [hsize]; rfl) hnw (by omega) (by omega) (by omega)] at hr
    injection hr with hr _
    rw [← hr]
    exact .inr rfl
  · by_cases hroom : n + 1 ≤ cap
    · rw [run_append_room (P := P) w t ty e i ht hi g n cap cur hg ⟨gb, 0, none⟩ 1 c [x] (by rw [hsize]; rfl) hnw h1' hroom (by rw [hsize, hcs]; simp; omega)] at hr
      injection hr with hr _
      rw [← hr]
      exact .inl rfl
    · rw [run_append_grow (P := P) w t ty e i _ ht hi hz ⟨g, 0, none⟩ n cap xs (by rw [hsize]; exact hown.1) (hown.cells (g := g) rfl) ⟨gb, 0, none⟩ 1 c [x] (by rw [hsize]; rfl) hnw (by omega) (by omega) (growslice_fits (by omega) (by rw [hby]; omega))] at hr
      injection hr with hr _
      rw [← hr]
      exact .inr rfl

theorem wpList_append_ownU {P : Program} (w : World) {ops : Array Oper} {rest : List Oper} {o : Oper} {a : Act} {Q : Exit → Act → World → Prop} (hgd : o.guard = none) (s x : Operand) (t : TypeId)
    (ho : o.op = .call { callee := .builtin .append, args := #[s, x], argTypes := #[t, t] })
    (base : Nat) (e : TypeId) (i : TypeInfo) (ht : P.underlying t = some (.slice e)) (hi : P.info? e = some i) (hz : i.zero = some (.int .u8 0)) (hsize : i.size = 1) (hby : i.bytes = 1)
    (v : Value) (n : Nat) (xs : List Value) (hs : a.eval s = v) (hown : w.ownsRow base e 1 v n xs) (gb : Nat) (c : Nat) (u : Value) (hx : a.eval x = .slice (some ⟨gb, 0, none⟩) 1 c) (hnews : w.cell? ⟨gb, 0, none⟩ = some u) (h1 : u.oneCell' = true) (hn : n ≤ 1048576) (hbase : base ≤ w.heap.size)
    (h : ∀ v' w', w'.ownsRow base e 1 v' (n + 1) (xs ++ [u]) → w.grownBy w' v.ownBlock → (v'.ownBlock = v.ownBlock ∨ v'.ownBlock = some w.heap.size) → wpList P ops Q rest (a.put o.dst v') w') : wpList P ops Q (o :: rest) a w := by
  refine wpList_plain hgd fun K hK => ?_
  obtain ⟨v', w', hr, h2, h3, h4⟩ := run_append_ownU (P := P) w base t o.type e i ht hi hz hsize hby v n xs hown gb c u hnews h1 hn hbase
  unfold Oper.wp
  simp [execOp, ho, resolve, invoke, builtin, hs, hx, hr, Result.andThen]
  exact hK _ _ (h v' w' h2 h3 h4)

end Go.Proofs.Ytgcljhgpihpfgab
