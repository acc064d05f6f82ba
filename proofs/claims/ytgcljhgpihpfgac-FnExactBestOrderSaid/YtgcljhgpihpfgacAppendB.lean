/-
  An appended number, and the block it lies in.
  Conditions: none.
-/
import Derived.Test.YtgcljhgpihpfgacAppend
import Derived.Test.YtgcljhgpihpfgacArr
import Derived.Test.YtgcljhgpihpfgacMem
namespace Go.Proofs.Ytgcljhgpihpfgac
set_option linter.unusedVariables false
open Go.RowKit

/-- One number is appended: where the row lies then. -/
theorem run_append_ownB {P : Program} (w : World) (base : Nat) (t ty e : TypeId) (i : TypeInfo) (ht : P.underlying t = some (.slice e)) (hi : P.info? e = some i) (hz : i.zero = some (.int .i64 0)) (hsize : i.size = 1) (hby : i.bytes = 8)
    (v : Value) (n : Nat) (xs : List Value) (hown : w.ownsRow base e 1 v n xs) (gb : Nat) (c : Nat) (x : Value) (hnews : w.cell? ⟨gb, 0, none⟩ = some x) (h1 : x.oneCell' = true) (hn : n ≤ 1048576) (hbase : base ≤ w.heap.size) :
    ∃ v' w', (Builtin.append_ #[t, t] ty #[v, .slice (some ⟨gb, 0, none⟩) 1 c]).run P w = .ok v' w' ∧ w'.ownsRow base e 1 v' (n + 1) (xs ++ [x]) ∧ w.grownBy w' v.ownBlock ∧ (v'.ownBlock = v.ownBlock ∨ v'.ownBlock = some w.heap.size) := by
  have hnw : ∀ (j : Nat) (u : Value), [x][j]? = some u → w.cell? ((⟨gb, 0, none⟩ : Addr).add j) = some u := by
    intro j u hj
    match j, hj with
    | 0, hj => rw [Addr.add_lit]; simp at hj; rw [← hj]; exact hnews
  have h1' : ∀ u ∈ [x], u.oneCell' = true := by
    intro u hu
    obtain rfl := List.mem_singleton.1 hu
    exact h1
  obtain ⟨v', w', hr, h2, h3, _⟩ := run_append_own (P := P) w base t ty e i (.int .i64 0) 1 8 ht hi hz hsize hby rfl (by decide) v n xs hown ⟨gb, 0, none⟩ 1 c [x] rfl hnw h1' (by unfold maxLen; omega) (by omega) hbase
  refine ⟨v', w', hr, h2, h3, ?_⟩
  rcases hown.2 with ⟨rfl, rfl⟩ | ⟨g, cap, cur, rfl, hbg, hg, hnc, hcm, hcs, htake⟩
  · rw [run_append_nil (P := P) w t ty e i _ ht hi hz ⟨gb, 0, none⟩ 1 c [x] (by rw [hsize]; rfl) hnw (by omega) (by omega) (by omega)] at hr
    injection hr with hr _
    rw [← hr]
    exact .inr rfl
  · by_cases hroom : n + 1 ≤ cap
    · rw [run_append_room (P := P) w t ty e i ht hi g n cap cur hg ⟨gb, 0, none⟩ 1 c [x] (by rw [hsize]; rfl) hnw h1' hroom (by rw [hsize, hcs]; simp; omega)] at hr
      injection hr with hr _
      rw [← hr]
      exact .inl rfl
    · rw [run_append_grow (P := P) w t ty e i _ ht hi hz ⟨g, 0, none⟩ n cap xs (by rw [hsize]; exact hown.1) (hown.cells (g := g) rfl) ⟨gb, 0, none⟩ 1 c [x] (by rw [hsize]; rfl) hnw (by omega) (by omega) (growslice_fits (by omega) (by rw [hby]; omega))] at hr
      injection hr with hr _
      rw [← hr]
      exact .inr rfl

theorem wpList_append_ownB {P : Program} (w : World) {ops : Array Oper} {rest : List Oper} {o : Oper} {a : Act} {Q : Exit → Act → World → Prop} (hgd : o.guard = none) (s x : Operand) (t : TypeId)
    (ho : o.op = .call { callee := .builtin .append, args := #[s, x], argTypes := #[t, t] })
    (base : Nat) (e : TypeId) (i : TypeInfo) (ht : P.underlying t = some (.slice e)) (hi : P.info? e = some i) (hz : i.zero = some (.int .i64 0)) (hsize : i.size = 1) (hby : i.bytes = 8)
    (v : Value) (n : Nat) (xs : List Value) (hs : a.eval s = v) (hown : w.ownsRow base e 1 v n xs) (gb : Nat) (c : Nat) (u : Value) (hx : a.eval x = .slice (some ⟨gb, 0, none⟩) 1 c) (hnews : w.cell? ⟨gb, 0, none⟩ = some u) (h1 : u.oneCell' = true) (hn : n ≤ 1048576) (hbase : base ≤ w.heap.size)
    (h : ∀ v' w', w'.ownsRow base e 1 v' (n + 1) (xs ++ [u]) → w.grownBy w' v.ownBlock → (v'.ownBlock = v.ownBlock ∨ v'.ownBlock = some w.heap.size) → wpList P ops Q rest (a.put o.dst v') w') : wpList P ops Q (o :: rest) a w := by
  refine wpList_plain hgd fun K hK => ?_
  obtain ⟨v', w', hr, h2, h3, h4⟩ := run_append_ownB (P := P) w base t o.type e i ht hi hz hsize hby v n xs hown gb c u hnews h1 hn hbase
  unfold Oper.wp
  simp [execOp, ho, resolve, invoke, builtin, hs, hx, hr, Result.andThen]
  exact hK _ _ (h v' w' h2 h3 h4)

end Go.Proofs.Ytgcljhgpihpfgac
