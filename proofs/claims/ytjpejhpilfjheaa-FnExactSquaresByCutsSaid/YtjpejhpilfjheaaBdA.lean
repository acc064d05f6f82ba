/-
  One value appended to a slice that has room, wherever in its block it begins; no program is spoken of here.
  Conditions: none.
-/
import Derived.Test.YtjpejhpilfjheaaArr
import Derived.Laws.OwnMore
namespace Go.Proofs.Ytjpejhpilfjheaa
set_option linter.unusedVariables false
open Go.RowKit

theorem run_append_offs {P : Program} (w : World) (t ty e : TypeId) (i : TypeInfo) (ht : P.underlying t = some (.slice e)) (hi : P.info? e = some i) (h1 : i.size = 1)
    (g off n c : Nat) (cur : Array Value) (hg : w.heap[g]? = some (.cells cur e (0, 0)))
    (b o c2 : Nat) (u : Value) (hnew : w.cell? ⟨b, o, none⟩ = some u) (hone : u.oneCell' = true)
    (hroom : n + 1 ≤ c) (hfit : off + n < cur.size) :
    (Builtin.append_ #[t, t] ty #[.slice (some ⟨g, off, none⟩) n c, .slice (some ⟨b, o, none⟩) 1 c2]).run P w =
      .ok (.slice (some ⟨g, off, none⟩) (n + 1) c) (w.setCell ⟨g, off + n, none⟩ u) := by
  have hf := run_firstCells_some (P := P) w i.size 1 ⟨b, o, none⟩ 1 c2 [u] (by simp [h1]) (fun j v hj => by
    match j, hj with
    | 0, hj => simp at hj; subst hj; simpa [Addr.add] using hnew)
  rw [h1] at hf
  have hst := run_storeCells_at P g (off + n) e [u] 0 cur w hg (by simp; omega) (by simp [hone])
  have hcl : (cur.toList.take (off + n) ++ [u] ++ cur.toList.drop (off + n + [u].length)).toArray = cur.setIfInBounds (off + n) u := by
    apply Array.ext'
    rw [Array.toList_setIfInBounds, List.set_eq_take_append_cons_drop]
    simp [hfit]
  simp only [Nat.add_zero, hcl] at hst
  rw [setCell_eq_setRow w g (off + n) cur e (0, 0) u hg]
  simp [Builtin.append_, run_underlying ht, sizeOf, typeInfo, hi, Builtin.lenOf, hroom, hf, h1, Addr.add_lit, hst]

theorem wpList_append_offs {P : Program} (w : World) {ops : Array Oper} {rest : List Oper} {o : Oper} {a : Act} {Q : Exit → Act → World → Prop} (hgd : o.guard = none) (s x : Operand) (t : TypeId)
    (ho : o.op = .call { callee := .builtin .append, args := #[s, x], argTypes := #[t, t] })
    (e : TypeId) (i : TypeInfo) (ht : P.underlying t = some (.slice e)) (hi : P.info? e = some i) (h1 : i.size = 1)
    (g off n c : Nat) (cur : Array Value) (hs : a.eval s = .slice (some ⟨g, off, none⟩) n c) (hg : w.heap[g]? = some (.cells cur e (0, 0)))
    (b o2 c2 : Nat) (u : Value) (hx : a.eval x = .slice (some ⟨b, o2, none⟩) 1 c2) (hnew : w.cell? ⟨b, o2, none⟩ = some u) (hone : u.oneCell' = true)
    (hroom : n + 1 ≤ c) (hfit : off + n < cur.size)
    (h : wpList P ops Q rest (a.put o.dst (.slice (some ⟨g, off, none⟩) (n + 1) c)) (w.setCell ⟨g, off + n, none⟩ u)) : wpList P ops Q (o :: rest) a w :=
  wpList_plain hgd fun _ hK => by
    have hr := run_append_offs (P := P) w t o.type e i ht hi h1 g off n c cur hg b o2 c2 u hnew hone hroom hfit
    unfold Oper.wp execOp
    simp only [ho, resolve, invoke, builtin, Sem.run_bind, Sem.run_pure, Result.andThen_ok, List.map_toArray, List.map_cons, List.map_nil, hs, hx, hr]
    exact hK _ _ h

theorem step_append_offs {P : Program} (w : World) {ops : Array Oper} {o : Oper} {a : Act} {K : Act → World → Prop} {Q : Exit → Act → World → Prop} {E : Prop} (hgd : o.guard = none) (s x : Operand) (t : TypeId)
    (ho : o.op = .call { callee := .builtin .append, args := #[s, x], argTypes := #[t, t] })
    (e : TypeId) (i : TypeInfo) (ht : P.underlying t = some (.slice e)) (hi : P.info? e = some i) (h1 : i.size = 1)
    (g off n c : Nat) (cur : Array Value) (hs : a.eval s = .slice (some ⟨g, off, none⟩) n c) (hg : w.heap[g]? = some (.cells cur e (0, 0)))
    (b o2 c2 : Nat) (u : Value) (hx : a.eval x = .slice (some ⟨b, o2, none⟩) 1 c2) (hnew : w.cell? ⟨b, o2, none⟩ = some u) (hone : u.oneCell' = true)
    (hroom : n + 1 ≤ c) (hfit : off + n < cur.size)
    (h : K (a.put o.dst (.slice (some ⟨g, off, none⟩) (n + 1) c)) (w.setCell ⟨g, off + n, none⟩ u)) :
    if Region.wanted o (yielded ops a.tmps) = true then Oper.wp P o a w K Q else E := by
  have hw : Region.wanted o (yielded ops a.tmps) = true := by simp [Region.wanted, hgd]
  rw [if_pos hw]
  have hr := run_append_offs (P := P) w t o.type e i ht hi h1 g off n c cur hg b o2 c2 u hnew hone hroom hfit
  unfold Oper.wp execOp
  simp only [ho, resolve, invoke, builtin, Sem.run_bind, Sem.run_pure, Result.andThen_ok, List.map_toArray, List.map_cons, List.map_nil, hs, hx, hr]
  exact h
end Go.Proofs.Ytjpejhpilfjheaa
