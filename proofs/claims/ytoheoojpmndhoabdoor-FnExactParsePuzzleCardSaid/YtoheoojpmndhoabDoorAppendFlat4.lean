/-
  Clues are appended to a slice of clues that the call has built, whether there is anything to append or not; no program is spoken of here.
  Conditions: none.
-/
import Derived.Test.YtoheoojpmndhoabDoorClRow
import Derived.Test.YtoheoojpmndhoabDoorAppend
import Derived.Lib.SliceRun
namespace Go.Proofs.YtoheoojpmndhoabDoor
set_option linter.unusedVariables false
open Go.RowKit

theorem wp_append_flat4 {P : Program} (w : World) {o : Oper} {a : Act} {K : Act → World → Prop} {Q : Exit → Act → World → Prop} (s x : Operand) (t : TypeId)
    (ho : o.op = .call { callee := .builtin .append, args := #[s, x], argTypes := #[t, t] })
    (base : Nat) (e : TypeId) (i : TypeInfo) (ht : P.underlying t = some (.slice e)) (hi : P.info? e = some i) (hz : i.zero = some (.agg #[.int .i64 0, .int .i64 0, .int .i64 0, .int .i64 0])) (hsize : i.size = 4) (hby : i.bytes = 32)
    (v : Value) (n : Nat) (xs : List Value) (hs : a.eval s = v) (hown : w.ownsRow base e 4 v n xs)
    (A : Option Addr) (m c : Nat) (ys : List Clu) (lo hi' : Nat) (hx : a.eval x = .slice A m c) (hl : ys.length = m) (hseg : Seg w lo hi' A (flat4 ys))
    (hlen : n + m ≤ 4194304) (hbase : base ≤ w.heap.size)
    (h : ∀ v' w', w'.ownsRow base e 4 v' (n + m) (xs ++ vals4 ys) → w.grownBy w' v.ownBlock → K (a.put o.dst v') w') : o.wp P a w K Q := by
  rcases A with _ | ad
  · have hy : ys = [] := by
      rcases hseg with h0 | ⟨b, off, e0, _⟩
      · exact flat4_nil h0
      · cases e0
    subst hy
    have hm : m = 0 := by simpa using hl.symm
    subst hm
    have hrun := run_append_nothing (P := P) w base t o.type e i 4 ht hi v n xs hown c
    unfold Oper.wp
    simp [execOp, ho, resolve, invoke, builtin, hs, hx, hrun, Result.andThen]
    exact h v w (by simpa [vals4, flat4] using hown) (World.grownBy.refl w _)
  · exact wp_append_own w s x t ho base e i (.agg #[.int .i64 0, .int .i64 0, .int .i64 0, .int .i64 0]) 4 32 ht hi hz hsize hby rfl (by decide) v n xs hs hown ad m c (vals4 ys) hx (by rw [vals4_length, hl]) hseg.cells (ints_oneCell _ _) (by unfold maxLen; omega) (by omega) hbase
      fun v' w' h1 h2 _ => h v' w' h1 h2

theorem wpList_append_flat4 {P : Program} (w : World) {ops : Array Oper} {rest : List Oper} {o : Oper} {a : Act} {Q : Exit → Act → World → Prop} (hgd : o.guard = none) (s x : Operand) (t : TypeId)
    (ho : o.op = .call { callee := .builtin .append, args := #[s, x], argTypes := #[t, t] })
    (base : Nat) (e : TypeId) (i : TypeInfo) (ht : P.underlying t = some (.slice e)) (hi : P.info? e = some i) (hz : i.zero = some (.agg #[.int .i64 0, .int .i64 0, .int .i64 0, .int .i64 0])) (hsize : i.size = 4) (hby : i.bytes = 32)
    (v : Value) (n : Nat) (xs : List Value) (hs : a.eval s = v) (hown : w.ownsRow base e 4 v n xs)
    (A : Option Addr) (m c : Nat) (ys : List Clu) (lo hi' : Nat) (hx : a.eval x = .slice A m c) (hl : ys.length = m) (hseg : Seg w lo hi' A (flat4 ys))
    (hlen : n + m ≤ 4194304) (hbase : base ≤ w.heap.size)
    (h : ∀ v' w', w'.ownsRow base e 4 v' (n + m) (xs ++ vals4 ys) → w.grownBy w' v.ownBlock → wpList P ops Q rest (a.put o.dst v') w') : wpList P ops Q (o :: rest) a w :=
  wpList_plain hgd fun _ hK => wp_append_flat4 w s x t ho base e i ht hi hz hsize hby v n xs hs hown A m c ys lo hi' hx hl hseg hlen hbase fun v' w' h1 h2 => hK _ _ (h v' w' h1 h2)

theorem step_append_flat4 {P : Program} (w : World) {ops : Array Oper} {o : Oper} {a : Act} {K : Act → World → Prop} {Q : Exit → Act → World → Prop} {E : Prop} (hgd : o.guard = none) (s x : Operand) (t : TypeId)
    (ho : o.op = .call { callee := .builtin .append, args := #[s, x], argTypes := #[t, t] })
    (base : Nat) (e : TypeId) (i : TypeInfo) (ht : P.underlying t = some (.slice e)) (hi : P.info? e = some i) (hz : i.zero = some (.agg #[.int .i64 0, .int .i64 0, .int .i64 0, .int .i64 0])) (hsize : i.size = 4) (hby : i.bytes = 32)
    (v : Value) (n : Nat) (xs : List Value) (hs : a.eval s = v) (hown : w.ownsRow base e 4 v n xs)
    (A : Option Addr) (m c : Nat) (ys : List Clu) (lo hi' : Nat) (hx : a.eval x = .slice A m c) (hl : ys.length = m) (hseg : Seg w lo hi' A (flat4 ys))
    (hlen : n + m ≤ 4194304) (hbase : base ≤ w.heap.size)
    (h : ∀ v' w', w'.ownsRow base e 4 v' (n + m) (xs ++ vals4 ys) → w.grownBy w' v.ownBlock → K (a.put o.dst v') w') :
    if Region.wanted o (yielded ops a.tmps) = true then Oper.wp P o a w K Q else E := by
  have hw : Region.wanted o (yielded ops a.tmps) = true := by simp [Region.wanted, hgd]
  rw [if_pos hw]
  exact wp_append_flat4 w s x t ho base e i ht hi hz hsize hby v n xs hs hown A m c ys lo hi' hx hl hseg hlen hbase h

theorem seg_clue (w : World) (x y z u : Int) (T : Nat) : Seg (w.alloc (.cells #[.int .i64 x, .int .i64 y, .int .i64 z, .int .i64 u] T)) w.heap.size (w.heap.size + 1) (some ⟨w.heap.size, 0, none⟩) (flat4 [(x, y, z, u)]) := by
  refine .inr ⟨w.heap.size, 0, rfl, Nat.le_refl _, by omega, fun k hk => ?_⟩
  have hk2 : k < 4 := hk
  rw [Nat.zero_add, cell_of (heap_alloc_new w _)]
  match k, hk2 with
  | 0, _ => rfl
  | 1, _ => rfl
  | 2, _ => rfl
  | 3, _ => rfl

theorem below_of_grown4 {w w' : World} {z : Nat} {row : Option Nat} (hg : w.grownBy w' row) (hl : ∀ g, row = some g → z ≤ g) (hz : z ≤ w.heap.size) : Below z w w' :=
  ⟨hg.os, hg.tape, hg.output, hg.size, fun k hk => hg.block k (by omega) (fun e => by have := hl _ e.symm; omega)⟩
end Go.Proofs.YtoheoojpmndhoabDoor
