/-
  A slice of books that lies in a block known whole: elements are copied within it, appended in place, cleared; no program is spoken of here.
  Conditions: none.
-/
import Derived.Test.YtplohhmggfifkaaAppendFlat
import Derived.Laws.CopyRow
import Derived.Laws.CopyOwn
import Derived.Lib.Overlaps
import Derived.Lib.AppendZeros
import Derived.Laws.Externs
import Derived.Shelf.RegionOpenPlain
namespace Go.Proofs.Ytplohhmggfifkaa
set_option linter.unusedVariables false
open Go.RowKit

/-- What is laid over the middle part. -/
theorem over_mid {α : Type} (X Y Z N : List α) (h : N.length = Y.length) : (X ++ (Y ++ Z)).take X.length ++ N ++ (X ++ (Y ++ Z)).drop (X.length + N.length) = X ++ (N ++ Z) := by
  rw [List.take_left, List.append_assoc, h, ← List.drop_drop, List.drop_left, List.drop_left]

section
variable {P : Program}

theorem run_copy2 (w : World) (dT ty elem : TypeId) (g o dLen dCap : Nat) (a : Addr) (sLen sCap : Nat) (cur : List Value) (t : TypeId) (cs : List Value)
    (hu : P.underlying dT = some (.slice elem)) (hs : (P.info? elem).map (·.size) = some 2)
    (hg : w.heap[g]? = some (.cells cur.toArray t (0, 0))) (hn : cs.length = Nat.min sLen dLen * 2)
    (hsrc : ∀ j v, cs[j]? = some v → w.cell? (a.add j) = some v) (hfit : o + cs.length ≤ cur.length) (h1 : ∀ v ∈ cs, v.oneCell' = true) :
    (Builtin.copy_ #[dT, dT] ty #[.slice (some ⟨g, o, none⟩) dLen dCap, .slice (some a) sLen sCap]).run P w =
      .ok (goInt (Nat.min sLen dLen)) (w.setRow g (cur.take o ++ cs ++ cur.drop (o + cs.length)).toArray) := by
  have hl := run_loadCells_list (P := P) w a cs hsrc
  have hst := run_storeCells_at P g o t cs 0 cur.toArray w hg (by simpa using hfit) h1
  cases hq : P.info? elem with
  | none => simp [hq] at hs
  | some i =>
    have hi : i.size = 2 := by simpa [hq] using hs
    simp [Builtin.copy_, run_underlying hu, Builtin.lenOf, Builtin.firstCells, sizeOf, typeInfo, hq, hi, ← hn, hl, hst]

theorem run_clear2 (w : World) (t e ty : TypeId) (i : TypeInfo) (ht : P.underlying t = some (.slice e)) (hi : P.info? e = some i) (hz : i.zero = some (.agg #[.int .i64 0, .int .i64 0]))
    (g o c : Nat) (cur : List Value) (T : TypeId) (hg : w.heap[g]? = some (.cells cur.toArray T (0, 0))) (hfit : o + 2 ≤ cur.length) :
    (Builtin.clear_ #[t] ty #[.slice (some ⟨g, o, none⟩) 1 c]).run P w = .ok (.tuple #[]) (w.setRow g (cur.take o ++ ([.int .i64 0, .int .i64 0] : List Value) ++ cur.drop (o + 2)).toArray) := by
  have hst := run_storeCells_at P g o T [.int .i64 0, .int .i64 0] 0 cur.toArray w hg (by simpa using hfit) (by intro v hv; simp only [List.mem_cons, List.not_mem_nil, or_false] at hv; rcases hv with rfl | rfl <;> rfl)
  have hzc : Builtin.zeroCells (Value.cells (.agg #[.int .i64 0, .int .i64 0])) 1 = #[.int .i64 0, .int .i64 0] := by kernel_rfl
  simp [Builtin.clear_, run_underlying ht, zeroValue, typeInfo, hi, hz, hzc, hst]

/-- 'append', where its run is known, as one step of a region that draws. -/
theorem step_append_runI {ops : Array Oper} {o : Oper} {a : Act} {w : World} {K : Act → World → Prop} {Q : Exit → Act → World → Prop} {E : Prop}
    (hg : o.guard = none) (d x : Operand) (dT sT : TypeId) (hop : o.op = Op.call { callee := Callee.builtin Builtin.append, args := #[d, x], argTypes := #[dT, sT] })
    (v u : Value) (hd : a.eval d = v) (hx : a.eval x = u) {v' : Value} {w' : World} (hr : (Builtin.append_ #[dT, sT] o.type #[v, u]).run P w = .ok v' w') (hK : K (a.put o.dst v') w') :
    if Region.wanted o (yielded ops a.tmps) = true then Oper.wp P o a w K Q else E := by
  have hw : Region.wanted o (yielded ops a.tmps) = true := by simp [Region.wanted, hg]
  rw [if_pos hw]
  unfold Oper.wp
  simp [execOp, hop, resolve, invoke, builtin, hd, hx, hr, Result.andThen]
  exact hK

/-- 'copy' likewise. -/
theorem step_copy_runJ {ops : Array Oper} {o : Oper} {a : Act} {w : World} {K : Act → World → Prop} {Q : Exit → Act → World → Prop} {E : Prop}
    (hg : o.guard = none) (d x : Operand) (dT sT : TypeId) (hop : o.op = Op.call { callee := Callee.builtin Builtin.copy, args := #[d, x], argTypes := #[dT, sT] })
    (v u : Value) (hd : a.eval d = v) (hx : a.eval x = u) {v' : Value} {w' : World} (hr : (Builtin.copy_ #[dT, sT] o.type #[v, u]).run P w = .ok v' w') (hK : K (a.put o.dst v') w') :
    if Region.wanted o (yielded ops a.tmps) = true then Oper.wp P o a w K Q else E := by
  have hw : Region.wanted o (yielded ops a.tmps) = true := by simp [Region.wanted, hg]
  rw [if_pos hw]
  unfold Oper.wp
  simp [execOp, hop, resolve, invoke, builtin, hd, hx, hr, Result.andThen]
  exact hK

/-- 'append' in place: the block is told by a list. -/
theorem run_append_in (w : World) (t ty e : TypeId) (i : TypeInfo) (ht : P.underlying t = some (.slice e)) (hi : P.info? e = some i) (hsz : i.size = 2)
    (g n cap : Nat) (X Y Z : List Value) (hg : w.heap[g]? = some (.cells (X ++ (Y ++ Z)).toArray e (0, 0))) (hX : X.length = n * 2)
    (a : Addr) (m c : Nat) (news : List Value) (hl : news.length = m * 2) (hY : Y.length = m * 2) (hnews : ∀ j u, news[j]? = some u → w.cell? (a.add j) = some u) (h1 : ∀ u ∈ news, u.oneCell' = true) (hroom : n + m ≤ cap) :
    (Builtin.append_ #[t, t] ty #[.slice (some ⟨g, 0, none⟩) n cap, .slice (some a) m c]).run P w = .ok (.slice (some ⟨g, 0, none⟩) (n + m) cap) (w.setRow g (X ++ (news ++ Z)).toArray) := by
  have h := run_append_room (P := P) w t ty e i ht hi g n cap (X ++ (Y ++ Z)).toArray hg a m c news (by rw [hsz]; exact hl) hnews h1 hroom (by rw [hsz]; simp; omega)
  rw [h, hsz, ← hX, List.toList_toArray, over_mid X Y Z news (by omega)]

/-- As 'step_append_flat', and a slice that is not nil stays so. -/
theorem step_append_flatN {w : World} {ops : Array Oper} {o : Oper} {a : Act} {K : Act → World → Prop} {Q : Exit → Act → World → Prop} {E : Prop} (hgd : o.guard = none) (s x : Operand) (t : TypeId)
    (ho : o.op = .call { callee := .builtin .append, args := #[s, x], argTypes := #[t, t] })
    (base : Nat) (e : TypeId) (i : TypeInfo) (ht : P.underlying t = some (.slice e)) (hi : P.info? e = some i) (hz : i.zero = some (.agg #[.int .i64 0, .int .i64 0])) (hsize : i.size = 2) (hby : i.bytes = 16)
    (v : Value) (n : Nat) (xs : List Value) (hs : a.eval s = v) (hown : w.ownsRow base e 2 v n xs) (hv : v ≠ .slice none 0 0)
    (ad : Addr) (m c : Nat) (ys : List (Int × Int)) (lo hi' : Nat) (hx : a.eval x = .slice (some ad) m c) (hl : ys.length = m) (hseg : Seg w lo hi' (some ad) (flat ys))
    (hlen : n + m ≤ 4194304) (hbase : base ≤ w.heap.size)
    (h : ∀ v' w', w'.ownsRow base e 2 v' (n + m) (xs ++ vals ys) → w.grownBy w' v.ownBlock → v' ≠ .slice none 0 0 → K (a.put o.dst v') w') :
    if Region.wanted o (yielded ops a.tmps) = true then Oper.wp P o a w K Q else E := by
  have hw : Region.wanted o (yielded ops a.tmps) = true := by simp [Region.wanted, hgd]
  rw [if_pos hw]
  exact wp_append_own w s x t ho base e i (.agg #[.int .i64 0, .int .i64 0]) 2 16 ht hi hz hsize hby rfl (by decide) v n xs hs hown ad m c (vals ys) hx (by rw [vals_length, hl]) hseg.cells (ints_oneCell _ _) (by unfold maxLen; omega) (by omega) hbase
    fun v' w' h1 h2 h3 => h v' w' h1 h2 (fun e => hv (h3.1 e).1)

/-- A row that is not nil: its block. -/
theorem row_block {w : World} {base T n : Nat} {v : Value} {bs : List (Int × Int)} (h : w.ownsRow base T 2 v n (vals bs)) (hv : 0 < n ∨ v ≠ .slice none 0 0) :
    ∃ g cap R, v = .slice (some ⟨g, 0, none⟩) n cap ∧ base ≤ g ∧ g < w.heap.size ∧ n ≤ cap ∧ cap ≤ 9223372036854775807 ∧ bs.length = n ∧ n * 2 + R.length = cap * 2 ∧ w.heap[g]? = some (.cells (vals bs ++ R).toArray T (0, 0)) := by
  obtain ⟨hl, ⟨hv0, hn0⟩ | ⟨g, cap, cur, hvv, hg, hb, hnc, hcm, hs, ht⟩⟩ := h
  · rcases hv with h0 | h0
    · omega
    · exact absurd (by rw [hv0]) h0
  · rw [vals_length] at hl
    refine ⟨g, cap, cur.toList.drop (n * 2), hvv, hg, heap_lt hb, hnc, hcm, by omega, by rw [List.length_drop, Array.length_toList, hs]; omega, ?_⟩
    rw [hb, ← ht, List.take_append_drop]

theorem own_block {w : World} {g T lo hi : Nat} {bs : List (Int × Int)} {R : List Value} (h : w.heap[g]? = some (.cells (vals bs ++ R).toArray T (0, 0))) (h1 : lo ≤ g) (h2 : g < hi) : Own w lo hi (some ⟨g, 0, none⟩) (flat bs) := by
  refine .inr ⟨g, _, T, rfl, h1, h2, h, fun k hk => ?_⟩
  rw [List.getElem?_toArray, List.getElem?_append_left (by rw [vals, List.length_map]; exact hk), vals, List.getElem?_map, List.getElem?_eq_getElem hk]
  simp [List.getD, hk]
end
end Go.Proofs.Ytplohhmggfifkaa
