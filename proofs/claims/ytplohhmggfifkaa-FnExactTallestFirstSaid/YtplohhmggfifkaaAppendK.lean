/-
  Books are appended to a slice of books that the call has built, whether there is anything to append or not; no program is spoken of here.
  Conditions: none.
-/
import Derived.Test.YtplohhmggfifkaaInsM
import Derived.Test.YtplohhmggfifkaaAppend
import Derived.Lib.SliceRun
namespace Go.Proofs.Ytplohhmggfifkaa
set_option linter.unusedVariables false
open Go.RowKit

/-- The values of books in memory. -/
def vals (bs : List (Int × Int)) : List Value := (flat bs).map (Value.int .i64)
theorem vals_append (xs ys : List (Int × Int)) : vals (xs ++ ys) = vals xs ++ vals ys := by simp [vals, flat_append]
theorem vals_length (bs : List (Int × Int)) : (vals bs).length = bs.length * 2 := by simp [vals, flat_length]

theorem wp_append_flat {P : Program} (w : World) {o : Oper} {a : Act} {K : Act → World → Prop} {Q : Exit → Act → World → Prop} (s x : Operand) (t : TypeId)
    (ho : o.op = .call { callee := .builtin .append, args := #[s, x], argTypes := #[t, t] })
    (base : Nat) (e : TypeId) (i : TypeInfo) (ht : P.underlying t = some (.slice e)) (hi : P.info? e = some i) (hz : i.zero = some (.agg #[.int .i64 0, .int .i64 0])) (hsize : i.size = 2) (hby : i.bytes = 16)
    (v : Value) (n : Nat) (xs : List Value) (hs : a.eval s = v) (hown : w.ownsRow base e 2 v n xs)
    (A : Option Addr) (m c : Nat) (ys : List (Int × Int)) (lo hi' : Nat) (hx : a.eval x = .slice A m c) (hl : ys.length = m) (hseg : Seg w lo hi' A (flat ys))
    (hlen : n + m ≤ 4194304) (hbase : base ≤ w.heap.size)
    (h : ∀ v' w', w'.ownsRow base e 2 v' (n + m) (xs ++ vals ys) → w.grownBy w' v.ownBlock → K (a.put o.dst v') w') : o.wp P a w K Q := by
  rcases A with _ | ad
  · have hy : ys = [] := by
      rcases hseg with h0 | ⟨b, off, e0, _⟩
      · exact flat_nil h0
      · cases e0
    subst hy
    have hm : m = 0 := by simpa using hl.symm
    subst hm
    have hrun := run_append_nothing (P := P) w base t o.type e i 2 ht hi v n xs hown c
    unfold Oper.wp
    simp [execOp, ho, resolve, invoke, builtin, hs, hx, hrun, Result.andThen]
    exact h v w (by simpa [vals, flat] using hown) (World.grownBy.refl w _)
  · exact wp_append_own w s x t ho base e i (.agg #[.int .i64 0, .int .i64 0]) 2 16 ht hi hz hsize hby rfl (by decide) v n xs hs hown ad m c (vals ys) hx (by rw [vals_length, hl]) hseg.cells (ints_oneCell _ _) (by unfold maxLen; omega) (by omega) hbase
      fun v' w' h1 h2 _ => h v' w' h1 h2

theorem wpList_append_flat {P : Program} (w : World) {ops : Array Oper} {rest : List Oper} {o : Oper} {a : Act} {Q : Exit → Act → World → Prop} (hgd : o.guard = none) (s x : Operand) (t : TypeId)
    (ho : o.op = .call { callee := .builtin .append, args := #[s, x], argTypes := #[t, t] })
    (base : Nat) (e : TypeId) (i : TypeInfo) (ht : P.underlying t = some (.slice e)) (hi : P.info? e = some i) (hz : i.zero = some (.agg #[.int .i64 0, .int .i64 0])) (hsize : i.size = 2) (hby : i.bytes = 16)
    (v : Value) (n : Nat) (xs : List Value) (hs : a.eval s = v) (hown : w.ownsRow base e 2 v n xs)
    (A : Option Addr) (m c : Nat) (ys : List (Int × Int)) (lo hi' : Nat) (hx : a.eval x = .slice A m c) (hl : ys.length = m) (hseg : Seg w lo hi' A (flat ys))
    (hlen : n + m ≤ 4194304) (hbase : base ≤ w.heap.size)
    (h : ∀ v' w', w'.ownsRow base e 2 v' (n + m) (xs ++ vals ys) → w.grownBy w' v.ownBlock → wpList P ops Q rest (a.put o.dst v') w') : wpList P ops Q (o :: rest) a w :=
  wpList_plain hgd fun _ hK => wp_append_flat w s x t ho base e i ht hi hz hsize hby v n xs hs hown A m c ys lo hi' hx hl hseg hlen hbase fun v' w' h1 h2 => hK _ _ (h v' w' h1 h2)

theorem step_append_flat {P : Program} (w : World) {ops : Array Oper} {o : Oper} {a : Act} {K : Act → World → Prop} {Q : Exit → Act → World → Prop} {E : Prop} (hgd : o.guard = none) (s x : Operand) (t : TypeId)
    (ho : o.op = .call { callee := .builtin .append, args := #[s, x], argTypes := #[t, t] })
    (base : Nat) (e : TypeId) (i : TypeInfo) (ht : P.underlying t = some (.slice e)) (hi : P.info? e = some i) (hz : i.zero = some (.agg #[.int .i64 0, .int .i64 0])) (hsize : i.size = 2) (hby : i.bytes = 16)
    (v : Value) (n : Nat) (xs : List Value) (hs : a.eval s = v) (hown : w.ownsRow base e 2 v n xs)
    (A : Option Addr) (m c : Nat) (ys : List (Int × Int)) (lo hi' : Nat) (hx : a.eval x = .slice A m c) (hl : ys.length = m) (hseg : Seg w lo hi' A (flat ys))
    (hlen : n + m ≤ 4194304) (hbase : base ≤ w.heap.size)
    (h : ∀ v' w', w'.ownsRow base e 2 v' (n + m) (xs ++ vals ys) → w.grownBy w' v.ownBlock → K (a.put o.dst v') w') :
    if Region.wanted o (yielded ops a.tmps) = true then Oper.wp P o a w K Q else E := by
  have hw : Region.wanted o (yielded ops a.tmps) = true := by simp [Region.wanted, hgd]
  rw [if_pos hw]
  exact wp_append_flat w s x t ho base e i ht hi hz hsize hby v n xs hs hown A m c ys lo hi' hx hl hseg hlen hbase h

/-- A row of books reads as them. -/
theorem seg_of_row {w : World} {base T n : Nat} {v : Value} {bs : List (Int × Int)} (h : w.ownsRow base T 2 v n (vals bs)) :
    ∃ A c, v = .slice A n c ∧ bs.length = n ∧ n ≤ c ∧ Own w base w.heap.size A (flat bs) := by
  have hl := h.1
  rw [vals_length] at hl
  rcases Nat.eq_zero_or_pos n with hn | hn
  · subst hn
    have hb : bs = [] := List.eq_nil_of_length_eq_zero (by omega)
    subst hb
    obtain ⟨_, ⟨hv, _⟩ | ⟨g, cap, cur, hv, _⟩⟩ := h
    · exact ⟨none, 0, hv, rfl, Nat.le_refl _, .inl rfl⟩
    · exact ⟨_, cap, hv, rfl, Nat.zero_le _, .inl rfl⟩
  · obtain ⟨g, cap, N, hv, hg, hc, hrow⟩ := row_of_owns h hn
    exact ⟨_, cap, hv, by omega, hc, hrow.own hg hrow.lt⟩

/-- Its own new row of books. -/
def RetRow (bs : List (Int × Int)) (w : World) (e : Ending) (w' : World) : Prop :=
  ∃ v n, e = .returned v ∧ w'.ownsRow w.heap.size 51 2 v n (vals bs) ∧ Below w.heap.size w w'

set_option maxHeartbeats 400000 in
theorem slicesCloneK_any (a : Addr) (n c : Nat) (bs : List (Int × Int)) (lo hi : Nat) (w : World) (hn : bs.length = n) (hlen : n ≤ 1048576) (hs : Seg w lo hi (some a) (flat bs)) (hB : hi ≤ w.heap.size) :
    Calls Try.prog 74 #[.slice (some a) n c] w fun e w' =>
      ∃ v, e = .returned v ∧ w'.ownsRow w.heap.size 51 2 v n (vals bs) ∧ Below w.heap.size w w' := by
  obtain ⟨i0, hi0, hz0, hz1, hz2⟩ := info_parts book_info
  have HN := Lib.hid hn
  have hlit := World.ownsRow_lit (base := w.heap.size) (e := 51) (size := 2) w #[] 0 (Nat.le_refl _) (Nat.zero_le _) rfl
  have hs1 := hs.below ((Below.refl w.heap.size w).alloc (Nat.le_refl _) (.cells #[] 51)) hB
  have hnil : ∀ (w : World) (a : Option Addr) (n c n' c' : Nat), (binOp .eql 25 (.slice a n c) (.slice none n' c')).run Try.prog w = .ok (.bool a.isNone) w := fun w a n c n' c' => Lib.run_eql_slice_nil w _ _ a n c n' c' Try.underlying25
  have HLIT := Lib.hid hlit
  have HSEG := Lib.hid hs1
  clear hn hlit hs1
  go_enter Try.func74, Try.ntmps74
  go_wp2_with (at_builtin; refine wpList_append_flat _ rfl _ _ 25 rfl w.heap.size 51 i0 Try.underlying25 hi0 hz0 hz1 hz2 _ 0 _ rfl HLIT.out (some a) n c bs lo hi rfl HN.out HSEG.out (by omega) (by simp) ?_; intro v' w2 hown2 hgrow2; have hown3 : w2.ownsRow w.heap.size 51 2 v' n (vals bs) := (by simpa using hown2); clear hown2)
  go_ret
  exact ⟨_, rfl, hown3, ((Below.refl w.heap.size w).alloc (Nat.le_refl _) _).grown hgrow2 (by simp) (fun g hg => (HLIT.out.lt g hg).1)⟩
end Go.Proofs.Ytplohhmggfifkaa
