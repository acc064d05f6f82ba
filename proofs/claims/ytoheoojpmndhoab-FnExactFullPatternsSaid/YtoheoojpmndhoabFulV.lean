/-
  What the visitor of the full patterns does.
  Conditions: there are at most 4 lengths, and one at least.
-/
import Derived.Test.YtoheoojpmndhoabFulG
import Derived.Test.YtoheoojpmndhoabFullI
import Derived.Test.YtoheoojpmndhoabWaysW
import Derived.Test.YtoheoojpmndhoabBdO
import Derived.Deep.RegionHeld3
import Derived.Deep.Cut
namespace Go.Proofs.Ytoheoojpmndhoab
set_option linter.unusedVariables false
set_option linter.unusedSimpArgs false
open Go.RowKit

theorem step_append_rowsF {P : Program} (w : World) {ops : Array Oper} {o : Oper} {a : Act} {K : Act → World → Prop} {Q : Exit → Act → World → Prop} {E : Prop} (hgd : o.guard = none) (s x : Operand) (t : TypeId)
    (ho : o.op = .call { callee := .builtin .append, args := #[s, x], argTypes := #[t, t] })
    (base : Nat) (e : TypeId) (i : TypeInfo) (ht : P.underlying t = some (.slice e)) (hi : P.info? e = some i) (hz : i.zero = some (.slice none 0 0)) (hsize : i.size = 1) (hby : i.bytes = 24)
    (v : Value) (n : Nat) (xs : List Value) (hs : a.eval s = v) (hown : w.ownsRow base e 1 v n xs)
    (b2 : Nat) (v2 : Value) (m : Nat) (news : List Value) (hx : a.eval x = v2) (hown2 : w.ownsRow b2 e 1 v2 m news) (h1 : ∀ u ∈ news, u.oneCell' = true)
    (hlen : n + m ≤ 4194304) (hbase : base ≤ w.heap.size)
    (h : ∀ v' w', w'.ownsRow base e 1 v' (n + m) (xs ++ news) → w.grownBy w' v.ownBlock → (v'.ownBlock = v.ownBlock ∨ v'.ownBlock = some w.heap.size) → K (a.put o.dst v') w') :
    if Region.wanted o (yielded ops a.tmps) = true then Oper.wp P o a w K Q else E := by
  have hw : Region.wanted o (yielded ops a.tmps) = true := by simp [Region.wanted, hgd]
  rw [if_pos hw]
  have hnl : news.length = m := by have := hown2.1; omega
  rcases id hown2.2 with ⟨h0, hm⟩ | ⟨g, cap, cur, hv, hg, hb, hnc, _, hsz, htk⟩
  · subst hm
    have : news = [] := List.eq_nil_of_length_eq_zero hnl
    subst this
    have hrun := run_append_nothing (P := P) w base t o.type e i 1 ht hi v n xs hown 0
    unfold Oper.wp
    rw [h0] at hx
    simp [execOp, ho, resolve, invoke, builtin, hs, hx, hrun, Result.andThen]
    exact h v w (by simpa using hown) (World.grownBy.refl w _) (.inl rfl)
  · subst hv
    obtain ⟨v', w', hr, h2, h3, _, h5⟩ := run_append_own_at (P := P) w base t o.type e i (.slice none 0 0) 1 24 ht hi hz hsize hby rfl (by decide) v n xs hown ⟨g, 0, none⟩ m cap news (by omega) (hown2.cells (g := g) rfl) h1 (by unfold maxLen; omega) (by omega) hbase
    unfold Oper.wp execOp
    simp only [ho, resolve, invoke, builtin, Sem.run_bind, Sem.run_pure, Result.andThen_ok, List.map_toArray, List.map_cons, List.map_nil, hs, hx, hr]
    exact h v' w' h2 h3 h5

theorem rowsF_info : (Try.prog.info? 22).map (fun i => (i.zero, i.size, i.bytes)) = some (some (.slice none 0 0), 1, 24) := by kernel_rfl
theorem row_oneF {w : World} {base : Nat} (hb : base ≤ w.heap.size) (u : Value) : (w.alloc (.cells #[u] 22)).ownsRow base 22 1 (.slice (some ⟨w.heap.size, 0, none⟩) 1 1) 1 [u] :=
  ⟨rfl, .inr ⟨w.heap.size, 1, _, rfl, hb, new_at w _ rfl, Nat.le_refl _, by unfold maxLen; omega, rfl, rfl⟩⟩
theorem onlyGrew {S : Nat → Prop} {w w' w2 : World} (h : Only S w w') {row : Option Nat} (hg : w'.grownBy w2 row) (hr : ∀ g, row = some g → S g) : Only S w w2 :=
  h.trans ⟨hg.os, hg.tape, hg.output, hg.size, fun k hk hs => hg.block k hk (fun e => hs (hr k e.symm))⟩

/-- What may be turned: block B, and what lies from base on outside X. -/
def FarX (B base : Nat) (X : Nat → Prop) : Nat → Prop := fun b => b = B ∨ (base ≤ b ∧ ¬ X b)
def RetF (B T base : Nat) (X : Nat → Prop) (L : List (List Int)) (w : World) (e : Ending) (w' : World) : Prop :=
  e = .returned (.tuple #[]) ∧ Lst w' B T base X L ∧ Only (FarX B base X) w w'
/-- A pattern, if it is full. -/
def fullL (z0 : Int) (beg : List Int) (L : Int) : List (List Int) := if L < z0 then [beg] else []

set_option maxHeartbeats 2000000 in
set_option maxRecDepth 100000 in
theorem full1_any (rod : Int) (A : Option Addr) (n c : Nat) (m0 m1 m2 m3 v0 v1 v2 v3 : Int) (zs : List Int) (lo hi : Nat) (C B T base : Nat) (X : Nat → Prop) (L : List (List Int)) (w : World) (hn : zs.length = n) (hn1 : 1 ≤ n) (h4 : n ≤ 4) (hs : Seg w lo hi A zs) (hB : hi ≤ w.heap.size)
    (hz : ∀ (k : Nat) u, zs[k]? = some u → 1 ≤ u ∧ u ≤ 60) (hp : ∀ (k : Nat) u, [v0, v1, v2, v3][k]? = some u → 0 ≤ u ∧ u ≤ 60) (hr : 1 ≤ rod ∧ rod ≤ 60) (t : Int) (ht : usedTo zs [v0, v1, v2, v3] n = t)
    (hC : w.heap[C]? = some (.cells #[.int .i64 rod, .slice A n c, .int .i64 m0, .int .i64 m1, .int .i64 m2, .int .i64 m3] 40 (0, 0))) (hCB : C ≠ B) (hCb : C < base) (hL : Lst w B T base X L) (hX : ∀ p, X p → p < w.heap.size) (hlen : L.length < 4194304) :
    Calls Try.prog 31 #[.agg #[.int .i64 v0, .int .i64 v1, .int .i64 v2, .int .i64 v3], .pointer (some ⟨C, 0, none⟩), .pointer (some ⟨B, 0, none⟩)] w (RetF B T base X (L ++ fullL (zs.getD 0 0) ([v0, v1, v2, v3].take n) (rod - t)) w) := by
  obtain ⟨j0, hj0, hy0, hy1, hy2⟩ := info_parts rowsF_info
  obtain ⟨p, hd⟩ : ∃ p, decide (rod - t < zs.getD 0 0) = p := ⟨_, rfl⟩
  have hFL : fullL (zs.getD 0 0) ([v0, v1, v2, v3].take n) (rod - t) = if p = true then [[v0, v1, v2, v3].take n] else [] := by
    rw [fullL, ← hd]; simp
  obtain ⟨W, hW⟩ : ∃ W, w.alloc (.cells #[.int .i64 v0, .int .i64 v1, .int .i64 v2, .int .i64 v3] 38) = W := ⟨_, rfl⟩
  have hb0 : Below w.heap.size w W := by rw [← hW]; exact (Below.refl _ _).alloc (Nat.le_refl _) _
  have hWs : W.heap.size = w.heap.size + 1 := by rw [← hW]; simp
  have hP : W.heap[w.heap.size]? = some (.cells #[.int .i64 v0, .int .i64 v1, .int .i64 v2, .int .i64 v3] 38 (0, 0)) := by rw [← hW]; exact new_at _ _ rfl
  have hC0 := (hb0.block C (heap_lt hC)).trans hC
  have hL0 := hL.below hb0
  obtain ⟨v, vs, k1, k2, k3, k4, k5, k6, k7⟩ := hL
  obtain ⟨Av, cv, rfl⟩ := k2.form
  obtain ⟨nl, hnl⟩ : ∃ nl, L.length = nl := ⟨_, rfl⟩
  have HNL := Lib.hid hnl
  rw [hnl] at k1 k2 k5 hlen
  have HLT := Lib.hid k2.1.lt
  have hs0 := hs.below hb0 hB
  have hO0 : Only (FarX B base X) w W := .of_below hb0 (Nat.le_refl _)
  obtain ⟨q0, q1, q2, q3, q4, q5⟩ := Cut6.of hC0
  obtain ⟨p0, p1, p2, p3⟩ := Pat4.of hP
  have HN := Lib.hid hn
  have HT := Lib.hid ht
  have HD := Lib.hid hd
  have HFL := Lib.hid hFL
  have HW := Lib.hid hW
  have HL0 := Lib.hid hL0
  have HO0 := Lib.hid hO0
  have HS0 := Lib.hid hs0
  have HZ := Lib.hid hz
  have HPP := Lib.hid hp
  have HC0 := Lib.hid hC0
  have HP0 := Lib.hid hP
  have HX := Lib.hid hX
  have hClt := heap_lt hC0
  have K2 := Lib.hid k2
  have K5 := Lib.hid k5
  have HB0 := Lib.hid hb0
  clear hn ht hd hFL hW hL0 hO0 hnl k2 k5 hs hs0 hz hp hC hC0 hP hX hb0
  go_enter Try.func31, Try.ntmps31
  go_upto_region 1 with (fail)
  rw [HW.out]
  go_wp2_with fail
  refine (isFull_any rod A n c m0 m1 m2 m3 v0 v1 v2 v3 zs lo hi W HN.out h4 HS0.out (by omega) HZ.out HPP.out hr t HT.out hn1 p HD.out).mono ?_
  rintro e w1 ⟨rfl, hb1⟩
  have hz1 := hb1.size
  have hC1 := (hb1.block C hClt).trans HC0.out
  have hP1 := (hb1.block _ (by omega)).trans HP0.out
  have HL1 := Lib.hid (HL0.out.below hb1)
  have HO1 := Lib.hid (HO0.out.trans (Only.of_below hb1 (Nat.le_refl _)))
  have HB01 := Lib.hid (HB0.out.trans (hb1.mono (by omega)))
  have k11 := (HB01.out.block B (heap_lt k1)).trans k1
  clear q0 q1 q2 q3 q4 q5 p0 p1 p2 p3 hb1
  cases p
  · go_wp2
    go_end0
    exact ⟨rfl, by rw [HFL.out]; simpa using HL1.out, HO1.out⟩
  · go_wp2_with fail
    refine region_E (S := fun wq => wq.heap[B]? = some (.cells #[.slice Av nl cv] T (0, 0)) ∧ wq.heap[C]? = some (.cells #[.int .i64 rod, .slice A n c, .int .i64 m0, .int .i64 m1, .int .i64 m2, .int .i64 m3] 40 (0, 0)) ∧ wq.heap[w.heap.size]? = some (.cells #[.int .i64 v0, .int .i64 v1, .int .i64 v2, .int .i64 v3] 38 (0, 0))) 6 (by kernel_rfl) ⟨k11, hC1, hP1⟩ (fun hH0 => ?_)
    refine AnyE.take (i := 0) (v := ?_) (ops_at rfl) (by kernel_rfl) (by kernel_rfl) (by kernel_rfl) (by kernel_rfl) (fun _ _ _ h => h) (Or.inl ⟨by rfl, ?ye0⟩) (by assumption) ?ne0
    case ye0 => (intro wS hSw; obtain ⟨s0, s1, s2⟩ := hSw; have q0 := cell_of s0 0; obtain ⟨u0, u1, u2, u3, u4, u5⟩ := Cut6.of s1; obtain ⟨p0, p1, p2, p3⟩ := Pat4.of s2; go_simp; try rfl)
    try simp only [Act.put, List.setIfInBounds_toArray, List.set_cons_zero, List.set_cons_succ]
    refine AnyE.take (i := 1) (v := ?_) (ops_at rfl) (by kernel_rfl) (by kernel_rfl) (by kernel_rfl) (by kernel_rfl) (fun _ _ _ h => h) (Or.inl ⟨by rfl, ?ye1⟩) (by assumption) ?ne1
    case ye1 => (intro wS hSw; obtain ⟨s0, s1, s2⟩ := hSw; have q0 := cell_of s0 0; obtain ⟨u0, u1, u2, u3, u4, u5⟩ := Cut6.of s1; obtain ⟨p0, p1, p2, p3⟩ := Pat4.of s2; go_simp; try rfl)
    try simp only [Act.put, List.setIfInBounds_toArray, List.set_cons_zero, List.set_cons_succ]
    refine AnyE.take (i := 2) (v := ?_) (ops_at rfl) (by kernel_rfl) (by kernel_rfl) (by kernel_rfl) (by kernel_rfl) (fun _ _ _ h => h) (Or.inl ⟨by rfl, ?ye2⟩) (by assumption) ?ne2
    case ye2 => (intro wS hSw; obtain ⟨s0, s1, s2⟩ := hSw; have q0 := cell_of s0 0; obtain ⟨u0, u1, u2, u3, u4, u5⟩ := Cut6.of s1; obtain ⟨p0, p1, p2, p3⟩ := Pat4.of s2; go_simp; try rfl)
    try simp only [Act.put, List.setIfInBounds_toArray, List.set_cons_zero, List.set_cons_succ]
    refine AnyE.of_ready (rs := [3]) (by kernel_rfl) (by simp) ?_
    refine ReadyE.cons (ops_at rfl) (fun K hK => ?_) ReadyE.nil
    go_simp
    obtain ⟨w2, hw2⟩ : ∃ w2, w1.drew = w2 := ⟨_, rfl⟩
    have hb2 : Below w1.heap.size w1 w2 := by rw [← hw2]; exact (Below.refl _ _).drew
    rw [hw2]
    clear hw2
    refine (listP_any rod A n c m0 m1 m2 m3 v0 v1 v2 v3 w2 h4).mono ?_
    rintro e w3 ⟨A3, c3, rfl, ho3, hb3⟩
    have hz2 := hb2.size
    have hz3 := hb3.size
    have hb23 := hb2.trans (hb3.mono hz2)
    have g1 := (hb23.block B (heap_lt k11)).trans k11
    have g2 := (hb23.block C (heap_lt hC1)).trans hC1
    have g3 := (hb23.block _ (heap_lt hP1)).trans hP1
    have HO3 := Lib.hid ho3
    have HB23 := Lib.hid hb23
    clear ho3 hb3 hb2 hb23
    refine hK.out _ _ (fun _ => ⟨g1, g2, g3⟩) (fun hH3 => ?_)
    clear hK K hH3 hH0
    refine AnyE.of_ready (rs := [4]) (by kernel_rfl) (by simp) ?_
    refine ReadyE.cons (ops_at rfl) (fun K hK => ?_) ReadyE.nil
    go_simp
    have z4 : Below w3.heap.size w3 (w3.alloc (.cells #[.slice A3 n c3] 22)) := (Below.refl w3.heap.size w3).alloc (Nat.le_refl _) _
    have r4 := row_oneF (w := w3) (Nat.le_refl _) (.slice A3 n c3)
    have hz4 : (w3.alloc (.cells #[.slice A3 n c3] 22)).heap.size = w3.heap.size + 1 := by simp
    obtain ⟨w4, hw4⟩ : ∃ w4, w3.alloc (.cells #[.slice A3 n c3] 22) = w4 := ⟨_, rfl⟩
    rw [hw4] at z4 r4 hz4 ⊢
    clear hw4
    have g14 := (z4.block B (heap_lt g1)).trans g1
    have g24 := (z4.block C (heap_lt g2)).trans g2
    have g34 := (z4.block _ (heap_lt g3)).trans g3
    refine hK.out _ _ (fun _ => ⟨g14, g24, g34⟩) (fun hH4 => ?_)
    clear hK K hH4
    have hb4 := HB01.out.trans ((HB23.out.trans (z4.mono HB23.out.size)).mono HB01.out.size)
    have K24 := Lib.hid (K2.out.below hb4)
    have K54 := Lib.hid (fun p hp => (⟨(K5.out p hp).1, (K5.out p hp).2.1, (K5.out p hp).2.2.below hb4⟩ : base ≤ p ∧ (Value.slice Av nl cv).ownBlock ≠ some p ∧ Rows1 w4 base (some p) L vs))
    have HO4 := Lib.hid (HO3.out.below z4 (Nat.le_refl _))
    have HON4 := Lib.hid (HO1.out.trans (Only.of_below (HB23.out.trans (z4.mono HB23.out.size)) (Nat.le_refl _)))
    have hz14 := hb4.size
    clear hb4 z4
    refine AnyE.of_ready (rs := [5]) (by kernel_rfl) (by simp) ?_
    refine ReadyE.cons (ops_at rfl) (fun K hK => ?_) ReadyE.nil
    refine step_append_rowsF _ rfl (.tmp 7) (.tmp 11) 23 rfl base 22 j0 Try.underlying23 hj0 hy0 hy1 hy2 _ nl vs rfl (by have h := K24.out.1; rw [HNL.out] at h; exact h) _ _ 1 _ rfl r4 (fun u hu => by rw [List.mem_singleton.1 hu]; rfl) (by omega) (by omega) ?_
    intro vb xb hob hgb hloc
    obtain ⟨Ab, cb, rfl⟩ := ownsRow_form hob
    have FIN := Lib.hid (lst_app (xs := [v0, v1, v2, v3].take n) (m := n) (c := c3) (B' := A3) (w0 := w1.heap.size) (W := w4) g14 K24.out k3 (by omega) K54.out (fun p hp => by have := HX.out p hp; omega) (by omega) (by omega) (by simp; omega) (HO4.out.more (by omega) (by omega)) (fun g hg => by have := (HLT.out g hg).2; omega) (fun h => by have := congrArg List.length h; simp at this; omega) k6 (k7.mono (by omega)) (by rw [HNL.out]; exact hob) hgb hloc)
    have HON5 := Lib.hid ((onlyGrew HON4.out hgb (fun g hg => .inr ⟨(K2.out.1.lt g hg).1, fun hx => (K5.out g hx).2.1 hg⟩)).setCell (p := ⟨B, 0, none⟩) (.inl rfl) (.slice Ab (nl + 1) cb))
    have hzb := hgb.size
    have hbkb := FIN.out.2
    have g2b := (hgb.block C (by omega) (fun e => by have := (K2.out.1.lt C e.symm).1; omega)).trans g24
    have g3b := (hgb.block w.heap.size (by omega) (fun e => by have := (HLT.out _ e.symm).2; omega)).trans g34
    refine hK.out _ _ (fun _ => ⟨hbkb, g2b, g3b⟩) (fun hH5 => ?_)
    clear hK K hH5 hob hgb hloc
    have c0 := cell_of hbkb 0
    have f0 := frozen_of hbkb 0
    simp only [List.getElem?_toArray, List.getElem?_cons_zero, List.getElem?_cons_succ] at c0
    refine AnyE.of_ready (rs := [6]) (by kernel_rfl) (by simp) ?_
    refine ReadyE.cons (ops_at rfl) (fun K hK => ?_) ReadyE.nil
    go_simp
    refine hK.out _ _ (fun h => absurd rfl h) (fun _ => ?_)
    clear hK K
    refine AnyE.end_ (by kernel_rfl) ?_ _
    go_wp2
    go_end0
    exact ⟨rfl, by rw [HFL.out]; exact FIN.out.1, HON5.out⟩
end Go.Proofs.Ytoheoojpmndhoab
