/-
  The first solution, by both programs.
  Conditions: none.
-/
import Derived.Test.YtoheoojpmndhoaaPzCs
import Derived.Test.YtoheoojpmndhoaaSomeN
namespace Go.Proofs.Ytoheoojpmndhoaa
set_option linter.unusedVariables false
set_option linter.unusedSimpArgs false
open Go.RowKit Go.Shelf
attribute [local go_sem] Oper.semAt_some

noncomputable def haveB (t : Int) (cs : List Clu) : Bool := puzB t cs && !(solF toldV t.toNat cs).isEmpty
noncomputable def sol1 (t : Int) (cs : List Clu) : List Int := (solF toldV t.toNat cs).headD []
theorem haveB_true {t : Int} {cs : List Clu} (h : haveB t cs = true) : puzB t cs = true ∧ ∃ x xs, solF toldV t.toNat cs = x :: xs := by
  rw [haveB, Bool.and_eq_true] at h
  refine ⟨h.1, ?_⟩
  cases hL : solF toldV t.toNat cs with
  | nil => rw [hL] at h; exact absurd h.2 (by simp)
  | cons x xs => exact ⟨x, xs, rfl⟩
theorem sol1_len {t : Int} {cs : List Clu} (h : haveB t cs = true) : (sol1 t cs).length = t.toNat := by
  obtain ⟨_, x, xs, e⟩ := haveB_true h
  rw [sol1, e]
  exact (solF_mem (v := toldV) (cs := cs) (by rw [e]; exact List.mem_cons_self)).1

set_option maxRecDepth 100000 in
set_option maxHeartbeats 4000000 in
theorem spec_FirstSolution (t : Int) (A : Option Addr) (n c : Nat) (cs : List Clu) (lo hi : Nat) (w : World) (hn : cs.length = n) (hlen : n ≤ 1048576) (hnc : n ≤ c) (hs : Seg w lo hi A (flat4 cs)) (hB : hi ≤ w.heap.size) (q : Bool) (hq : haveB t cs = q) :
    Calls Try.prog 38 #[pzV t A n c] w (RetL q (someN q (sol1 t cs)) w) := by
  obtain ⟨g, hg⟩ : ∃ g, puzB t cs = g := ⟨_, rfl⟩
  have HQ0 := Lib.hid hq
  clear hq
  obtain ⟨W, hW⟩ : ∃ W, w.alloc (.cells #[.int .i64 t, .slice A n c] 35) = W := ⟨_, rfl⟩
  have z0 : Below w.heap.size w W := by rw [← hW]; exact (Below.refl _ _).alloc (Nat.le_refl _) _
  have p0 : W.heap[w.heap.size]? = some (.cells #[.int .i64 t, .slice A n c] 35 (0, 0)) := by rw [← hW]; exact new_at _ _ rfl
  have hsz := heap_lt p0
  have sW := hs.below z0 hB
  have HW := Lib.hid hW
  have HN := Lib.hid hn
  have HQ := Lib.hid hg
  clear hW hn hg
  have q0 := cell_of p0 0
  have q1 := cell_of p0 1
  simp only [List.getElem?_toArray, List.getElem?_cons_zero, List.getElem?_cons_succ] at q0 q1
  go_enter Try.func38, Try.ntmps38
  go_wp2_with fail
  rw [HW.out]
  refine (pzGood_Q t A n c cs lo hi _ HN.out hlen sW (by omega) g HQ.out).mono ?_
  rintro e v1 ⟨rfl, hb1⟩
  have hz1 := hb1.size
  have y1 := z0.trans (hb1.mono (by omega))
  have p1 := (hb1.block _ hsz).trans p0
  have s1 := sW.below hb1 (by omega)
  clear q0 q1
  have q0 := cell_of p1 0
  have q1 := cell_of p1 1
  simp only [List.getElem?_toArray, List.getElem?_cons_zero, List.getElem?_cons_succ] at q0 q1
  cases g
  · obtain rfl : q = false := by rw [← HQ0.out, haveB, HQ.out]; rfl
    go_wp2
    go_ret2
    exact ⟨none, 0, 0, rfl, rfl, Own.nil_, y1⟩
  · obtain ⟨⟨t1, t2⟩, h6, hcl⟩ := puzB_true.1 HQ.out
    obtain ⟨N, rfl⟩ : ∃ N : Nat, t = (N : Int) := ⟨t.toNat, by omega⟩
    have hN : N = 2 ∨ N = 3 ∨ N = 4 := by omega
    have hn6 : n ≤ 6 := by have := HN.out; omega
    have hv1 : w.heap.size < v1.heap.size := by omega
    go_wp2_with fail
    refine (pzAll_any A n c cs N lo hi _ hN HN.out hlen hcl s1 (by omega)).mono ?_
    rintro e u1 ⟨v, vs, rfl, hr, hbu⟩
    obtain ⟨A', c', rfl⟩ := hr.form
    have hzu := hbu.size
    have yu := y1.trans (hbu.mono y1.size)
    obtain ⟨L, hL⟩ : ∃ L, solF toldV N cs = L := ⟨_, rfl⟩
    rw [hL] at hr ⊢
    clear q0 q1
    cases L with
    | nil =>
      obtain rfl : q = false := by rw [← HQ0.out, haveB, HQ.out, show ((N : Int)).toNat = N from rfl, hL]; rfl
      clear hr
      go_wp2
      go_ret2
      exact ⟨none, 0, 0, rfl, rfl, Own.nil_, yu⟩
    | cons x xs =>
      obtain rfl : q = true := by rw [← HQ0.out, haveB, HQ.out, show ((N : Int)).toNat = N from rfl, hL]; rfl
      have hs1 : sol1 (N : Int) cs = x := by rw [sol1, show ((N : Int)).toNat = N from rfl, hL]; rfl
      obtain ⟨gg, B, d, rfl, h1, h2, hcell, hown⟩ := hr.at_ (k := 0) (xs := x) rfl
      obtain ⟨m, hm⟩ : ∃ m, (x :: xs).length = m := ⟨_, rfl⟩
      have hm0 : 0 < m := by rw [← hm]; simp
      have em : ((m : Int) == 0) = false := by simp; omega
      have em2 : (0 : Int) < (m : Int) := by omega
      rw [hm]
      clear hr hm
      go_wp2
      go_ret2
      exact ⟨B, x.length, d, rfl, by rw [someN, if_pos rfl, hs1], by rw [someN, if_pos rfl, hs1]; exact hown.more (by omega) (Nat.le_refl _), yu⟩

set_option maxRecDepth 100000 in
set_option maxHeartbeats 4000000 in
theorem impl_FirstSolution (t : Int) (A : Option Addr) (n c : Nat) (cs : List Clu) (lo hi : Nat) (w : World) (hn : cs.length = n) (hlen : n ≤ 1048576) (hnc : n ≤ c) (hs : Seg w lo hi A (flat4 cs)) (hB : hi ≤ w.heap.size) (q : Bool) (hq : haveB t cs = q) :
    Calls Try.prog 39 #[pzV t A n c] w (RetL q (someN q (sol1 t cs)) w) := by
  refine (callsIn_wide (n := 7)).1 ?_
  refine callsIn_of_wp_marks Try.func39 rfl trivial ?_ rfl
  simp only [Try.ntmps39, List.size_toArray, List.length_cons, List.length_nil, Nat.reduceAdd, Nat.reduceSub, Array.replicate_succ, Array.replicate_zero, List.push_toArray, List.append_toArray, List.nil_append, List.cons_append]
  obtain ⟨W, hW⟩ : ∃ W, ((w.alloc (.cells #[.int .i64 t, .slice A n c] 35)).alloc (.cells #[.slice none 0 0] 39)).alloc (.cells #[.bool false] 4) = W := ⟨_, rfl⟩
  have z0 : Below w.heap.size w W := by rw [← hW]; exact (((Below.refl _ _).alloc (Nat.le_refl _) _).alloc (by simp) _).alloc (by simp; omega) _
  have p0 : W.heap[w.heap.size]? = some (.cells #[.int .i64 t, .slice A n c] 35 (0, 0)) := by rw [← hW]; exact (alloc_old _ (by simp; omega) _).trans ((alloc_old _ (by simp) _).trans (new_at _ _ rfl))
  have r0 : W.heap[w.heap.size + 1]? = some (.cells #[.slice none 0 0] 39 (0, 0)) := by rw [← hW]; exact (alloc_old _ (by simp) _).trans (new_at _ _ (by simp))
  have b0 : W.heap[w.heap.size + 1 + 1]? = some (.cells #[.bool false] 4 (0, 0)) := by rw [← hW]; exact new_at _ _ (by simp)
  have hsz : w.heap.size + 1 + 1 < W.heap.size := heap_lt b0
  have sW := hs.below z0 hB
  have HW := Lib.hid hW
  obtain ⟨g, hg⟩ : ∃ g, puzB t cs = g := ⟨_, rfl⟩
  have HQ0 := Lib.hid hq
  have HG := Lib.hid hg
  have HN := Lib.hid hn
  clear hW hn hq hg
  have q0 := cell_of p0 0
  have q1 := cell_of p0 1
  simp only [List.getElem?_toArray, List.getElem?_cons_zero, List.getElem?_cons_succ] at q0 q1
  gi_wp2
  rw [HW.out]
  refine ⟨trivial, (callsIn_wide.2 (impl_IsPuzzleQ t A n c cs lo hi _ HN.out hlen sW (by omega) g HG.out)).mono ?_⟩
  rintro e v1 ⟨rfl, hb1⟩
  have hz1 := hb1.size
  have y1 := z0.trans (hb1.mono (by omega))
  have p1 := (hb1.block _ (by omega)).trans p0
  have r1 := (hb1.block _ (by omega)).trans r0
  have b1 := (hb1.block _ (by omega)).trans b0
  have s1 := sW.below hb1 (by omega)
  clear q0 q1 p0 r0 b0 sW
  have q0 := cell_of p1 0
  have q1 := cell_of p1 1
  have c0 := cell_of r1 0
  have c1 := cell_of b1 0
  have f0 := frozen_of r1 0
  have f1 := frozen_of b1 0
  simp only [List.getElem?_toArray, List.getElem?_cons_zero, List.getElem?_cons_succ] at q0 q1 c0 c1
  cases g
  · obtain rfl : q = false := by rw [← HQ0.out, haveB, HG.out]; rfl
    gi_wp2
    have x2 := (set_far (p := ⟨w.heap.size + 1 + 1, 0, none⟩) _ (by show w.heap.size + 1 ≠ w.heap.size + 1 + 1; omega) (.bool false)).trans (set_self r1 0 (.slice none 0 0))
    have x3 := set_self ((set_far (p := ⟨w.heap.size + 1, 0, none⟩) _ (by show w.heap.size + 1 + 1 ≠ w.heap.size + 1; omega) (.slice none 0 0)).trans b1) 0 (.bool false)
    have d0 := cell_of x2 0
    have d1 := cell_of x3 0
    simp only [List.setIfInBounds_toArray, List.set_cons_zero, List.getElem?_toArray, List.getElem?_cons_zero] at d0 d1
    refine ⟨.tuple #[.slice none 0 0, .bool false], by simp [results, Try.results39, go_sem, d0, d1], none, 0, 0, rfl, rfl, Own.nil_, ?_⟩
    exact (y1.setCell (p := ⟨w.heap.size + 1, 0, none⟩) (by simp) _).setCell (p := ⟨w.heap.size + 1 + 1, 0, none⟩) (by show w.heap.size ≤ w.heap.size + 1 + 1; omega) _
  obtain ⟨⟨t1, t2⟩, h6, hcl⟩ := puzB_true.1 HG.out
  obtain ⟨N, rfl⟩ : ∃ N : Nat, t = (N : Int) := ⟨t.toNat, by omega⟩
  have hN : N = 2 ∨ N = 3 ∨ N = 4 := by omega
  have HCL := Lib.hid hcl
  clear hcl
  gi_wp2
  refine ⟨trivial, (callsIn_wide.2 (solutions_any (N : Int) A n c _)).mono ?_⟩
  rintro e V ⟨rfl, hV⟩
  have hVb : Below v1.heap.size v1 V := by rw [hV]; exact (Below.refl _ _).alloc (Nat.le_refl _) _
  have hVs : V.heap.size = v1.heap.size + 1 := by rw [hV]; simp
  have hVp : V.heap[v1.heap.size]? = some (.cells #[.int .i64 (N : Int), .slice A n c] 35 (0, 0)) := by rw [hV]; exact new_at _ _ rfl
  have sV := s1.below hVb (by omega)
  clear hV q0 q1 c0 c1 f0 f1
  gi_wp2
  refine range_seq (gf := 103) (lb := #[.pointer (some ⟨v1.heap.size, 0, none⟩)]) rfl (enters_of Try.func103 (by kernel_rfl) rfl) (sol_seq v1.heap.size N A n c cs lo hi hN V hVp HN.out hlen HCL.out sV (by omega)) (fun b hb => by show b < V.heap.size; omega) (Below.refl _ _) ?hps ?hput
    (fun m pre W' => pre = [] ∧ Below v1.heap.size v1 W')
    (fun m cc pre W' => cc = .ret ∧ ∃ x A1 c1, pre = [x] ∧ Own W' m W'.heap.size A1 x ∧ W'.heap[w.heap.size + 1]? = some (.cells #[.slice A1 x.length c1] 39 (0, 0)) ∧ W'.heap[w.heap.size + 1 + 1]? = some (.cells #[.bool true] 4 (0, 0)) ∧ Below w.heap.size w W') ?hI ?hIx ?h0
    (fun args => { tmps := #[.agg #[.int .i64 (N : Int), .slice A n c], .pointer (some ⟨w.heap.size, 0, none⟩), .pointer (some ⟨w.heap.size + 1, 0, none⟩), .pointer (some ⟨w.heap.size + 1 + 1, 0, none⟩), args.getD 0 undef, .agg #[.int .i64 (N : Int), .slice A n c], .bool true, .bool false, .agg #[.int .i64 (N : Int), .slice A n c], .func (.func 103) #[] #[.pointer (some ⟨v1.heap.size, 0, none⟩)], args.getD 0 undef, undef], defers := [] })
    ?hassign ?hbody ?hdone ?hstop
  case hps => rintro B m W0 x args W1 ⟨_, _, rfl, _⟩; rfl
  case hput =>
    rintro m W0 x args W1 o hm hR ⟨A', c', rfl, h3⟩
    exact ⟨A', c', rfl, by have hz : (W1.putObj (V.heap.size + 1) o).heap.size = W1.heap.size := (by simp); rw [hz]; exact h3.keep fun b h1 h2 => World.putObj_heap_other (by omega)⟩
  case hI =>
    rintro m hm s W' W2 ⟨h1, h2⟩ ho
    exact ⟨h1, h2.trans (ho.below h2.size (fun k hk => by have := hk.1; omega))⟩
  case hIx =>
    rintro m cc hm s W' W2 ⟨h1, x, A1, c1, h2, h3, h4, h5, h6⟩ ho
    exact ⟨h1, x, A1, c1, h2, (h3.only ho (Nat.le_refl _) (fun g hg => .inl hg.2)).more (Nat.le_refl _) ho.size, (ho.block _ (heap_lt h4) (fun hs => by have := hs.1; omega)).trans h4, (ho.block _ (heap_lt h5) (fun hs => by have := hs.1; omega)).trans h5, h6.trans (ho.below h6.size (fun k hk => by have := hk.1; omega))⟩
  case h0 =>
    intro W' hbW hR
    exact ⟨rfl, hVb.trans (hbW.mono (by omega))⟩
  case hassign =>
    rintro l' args W' K hsz hK
    obtain ⟨v, rfl⟩ : ∃ v, args = #[v] := ⟨args[0]'(by rw [hsz]; decide), by apply Array.ext <;> simp_all⟩
    gi_wp2
    exact hK
  case hbody =>
    rintro m pre x args W0 W1 hm hm0 hpre ⟨rfl, hb⟩ ho ⟨A', c', rfl, hown⟩
    have hb2 : Below v1.heap.size v1 W1 := hb.trans (ho.below hb.size (fun k hk => by have := hk.1; omega))
    have r2 := (hb2.block _ (by omega)).trans r1
    have b2 := (hb2.block _ (by omega)).trans b1
    have c0 := cell_of r2 0
    have c1 := cell_of b2 0
    have f0 := frozen_of r2 0
    have f1 := frozen_of b2 0
    simp only [List.getElem?_toArray, List.getElem?_cons_zero, List.getElem?_cons_succ] at c0 c1
    have hzo := ho.size
    have hB2 := y1.trans (hb2.mono y1.size)
    have HOW := Lib.hid hown
    clear hown
    gi_wp2
    refine ⟨((KeepM.refl _ _ _).setCell (p := ⟨w.heap.size + 1, 0, none⟩) (.inl (by show w.heap.size + 1 < V.heap.size; omega)) _).setCell (p := ⟨w.heap.size + 1 + 1, 0, none⟩) (.inl (by show w.heap.size + 1 + 1 < V.heap.size; omega)) _, rfl, x, A', c', rfl, ?_, ?_, ?_, (hB2.setCell (p := ⟨w.heap.size + 1, 0, none⟩) (by simp) _).setCell (p := ⟨w.heap.size + 1 + 1, 0, none⟩) (by show w.heap.size ≤ w.heap.size + 1 + 1; omega) _⟩
    · simp only [World.size_setCell]
      exact (HOW.out.keep fun b h1 h2 => (set_far _ (by show b ≠ w.heap.size + 1 + 1; omega) _).trans (set_far _ (by show b ≠ w.heap.size + 1; omega) _)).more (by omega) (Nat.le_refl _)
    · exact (set_far _ (by show w.heap.size + 1 ≠ w.heap.size + 1 + 1; omega) _).trans (by simpa using set_self r2 0 (.slice A' x.length c'))
    · simpa using set_self ((set_far (p := ⟨w.heap.size + 1, 0, none⟩) _ (by show w.heap.size + 1 + 1 ≠ w.heap.size + 1; omega) (.slice A' x.length c')).trans b2) 0 (.bool true)
  case hdone =>
    rintro m W' hm ⟨hL, hb2⟩ hD
    obtain rfl : q = false := by rw [← HQ0.out, haveB, HG.out, show ((N : Int)).toNat = N from rfl, hL]; rfl
    have r2 := (hb2.block _ (by omega)).trans r1
    have b2 := (hb2.block _ (by omega)).trans b1
    have c0 := cell_of r2 0
    have c1 := cell_of b2 0
    have f0 := frozen_of r2 0
    have f1 := frozen_of b2 0
    simp only [List.getElem?_toArray, List.getElem?_cons_zero, List.getElem?_cons_succ] at c0 c1
    have hdl := heap_lt hD
    have hB2 := y1.trans (hb2.mono y1.size)
    gi_wp2
    have x2 := (set_far (p := ⟨w.heap.size + 1 + 1, 0, none⟩) _ (by show w.heap.size + 1 ≠ w.heap.size + 1 + 1; omega) (.bool false)).trans (set_self r2 0 (.slice none 0 0))
    have x3 := set_self ((set_far (p := ⟨w.heap.size + 1, 0, none⟩) _ (by show w.heap.size + 1 + 1 ≠ w.heap.size + 1; omega) (.slice none 0 0)).trans b2) 0 (.bool false)
    have hK5 := (set_far (p := ⟨w.heap.size + 1 + 1, 0, none⟩) _ (by show V.heap.size ≠ w.heap.size + 1 + 1; omega) (.bool false)).trans ((set_far (p := ⟨w.heap.size + 1, 0, none⟩) _ (by show V.heap.size ≠ w.heap.size + 1; omega) (.slice none 0 0)).trans hD)
    have hB5 := (hB2.setCell (p := ⟨w.heap.size + 1, 0, none⟩) (by simp) (.slice none 0 0)).setCell (p := ⟨w.heap.size + 1 + 1, 0, none⟩) (by show w.heap.size ≤ w.heap.size + 1 + 1; omega) (.bool false)
    generalize ((W'.setCell ⟨w.heap.size + 1, 0, none⟩ (.slice none 0 0)).setCell ⟨w.heap.size + 1 + 1, 0, none⟩ (.bool false)) = Y at x2 x3 hK5 hB5 ⊢
    have d0 := (World.cell?_of_block (w := Y) (w' := Y.putObj V.heap.size (.deferred none)) (a := ⟨w.heap.size + 1, 0, none⟩) (World.putObj_heap_other (by show w.heap.size + 1 ≠ V.heap.size; omega))).trans (cell_of x2 0)
    have d1 := (World.cell?_of_block (w := Y) (w' := Y.putObj V.heap.size (.deferred none)) (a := ⟨w.heap.size + 1 + 1, 0, none⟩) (World.putObj_heap_other (by show w.heap.size + 1 + 1 ≠ V.heap.size; omega))).trans (cell_of x3 0)
    simp only [List.setIfInBounds_toArray, List.set_cons_zero, List.getElem?_toArray, List.getElem?_cons_zero] at d0 d1
    refine ⟨by simp, .inl ⟨_, _, rfl, run_takeDeferred hK5, ?_⟩⟩
    refine ⟨.tuple #[.slice none 0 0, .bool false], by simp [results, Try.results39, go_sem, d0, d1], none, 0, 0, rfl, rfl, Own.nil_, ?_⟩
    exact hB5.trans ((only_putObj (B := V.heap.size) (m := V.heap.size + 1) (Only.refl _ _) ⟨Nat.le_refl _, by omega⟩ _).below hB5.size (fun k hk => by have := hk.1; omega))
  case hstop =>
    rintro m cc pre W' hm hpre ⟨rfl, x, A1, c1, rfl, hown, r2, b2, hB2⟩ hD
    have hq1 : q = true ∧ sol1 (N : Int) cs = x := by
      obtain ⟨rest, hr⟩ := hpre
      rw [List.singleton_append] at hr
      exact ⟨by rw [← HQ0.out, haveB, HG.out, show ((N : Int)).toNat = N from rfl, ← hr]; rfl, by rw [sol1, show ((N : Int)).toNat = N from rfl, ← hr]; rfl⟩
    obtain ⟨rfl, hs1⟩ := hq1
    gi_wp2
    have x2 := r2
    have x3 := b2
    have hK5 := hD
    have d0 := (World.cell?_of_block (w := W') (w' := W'.putObj V.heap.size (.deferred none)) (a := ⟨w.heap.size + 1, 0, none⟩) (World.putObj_heap_other (by show w.heap.size + 1 ≠ V.heap.size; omega))).trans (cell_of x2 0)
    have d1 := (World.cell?_of_block (w := W') (w' := W'.putObj V.heap.size (.deferred none)) (a := ⟨w.heap.size + 1 + 1, 0, none⟩) (World.putObj_heap_other (by show w.heap.size + 1 + 1 ≠ V.heap.size; omega))).trans (cell_of x3 0)
    simp only [List.setIfInBounds_toArray, List.set_cons_zero, List.getElem?_toArray, List.getElem?_cons_zero] at d0 d1
    refine ⟨by simp, .inl ⟨_, _, rfl, run_takeDeferred hK5, ?_⟩⟩
    refine ⟨.tuple #[.slice A1 x.length c1, .bool true], by simp [results, Try.results39, go_sem, d0, d1], A1, x.length, c1, rfl, by rw [someN, if_pos rfl, hs1], ?_, hB2.trans ((only_putObj (B := V.heap.size) (m := V.heap.size + 1) (Only.refl _ _) ⟨Nat.le_refl _, by omega⟩ _).below hB2.size (fun k hk => by have := hk.1; omega))⟩
    rw [someN, if_pos rfl, hs1]
    exact (hown.only (only_putObj (B := V.heap.size) (m := V.heap.size + 1) (Only.refl _ _) ⟨Nat.le_refl _, by omega⟩ _) (Nat.le_refl _) (fun g hg => .inl (by have := hg.2; omega))).more (by have := hVb.size; omega) (by simp)
end Go.Proofs.Ytoheoojpmndhoaa
