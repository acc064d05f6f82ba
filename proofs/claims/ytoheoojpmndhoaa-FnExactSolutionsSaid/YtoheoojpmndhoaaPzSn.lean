/-
  All solutions, by both programs.
  Conditions: none.
-/
import Derived.Test.YtoheoojpmndhoaaPzPa
import Derived.Test.YtoheoojpmndhoaaPzCs
namespace Go.Proofs.Ytoheoojpmndhoaa
set_option linter.unusedVariables false
set_option linter.unusedSimpArgs false
open Go.RowKit Go.Shelf
attribute [local go_sem] Oper.semAt_some

def someSS (q : Bool) (yss : List (List Int)) : List (List Int) := if q = true then yss else []
/-- Lists of lists and a bool are answered. -/
def RetSS (b : Bool) (yss : List (List Int)) (w : World) (e : Ending) (w' : World) : Prop :=
  ∃ A n c, e = .returned (.tuple #[.slice A n c, .bool b]) ∧ yss.length = n ∧ Nest w' w.heap.size w'.heap.size A yss ∧ Below w.heap.size w w'

theorem Rws.keep {w w' : World} {base : Nat} {v : Value} {xss : List (List Int)} {vs : List Value} (h : Rws w base v xss vs) (hs : w.heap.size ≤ w'.heap.size) (hk : ∀ b, base ≤ b → b < w.heap.size → w'.heap[b]? = w.heap[b]?) : Rws w' base v xss vs := by
  obtain ⟨⟨h0, h1⟩, h2, h3⟩ := h
  refine ⟨⟨h0, ?_⟩, h2, fun j xs hj => ?_⟩
  · rcases h1 with h1 | ⟨g, cap, cur, hv, hg, hb, hr⟩
    · exact .inl h1
    · exact .inr ⟨g, cap, cur, hv, hg, (hk g hg (heap_lt hb)).trans hb, hr⟩
  · obtain ⟨B, c, e, ho, hf⟩ := h3 j xs hj
    exact ⟨B, c, e, (ho.keep fun b h1 h2 => hk b h1 h2).more (Nat.le_refl _) hs, hf⟩

theorem Rws.base {w : World} {base base' : Nat} {v : Value} {xss : List (List Int)} {vs : List Value} (h : Rws w base v xss vs) (hb : base' ≤ base) : Rws w base' v xss vs := by
  obtain ⟨⟨h0, h1⟩, h2, h3⟩ := h
  refine ⟨⟨h0, ?_⟩, h2, fun j xs hj => ?_⟩
  · rcases h1 with h1 | ⟨g, cap, cur, hv, hg, hr⟩
    · exact .inl h1
    · exact .inr ⟨g, cap, cur, hv, Nat.le_trans hb hg, hr⟩
  · obtain ⟨B, c, e, ho, hf⟩ := h3 j xs hj
    exact ⟨B, c, e, ho.more hb (Nat.le_refl _), hf⟩

theorem wpListIn_append_rows {F : Fence} {d : Nat} {P : Program} (w : World) {ops : Array Oper} {rest : List Oper} {o : Oper} {a : Act} {Q : Exit → Act → World → Prop} (hgd : o.guard = none) (s x : Operand) (t : TypeId)
    (ho : o.op = .call { callee := .builtin .append, args := #[s, x], argTypes := #[t, t] })
    (base : Nat) (e : TypeId) (i : TypeInfo) (ht : P.underlying t = some (.slice e)) (hi : P.info? e = some i) (hz : i.zero = some (.slice none 0 0)) (hsize : i.size = 1) (hby : i.bytes = 24)
    (v : Value) (n : Nat) (xs : List Value) (hs : a.eval s = v) (hown : w.ownsRow base e 1 v n xs)
    (g c : Nat) (u : Value) (hx : a.eval x = .slice (some ⟨g, 0, none⟩) 1 c) (hu : w.cell? ⟨g, 0, none⟩ = some u) (h1 : u.oneCell' = true)
    (hlen : n + 1 ≤ 4194304) (hbase : base ≤ w.heap.size)
    (h : ∀ v' w', w'.ownsRow base e 1 v' (n + 1) (xs ++ [u]) → w.grownBy w' v.ownBlock → (v'.ownBlock = v.ownBlock ∨ v'.ownBlock = some w.heap.size) → wpListIn F d P ops Q rest (a.put o.dst v') w') : wpListIn F d P ops Q (o :: rest) a w := by
  refine wpListIn_plain hgd fun K hK' => ?_
  obtain ⟨v', w', hrun, r1, r2, r3, r4⟩ := run_append_own_at (P := P) w base t o.type e i (.slice none 0 0) 1 24 ht hi hz hsize hby rfl (by decide) v n xs hown ⟨g, 0, none⟩ 1 c [u] rfl (fun j y hj => by
    have hj0 : j = 0 := by
      have := (List.getElem?_eq_some_iff.1 hj).1
      simp at this
      exact this
    subst hj0
    obtain rfl : u = y := by simpa using hj
    simpa [Addr.add] using hu) (fun y hy => by rw [List.mem_singleton.1 hy]; exact h1) (by unfold maxLen; omega) (by omega) hbase
  unfold Oper.wpIn
  refine ⟨?_, ?_⟩
  · simp [Oper.about, ho, resolve, Target.leads, Sem.run_pure]
  · rw [Oper.semAt_plain F _ _ (by rw [ho]; intro c hc'; cases hc')]
    simp [execOp, ho, resolve, invoke, builtin, hs, hx, hrun, Result.andThen]
    exact hK' _ _ (h v' w' r1 r2 r4)

theorem sums_le4 {xss : List (List Int)} (h : ∀ xs ∈ xss, xs.length ≤ 4) (k : Nat) : sums xss k ≤ 4 * xss.length := by
  unfold sums
  have hg : ∀ L : List (List Int), (∀ xs ∈ L, xs.length ≤ 4) → (L.map List.length).sum ≤ 4 * L.length := by
    intro L
    induction L with
    | nil => intro _; simp
    | cons x L ih =>
      intro hL
      have h1 := hL x List.mem_cons_self
      have h2 := ih fun y hy => hL y (List.mem_cons_of_mem _ hy)
      simp only [List.map_cons, List.sum_cons, List.length_cons]
      omega
  have h1 := hg (xss.take k) fun y hy => h y (List.mem_of_mem_take hy)
  have h2 : (xss.take k).length ≤ xss.length := by simp; omega
  omega
theorem solsB {t : Int} {cs : List Clu} {q : Bool} (hq : puzB t cs = q) : (someSS q (solF toldV t.toNat cs)).length ≤ 1296 ∧ ∀ xs ∈ someSS q (solF toldV t.toNat cs), xs.length ≤ 4 := by
  cases q
  · exact ⟨Nat.zero_le _, fun xs h => by cases h⟩
  · obtain ⟨⟨t1, t2⟩, -, -⟩ := puzB_true.1 hq
    obtain ⟨N, rfl⟩ : ∃ N : Nat, t = (N : Int) := ⟨t.toNat, by omega⟩
    have hle := solF_length toldV N cs
    have hN : N = 2 ∨ N = 3 ∨ N = 4 := by omega
    refine ⟨?_, fun xs h => ?_⟩
    · show (solF toldV N cs).length ≤ 1296
      rcases hN with rfl | rfl | rfl <;> exact Nat.le_trans hle (by decide)
    · have h1 := (solF_mem (v := toldV) (n := N) (cs := cs) h).1
      omega

set_option maxRecDepth 100000 in
set_option maxHeartbeats 4000000 in
theorem spec_Solutions (t : Int) (A : Option Addr) (n c : Nat) (cs : List Clu) (lo hi : Nat) (w : World) (hn : cs.length = n) (hlen : n ≤ 1048576) (hnc : n ≤ c) (hs : Seg w lo hi A (flat4 cs)) (hB : hi ≤ w.heap.size) (q : Bool) (hq : puzB t cs = q) :
    Calls Try.prog 30 #[pzV t A n c] w (RetSS q (someSS q (solF toldV t.toNat cs)) w) := by
  obtain ⟨W, hW⟩ : ∃ W, w.alloc (.cells #[.int .i64 t, .slice A n c] 35) = W := ⟨_, rfl⟩
  have z0 : Below w.heap.size w W := by rw [← hW]; exact (Below.refl _ _).alloc (Nat.le_refl _) _
  have p0 : W.heap[w.heap.size]? = some (.cells #[.int .i64 t, .slice A n c] 35 (0, 0)) := by rw [← hW]; exact new_at _ _ rfl
  have hsz := heap_lt p0
  have sW := hs.below z0 hB
  have HW := Lib.hid hW
  have HN := Lib.hid hn
  have HQ := Lib.hid hq
  clear hW hn hq
  have q0 := cell_of p0 0
  have q1 := cell_of p0 1
  simp only [List.getElem?_toArray, List.getElem?_cons_zero, List.getElem?_cons_succ] at q0 q1
  go_enter Try.func30, Try.ntmps30
  go_wp2_with fail
  rw [HW.out]
  refine (pzGood_Q t A n c cs lo hi _ HN.out hlen sW (by omega) q HQ.out).mono ?_
  rintro e v1 ⟨rfl, hb1⟩
  have hz1 := hb1.size
  have y1 := z0.trans (hb1.mono (by omega))
  have p1 := (hb1.block _ hsz).trans p0
  have s1 := sW.below hb1 (by omega)
  clear q0 q1
  have q0 := cell_of p1 0
  have q1 := cell_of p1 1
  simp only [List.getElem?_toArray, List.getElem?_cons_zero, List.getElem?_cons_succ] at q0 q1
  cases q
  · go_wp2
    go_ret2
    exact ⟨none, 0, 0, rfl, rfl, .inl rfl, y1⟩
  · obtain ⟨⟨t1, t2⟩, h6, hcl⟩ := puzB_true.1 HQ.out
    obtain ⟨N, rfl⟩ : ∃ N : Nat, t = (N : Int) := ⟨t.toNat, by omega⟩
    have hN : N = 2 ∨ N = 3 ∨ N = 4 := by omega
    have hn6 : n ≤ 6 := by have := HN.out; omega
    have hv1 : w.heap.size < v1.heap.size := by omega
    go_wp2_with fail
    refine (pzAll_asc A n c cs N lo hi _ hN HN.out hlen hcl s1 (by omega)).mono ?_
    rintro e u1 ⟨v, vs, rfl, hr, ha, hbu⟩
    obtain ⟨A', c', rfl⟩ := hr.form
    have hne := rws_nest hr ha
    have yu := y1.trans (hbu.mono y1.size)
    clear q0 q1 hr ha
    go_wp2
    go_ret2
    exact ⟨A', _, c', rfl, rfl, hne.more (by omega) (Nat.le_refl _), yu⟩

set_option maxRecDepth 100000 in
set_option maxHeartbeats 4000000 in
theorem appendSeq_any (N Pb : Nat) (A : Option Addr) (n c : Nat) (cs : List Clu) (lo hi : Nat) (w : World) (hN : N = 2 ∨ N = 3 ∨ N = 4) (hP : w.heap[Pb]? = some (.cells #[.int .i64 (N : Int), .slice A n c] 35 (0, 0))) (hn : cs.length = n) (hlen : n ≤ 1048576) (hcl : ∀ c ∈ cs, clueB (N : Int) c = true) (hs : Seg w lo hi A (flat4 cs)) (hB : hi ≤ w.heap.size) :
    Calls Try.prog 102 #[.slice none 0 0, .func (.func 103) #[] #[.pointer (some ⟨Pb, 0, none⟩)]] w fun e w' => ∃ v vs, e = .returned v ∧ Rws w' w.heap.size v (solF toldV N cs) vs ∧ AscV vs ∧ Below w.heap.size w w' := by
  refine (callsIn_wide (n := 7)).1 ?_
  refine callsIn_of_wp_marks Try.func102 rfl trivial ?_ rfl
  simp only [Try.ntmps102, List.size_toArray, List.length_cons, List.length_nil, Nat.reduceAdd, Nat.reduceSub, Array.replicate_succ, Array.replicate_zero, List.push_toArray, List.append_toArray, List.nil_append, List.cons_append]
  obtain ⟨j0, hj0, hy0, hy1, hy2⟩ := info_parts rowsT_info
  have hPl := heap_lt hP
  obtain ⟨V, hV⟩ : ∃ V, w.alloc (.cells #[.slice none 0 0] 45) = V := ⟨_, rfl⟩
  have hVb : Below w.heap.size w V := by rw [← hV]; exact (Below.refl _ _).alloc (Nat.le_refl _) _
  have hVs : V.heap.size = w.heap.size + 1 := by rw [← hV]; simp
  have hVp := (hVb.block _ hPl).trans hP
  have hVc : V.heap[w.heap.size]? = some (.cells #[.slice none 0 0] 45 (0, 0)) := by rw [← hV]; exact new_at _ _ rfl
  have sV := hs.below hVb hB
  have hle := solF_length toldV N cs
  have hb6 : (solF toldV N cs).length ≤ 1296 := by rcases hN with rfl | rfl | rfl <;> exact Nat.le_trans hle (by decide)
  have HV := Lib.hid hV
  have HCL := Lib.hid hcl
  have HN := Lib.hid hn
  have HLE := Lib.hid hb6
  clear hV hcl hn hle hb6
  gi_wp2
  rw [HV.out]
  refine range_seq (gf := 103) (lb := #[.pointer (some ⟨Pb, 0, none⟩)]) rfl (enters_of Try.func103 (by kernel_rfl) rfl) (sol_seq Pb N A n c cs lo hi hN V hVp HN.out hlen HCL.out sV (by omega)) (fun b hb => by show b < V.heap.size; omega) (Below.refl _ _) ?hps ?hput
    (fun m pre W' => ∃ v vs, W'.heap[w.heap.size]? = some (.cells #[v] 45 (0, 0)) ∧ Rws W' m v pre vs ∧ AscV vs ∧ UpV vs W'.heap.size ∧ Below w.heap.size w W')
    (fun m cc pre W' => False) ?hI ?hIx ?h0
    (fun args => { tmps := #[.slice none 0 0, .func (.func 103) #[] #[.pointer (some ⟨Pb, 0, none⟩)], .pointer (some ⟨w.heap.size, 0, none⟩), undef, .slice none 0 0, args.getD 0 undef, .func (.func 103) #[] #[.pointer (some ⟨Pb, 0, none⟩)], args.getD 0 undef, undef, undef, undef, undef, undef], defers := [] })
    ?hassign ?hbody ?hdone ?hstop
  case hps => rintro B m W0 x args W1 ⟨_, _, rfl, _⟩; rfl
  case hput =>
    rintro m W0 x args W1 o hm hR ⟨A', c', rfl, h3⟩
    exact ⟨A', c', rfl, by have hz : (W1.putObj (V.heap.size + 1) o).heap.size = W1.heap.size := (by simp); rw [hz]; exact h3.keep fun b h1 h2 => World.putObj_heap_other (by omega)⟩
  case hI =>
    rintro m hm s W' W2 ⟨v, vs, h1, h2, h3, h4, h5⟩ ho
    exact ⟨v, vs, (ho.block _ (heap_lt h1) (fun hs => by have := hs.1; omega)).trans h1, h2.keep ho.size (fun b hb1 hb2 => ho.block b hb2 (fun hs => by have := hs.2; omega)), h3, h4.mono ho.size, h5.trans (ho.below h5.size (fun k hk => by have := hk.1; omega))⟩
  case hIx => rintro m cc hm s W' W2 h ho; exact h
  case h0 =>
    intro W' hbW hR
    exact ⟨.slice none 0 0, [], (hbW.block _ (by omega)).trans hVc, Rws.nil_ _ _, AscV.nil_, UpV.nil_ _, hVb.trans (hbW.mono (by omega))⟩
  case hassign =>
    rintro l' args W' K hsz hK
    obtain ⟨v, rfl⟩ : ∃ v, args = #[v] := ⟨args[0]'(by rw [hsz]; decide), by apply Array.ext <;> simp_all⟩
    gi_wp2
    exact hK
  case hbody =>
    rintro m pre x args W0 W1 hm hm0 hpre ⟨v, vs, hbx, hr, ha, hu, hb⟩ ho ⟨A', c', rfl, hown⟩
    have hzo := ho.size
    have hl0 := heap_lt hbx
    have hbx1 := (ho.block _ hl0 (fun hs => by have := hs.1; omega)).trans hbx
    have hr1 := hr.keep hzo (fun b hb1 hb2 => ho.block b hb2 (fun hs => by have := hs.2; omega))
    have hlt := hr.1.lt
    have hB1 : Below w.heap.size w W1 := hb.trans (ho.below hb.size (fun k hk => by have := hk.1; omega))
    have hxl : x.length = N := (solF_mem (v := toldV) (cs := cs) (hpre.subset (by simp : x ∈ pre ++ [x]))).1
    have hpl := hpre.length_le
    have hpl2 := HLE.out
    rw [List.length_append] at hpl
    simp only [List.length_cons, List.length_nil] at hpl
    have hxne : x ≠ [] := by intro h; rw [h] at hxl; simp at hxl; omega
    obtain ⟨gx, rfl⟩ := hown.head_ hxne
    have hgl := hown.lt_ hxne rfl
    clear hxl
    obtain ⟨X, hX⟩ : ∃ X, W1.alloc (.cells #[.slice (some ⟨gx, 0, none⟩) x.length c'] 39) = X := ⟨_, rfl⟩
    have hbX : Below W1.heap.size W1 X := by rw [← hX]; exact (Below.refl _ _).alloc (Nat.le_refl _) _
    have hXs : X.heap.size = W1.heap.size + 1 := by rw [← hX]; simp
    have hXc : X.cell? ⟨W1.heap.size, 0, none⟩ = some (.slice (some ⟨gx, 0, none⟩) x.length c') := by rw [← hX]; exact cell_of (new_at _ _ rfl) 0
    have hr2 := hr1.below hbX
    have hown2 := (hown.below hbX (Nat.le_refl _)).more (Nat.le_refl _) hbX.size
    have hbx2 := (hbX.block _ (by omega)).trans hbx1
    have hba : BegAt X w.heap.size m v.ownBlock (some ⟨gx, 0, none⟩) x := BegAt.of_own hown2 hm0 (by omega) (fun g e => (hlt g e).2)
    have hrow := rows_beg (c := c') hba rfl
    obtain ⟨B3, d3, hform⟩ := hr.form
    subst hform
    obtain ⟨np, hnp⟩ : ∃ np, pre.length = np := ⟨_, rfl⟩
    rw [hnp] at hbx1 hbx2 hr2 hrow hlt hpl
    have q0 := cell_of hbx1 0
    have f0 := frozen_of hbx1 0
    have q2 := cell_of hbx2 0
    have f2 := frozen_of hbx2 0
    simp only [List.getElem?_toArray, List.getElem?_cons_zero] at q0 q2
    have HX := Lib.hid hX
    have HR2 := Lib.hid hr2
    have HROW := Lib.hid hrow
    have HBX2 := Lib.hid hbx2
    have HNP := Lib.hid hnp
    have hO2 := hr2.1
    rw [hnp] at hO2
    have HO2 := Lib.hid hO2
    have hwX : w.heap.size < X.heap.size := by omega
    have hwW : w.heap.size < W1.heap.size := by omega
    have hmX : m ≤ X.heap.size := by omega
    have hnp3 : np + 1 ≤ 4194304 := by omega
    have HKX := Lib.hid ((KeepM.of_below (B := V.heap.size) (hbX.mono (show m ≤ W1.heap.size by omega))))
    have HBX := Lib.hid hbX
    have HXC := Lib.hid hXc
    clear hX hr hr1 hr2 hrow hbx hbx1 hbx2 hnp hown hown2 hba hO2 hXc f2 q2
    gi_wp2_with (gi_at_builtin; rw [HX.out]; refine wpListIn_append_rows _ rfl _ _ 45 rfl m 39 j0 Try.underlying45 hj0 hy0 hy1 hy2 _ np vs rfl HO2.out W1.heap.size 1 _ rfl HXC.out rfl hnp3 hmX ?_; intro v3 w3 hown3 hgr3 hloc3; obtain ⟨B4, d4, rfl⟩ := ownsRow_form hown3; have HG3 := Lib.hid hgr3; have hP3 := (hgr3.block w.heap.size hwX (fun e => by have := hlt w.heap.size e.symm; omega)).trans HBX2.out; have hc3 := cell_of hP3 0; have hf3 := frozen_of hP3 0; have HP3 := Lib.hid hP3; have HO3 := Lib.hid hown3; have HL3 := Lib.hid hloc3; clear hP3 hown3 hgr3 hloc3)
    have HR3 := Lib.hid (HR2.out.app HROW.out (by rw [HNP.out]; exact HO3.out) HG3.out HL3.out)
    have hne3 : (Value.slice B4 (np + 1) d4).ownBlock ≠ some w.heap.size := by
      intro e
      rcases HL3.out with e' | e'
      · rw [e'] at e; have := hlt w.heap.size e; omega
      · rw [e'] at e; injection e with e; omega
    have hz3 := HG3.out.size
    refine ⟨(HKX.out.grown HG3.out hmX (fun g e => .inr (hlt g e).1)).setCell (p := ⟨w.heap.size, 0, none⟩) (.inl (by show w.heap.size < V.heap.size; omega)) _, ?_, .slice B4 (np + 1) d4, vs ++ [.slice (some ⟨gx, 0, none⟩) x.length c'], ?_, ?_, ?_, ?_, ?_⟩
    · refine KeepS.setCell (fun b hb => (HG3.out.block b (by omega) (fun e => by have := hlt b e.symm; omega)).trans (HBX.out.block b (by omega))) (p := ⟨w.heap.size, 0, none⟩) (by show ¬ (w.heap.size = Pb ∨ (lo ≤ w.heap.size ∧ w.heap.size < hi)); omega) _
    · exact set_self HP3.out 0 _
    · exact HR3.out.setP HP3.out hne3
    · exact ha.snoc (fun g e => by injection e with e; subst e; exact hu.mono hgl.1)
    · rw [World.size_setCell]
      exact (hu.mono (by omega)).snoc (fun g e => by injection e with e; subst e; show gx < _; omega)
    · exact (((hB1.trans (HBX.out.mono hB1.size)).grown HG3.out (by omega) (fun g e => by have := hlt g e; omega))).setCell (p := ⟨w.heap.size, 0, none⟩) (Nat.le_refl _) _
  case hdone =>
    rintro m W' hm ⟨v, vs, hbx, hr, ha, hu, hb⟩ hD
    have q0 := cell_of hbx 0
    simp only [List.getElem?_toArray, List.getElem?_cons_zero] at q0
    have hdl := heap_lt hD
    gi_wp2
    refine ⟨by simp, .inl ⟨_, _, rfl, run_takeDeferred hD, ?_⟩⟩
    have hon := only_putObj (B := V.heap.size) (m := V.heap.size + 1) (Only.refl _ W') ⟨Nat.le_refl _, by omega⟩ (.deferred none)
    exact ⟨v, by simp [results, Try.results102, go_sem], v, vs, rfl, ((hr.keep hon.size (fun b h1 h2 => hon.block b h2 (fun hs => by have := hs.2; omega))).base (by omega)), ha, hb.trans (hon.below hb.size (fun k hk => by have := hk.1; omega))⟩
  case hstop => rintro m cc pre W' hm hpre h hD; exact h.elim

theorem collect_any (N Pb : Nat) (A : Option Addr) (n c : Nat) (cs : List Clu) (lo hi : Nat) (w : World) (hN : N = 2 ∨ N = 3 ∨ N = 4) (hP : w.heap[Pb]? = some (.cells #[.int .i64 (N : Int), .slice A n c] 35 (0, 0))) (hn : cs.length = n) (hlen : n ≤ 1048576) (hcl : ∀ c ∈ cs, clueB (N : Int) c = true) (hs : Seg w lo hi A (flat4 cs)) (hB : hi ≤ w.heap.size) :
    Calls Try.prog 74 #[.func (.func 103) #[] #[.pointer (some ⟨Pb, 0, none⟩)]] w fun e w' => ∃ v vs, e = .returned v ∧ Rws w' w.heap.size v (solF toldV N cs) vs ∧ AscV vs ∧ Below w.heap.size w w' := by
  go_enter Try.func74, Try.ntmps74
  go_wp2_with fail
  refine (appendSeq_any N Pb A n c cs lo hi _ hN hP hn hlen hcl hs hB).mono ?_
  rintro e w1 ⟨v, vs, rfl, hr, ha, hb⟩
  obtain ⟨A', c', rfl⟩ := hr.form
  have HR := Lib.hid hr
  clear hr
  go_wp2
  go_ret
  exact ⟨_, vs, rfl, HR.out, ha, hb⟩

set_option maxRecDepth 100000 in
set_option maxHeartbeats 4000000 in
theorem impl_Solutions (t : Int) (A : Option Addr) (n c : Nat) (cs : List Clu) (lo hi : Nat) (w : World) (hn : cs.length = n) (hlen : n ≤ 1048576) (hnc : n ≤ c) (hs : Seg w lo hi A (flat4 cs)) (hB : hi ≤ w.heap.size) (q : Bool) (hq : puzB t cs = q) :
    Calls Try.prog 31 #[pzV t A n c] w (RetSS q (someSS q (solF toldV t.toNat cs)) w) := by
  obtain ⟨W, hW⟩ : ∃ W, w.alloc (.cells #[.int .i64 t, .slice A n c] 35) = W := ⟨_, rfl⟩
  have z0 : Below w.heap.size w W := by rw [← hW]; exact (Below.refl _ _).alloc (Nat.le_refl _) _
  have p0 : W.heap[w.heap.size]? = some (.cells #[.int .i64 t, .slice A n c] 35 (0, 0)) := by rw [← hW]; exact new_at _ _ rfl
  have hsz := heap_lt p0
  have sW := hs.below z0 hB
  have HW := Lib.hid hW
  have HN := Lib.hid hn
  have HQ := Lib.hid hq
  clear hW hn hq
  have q0 := cell_of p0 0
  have q1 := cell_of p0 1
  simp only [List.getElem?_toArray, List.getElem?_cons_zero, List.getElem?_cons_succ] at q0 q1
  go_enter Try.func31, Try.ntmps31
  go_wp2_with fail
  rw [HW.out]
  refine (impl_IsPuzzleQ t A n c cs lo hi _ HN.out hlen sW (by omega) q HQ.out).mono ?_
  rintro e v1 ⟨rfl, hb1⟩
  have hz1 := hb1.size
  have y1 := z0.trans (hb1.mono (by omega))
  have p1 := (hb1.block _ hsz).trans p0
  have s1 := sW.below hb1 (by omega)
  clear q0 q1
  have q0 := cell_of p1 0
  have q1 := cell_of p1 1
  simp only [List.getElem?_toArray, List.getElem?_cons_zero, List.getElem?_cons_succ] at q0 q1
  cases q
  · go_wp2
    go_ret2
    exact ⟨none, 0, 0, rfl, rfl, .inl rfl, y1⟩
  · obtain ⟨⟨t1, t2⟩, h6, hcl⟩ := puzB_true.1 HQ.out
    obtain ⟨N, rfl⟩ : ∃ N : Nat, t = (N : Int) := ⟨t.toNat, by omega⟩
    have hN : N = 2 ∨ N = 3 ∨ N = 4 := by omega
    have hn6 : n ≤ 6 := by have := HN.out; omega
    have hv1 : w.heap.size < v1.heap.size := by omega
    go_wp2_with fail
    refine (solutions_any (N : Int) A n c _).mono ?_
    rintro e V ⟨rfl, hV⟩
    have hVb : Below v1.heap.size v1 V := by rw [hV]; exact (Below.refl _ _).alloc (Nat.le_refl _) _
    have hVp : V.heap[v1.heap.size]? = some (.cells #[.int .i64 (N : Int), .slice A n c] 35 (0, 0)) := by rw [hV]; exact new_at _ _ rfl
    have hzV := hVb.size
    clear hV q0 q1
    go_wp2_with fail
    refine (collect_any N v1.heap.size A n c cs lo hi V hN hVp HN.out hlen hcl (s1.below hVb (by omega)) (by omega)).mono ?_
    rintro e u1 ⟨v, vs, rfl, hr, ha, hbu⟩
    obtain ⟨A', c', rfl⟩ := hr.form
    have hne := rws_nest hr ha
    have yu := y1.trans ((hVb.trans (hbu.mono hzV)).mono y1.size)
    clear hr ha
    go_wp2
    go_ret2
    exact ⟨A', _, c', rfl, rfl, hne.more (by omega) (Nat.le_refl _), yu⟩
end Go.Proofs.Ytoheoojpmndhoaa
