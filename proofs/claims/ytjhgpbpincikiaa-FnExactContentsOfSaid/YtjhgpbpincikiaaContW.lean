/-
  The written program's way inward through the map.
  Conditions: a nesting.
-/
import Derived.Test.YtjhgpbpincikiaaContI
import Derived.WalkMore
import Derived.ScopeJumps
namespace Go.Proofs.Ytjhgpbpincikiaa
set_option linter.unusedVariables false
open Go.RowKit Go.Maps

/-- The map holds the first boxes that are put into others, but not those that have been told. -/
structure InD (plan out : List Int) (k : Nat) (D : DataW Unit) : Prop where
  map : IsMap D
  only : ∀ (x : Int), Maps.has D (.int .i64 x) = true → ∃ (j : Nat) (u : Int), x = (j : Int) ∧ j < k ∧ plan[j]? = some u ∧ u ≠ -1 ∧ x ∉ out ∧ ∀ zd, D.atKey (.int .i64 x) zd = .lit (.int .i64 u)
  hit : ∀ (j : Nat) (u : Int), j < k → plan[j]? = some u → u ≠ -1 → (j : Int) ∉ out → Maps.has D (.int .i64 (j : Int)) = true
theorem key_ne {x y : Int} (h : x ≠ y) : (Lit.int .i64 x) ≠ (Lit.int .i64 y) := fun e => by injection e with _ e; exact h e
theorem insD_in (plan : List Int) : ∀ k, k ≤ plan.length → InD plan [] k (insD plan k) := by
  intro k
  induction k with
  | zero => intro _; exact ⟨isMap_empty, fun x h => by simp [insD, Maps.has] at h, fun j u h => absurd h (Nat.not_lt_zero _)⟩
  | succ k ih =>
    intro hk
    have hi := ih (by omega)
    obtain ⟨u, hu⟩ : ∃ u, plan[k]? = some u := ⟨_, List.getElem?_eq_getElem (by omega)⟩
    by_cases h1 : u = -1
    · subst h1
      rw [insD_no hu]
      refine ⟨hi.map, fun x h => ?_, fun j v hj hv hne hout => ?_⟩
      · obtain ⟨j, v, e1, e2, e3⟩ := hi.only x h
        exact ⟨j, v, e1, by omega, e3⟩
      · by_cases e : j = k
        · subst e
          rw [hu] at hv
          injection hv with hv
          exact absurd hv.symm hne
        · exact hi.hit j v (by omega) hv hne hout
    · rw [insD_yes hu h1]
      refine ⟨hi.map.put _ _, fun x h => ?_, fun j v hj hv hne hout => ?_⟩
      · by_cases e : x = (k : Int)
        · subst e
          exact ⟨k, u, rfl, by omega, hu, h1, by simp, fun zd => atKey_put_same hi.map (show WideAt.IsKeyLit (.int .i64 (k : Int)) from trivial) _ _⟩
        · rw [has_put_other (key_ne e)] at h
          obtain ⟨j, v, e1, e2, e3, e4, e5, e6⟩ := hi.only x h
          exact ⟨j, v, e1, by omega, e3, e4, e5, fun zd => by rw [atKey_put_other (key_ne e)]; exact e6 zd⟩
      · by_cases e : j = k
        · subst e
          exact has_put_same hi.map (show WideAt.IsKeyLit (.int .i64 (j : Int)) from trivial) _
        · rw [has_put_other (key_ne (by omega))]
          exact hi.hit j v (by omega) hv hne hout
theorem InD.del {plan out : List Int} {k : Nat} {D : DataW Unit} (h : InD plan out k D) (x : Int) : InD plan (out ++ [x]) k (D.del (.int .i64 x)) := by
  refine ⟨h.map.del _, fun y hy => ?_, fun j v hj hv hne hout => ?_⟩
  · by_cases e : y = x
    · subst e
      rw [has_del_same] at hy
      cases hy
    · rw [has_del_other (key_ne e)] at hy
      obtain ⟨j, v, e1, e2, e3, e4, e5, e6⟩ := h.only y hy
      exact ⟨j, v, e1, e2, e3, e4, by simp [e5, e], fun zd => by rw [atKey_del_other (key_ne e)]; exact e6 zd⟩
  · have h1 : (j : Int) ∉ out ∧ (j : Int) ≠ x := by simpa using hout
    rw [has_del_other (key_ne h1.2)]
    exact h.hit j v hj hv hne h1.1

theorem nest_less {bs : List (Int × Int × Int)} {plan : List Int} (h : bothN bs plan = true) {i j : Nat} {u : Int} (hi : plan[i]? = some u) (hj : plan[j]? = some u) (hu : u ≠ -1) : ¬ i < j := by
  intro hlt
  rcases free_bd (nest_at h hj) with h1 | ⟨_, _, h3, _⟩
  · exact hu h1
  · exact h3 (List.mem_of_getElem? (i := i) (by rw [List.getElem?_take_of_lt hlt]; exact hi))
theorem nest_one {bs : List (Int × Int × Int)} {plan : List Int} (h : bothN bs plan = true) {i j : Nat} {u : Int} (hi : plan[i]? = some u) (hj : plan[j]? = some u) (hu : u ≠ -1) : i = j := by
  have h1 := nest_less h hi hj hu
  have h2 := nest_less h hj hi hu
  omega
theorem idx_at {bs : List (Int × Int × Int)} {plan : List Int} (h : bothN bs plan = true) {j : Nat} {u : Int} (hj : plan[j]? = some u) (hu : u ≠ -1) : plan.idxOf u = j := by
  have hm := List.mem_of_getElem? hj
  have hi := List.idxOf_lt_length_of_mem hm
  exact nest_one h (by rw [List.getElem?_eq_getElem hi, List.getElem_idxOf]) hj hu

/-- What is known at the label: what has been told, and in what the next box is looked for. -/
structure InSt (bs : List (Int × Int × Int)) (plan tot : List Int) (b n0 : Nat) (w wr : World) (v : Value) (cur : Int) (out : List Int) (f : Nat) (D : DataW Unit) : Prop where
  way : InWay bs plan tot out f cur
  ins : InD plan out plan.length D
  big : ∀ y ∈ out, sizeU bs cur ≤ sizeU bs y
  own : wr.ownsMap Try.prog 3 (plainElem Try.prog 3) b n0 D
  row : wr.ownsRow w.heap.size 3 1 v out.length (out.map (Value.int .i64))
  below : Below b w wr

theorem InSt.start {bs : List (Int × Int × Int)} {plan tot : List Int} {b n0 : Nat} {w : World} {k0 : Int} {D : DataW Unit} (h1 : InWay bs plan tot [] 51 k0) (h2 : InD plan [] plan.length D) (h3 : w.ownsMap Try.prog 3 (plainElem Try.prog 3) b n0 D) : InSt bs plan tot b n0 w w (.slice none 0 0) k0 [] 51 D :=
  ⟨h1, h2, fun y hy => by (cases hy), h3, World.ownsRow_nil _ _ _ _, Below.refl _ _⟩

set_option maxRecDepth 100000 in
set_option maxHeartbeats 2000000 in
theorem inward_any (bs : List (Int × Int × Int)) (plan tot : List Int) (b n0 : Nat) (k0 : Int) (D0 : DataW Unit) (w : World) (hq : bothN bs plan = true) (htl : tot.length ≤ 51) (hn0 : n0 ≤ 1048576) (hbw : b < w.heap.size)
    (h1 : InWay bs plan tot [] 51 k0) (h2 : InD plan [] plan.length D0) (h3 : w.ownsMap Try.prog 3 (plainElem Try.prog 3) b n0 D0) :
    Calls Try.prog 57 #[.map (some b), .int .i64 k0] w fun e w' => ∃ A n c, e = .returned (.slice A n c) ∧ tot.length = n ∧ Own w' w.heap.size w'.heap.size A tot ∧ Below b w w' := by
  obtain ⟨i0, hi0, hz0, hz1, hz2⟩ := info_parts int_info
  have HQ := Lib.hid hq
  have HST := Lib.hid (InSt.start (w := w) h1 h2 h3)
  clear hq h1 h2 h3
  go_enter Try.func57, Try.ntmps57
  go_wp2
  refine wp_scope_jumps 0 (fun a' w' => ∃ (v : Value) (cur : Int) (out : List Int) (f : Nat) (D : DataW Unit), InSt bs plan tot b n0 w w' v cur out f D ∧ ∃ u7 u8 u9 u10 u11 u12 u13 u14 u15 u16 u17 u18 u19 u20 u21 u22 u23 u24 u25 u26 u27 : Value, a' = { tmps := #[.map (some b), .int .i64 k0, undef, undef, .slice none 0 0, v, .int .i64 cur, u7, u8, u9, u10, u11, u12, u13, u14, u15, u16, u17, u18, u19, u20, u21, u22, u23, u24, u25, u26, u27], defers := [] }) (fun a' _ => sizeU bs (intOf (a'.tmps.getD 6 undef))) rfl ?_ ?_
  · go_wp2
    go_step3
    have HS := HST
    have hown := HS.out.own
    have hrow := HS.out.row
    have hbl := HS.out.below
    have hob : ([] : List Int).length ≤ 51 := Nat.le_trans (in_len HS.out.way) htl
    have hsz := hbl.size
    go_wp2_with (first
      | (at_range; refine wpList_range_own _ rfl _ 68 rfl 3 3 keyI Try.underlying68 _ b n0 _ rfl hown ?_; intro w0 hrg0 hg0 hs0)
      | go_in)
    go_frame
    go_loopw [5, 6, 7] (fun s5 s6 _ wr => Value.slice none 0 0 = s5 ∧ Value.int .i64 k0 = s6 ∧ ∃ (left : Lit → Bool) (cnt : Nat), wr.ranges Try.prog 3 (plainElem Try.prog 3) b w.heap.size n0 D0 left cnt ∧ w.grownBy wr (some b) ∧ (∀ x : Int, Maps.has D0 (.int .i64 x) = true → left (.int .i64 x) = true ∨ ∀ u, plan[x.toNat]? = some u → u ≠ k0))
      (fun _ _ _ wr => wr.rangeLeft b w.heap.size)
    case atStart => exact ⟨rfl, rfl, _, _, hrg0, hg0.but _, fun x hx => .inl hx⟩
    case round =>
      obtain ⟨rfl, rfl, left, cnt, hrg, hgw, hlf⟩ := hrel
      have HLF := Lib.hid hlf
      clear hlf
      go_wp2_with (first
        | (at_next; refine wpList_next_ranges_ii _ rfl _ rfl 3 3 .i64 .i64 keyI Try.underlying3 Try.underlying3 b w.heap.size n0 _ _ _ rfl hrg ?_ ?_)
        | go_in)
      · intro _ hl0
        have hout : ([] : List Int) = tot := in_end HS.out.way (fun hin => by
          obtain ⟨j, hj⟩ := List.getElem?_of_mem hin
          obtain ⟨⟨j0, hj0, _⟩, _⟩ := HS.out.way
          have hne : k0 ≠ -1 := by omega
          have hup := sizeU_up HQ.out hj
          have hno : (j : Int) ∉ ([] : List Int) := fun h => by have := HS.out.big _ h; omega
          have hh := HS.out.ins.hit j k0 (List.getElem?_eq_some_iff.1 hj).1 hj hne hno
          rcases HLF.out _ hh with h | h
          · rw [hl0] at h; cases h
          · exact h k0 (by simpa using hj) rfl)
        have HRW := Lib.hid (hrow.kept hgw (by
          by_cases e : (Value.slice none 0 0).ownBlock = none
          · exact .inl e
          · exact .inr fun e' => by have := (hrow.lt b e').1; omega))
        have HBF := Lib.hid (hbl.grown hgw (by omega) (fun j hj => by cases hj; exact Nat.le_refl _))
        have HOUT := Lib.hid hout
        clear hl0 hout hrg hgw hown hrow hbl
        go_wp2
        simp only [Exit.jump]
        obtain ⟨A', c', e'⟩ := ownsRow_form HRW.out
        have HRO := Lib.hid HRW.out
        rw [e'] at HRO
        rw [e']
        go_ret
        exact ⟨A', ([] : List Int).length, c', rfl, by rw [HOUT.out], by rw [← HOUT.out]; exact (ownsRow_own HRO.out).2, HBF.out⟩
      · intro x c w1 cnt1 hwx hwc hlx hat hrg1 hlt hg1 hs1 hen
        have hgw1 := hgw.andThen hg1 (fun j hj => by cases hj; exact Or.inl (Nat.le_refl _))
        obtain ⟨j, u, hxj, hjl, hpj, hune, hxo, hatu⟩ := HS.out.ins.only x (has_true_of_atKey hat)
        subst hxj
        have hcu : c = u := by
          have h := (hat (.lit (.int .i64 0))).symm.trans (hatu _)
          injection h with h
          injection h with _ h
        subst hcu
        have HPJ := Lib.hid hpj
        have hs1' : w.heap.size < w1.heap.size := by have := hrg1.lt; omega
        clear hs1
        by_cases hcc : c = k0
        · have hce : (c == k0) = true := by rw [beq_iff_eq]; exact hcc
          have hidx := idx_at HQ.out hpj hune
          obtain ⟨f', hf', hway', hlt2, hge⟩ := in_step HQ.out HS.out.way (show k0 ∈ plan from hcc ▸ List.mem_of_getElem? hpj)
          rw [← hcc, hidx] at hway' hlt2 hge
          rw [hcc] at hlt2
          have HWAY := Lib.hid hway'
          have HLT2 := Lib.hid hlt2
          have HHB := Lib.hid hgw1
          have hrw1 := hrow.kept hgw1 (by
            by_cases e : (Value.slice none 0 0).ownBlock = none
            · exact .inl e
            · exact .inr fun e' => by have := (hrow.lt b e').1; omega)
          have HLB := Lib.hid hrow.lt
          have HB1 := Lib.hid (hbl.grown hgw1 (by omega) (fun j hj => by cases hj; exact Nat.le_refl _))
          have HRG1 := Lib.hid hrg1
          have HKW := Lib.hid hwx
          clear hat hatu hidx hway' hlt2 hge hrg hgw hgw1 hg1 hpj hown hbl hlx hrow hxo hrg1 hwx hwc
          go_wp2_with (first
            | (at_builtin; refine wpList_append_own _ rfl _ _ 30 rfl w.heap.size 3 i0 (.int .i64 0) 1 8 Try.underlying30 hi0 hz0 hz1 hz2 rfl (by decide) _ _ _ rfl (hrw1.alloc _) ⟨w1.heap.size, 0, none⟩ 1 1 [.int .i64 (j : Int)] rfl rfl (one_new _ _ _) (by intro u hu; simp at hu; subst hu; rfl) (by unfold maxLen; omega) (by omega) (by simp; omega) ?_; intro v' w3 hown' hgrow3 _; have HRG3 := Lib.hid ((HRG1.out.alloc _).kept hgrow3 (fun e => by have := (HLB.out b e.symm).1; omega) (fun e => by have := (HLB.out _ e.symm).2; omega)); have HB3 := Lib.hid ((HB1.out.alloc (by omega) _).grown hgrow3 (by simp; omega) (fun g hg => by have := (HLB.out g hg).1; omega)); have HOW3 := Lib.hid (show w3.ownsRow w.heap.size 3 1 v' (([] : List Int) ++ [(j : Int)]).length ((([] : List Int) ++ [(j : Int)]).map (Value.int .i64)) by simpa using hown'); have hz3 := hgrow3.size; clear hown' hgrow3 hrw1)
            | (at_delete; refine wpList_delete_own _ rfl _ _ 68 3 rfl 3 keyI Try.underlying68 _ b n0 _ rfl HRG3.out.owns _ _ rfl (keyOf_int_mk Try.underlying3 HKW.out) ?_; intro w4 hown4 hturn4)
            | go_in)
          have hst4 : InSt bs plan tot b n0 w w4 v' (j : Int) (([] : List Int) ++ [(j : Int)]) f' ((D0).del (.int .i64 (j : Int))) := ⟨HWAY.out, HS.out.ins.del _, fun y hy => by
            have h2 := HLT2.out
            rcases List.mem_append.1 hy with h | h
            · have := HS.out.big y h; omega
            · rw [List.mem_singleton.1 h]; exact Nat.le_refl _, hown4, HOW3.out.kept hturn4.grown (by
            by_cases e : v'.ownBlock = none
            · exact .inl e
            · exact .inr fun e' => by have := (HOW3.out.lt b e').1; omega), HB3.out.grown hturn4.grown (by have := HB3.out.size; omega) (fun j hj => by cases hj; exact Nat.le_refl _)⟩
          have HST4 := Lib.hid hst4
          clear hst4 hown4 hturn4
          go_step3
          exact ⟨rfl, v', (j : Int), _, f', _, HST4.out, _, _, _, _, _, _, _, _, _, _, _, _, _, _, _, _, _, _, _, _, _, rfl⟩
        · have hce : (c == k0) = false := by rw [beq_eq_false_iff_ne]; exact hcc
          go_wp2
          go_roundw
          case rel =>
            refine ⟨rfl, rfl, _, cnt1, hrg1, hgw1, fun y hy => ?_⟩
            rcases HLF.out y hy with h | h
            · by_cases e : y = (j : Int)
              · subst e
                refine .inr fun v hv => ?_
                have e2 : ((j : Int).toNat) = j := by omega
                rw [e2, HPJ.out] at hv
                injection hv with hv
                rw [← hv]
                exact hcc
              · exact .inl (by rw [h, sameKey_ne (key_ne e)]; rfl)
            · exact .inr h
          case measure => rw [hrg1.left_eq, hrg.left_eq]; exact hlt
  · rintro a' wS ⟨v, cur, out, f, D, hst, u7, u8, u9, u10, u11, u12, u13, u14, u15, u16, u17, u18, u19, u20, u21, u22, u23, u24, u25, u26, u27, rfl⟩
    have HS := Lib.hid hst
    clear hst
    have hown := HS.out.own
    have hrow := HS.out.row
    have hbl := HS.out.below
    have hob : (out).length ≤ 51 := Nat.le_trans (in_len HS.out.way) htl
    have hsz := hbl.size
    go_wp2_with (first
      | (at_range; refine wpList_range_own _ rfl _ 68 rfl 3 3 keyI Try.underlying68 _ b n0 _ rfl hown ?_; intro w0 hrg0 hg0 hs0)
      | go_in)
    go_frame
    go_loopw [5, 6, 7] (fun s5 s6 _ wr => v = s5 ∧ Value.int .i64 cur = s6 ∧ ∃ (left : Lit → Bool) (cnt : Nat), wr.ranges Try.prog 3 (plainElem Try.prog 3) b wS.heap.size n0 D left cnt ∧ wS.grownBy wr (some b) ∧ (∀ x : Int, Maps.has D (.int .i64 x) = true → left (.int .i64 x) = true ∨ ∀ u, plan[x.toNat]? = some u → u ≠ cur))
      (fun _ _ _ wr => wr.rangeLeft b wS.heap.size)
    case atStart => exact ⟨rfl, rfl, _, _, hrg0, hg0.but _, fun x hx => .inl hx⟩
    case round =>
      obtain ⟨rfl, rfl, left, cnt, hrg, hgw, hlf⟩ := hrel
      have HLF := Lib.hid hlf
      clear hlf
      go_wp2_with (first
        | (at_next; refine wpList_next_ranges_ii _ rfl _ rfl 3 3 .i64 .i64 keyI Try.underlying3 Try.underlying3 b wS.heap.size n0 _ _ _ rfl hrg ?_ ?_)
        | go_in)
      · intro _ hl0
        have hout : (out) = tot := in_end HS.out.way (fun hin => by
          obtain ⟨j, hj⟩ := List.getElem?_of_mem hin
          obtain ⟨⟨j0, hj0, _⟩, _⟩ := HS.out.way
          have hne : cur ≠ -1 := by omega
          have hup := sizeU_up HQ.out hj
          have hno : (j : Int) ∉ (out) := fun h => by have := HS.out.big _ h; omega
          have hh := HS.out.ins.hit j cur (List.getElem?_eq_some_iff.1 hj).1 hj hne hno
          rcases HLF.out _ hh with h | h
          · rw [hl0] at h; cases h
          · exact h cur (by simpa using hj) rfl)
        have HRW := Lib.hid (hrow.kept hgw (by
          by_cases e : (v).ownBlock = none
          · exact .inl e
          · exact .inr fun e' => by have := (hrow.lt b e').1; omega))
        have HBF := Lib.hid (hbl.grown hgw (by omega) (fun j hj => by cases hj; exact Nat.le_refl _))
        have HOUT := Lib.hid hout
        clear hl0 hout hrg hgw hown hrow hbl
        go_wp2
        simp only [Exit.jump]
        obtain ⟨A', c', e'⟩ := ownsRow_form HRW.out
        have HRO := Lib.hid HRW.out
        rw [e'] at HRO
        rw [e']
        go_ret
        exact ⟨A', (out).length, c', rfl, by rw [HOUT.out], by rw [← HOUT.out]; exact (ownsRow_own HRO.out).2, HBF.out⟩
      · intro x c w1 cnt1 hwx hwc hlx hat hrg1 hlt hg1 hs1 hen
        have hgw1 := hgw.andThen hg1 (fun j hj => by cases hj; exact Or.inl (Nat.le_refl _))
        obtain ⟨j, u, hxj, hjl, hpj, hune, hxo, hatu⟩ := HS.out.ins.only x (has_true_of_atKey hat)
        subst hxj
        have hcu : c = u := by
          have h := (hat (.lit (.int .i64 0))).symm.trans (hatu _)
          injection h with h
          injection h with _ h
        subst hcu
        have HPJ := Lib.hid hpj
        have hs1' : wS.heap.size < w1.heap.size := by have := hrg1.lt; omega
        clear hs1
        by_cases hcc : c = cur
        · have hce : (c == cur) = true := by rw [beq_iff_eq]; exact hcc
          have hidx := idx_at HQ.out hpj hune
          obtain ⟨f', hf', hway', hlt2, hge⟩ := in_step HQ.out HS.out.way (show cur ∈ plan from hcc ▸ List.mem_of_getElem? hpj)
          rw [← hcc, hidx] at hway' hlt2 hge
          rw [hcc] at hlt2
          have HWAY := Lib.hid hway'
          have HLT2 := Lib.hid hlt2
          have HHB := Lib.hid hgw1
          have hrw1 := hrow.kept hgw1 (by
            by_cases e : (v).ownBlock = none
            · exact .inl e
            · exact .inr fun e' => by have := (hrow.lt b e').1; omega)
          have HLB := Lib.hid hrow.lt
          have HB1 := Lib.hid (hbl.grown hgw1 (by omega) (fun j hj => by cases hj; exact Nat.le_refl _))
          have HRG1 := Lib.hid hrg1
          have HKW := Lib.hid hwx
          clear hat hatu hidx hway' hlt2 hge hrg hgw hgw1 hg1 hpj hown hbl hlx hrow hxo hrg1 hwx hwc
          go_wp2_with (first
            | (at_builtin; refine wpList_append_own _ rfl _ _ 30 rfl w.heap.size 3 i0 (.int .i64 0) 1 8 Try.underlying30 hi0 hz0 hz1 hz2 rfl (by decide) _ _ _ rfl (hrw1.alloc _) ⟨w1.heap.size, 0, none⟩ 1 1 [.int .i64 (j : Int)] rfl rfl (one_new _ _ _) (by intro u hu; simp at hu; subst hu; rfl) (by unfold maxLen; omega) (by omega) (by simp; omega) ?_; intro v' w3 hown' hgrow3 _; have HRG3 := Lib.hid ((HRG1.out.alloc _).kept hgrow3 (fun e => by have := (HLB.out b e.symm).1; omega) (fun e => by have := (HLB.out _ e.symm).2; omega)); have HB3 := Lib.hid ((HB1.out.alloc (by omega) _).grown hgrow3 (by simp; omega) (fun g hg => by have := (HLB.out g hg).1; omega)); have HOW3 := Lib.hid (show w3.ownsRow w.heap.size 3 1 v' ((out) ++ [(j : Int)]).length (((out) ++ [(j : Int)]).map (Value.int .i64)) by simpa using hown'); have hz3 := hgrow3.size; clear hown' hgrow3 hrw1)
            | (at_delete; refine wpList_delete_own _ rfl _ _ 68 3 rfl 3 keyI Try.underlying68 _ b n0 _ rfl HRG3.out.owns _ _ rfl (keyOf_int_mk Try.underlying3 HKW.out) ?_; intro w4 hown4 hturn4)
            | go_in)
          have hst4 : InSt bs plan tot b n0 w w4 v' (j : Int) ((out) ++ [(j : Int)]) f' ((D).del (.int .i64 (j : Int))) := ⟨HWAY.out, HS.out.ins.del _, fun y hy => by
            have h2 := HLT2.out
            rcases List.mem_append.1 hy with h | h
            · have := HS.out.big y h; omega
            · rw [List.mem_singleton.1 h]; exact Nat.le_refl _, hown4, HOW3.out.kept hturn4.grown (by
            by_cases e : v'.ownBlock = none
            · exact .inl e
            · exact .inr fun e' => by have := (HOW3.out.lt b e').1; omega), HB3.out.grown hturn4.grown (by have := HB3.out.size; omega) (fun j hj => by cases hj; exact Nat.le_refl _)⟩
          have HST4 := Lib.hid hst4
          clear hst4 hown4 hturn4
          go_step3
          exact ⟨rfl, ⟨v', (j : Int), _, f', _, HST4.out, _, _, _, _, _, _, _, _, _, _, _, _, _, _, _, _, _, _, _, _, _, rfl⟩, by simpa [intOf] using HLT2.out⟩
        · have hce : (c == cur) = false := by rw [beq_eq_false_iff_ne]; exact hcc
          go_wp2
          go_roundw
          case rel =>
            refine ⟨rfl, rfl, _, cnt1, hrg1, hgw1, fun y hy => ?_⟩
            rcases HLF.out y hy with h | h
            · by_cases e : y = (j : Int)
              · subst e
                refine .inr fun v hv => ?_
                have e2 : ((j : Int).toNat) = j := by omega
                rw [e2, HPJ.out] at hv
                injection hv with hv
                rw [← hv]
                exact hcc
              · exact .inl (by rw [h, sameKey_ne (key_ne e)]; rfl)
            · exact .inr h
          case measure => rw [hrg1.left_eq, hrg.left_eq]; exact hlt
end Go.Proofs.Ytjhgpbpincikiaa
