/-
  The written program's worst and best orders.
  Conditions: none.
-/
import Derived.Test.YtgcljhgpihpfgacOrdI
import Derived.Test.YtgcljhgpihpfgacShelfSort
import Derived.Test.YtgcljhgpihpfgacByRuleF
import Derived.Test.YtgcljhgpihpfgacCloneI
import Derived.Lib.OwnBridge
namespace Go.Proofs.Ytgcljhgpihpfgac
set_option linter.unusedVariables false
open Go.RowKit Go.Sort

theorem pivR_perm {v : Int} {t l' : List Int} (h : pivR v t = some l') : l'.Perm (v :: t) := by
  unfold pivR at h
  cases e : t.reverse.dropWhile (fun y => decide (y ≤ v)) with
  | nil => rw [e] at h; cases h
  | cons x A =>
    rw [e] at h
    injection h with h
    subst h
    have hs : t.reverse = t.reverse.takeWhile (fun y => decide (y ≤ v)) ++ x :: A := by rw [← e, List.takeWhile_append_dropWhile]
    have h1 : t.Perm (x :: (t.reverse.takeWhile (fun y => decide (y ≤ v)) ++ A)) := (List.reverse_perm t).symm.trans (by
      conv => lhs; rw [hs]
      exact List.perm_middle)
    exact ((List.perm_middle (a := v)).cons x).trans ((List.Perm.swap v x _).trans (h1.symm.cons v))
theorem nextR_perm : ∀ {l l' : List Int}, nextR l = some l' → l'.Perm l
  | [], _, h => by cases h
  | v :: t, l', h => by
    rw [nextR] at h
    cases e : nextR t with
    | none => rw [e] at h; exact pivR_perm h
    | some t' =>
      rw [e] at h
      injection h with h
      subst h
      exact (nextR_perm e).cons v

/-- How many boxes an order needs. -/
def boxN (room : Int) (l : List Int) : Int := ((run 102 room l ([], [])).1.length : Int)
def stepE (bt : Int → Int → Bool) (room : Int) (s : List Int × Int) (l : List Int) : List Int × Int := if s.1.isEmpty || bt (boxN room l) s.2 then (l, boxN room l) else s
def exE (bt : Int → Int → Bool) (room : Int) (ls : List (List Int)) : List Int × Int := ls.foldl (stepE bt room) ([], 0)
theorem exE_snoc (bt : Int → Int → Bool) (room : Int) (ls : List (List Int)) (l : List Int) : exE bt room (ls ++ [l]) = stepE bt room (exE bt room ls) l := by simp [exE]

/-- The best order so far lies in a block of its own. -/
def BestW (w : World) (G : Nat) (v : Value) (ys : List Int) : Prop :=
  (v = .slice none 0 0 ∧ ys = []) ∨ ∃ gb cb, v = .slice (some ⟨gb, 0, none⟩) ys.length cb ∧ G < gb ∧ ys.isEmpty = false ∧ Row w gb 3 cb ys

theorem BestW.keep {w w' : World} {G : Nat} {v : Value} {ys : List Int} (h : BestW w G v ys) (hb : Below w.heap.size w w') : BestW w' G v ys := by
  rcases h with h | ⟨gb, cb, e, h1, h2, h3⟩
  · exact .inl h
  · exact .inr ⟨gb, cb, e, h1, h2, h3.keep (hb.block gb h3.lt)⟩
theorem BestW.only {w w' : World} {G : Nat} {v : Value} {ys : List Int} (h : BestW w G v ys) (ho : Only (fun b => b = G) w w') : BestW w' G v ys := by
  rcases h with h | ⟨gb, cb, e, h1, h2, h3⟩
  · exact .inl h
  · exact .inr ⟨gb, cb, e, h1, h2, h3.keep (ho.block gb h3.lt (by omega))⟩
theorem BestW.low {w : World} {G G' : Nat} {v : Value} {ys : List Int} (h : BestW w G v ys) (hg : G' ≤ G) : BestW w G' v ys := by
  rcases h with h | ⟨gb, cb, e, h1, h2, h3⟩
  · exact .inl h
  · exact .inr ⟨gb, cb, e, by omega, h2, h3⟩
theorem below_only {w W W' : World} {g : Nat} (h : Below w.heap.size w W) (ho : Only (fun b => b = g) W W') (hg : w.heap.size ≤ g) : Below w.heap.size w W' :=
  h.trans (ho.below h.size (fun k hk => by omega))

theorem own_row {w : World} {base n : Nat} {v : Value} {xs : List Int} (h : w.ownsRow base 3 1 v n (xs.map (Value.int .i64))) (hn : 1 ≤ n) :
    ∃ g cap, v = .slice (some ⟨g, 0, none⟩) n cap ∧ base ≤ g ∧ n ≤ cap ∧ cap ≤ maxLen ∧ xs.length = n ∧ Row w g 3 cap xs := by
  have hl : xs.length = n := by simpa using h.1
  rcases h.2 with ⟨_, e⟩ | ⟨g, cap, cur, rfl, hb, hg, hnc, hm, hs, ht⟩
  · omega
  · refine ⟨g, cap, rfl, hb, hnc, hm, hl, cur, hg, by omega, fun j u hu => ?_⟩
    have hj := (List.getElem?_eq_some_iff.1 hu).1
    have h1 : (cur.toList.take (n * 1))[j]? = some (.int .i64 u) := by rw [ht, List.getElem?_map, hu]; rfl
    rw [List.getElem?_take, if_pos (by omega), Array.getElem?_toList] at h1
    exact h1

theorem sortRow_any (g T N n c : Nat) (xs : List Int) (w : World) (hn : xs.length = n) (hlen : n ≤ 100) (h : Row w g T N xs) :
    Calls Try.prog 48 #[.slice (some ⟨g, 0, none⟩) n c] w fun e w' => e = .returned (.tuple #[]) ∧ Row w' g T N (srt xs) ∧ Only (fun b => b = g) w w' := by
  have hH := h.holds 0
  rw [List.drop_zero] at hH
  have h2 := Any.slices_Sort_int laysSort g 0 c xs w hH h.lt (by omega)
  rw [hn] at h2
  refine Calls.mono (show Calls Try.prog 48 #[.slice (some ⟨g, 0, none⟩) n c] w _ from h2) ?_
  rintro e w' ⟨rfl, q, os, rfl⟩
  have hp := h.put 0 (srt xs) (by rw [(srt_perm xs).length_eq]; omega) q
  have ho := only_put w g 0 q (srt xs).toArray
  rw [List.take_zero, List.nil_append] at hp
  have hk : ∀ k, k < w.heap.size → (grow (putRow (Value.int .i64) (Sort.ahead w q) g 0 (srt xs).toArray) os).heap[k]? = (putRow (Value.int .i64) (Sort.ahead w q) g 0 (srt xs).toArray).heap[k]? := fun k hk => by
    show ((putRow (Value.int .i64) (Sort.ahead w q) g 0 (srt xs).toArray).heap ++ os)[k]? = _
    exact Array.getElem?_append_left (by have := ho.size; omega)
  exact ⟨rfl, hp.keep (hk g h.lt), ⟨rfl, rfl, rfl, by simp [grow, putRow, mapBlock, Sort.ahead], fun k h1 h2 => (hk k h1).trans (ho.block k h1 h2)⟩⟩

theorem field_opened (a b c d : Value) (A : Option Addr) (n m : Nat) (w : World) :
    (Instr.field 53 (.agg #[a, b, c, .slice A n m, d]) 2).run Try.prog w = .ok (.slice A n m) w := by kernel_rfl
theorem asked_perm {xs ys : List Int} {room : Int} (hp : ys.Perm xs) (h : askedB xs room = true) : askedB ys room = true := by
  obtain ⟨h1, h9, hx, hr1, hr2⟩ := askedB_at h
  have hl := hp.length_eq
  refine askedB_true.2 ⟨goodB_true.2 ⟨inB_true.2 (by omega), allB_of fun k u hu => inB_true.2 ?_⟩, foldl_max_le (fun x hxm => (hx x (hp.mem_iff.1 hxm)).2.2) (by omega), hr2⟩
  have := hx u (hp.mem_iff.1 (List.mem_of_getElem? hu))
  omega
theorem Runs.head {l z : List Int} {ls : List (List Int)} (h : Runs l ls z) : ∃ r, ls = l :: r ∧ ((r = [] ∧ nextR l = none) ∨ ∃ l', nextR l = some l' ∧ Runs l' r z) := by
  cases h with
  | last h => exact ⟨[], rfl, .inl ⟨rfl, h⟩⟩
  | more h1 h2 => exact ⟨_, rfl, .inr ⟨_, h1, h2⟩⟩

set_option maxRecDepth 100000 in
set_option maxHeartbeats 4000000 in
theorem extremeOrder_yes (f : FuncId) (bt : Int → Int → Bool) (hbt : ∀ (a b : Int) (W : World), Calls Try.prog f #[.int .i64 a, .int .i64 b] W fun e w' => e = .returned (.bool (bt a b)) ∧ W = w')
    (hent : ∀ args w, (callFunc f args).run Try.prog w = .ok (.enter f args) w)
    (A : Option Addr) (n c : Nat) (xs : List Int) (room : Int) (lo hi : Nat) (w : World) (hn : xs.length = n) (hs : Seg w lo hi A xs) (hB : hi ≤ w.heap.size) (ha : askedB xs room = true) (h7 : n ≤ 7) :
    Calls Try.prog 24 #[.slice A n c, .int .i64 room, .func (.func f) #[] #[]] w fun e w' => ∃ v, e = .returned (.tuple #[v, .int .i64 (exE bt room (ordF n xs)).2, .bool true]) ∧ BestW w' w.heap.size v (exE bt room (ordF n xs)).1 ∧ Below w.heap.size w w' := by
  obtain ⟨h1, h9, hx, hr1, hr2⟩ := askedB_at ha
  rw [hn] at h1 h9
  obtain ⟨ad, rfl⟩ : ∃ ad, A = some ad := by
    rcases hs with h | ⟨b, off, e, _⟩
    · rw [h] at hn; simp at hn; omega
    · exact ⟨_, e⟩
  have hnil : ∀ (w : World) (a : Option Addr) (n c n' c' : Nat), (binOp .eql 22 (.slice a n c) (.slice none n' c')).run Try.prog w = .ok (.bool a.isNone) w := fun w a n c n' c' => Lib.run_eql_slice_nil w _ _ a n c n' c' Try.underlying22
  have hfd := field_opened
  have hd7 : decide ((n : Int) > 7) = false := decide_eq_false (by omega)
  have HBT := Lib.hid hbt
  have HN := Lib.hid hn
  have HA := Lib.hid ha
  have hruns := runs_srt xs
  rw [hn] at hruns
  have HRUNS := Lib.hid hruns
  clear hbt hn ha hx hruns
  go_enter Try.func24, Try.ntmps24
  go_wp2_with fail
  refine (canBePacked_any _ _ _ xs room lo hi _ HN.out (by omega) hs true HA.out).mono ?_
  rintro e w0 ⟨rfl, rfl⟩
  go_wp2_with fail
  refine (cloneI_any ad n c xs lo hi _ HN.out (by omega) hs hB).mono ?_
  rintro e w1 ⟨v, rfl, hown, hb1⟩
  obtain ⟨g, cap, rfl, hg, hnc, hcm, _, hrow1⟩ := own_row hown h1
  clear hown
  go_wp2_with fail
  refine (sortRow_any g _ cap n cap xs w1 HN.out (by omega) hrow1).mono ?_
  rintro e w2 ⟨rfl, hrow2, ho2⟩
  have hb2 := hb1.trans (ho2.below hb1.size (fun k hk => by omega))
  have HB2 := Lib.hid hb2
  have HR2 := Lib.hid hrow2
  clear hb2 hrow2 ho2 hb1 hrow1
  go_wp2
  go_loopg [9, 10, 12] (ordF n xs).length (fun gk v9 v10 v12 wx => ∃ (ds ls : List (List Int)) (cur : List Int) (m : Bool), ds ++ ls = ordF n xs ∧ ls.length = gk ∧ v12 = .bool m ∧ Hid (m = true → ∃ z, Runs cur ls z) ∧ Hid (m = false → ls = []) ∧ Row wx g 3 cap cur ∧ Hid (cur.Perm xs) ∧ BestW wx g v9 (exE bt room ds).1 ∧ v10 = .int .i64 (exE bt room ds).2 ∧ Below w.heap.size w wx)
  case atStart => exact ⟨[], _, srt xs, true, rfl, rfl, rfl, Lib.hid (fun _ => ⟨_, HRUNS.out⟩), Lib.hid (fun e => by cases e), HR2.out, Lib.hid (srt_perm xs), .inl ⟨rfl, rfl⟩, rfl, HB2.out⟩
  case round =>
    obtain ⟨ds, ls, cur, m, hdl, hlg, rfl, HM1, HM2, hrow, HP, hbest, rfl, hb⟩ := hrel
    have HROW := Lib.hid hrow
    have HBEST := Lib.hid hbest
    have HB := Lib.hid hb
    have HDL := Lib.hid hdl
    have HLG := Lib.hid hlg
    clear hrow hbest hb hdl hlg
    cases m with
    | false =>
      have hls := HM2.out rfl
      subst hls
      have hdd := HDL.out
      rw [List.append_nil] at hdd
      subst hdd
      go_wp2
      go_ret3
      exact ⟨_, rfl, HBEST.out.low (by omega), HB.out⟩
    | true =>
      obtain ⟨z, hr⟩ := HM1.out rfl
      obtain ⟨r, rfl, hrr⟩ := hr.head
      have HRR := Lib.hid hrr
      have hlg2 := HLG.out
      have HCL := Lib.hid (HP.out.length_eq.trans HN.out)
      have hac := asked_perm HP.out HA.out
      have HAC := Lib.hid hac
      have HNE : Hid (cur.isEmpty = false) := Lib.hid (by cases cur with | nil => have := HCL.out; simp at this; omega | cons a b => rfl)
      have HSEG := Lib.hid ((HROW.out.own (lo := g) (hi := g + 1) (Nat.le_refl _) (by omega)).seg)
      have hgl0 := HROW.out.lt
      have hst := exE_snoc bt room ds cur
      clear hr hrr hac
      go_wp2_with fail
      refine (packByRule_first (some ⟨g, 0, none⟩) n cap cur room g (g + 1) _ HCL.out HSEG.out (by omega) HAC.out).mono ?_
      rintro e w3 ⟨Bo, Bp, rfl, hbo, hbp, hne, hl1, hl2, hb3⟩
      have HB3 := Lib.hid (HB.out.trans (hb3.mono HB.out.size))
      have HR3 := Lib.hid (HROW.out.keep (hb3.block g hgl0))
      have HBW3 := Lib.hid (HBEST.out.keep hb3)
      have HSEG3 := Lib.hid ((HR3.out.own (lo := g) (hi := g + 1) (Nat.le_refl _) (by omega)).seg)
      clear hbo hbp hne hl1 hl2 hb3
      have hbx : (((run 102 room cur ([], [])).1.length : Nat) : Int) = boxN room cur := rfl
      obtain ⟨nb, hnb⟩ : ∃ nb, (run 102 room cur ([], [])).1.length = nb := ⟨_, rfl⟩
      rw [hnb] at hbx
      rw [hnb]
      obtain ⟨sb, hsb⟩ : ∃ sb, exE bt room ds = sb := ⟨_, rfl⟩
      rw [hsb] at HBW3 hst ⊢
      clear HBEST
      obtain ⟨ys, q⟩ := sb
      rcases id HBW3.out with ⟨rfl, e⟩ | ⟨gb0, cb0, rfl, hgb0, hye, hr0⟩
      · have e2 : ys = [] := e
        subst e2
        have hst2 : exE bt room (ds ++ [cur]) = (cur, (nb : Int)) := by rw [hst, stepE, ← hbx]; rfl
        have HST := Lib.hid hst2
        clear hst hst2 hbx hsb hnb e
        go_wp2_with fail
        refine (cloneI_any ⟨g, 0, none⟩ n cap cur g (g + 1) _ HCL.out (by omega) HSEG3.out (by have := HR3.out.lt; omega)).mono ?_
        rintro e w4 ⟨v, rfl, hown, hb4⟩
        obtain ⟨gb, cb, rfl, hgb, _, _, hcl2, hrow4⟩ := own_row hown h1
        have hz3 := HB3.out.size
        have hgl := HR3.out.lt
        have HB4 := Lib.hid (HB3.out.trans (hb4.mono hz3))
        have HR4 := Lib.hid (HR3.out.keep (hb4.block g hgl))
        have HBW4 : Hid (BestW w4 g (.slice (some ⟨gb, 0, none⟩) n cb) cur) := Lib.hid (.inr ⟨gb, cb, by rw [HCL.out], by omega, HNE.out, hrow4⟩)
        clear hown hb4 hrow4
        go_wp2_with fail
        refine (nextOrder_any g 3 cap n cap cur w4 HCL.out h1 (by omega) hnc HR4.out).mono ?_
        rintro e w5 ⟨rfl, hr5, ho5⟩
        have HB5 := Lib.hid (below_only HB4.out ho5 hg)
        have HBW5 := Lib.hid (HBW4.out.only ho5)
        have HR5 := Lib.hid hr5
        clear hr5 ho5
        go_wp2
        obtain ⟨gg, hgg⟩ : ∃ gg, r.length = gg := ⟨_, rfl⟩
        rw [List.length_cons, hgg] at hlg2
        subst hlg2
        go_roundg gg
        case measure => omega
        case rel =>
          refine ⟨ds ++ [cur], r, (nextR cur).getD cur, (nextR cur).isSome, by rw [← HDL.out, List.append_assoc]; rfl, hgg, rfl, Lib.hid (fun h => ?_), Lib.hid (fun h => ?_), HR5.out, Lib.hid ?_, by rw [HST.out]; exact HBW5.out, by rw [HST.out], HB5.out⟩
          · rcases HRR.out with ⟨_, e⟩ | ⟨l', e, hr⟩
            · rw [e] at h; cases h
            · rw [e]; exact ⟨_, hr⟩
          · rcases HRR.out with ⟨e, _⟩ | ⟨l', e, hr⟩
            · exact e
            · rw [e] at h; cases h
          · cases e : nextR cur with
            | none => exact HP.out
            | some l' => exact (nextR_perm e).trans HP.out
      · have hye2 : ys.isEmpty = false := hye
        have hstB : exE bt room (ds ++ [cur]) = if bt (nb : Int) q then (cur, (nb : Int)) else (ys, q) := by rw [hst, stepE, ← hbx]; simp [hye2]
        have HBQ := Lib.hid (fun W => HBT.out (nb : Int) q W)
        clear hst hbx hsb hnb hr0 hye
        cases hbq : bt (nb : Int) q with
        | true =>
          rw [hbq] at hstB HBQ
          have hst2 : exE bt room (ds ++ [cur]) = (cur, (nb : Int)) := hstB.trans (by simp)
          have HST := Lib.hid hst2
          clear hstB hst2
          go_wp2_with fail
          refine (HBQ.out _).mono ?_
          rintro e w6 ⟨rfl, rfl⟩
          go_wp2_with fail
          refine (cloneI_any ⟨g, 0, none⟩ n cap cur g (g + 1) _ HCL.out (by omega) HSEG3.out (by have := HR3.out.lt; omega)).mono ?_
          rintro e w4 ⟨v, rfl, hown, hb4⟩
          obtain ⟨gb, cb, rfl, hgb, _, _, hcl2, hrow4⟩ := own_row hown h1
          have hz3 := HB3.out.size
          have hgl := HR3.out.lt
          have HB4 := Lib.hid (HB3.out.trans (hb4.mono hz3))
          have HR4 := Lib.hid (HR3.out.keep (hb4.block g hgl))
          have HBW4 : Hid (BestW w4 g (.slice (some ⟨gb, 0, none⟩) n cb) cur) := Lib.hid (.inr ⟨gb, cb, by rw [HCL.out], by omega, HNE.out, hrow4⟩)
          clear hown hb4 hrow4
          go_wp2_with fail
          refine (nextOrder_any g 3 cap n cap cur w4 HCL.out h1 (by omega) hnc HR4.out).mono ?_
          rintro e w5 ⟨rfl, hr5, ho5⟩
          have HB5 := Lib.hid (below_only HB4.out ho5 hg)
          have HBW5 := Lib.hid (HBW4.out.only ho5)
          have HR5 := Lib.hid hr5
          clear hr5 ho5
          go_wp2
          obtain ⟨gg, hgg⟩ : ∃ gg, r.length = gg := ⟨_, rfl⟩
          rw [List.length_cons, hgg] at hlg2
          subst hlg2
          go_roundg gg
          case measure => omega
          case rel =>
            refine ⟨ds ++ [cur], r, (nextR cur).getD cur, (nextR cur).isSome, by rw [← HDL.out, List.append_assoc]; rfl, hgg, rfl, Lib.hid (fun h => ?_), Lib.hid (fun h => ?_), HR5.out, Lib.hid ?_, by rw [HST.out]; exact HBW5.out, by rw [HST.out], HB5.out⟩
            · rcases HRR.out with ⟨_, e⟩ | ⟨l', e, hr⟩
              · rw [e] at h; cases h
              · rw [e]; exact ⟨_, hr⟩
            · rcases HRR.out with ⟨e, _⟩ | ⟨l', e, hr⟩
              · exact e
              · rw [e] at h; cases h
            · cases e : nextR cur with
              | none => exact HP.out
              | some l' => exact (nextR_perm e).trans HP.out
        | false =>
          rw [hbq] at hstB HBQ
          have hst2 : exE bt room (ds ++ [cur]) = (ys, q) := hstB.trans (by simp)
          have HST := Lib.hid hst2
          clear hstB hst2
          go_wp2_with fail
          refine (HBQ.out _).mono ?_
          rintro e w6 ⟨rfl, rfl⟩
          have hgl := HR3.out.lt
          have HB4 := HB3
          have HR4 := HR3
          have HBW4 := HBW3
          go_wp2_with fail
          refine (nextOrder_any g 3 cap n cap cur w3 HCL.out h1 (by omega) hnc HR4.out).mono ?_
          rintro e w5 ⟨rfl, hr5, ho5⟩
          have HB5 := Lib.hid (below_only HB4.out ho5 hg)
          have HBW5 := Lib.hid (HBW4.out.only ho5)
          have HR5 := Lib.hid hr5
          clear hr5 ho5
          go_wp2
          obtain ⟨gg, hgg⟩ : ∃ gg, r.length = gg := ⟨_, rfl⟩
          rw [List.length_cons, hgg] at hlg2
          subst hlg2
          go_roundg gg
          case measure => omega
          case rel =>
            refine ⟨ds ++ [cur], r, (nextR cur).getD cur, (nextR cur).isSome, by rw [← HDL.out, List.append_assoc]; rfl, hgg, rfl, Lib.hid (fun h => ?_), Lib.hid (fun h => ?_), HR5.out, Lib.hid ?_, by rw [HST.out]; exact HBW5.out, by rw [HST.out], HB5.out⟩
            · rcases HRR.out with ⟨_, e⟩ | ⟨l', e, hr⟩
              · rw [e] at h; cases h
              · rw [e]; exact ⟨_, hr⟩
            · rcases HRR.out with ⟨e, _⟩ | ⟨l', e, hr⟩
              · exact e
              · rw [e] at h; cases h
            · cases e : nextR cur with
              | none => exact HP.out
              | some l' => exact (nextR_perm e).trans HP.out
end Go.Proofs.Ytgcljhgpihpfgac
