/-
  Both programs' filling of shelves, one book after the other.
  Conditions: at most twelve books, none thicker than the width; the width at most 1000000.
-/
import Derived.Test.YtmdeijjlcebmaaaShelvingOf
namespace Go.Proofs.Ytmdeijjlcebmaaa
set_option linter.unusedVariables false
open Go.RowKit

/-- A list, if there is a shelving. -/
def listL (p : Bool) (ys : List Int) : List Int := if p = true then ys else []

theorem lists_len {fs : List Int} {ys : List Int} (h : ys.length = (natsOf fs).length) (hf : fs.length ≤ 1048576) (p : Bool) : (listL p ys).length ≤ 1048576 := by
  rw [natsOf_length] at h
  unfold listL
  split
  · omega
  · simp

/-- The first books so far, and what is free on the last shelf, behind the first 'k' books. -/
def fillK (width : Int) (ts : List Int) : Nat → List Int × Int
  | 0 => ([], 0)
  | k + 1 =>
    let s := fillK width ts k
    let t := ts.getD k 0
    if s.2 < t then (s.1 ++ [(k : Int)], width - t) else (s.1, s.2 - t)

theorem fillK_new {width : Int} {ts : List Int} {k : Nat} {t : Int} (h : ts[k]? = some t) (hf : (fillK width ts k).2 < t) : fillK width ts (k + 1) = ((fillK width ts k).1 ++ [(k : Int)], width - t) := by
  have e : ts.getD k 0 = t := by simp [List.getD, h]
  simp only [fillK, e]
  rw [if_pos hf]

theorem fillK_old {width : Int} {ts : List Int} {k : Nat} {t : Int} (h : ts[k]? = some t) (hf : t ≤ (fillK width ts k).2) : fillK width ts (k + 1) = ((fillK width ts k).1, (fillK width ts k).2 - t) := by
  have e : ts.getD k 0 = t := by simp [List.getD, h]
  simp only [fillK, e]
  rw [if_neg (by omega)]

theorem fillK_bd {width : Int} {ts : List Int} (hw : 0 ≤ width) (ht : ∀ t ∈ ts, 1 ≤ t ∧ t ≤ width) (k : Nat) (hk : k ≤ ts.length) :
    0 ≤ (fillK width ts k).2 ∧ (fillK width ts k).2 ≤ width ∧ (fillK width ts k).1.length ≤ k := by
  induction k with
  | zero => simp [fillK]; omega
  | succ k ih =>
    have hk' : k < ts.length := hk
    have hx : ts[k]? = some ts[k] := List.getElem?_eq_getElem hk'
    have hb := ht ts[k] (List.getElem_mem _)
    obtain ⟨h1, h2, h3⟩ := ih (by omega)
    by_cases hf : (fillK width ts k).2 < ts[k]
    · rw [fillK_new hx hf]
      simp only [List.length_append, List.length_cons, List.length_nil]
      omega
    · rw [fillK_old hx (by omega)]
      simp only
      omega

theorem fillK_first {width : Int} {ts : List Int} {t : Int} (h : ts[0]? = some t) (ht : 1 ≤ t) : (fillK width ts 0).2 < t := by simp [fillK]; omega

/-- The shelving that is filled. -/
def fillL (bs : List (Int × Int)) (width : Int) : List Int := (fillK width (ths bs) bs.length).1

def FillOk (bs : List (Int × Int)) (width : Int) : Prop := bs.length ≤ 12 ∧ 1 ≤ bs.length ∧ width ≤ 1000000 ∧ ∀ b ∈ bs, 1 ≤ b.1 ∧ b.1 ≤ width

theorem FillOk.ths {bs : List (Int × Int)} {width : Int} (h : FillOk bs width) : ∀ t ∈ ths bs, 1 ≤ t ∧ t ≤ width := by
  intro t ht
  obtain ⟨b, hb, rfl⟩ := List.mem_map.1 ht
  exact h.2.2.2 b hb

theorem FillOk.pos {bs : List (Int × Int)} {width : Int} (h : FillOk bs width) : 0 ≤ width := by
  have h1 := h.2.1
  have := h.2.2.2 (bs[0]'(by omega)) (List.getElem_mem (by omega))
  omega

theorem FillOk.bd {bs : List (Int × Int)} {width : Int} (h : FillOk bs width) {k : Nat} (hk : k ≤ bs.length) :
    0 ≤ (fillK width (Go.Proofs.Ytmdeijjlcebmaaa.ths bs) k).2 ∧ (fillK width (Go.Proofs.Ytmdeijjlcebmaaa.ths bs) k).2 ≤ width ∧ (fillK width (Go.Proofs.Ytmdeijjlcebmaaa.ths bs) k).1.length ≤ k :=
  fillK_bd h.pos h.ths k (by rw [ths_length]; exact hk)

theorem fillL_len {bs : List (Int × Int)} {width : Int} (h : FillOk bs width) : (fillL bs width).length ≤ 12 := Nat.le_trans (h.bd (Nat.le_refl _)).2.2 h.1

theorem asked_fill {bs : List (Int × Int)} {width : Int} (h : askedK bs width = true) : FillOk bs width := by
  obtain ⟨h1, h2, h3, h4, h5⟩ := askedK_at h
  exact ⟨h2, h1, by omega, fun b hb => by have := h3 b hb; omega⟩

/-- Its own new row of the first books. -/
def RetFill (xs : List Int) (w : World) (e : Ending) (w' : World) : Prop :=
  ∃ A n c, e = .returned (.slice A n c) ∧ xs.length = n ∧ Own w' w.heap.size w'.heap.size A xs ∧ Below w.heap.size w w'

theorem grown_first {wr w3 : World} {cs ds : Array Value} {T T' base : Nat} {v : Value} {u : Value} (hg : ((wr.alloc (.cells cs T)).alloc (.cells ds T')).grownBy w3 v.ownBlock) (hl : ∀ g, v.ownBlock = some g → base ≤ g ∧ g < wr.heap.size)
    (hu : cs[0]? = some u := by rfl) : w3.cell? ⟨wr.heap.size, 0, none⟩ = some u := by
  have h1 := hg.block wr.heap.size (by simp; omega) (by intro e; have := (hl _ e.symm).2; omega)
  have h2 : w3.heap[wr.heap.size]? = some (.cells cs T (0, 0)) := by
    rw [h1, Below.heap_alloc _ _ _ (by simp)]
    exact heap_alloc_new wr _
  rw [cell_of h2]
  exact hu

set_option maxHeartbeats 2000000 in
theorem shFill_any (A : Option Addr) (n c : Nat) (bs : List (Int × Int)) (width : Int) (lo hi : Nat) (w : World) (hn : bs.length = n) (hs : Seg w lo hi A (flat bs)) (hB : hi ≤ w.heap.size) (hg : FillOk bs width) :
    Calls Try.prog 50 #[.slice A n c, .int .i64 width] w (RetFill (fillL bs width) w) := by
  obtain ⟨i0, hi0, hz0, hz1, hz2⟩ := info_parts int_info
  have HN := Lib.hid hn
  have HG := Lib.hid hg
  have h12 : n ≤ 12 := by have := hg.1; omega
  have hw := hg.2.2.1
  have hw0 := hg.pos
  clear hn hg
  go_enter Try.func50, Try.ntmps50
  go_wp2
  go_loopw [5, 6, 7, 8, 11] (fun v fr _ _ i wr => ∃ k : Nat, k ≤ n ∧ i = .int .i64 k ∧ Below w.heap.size w wr ∧ fr = .int .i64 (fillK width (ths bs) k).2 ∧
    wr.ownsRow w.heap.size 3 1 v (fillK width (ths bs) k).1.length ((fillK width (ths bs) k).1.map (Value.int .i64))) (fun _ _ _ _ i _ => n - (intOf i).toNat)
  case atStart => exact ⟨0, Nat.zero_le _, rfl, Below.refl _ _, rfl, World.ownsRow_nil _ _ _ _⟩
  case round =>
    obtain ⟨k, hk, rfl, hb, rfl, hrow⟩ := hrel
    have hsz := hb.size
    obtain ⟨A', c', rfl⟩ := ownsRow_form hrow
    by_cases hlt : k < n
    · obtain ⟨b, off, t, u, rfl, _, _, hx, hc0, hc1⟩ := (hs.below hb hB).book (k := k) (by rw [HN.out]; exact hlt)
      have ht := HG.out.2.2.2 (t, u) (List.mem_of_getElem? hx)
      simp only at ht
      obtain ⟨f0, f1, f2⟩ := HG.out.bd (k := k) (by rw [HN.out]; exact hk)
      have hb1 := hb.alloc hb.size (.cells #[.int .i64 t, .int .i64 u] 46)
      have hrow1 := hrow.alloc (.cells #[.int .i64 t, .int .i64 u] 46)
      by_cases hf : (fillK width (ths bs) k).2 < t
      · have HK := Lib.hid (fillK_new (ths_at hx) hf)
        obtain ⟨fr, hfr⟩ : ∃ fr, (fillK width (ths bs) k).2 = fr := ⟨_, rfl⟩
        obtain ⟨ls, hls⟩ : ∃ ls, (fillK width (ths bs) k).1 = ls := ⟨_, rfl⟩
        rw [hfr] at hf f0 f1 ⊢
        rw [hls] at HK hrow1 f2 ⊢
        have HROW := Lib.hid hrow1
        have HR0 : Hid (∀ g, (Value.slice A' ls.length c').ownBlock = some g → w.heap.size ≤ g ∧ g < wr.heap.size) := by rw [← hls]; exact hrow.lt
        clear hfr hls hx hrow hrow1
        go_wp2_with (at_builtin; refine wpList_append_own _ rfl _ _ 23 rfl w.heap.size 3 i0 (.int .i64 0) 1 8 Try.underlying23 hi0 hz0 hz1 hz2 rfl (by decide) _ _ _ rfl (HROW.out.alloc _) ⟨wr.heap.size + 1, 0, none⟩ 1 1 [.int .i64 (k : Int)] (by simp [Act.eval]) rfl (by simpa using one_new (wr.alloc (.cells #[.int .i64 t, .int .i64 u] 46)) (.int .i64 (k : Int)) 3) (by intro u hu; simp at hu; subst hu; rfl) (by unfold maxLen; omega) (by omega) (by simp; omega) ?_; intro v' w3 hown3 hgrow _; have hc3 : w3.cell? ⟨wr.heap.size, 0, none⟩ = some (.int .i64 t) := grown_first hgrow HR0.out; have hb3 : Below w.heap.size w w3 := ((hb1.alloc (by simp; omega) _).grown hgrow (by simp; omega) (fun g' hg' => by have := (HR0.out g' hg').1; omega)); clear hgrow)
        go_roundw
        case rel => exact ⟨k + 1, by omega, by go_num, hb3, by rw [HK.out], by rw [HK.out, List.length_append, List.map_append]; exact hown3⟩
        case measure => simp [intOf]; omega
      · have HK := Lib.hid (fillK_old (ths_at hx) (by omega : t ≤ (fillK width (ths bs) k).2))
        obtain ⟨fr, hfr⟩ : ∃ fr, (fillK width (ths bs) k).2 = fr := ⟨_, rfl⟩
        obtain ⟨ls, hls⟩ : ∃ ls, (fillK width (ths bs) k).1 = ls := ⟨_, rfl⟩
        rw [hfr] at hf f0 f1 HK ⊢
        rw [hls] at HK hrow1 f2 ⊢
        have HROW := Lib.hid hrow1
        clear hfr hls hx hrow hrow1
        go_wp2
        go_roundw
        case rel => exact ⟨k + 1, by omega, by go_num, hb1, by rw [HK.out], by rw [HK.out]; exact HROW.out⟩
        case measure => simp [intOf]; omega
    · obtain rfl : k = n := by omega
      have ho2 := ownsRow_own hrow
      have HO := Lib.hid ho2
      have HL : Hid (fillL bs width = (fillK width (ths bs) k).1) := by show _ = _; unfold fillL; rw [HN.out]
      clear hrow ho2
      go_wp2
      go_ret
      exact ⟨_, _, _, rfl, by rw [HL.out], by rw [HL.out]; exact HO.out.2, hb⟩

/-- The shelving, each of its cells told. -/
def RetFS (xs : List Int) (w : World) (e : Ending) (w' : World) : Prop :=
  ∃ v0 v1 v2 v3 v4 v5 v6 v7 v8 v9 v10 v11 v12 : Int, e = .returned (.agg #[.int .i64 v0, .int .i64 v1, .int .i64 v2, .int .i64 v3, .int .i64 v4, .int .i64 v5, .int .i64 v6, .int .i64 v7, .int .i64 v8, .int .i64 v9, .int .i64 v10, .int .i64 v11, .int .i64 v12]) ∧ shL xs = [v0, v1, v2, v3, v4, v5, v6, v7, v8, v9, v10, v11, v12] ∧ Below w.heap.size w w'

set_option maxHeartbeats 2000000 in
theorem fillShelves_any (A : Option Addr) (n c : Nat) (bs : List (Int × Int)) (width : Int) (lo hi : Nat) (w : World) (hn : bs.length = n) (hs : Seg w lo hi A (flat bs)) (hB : hi ≤ w.heap.size) (hg : FillOk bs width) :
    Calls Try.prog 56 #[.slice A n c, .int .i64 width] w (RetFS (fillL bs width) w) := by
  have HN := Lib.hid hn
  have HG := Lib.hid hg
  have h12 : n ≤ 12 := by have := hg.1; omega
  have hw := hg.2.2.1
  have hw0 := hg.pos
  clear hn hg
  go_enter Try.func56, Try.ntmps56
  go_wp2
  go_loopw [6, 7, 8, 11] (fun fr _ _ i wr => ∃ k : Nat, k ≤ n ∧ i = .int .i64 k ∧ Below w.heap.size w wr ∧ fr = .int .i64 (fillK width (ths bs) k).2 ∧
    wr.heap[w.heap.size]? = some (.cells #[.int .i64 0, .int .i64 0, .int .i64 0, .int .i64 0, .int .i64 0, .int .i64 0, .int .i64 0, .int .i64 0, .int .i64 0, .int .i64 0, .int .i64 0, .int .i64 0, .int .i64 0] 51 (0, 0)) ∧ Arr wr (w.heap.size + 1) 51 (shL (fillK width (ths bs) k).1)) (fun _ _ _ i _ => n - (intOf i).toNat)
  case atStart => exact ⟨0, Nat.zero_le _, rfl, ((Below.refl _ _).alloc (Nat.le_refl _) _).alloc (by simp) _, rfl, (alloc_old _ (by simp) _).trans (new_at _ _ rfl), sh_zero (new_at _ _ (by simp))⟩
  case round =>
    obtain ⟨k, hk, rfl, hb, rfl, hz6, har⟩ := hrel
    by_cases hlt : k < n
    · obtain ⟨b, off, t, u, rfl, _, _, hx, hc0, hc1⟩ := (hs.below hb hB).book (k := k) (by rw [HN.out]; exact hlt)
      have ht := HG.out.2.2.2 (t, u) (List.mem_of_getElem? hx)
      simp only at ht
      obtain ⟨f0, f1, f2⟩ := HG.out.bd (k := k) (by rw [HN.out]; exact hk)
      have hb1 := hb.alloc hb.size (.cells #[.int .i64 t, .int .i64 u] 46)
      have hz61 := (alloc_old wr (heap_lt hz6) (.cells #[.int .i64 t, .int .i64 u] 46)).trans hz6
      have har1 := har.alloc (.cells #[.int .i64 t, .int .i64 u] 46)
      have hwr := har.lt
      by_cases hf : (fillK width (ths bs) k).2 < t
      · have HK := Lib.hid (fillK_new (ths_at hx) hf)
        obtain ⟨fr, hfr⟩ : ∃ fr, (fillK width (ths bs) k).2 = fr := ⟨_, rfl⟩
        obtain ⟨ls, hls⟩ : ∃ ls, (fillK width (ths bs) k).1 = ls := ⟨_, rfl⟩
        rw [hfr] at hf f0 f1 ⊢
        rw [hls] at HK har1 f2
        have HAR := Lib.hid har1
        have HZ6 := Lib.hid hz61
        have hop := open_any (w.heap.size + 1) 51 ls (k : Int) _ har1 (by omega)
        have HOP := Lib.hid hop
        have hop0 := open_any (w.heap.size + 1) 51 ls 0 _ har1 (by omega)
        have HOP0 := Lib.hid hop0
        clear hfr hls hx har har1 hz6 hz61 hop hop0
        by_cases hk0 : k = 0
        case pos =>
          subst hk0
          have hc00 : wr.cell? ⟨b, off, none⟩ = some (.int .i64 t) := hc0
          have hc01 : wr.cell? ⟨b, off + 1, none⟩ = some (.int .i64 u) := hc1
          clear hc0 hc1
          go_wp2_with fail
          refine HOP0.out.mono ?_
          rintro e w3 ⟨rfl, har3, honly⟩
          have hc3 : w3.cell? ⟨wr.heap.size, 0, none⟩ = some (.int .i64 t) := by
            rw [cell_of ((honly.block wr.heap.size (by simp) (by intro h; have : wr.heap.size = w.heap.size + 1 := h; omega)).trans (heap_alloc_new wr _))]; rfl
          have hb3 : Below w.heap.size w w3 := hb1.trans (honly.below (by simp; have := hb.size; omega) (fun g hg => by rw [hg]; omega))
          have hz3 := (honly.block w.heap.size (by simp; omega) (by intro h; have : w.heap.size = w.heap.size + 1 := h; omega)).trans HZ6.out
          go_wp2
          go_roundw
          case rel => exact ⟨0 + 1, by omega, by go_num, hb3, by rw [HK.out], hz3, by rw [HK.out]; exact har3⟩
          case measure => simp [intOf]; omega
        case neg =>
          have hkz : ((k : Int) == 0) = false := by rw [beq_eq_false_iff_ne]; omega
          go_wp2_with fail
          refine HOP.out.mono ?_
          rintro e w3 ⟨rfl, har3, honly⟩
          have hc3 : w3.cell? ⟨wr.heap.size, 0, none⟩ = some (.int .i64 t) := by
            rw [cell_of ((honly.block wr.heap.size (by simp) (by intro h; have : wr.heap.size = w.heap.size + 1 := h; omega)).trans (heap_alloc_new wr _))]; rfl
          have hb3 : Below w.heap.size w w3 := hb1.trans (honly.below (by simp; have := hb.size; omega) (fun g hg => by rw [hg]; omega))
          have hz3 := (honly.block w.heap.size (by simp; omega) (by intro h; have : w.heap.size = w.heap.size + 1 := h; omega)).trans HZ6.out
          go_wp2
          go_roundw
          case rel => exact ⟨k + 1, by omega, by go_num, hb3, by rw [HK.out], hz3, by rw [HK.out]; exact har3⟩
          case measure => simp [intOf]; omega
      · have HK := Lib.hid (fillK_old (ths_at hx) (by omega : t ≤ (fillK width (ths bs) k).2))
        have hk0 : k ≠ 0 := by
          rintro rfl
          exact hf (fillK_first (ths_at hx) ht.1)
        have hkz : ((k : Int) == 0) = false := by rw [beq_eq_false_iff_ne]; omega
        obtain ⟨fr, hfr⟩ : ∃ fr, (fillK width (ths bs) k).2 = fr := ⟨_, rfl⟩
        obtain ⟨ls, hls⟩ : ∃ ls, (fillK width (ths bs) k).1 = ls := ⟨_, rfl⟩
        rw [hfr] at hf f0 f1 HK ⊢
        rw [hls] at HK har1 f2
        have HAR := Lib.hid har1
        have HZ6 := Lib.hid hz61
        clear hfr hls hx har har1 hz6 hz61
        go_wp2
        go_roundw
        case rel => exact ⟨k + 1, by omega, by go_num, hb1, by rw [HK.out], HZ6.out, by rw [HK.out]; exact HAR.out⟩
        case measure => simp [intOf]; omega
    · obtain rfl : k = n := by omega
      have HL : Hid (fillL bs width = (fillK width (ths bs) k).1) := by show _ = _; unfold fillL; rw [HN.out]
      have hav := arr_vals har
      rw [← HL.out] at hav
      obtain ⟨v0, v1, v2, v3, v4, v5, v6, v7, v8, v9, v10, v11, v12, hsl⟩ := ints_13 (shL_len (fs := fillL bs width) (fillL_len HG.out))
      have hcs : ((shL (fillL bs width)).map (Value.int .i64)).toArray = #[.int .i64 v0, .int .i64 v1, .int .i64 v2, .int .i64 v3, .int .i64 v4, .int .i64 v5, .int .i64 v6, .int .i64 v7, .int .i64 v8, .int .i64 v9, .int .i64 v10, .int .i64 v11, .int .i64 v12] := by rw [hsl]; rfl
      rw [hcs] at hav
      have HSL := Lib.hid hsl
      obtain ⟨p0, p1, p2, p3, p4, p5, p6, p7, p8, p9, p10, p11, p12⟩ := cells_each hav
      obtain ⟨q0, q1, q2, q3, q4, q5, q6, q7, q8, q9, q10, q11, q12⟩ := cells_each hz6
      obtain ⟨g0, g1, g2, f3, f4, f5, f6, f7, f8, f9, f10, f11, f12⟩ := frozen_each hz6
      clear hcs hav hsl har hz6
      go_wp2
      refine bodyPost_ret (v := .agg #[.int .i64 v0, .int .i64 v1, .int .i64 v2, .int .i64 v3, .int .i64 v4, .int .i64 v5, .int .i64 v6, .int .i64 v7, .int .i64 v8, .int .i64 v9, .int .i64 v10, .int .i64 v11, .int .i64 v12]) (by simp [results, Try.results56, go_sem, q0, q1, q2, q3, q4, q5, q6, q7, q8, q9, q10, q11, q12]) rfl ⟨v0, v1, v2, v3, v4, v5, v6, v7, v8, v9, v10, v11, v12, rfl, HSL.out, ?_⟩
      exact below_set13 hb (Nat.le_refl _) _ _ _ _ _ _ _ _ _ _ _ _ _
end Go.Proofs.Ytmdeijjlcebmaaa
