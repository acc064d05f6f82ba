/-
  The written program's shelving: an open shelf, its books, the widths of all shelves, and the shelving of a list of numbers.
  Conditions: at most twelve books.
-/
import Derived.Test.YtmdeijjlcebmaaaShelfM
import Derived.Deep.DeepCutAuto
namespace Go.Proofs.Ytmdeijjlcebmaaa
set_option linter.unusedVariables false
open Go.RowKit

/-- The numbers of a shelving in memory: how many shelves, and the first book of each. -/
def shL (fs : List Int) : List Int := (fs.length : Int) :: (fs ++ List.replicate (12 - fs.length) 0)
def shV (fs : List Int) : Value := .agg ((shL fs).map (Value.int .i64)).toArray

theorem shL_len {fs : List Int} (h : fs.length ≤ 12) : (shL fs).length = 13 := by simp [shL]; omega
theorem shL_zero (fs : List Int) : (shL fs)[0]? = some (fs.length : Int) := rfl
theorem shL_at {fs : List Int} {k : Nat} {u : Int} (h : fs[k]? = some u) : (shL fs)[1 + k]? = some u := by
  have hk := (List.getElem?_eq_some_iff.1 h).1
  rw [Nat.add_comm]
  show (fs ++ _)[k]? = some u
  rw [List.getElem?_append_left hk, h]
theorem shL_next {fs : List Int} (h : fs.length < 12) (x : Int) : ((shL fs).set (1 + fs.length) x).set 0 ((fs.length : Int) + 1) = shL (fs ++ [x]) := by
  obtain ⟨m, hm⟩ : ∃ m, 12 - fs.length = m + 1 := ⟨12 - fs.length - 1, by omega⟩
  have h2 : 12 - (fs ++ [x]).length = m := by simp; omega
  unfold shL
  rw [h2, hm, List.replicate_succ, Nat.add_comm 1]
  simp only [List.set_cons_succ, List.set_cons_zero]
  rw [List.set_append_right _ _ (Nat.le_refl _), Nat.sub_self, List.set_cons_zero]
  simp

theorem shV_cells (fs : List Int) : (shV fs) = .agg ((shL fs).map (Value.int .i64)).toArray := rfl

/-- The cells of a shelving with the first books 'qs'. -/
structure Cells13 (cs : Array Value) (qs : List Nat) : Prop where
  len : cs.size = 13
  zero : cs[0]? = some (.int .i64 (qs.length : Int))
  at_ : ∀ k, k < qs.length → cs[1 + k]? = some (.int .i64 ((qs.getD k 0 : Nat) : Int))

theorem cells13 {qs : List Nat} (h : qs.length ≤ 12) : Cells13 ((shL (qs.map fun q : Nat => (q : Int))).map (Value.int .i64)).toArray qs := by
  refine ⟨by simp [shL_len, h], by simp [shL], fun k hk => ?_⟩
  have e : (qs.map fun q : Nat => (q : Int))[k]? = some ((qs.getD k 0 : Nat) : Int) := by
    simp [List.getD, hk]
  have h2 := shL_at e
  rw [List.getElem?_toArray, List.getElem?_map, h2]
  rfl

set_option maxHeartbeats 1000000 in
theorem booksOn_any (b off n c : Nat) (qs : List Nat) (cs : Array Value) (k : Nat) (w : World) (hc : n ≤ c) (hcs : Cells13 cs qs) (hr : Rise n qs) (hn : n ≤ 12) (hk : k < qs.length) :
    Calls Try.prog 57 #[.agg cs, .int .i64 (k : Int), .slice (some ⟨b, off, none⟩) n c] w fun e w' =>
      e = .returned (.slice (some ⟨b, off + qs.getD k 0 * 2, none⟩) (endOf n qs k - qs.getD k 0) (c - qs.getD k 0)) ∧ Below w.heap.size w w' := by
  have hl12 := hr.len
  obtain ⟨hz, hz0, hat⟩ := hcs
  have c1 := hat k hk
  obtain ⟨e1, e2⟩ := hr.ends hk
  by_cases hl : k + 1 < qs.length
  · have c2 := hat (k + 1) hl
    have he : endOf n qs k = qs.getD (k + 1) 0 := by unfold endOf; rw [if_pos hl]
    rw [he] at e1 e2 ⊢
    obtain ⟨p, hp⟩ : ∃ p, qs.getD k 0 = p := ⟨_, rfl⟩
    obtain ⟨q, hq⟩ : ∃ q, qs.getD (k + 1) 0 = q := ⟨_, rfl⟩
    obtain ⟨m, hm⟩ : ∃ m, qs.length = m := ⟨_, rfl⟩
    rw [hp] at e1 c1 ⊢
    rw [hq] at e1 e2 c2 ⊢
    rw [hm] at hl hl12 hz0
    clear hat he hp hq hm hk hr hz
    go_enter Try.func57, Try.ntmps57
    go_wp2
    go_ret
    exact ⟨rfl, (Below.refl _ _).alloc (Nat.le_refl _) _⟩
  · have he : endOf n qs k = n := by unfold endOf; rw [if_neg hl]
    rw [he] at e1 e2 ⊢
    obtain ⟨p, hp⟩ : ∃ p, qs.getD k 0 = p := ⟨_, rfl⟩
    obtain ⟨m, hm⟩ : ∃ m, qs.length = m := ⟨_, rfl⟩
    rw [hp] at e1 c1 ⊢
    rw [hm] at hl hl12 hz0 hk
    clear hat he hp hm hr hz
    go_enter Try.func57, Try.ntmps57
    go_wp2
    go_ret
    exact ⟨rfl, (Below.refl _ _).alloc (Nat.le_refl _) _⟩

theorem cells_13 {cs : Array Value} (h : cs.size = 13) : ∃ v0 v1 v2 v3 v4 v5 v6 v7 v8 v9 v10 v11 v12, cs = #[v0, v1, v2, v3, v4, v5, v6, v7, v8, v9, v10, v11, v12] := by
  obtain ⟨l⟩ := cs
  match l, h with
  | [v0, v1, v2, v3, v4, v5, v6, v7, v8, v9, v10, v11, v12], _ => exact ⟨v0, v1, v2, v3, v4, v5, v6, v7, v8, v9, v10, v11, v12, rfl⟩

/-- The thirteen cells one by one. -/
theorem cells_each {w : World} {g T : Nat} {v0 v1 v2 v3 v4 v5 v6 v7 v8 v9 v10 v11 v12 : Value} (h : w.heap[g]? = some (.cells #[v0, v1, v2, v3, v4, v5, v6, v7, v8, v9, v10, v11, v12] T (0, 0))) :
    w.cell? ⟨g, 0, none⟩ = some v0 ∧ w.cell? ⟨g, 1, none⟩ = some v1 ∧ w.cell? ⟨g, 2, none⟩ = some v2 ∧ w.cell? ⟨g, 3, none⟩ = some v3 ∧ w.cell? ⟨g, 4, none⟩ = some v4 ∧ w.cell? ⟨g, 5, none⟩ = some v5 ∧ w.cell? ⟨g, 6, none⟩ = some v6 ∧ w.cell? ⟨g, 7, none⟩ = some v7 ∧ w.cell? ⟨g, 8, none⟩ = some v8 ∧ w.cell? ⟨g, 9, none⟩ = some v9 ∧ w.cell? ⟨g, 10, none⟩ = some v10 ∧ w.cell? ⟨g, 11, none⟩ = some v11 ∧ w.cell? ⟨g, 12, none⟩ = some v12 :=
  ⟨cell_of h 0, cell_of h 1, cell_of h 2, cell_of h 3, cell_of h 4, cell_of h 5, cell_of h 6, cell_of h 7, cell_of h 8, cell_of h 9, cell_of h 10, cell_of h 11, cell_of h 12⟩

set_option maxHeartbeats 1000000 in
theorem widths_any (b off n c : Nat) (bs : List (Int × Int)) (qs : List Nat) (cs : Array Value) (lo hi : Nat) (w : World) (hbl : bs.length = n) (hc : n ≤ c) (hcs : Cells13 cs qs) (hr : Rise n qs) (hg : partB bs)
    (hs : Seg w lo hi (some ⟨b, off, none⟩) (flat bs)) (hB : hi ≤ w.heap.size) :
    Calls Try.prog 43 #[.agg cs, .slice (some ⟨b, off, none⟩) n c] w fun e w' =>
      ∃ g, e = .returned (.slice (some ⟨g, 0, none⟩) qs.length qs.length) ∧ Arr w' g 3 (widthsK bs qs) ∧ w.heap.size ≤ g ∧ Below w.heap.size w w' := by
  have hn : n ≤ 12 := by have := hg.1; omega
  have hl12 := hr.len
  have hz0 := hcs.zero
  obtain ⟨v0, v1, v2, v3, v4, v5, v6, v7, v8, v9, v10, v11, v12, rfl⟩ := cells_13 hcs.len
  have hmk := fun W : World => run_make_row' 23 3 (.int .i64 0) 8 Try.underlying23 int_info rfl .i64 .i64 qs.length (by omega) (by omega) W
  have HC := Lib.hid hcs
  have HR := Lib.hid hr
  have HG := Lib.hid hg
  have HL := Lib.hid hbl
  obtain ⟨m, hm⟩ : ∃ m, m = qs.length := ⟨_, rfl⟩
  rw [← hm] at hl12 hz0 hmk ⊢
  obtain rfl : v0 = .int .i64 (m : Int) := by simpa using hz0
  clear hz0
  have HM := Lib.hid hm
  clear hcs hr hg hbl hm
  go_enter Try.func43, Try.ntmps43
  go_wp2
  clear hmk
  go_loopw [6, 12] (fun _ i wr => ∃ k : Nat, k ≤ m ∧ i = .int .i64 k ∧ Below w.heap.size w wr ∧ wr.heap[w.heap.size]? = some (.cells #[.int .i64 (m : Int), v1, v2, v3, v4, v5, v6, v7, v8, v9, v10, v11, v12] 51 (0, 0)) ∧
    Part wr (w.heap.size + 1) 3 m k (widthsK bs qs)) (fun _ i _ => m - (intOf i).toNat)
  case atStart => exact ⟨0, Nat.zero_le _, rfl, ((Below.refl _ _).alloc (Nat.le_refl _) _).alloc (by simp) _, (alloc_old _ (by simp) _).trans (new_at _ _ rfl), by simpa using part_new (w.alloc (.cells #[.int .i64 (m : Int), v1, v2, v3, v4, v5, v6, v7, v8, v9, v10, v11, v12] 51)) 3 m (.int .i64 0) (widthsK bs qs)⟩
  case round =>
    obtain ⟨k, hk, rfl, hb, hbx, hp⟩ := hrel
    by_cases hlt : k < m
    · obtain ⟨q0, q1, q2, q3, q4, q5, q6, q7, q8, q9, q10, q11, q12⟩ := cells_each hbx
      have HBX := Lib.hid hbx
      clear hbx
      have hkq : k < qs.length := by have := HM.out; omega
      have hrq : Rise n qs := HR.out
      have he := hrq.ends hkq
      have HO := Lib.hid (booksOn_any b off n c qs _ k wr hc HC.out hrq hn hkq)
      have HW : Hid ((widthsK bs qs)[k]? = some (ths ((bs.take (endOf n qs k)).drop (qs.getD k 0))).sum) := by
        have := widths_at bs hkq
        unfold partK at this
        rwa [HL.out] at this
      obtain ⟨p, hpp⟩ : ∃ p, qs.getD k 0 = p := ⟨_, rfl⟩
      obtain ⟨r, hrr⟩ : ∃ r, endOf n qs k = r := ⟨_, rfl⟩
      rw [hpp, hrr] at he HO HW
      obtain ⟨pt, hpt⟩ : ∃ pt, (bs.take r).drop p = pt := ⟨_, rfl⟩
      rw [hpt] at HW
      have hpl : pt.length = r - p := by rw [← hpt, List.length_drop, List.length_take, HL.out]; omega
      have hpb : partB pt := ⟨by have := HG.out.1; rw [hpl]; omega, fun x hx => HG.out.2 x (by rw [← hpt] at hx; exact List.mem_of_mem_take (List.mem_of_mem_drop hx))⟩
      have HPT := Lib.hid hpt
      have H2 := Lib.hid hpl
      have H3 := Lib.hid hpb
      clear hkq hrq hpp hrr hpt hpl hpb
      go_wp2_with fail
      refine HO.out.mono ?_
      rintro e w1 ⟨rfl, hb1⟩
      have hs1 := ((hs.below hb hB).below hb1 (Nat.le_trans hB hb.size)).cut p r
      rw [HPT.out] at hs1
      have hbb := hb.trans (hb1.mono hb.size)
      have hp1 := hp.keep (hb1.block _ hp.lt)
      have hx1 := (hb1.block _ (heap_lt HBX.out)).trans HBX.out
      have H1 := Lib.hid hs1
      have HX1 := Lib.hid hx1
      clear q0 q1 q2 q3 q4 q5 q6 q7 q8 q9 q10 q11 q12 HBX hp hs1 hx1 HO
      go_wp2_with fail
      refine (thicknessOf_any _ _ _ _ lo hi _ H2.out H1.out (Nat.le_trans hB hbb.size) H3.out).mono ?_
      rintro e w2 ⟨rfl, hb2⟩
      have hbb2 := hbb.trans (hb2.mono hbb.size)
      have hp2 := hp1.keep (hb2.block _ hp1.lt)
      have hx2 := (hb2.block _ (heap_lt HX1.out)).trans HX1.out
      obtain ⟨v0, hv0⟩ := hp2.cell k hlt
      have hf0 := hp2.frozen k
      have HX2 := Lib.hid hx2
      obtain ⟨sm, hsm⟩ : ∃ sm, (ths pt).sum = sm := ⟨_, rfl⟩
      rw [hsm] at HW ⊢
      clear hp1 HX1 hsm hx2 H1 H2 H3
      go_wp2
      go_roundw
      case rel => exact ⟨k + 1, by omega, by go_num, hbb2.setCell (by simp) _, (set_far _ (by simp) _).trans HX2.out, hp2.step hlt HW.out⟩
      case measure => simp [intOf]; omega
    · obtain rfl : k = m := by omega
      go_wp2
      go_ret
      refine ⟨w.heap.size + 1, rfl, ?_, by omega, hb⟩
      obtain ⟨zs, hz, hzs, hzc⟩ := hp
      refine ⟨zs, hz, ?_⟩
      apply List.ext_getElem?
      intro j
      have hwl : (widthsK bs qs).length = k := by rw [widths_length]; exact HM.out.symm
      by_cases hj : j < k
      · rw [Array.getElem?_toList, hzc j hj, List.getElem?_map]
        have : (widthsK bs qs)[j]? = some (widthsK bs qs)[j] := List.getElem?_eq_getElem (by omega)
        rw [this]
        simp [List.getD, this]
      · rw [List.getElem?_eq_none (by simp; omega), List.getElem?_eq_none (by simp; omega)]

theorem mostOf_first {xs : List Int} {u : Int} (h : xs[0]? = some u) (hu : 0 ≤ u) : u = mostOf (xs.take 1) := by
  rw [take_snoc (k := 0) h]
  simp [mostOf]
  omega

set_option maxHeartbeats 400000 in
theorem slicesMax_any (A : Option Addr) (n c : Nat) (xs : List Int) (lo hi : Nat) (w : World) (hn : xs.length = n) (hlen : n ≤ 1048576) (hs : Seg w lo hi A xs) (h1 : 1 ≤ n) (hp : ∀ x ∈ xs, 0 ≤ x) :
    Calls Try.prog 60 #[.slice A n c] w fun e w' => e = .returned (.int .i64 (mostOf xs)) ∧ w = w' := by
  have HN := Lib.hid hn
  have HP := Lib.hid hp
  clear hn hp
  obtain ⟨b, off, u0, rfl, _, _, hx0, hc0⟩ := hs.at_ (k := 0) (by rw [HN.out]; exact h1)
  have hu0 := HP.out u0 (List.mem_of_getElem? hx0)
  have HX := Lib.hid (mostOf_first hx0 (by omega))
  clear hx0
  have hc0' : w.cell? ⟨b, off, none⟩ = some (.int .i64 u0) := hc0
  clear hc0
  have hlt1 : (0 : Int) < (n : Int) := by omega
  go_enter Try.func60, Try.ntmps60
  go_wp2
  go_loop [3, 4] (fun m i => ∃ k : Nat, 1 ≤ k ∧ k ≤ n ∧ i = .int .i64 k ∧ m = .int .i64 (mostOf (xs.take k))) (fun _ i => n - (intOf i).toNat)
  case atStart => exact ⟨1, Nat.le_refl _, h1, rfl, by rw [← HX.out]⟩
  case round =>
    obtain ⟨k, hk1, hk, rfl, rfl⟩ := hrel
    by_cases hlt : k < n
    · obtain ⟨b', off', u, hA, _, _, hx, hc⟩ := hs.at_ (k := k) (by rw [HN.out]; exact hlt)
      obtain ⟨rfl, rfl⟩ : b = b' ∧ off = off' := by injection hA with hA; injection hA with h1 h2; exact ⟨h1, h2⟩
      clear hA
      have HM := Lib.hid (most_take xs hx)
      clear hx
      obtain ⟨q, hq⟩ : ∃ q, q = mostOf (xs.take k) := ⟨_, rfl⟩
      rw [← hq] at HM
      rw [← hq]
      clear hq
      go_wp2
      go_round
      case rel => exact ⟨k + 1, by omega, by omega, by go_num, by rw [← HM.out]; congr 1; split <;> omega⟩
      case measure => simp [intOf]; omega
    · obtain rfl : k = n := by omega
      go_wp2
      go_ret
      exact ⟨by rw [← HN.out, List.take_length]; rfl, rfl⟩

/-- Only block 'g' may have turned of what was there. -/
abbrev At (g : Nat) : Nat → Prop := fun b => b = g

set_option maxHeartbeats 1000000 in
theorem open_any (g T : Nat) (fs : List Int) (x : Int) (w : World) (h : Arr w g T (shL fs)) (hl : fs.length < 12) :
    Calls Try.prog 59 #[.pointer (some ⟨g, 0, none⟩), .int .i64 x] w fun e w' => e = .returned (.tuple #[]) ∧ Arr w' g T (shL (fs ++ [x])) ∧ Only (At g) w w' := by
  have c0 := h.cell (shL_zero fs)
  have f0 := h.frozen 0
  have f1 := h.frozen (1 + fs.length)
  obtain ⟨u, hu, c1⟩ := h.at_ (k := 1 + fs.length) (by rw [shL_len (by omega)]; omega)
  obtain ⟨m, hm⟩ : ∃ m, m = fs.length := ⟨_, rfl⟩
  rw [← hm] at c0 f1 c1 hl
  have HM := Lib.hid hm
  clear hm hu
  go_enter Try.func59, Try.ntmps59
  go_wp2
  go_region
  all_goals go_wp2
  all_goals go_end0
  all_goals exact ⟨rfl, by have := (h.set (1 + m) x).set 0 ((m : Int) + 1); rw [HM.out, shL_next (by rw [← HM.out]; exact hl)] at this; rw [HM.out]; exact this, ((Only.refl (At g) w).setCell (p := ⟨g, 1 + m, none⟩) rfl _ |>.setCell (p := ⟨g, 0, none⟩) rfl _).drew⟩
end Go.Proofs.Ytmdeijjlcebmaaa
