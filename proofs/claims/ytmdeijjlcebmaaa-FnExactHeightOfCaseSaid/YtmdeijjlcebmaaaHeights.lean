/-
  The written program's heights of shelves.
  Conditions: at most twelve books.
-/
import Derived.Test.YtmdeijjlcebmaaaShelfLists
import Derived.Test.YtmdeijjlcebmaaaShelfClone
namespace Go.Proofs.Ytmdeijjlcebmaaa
set_option linter.unusedVariables false
open Go.RowKit

/-- Twelve numbers that begin with a list. -/
def pad12 (xs : List Int) : List Int := xs ++ List.replicate (12 - xs.length) 0

theorem pad12_len {xs : List Int} (h : xs.length ≤ 12) : (pad12 xs).length = 12 := by simp [pad12]; omega

theorem pad12_sum (xs : List Int) : (pad12 xs).sum = xs.sum := by
  have : ∀ k : Nat, (List.replicate k (0 : Int)).sum = 0 := by
    intro k
    induction k with
    | zero => rfl
    | succ k ih => rw [List.replicate_succ, List.sum_cons, ih]; rfl
  rw [pad12, List.sum_append, this]
  omega

/-- While a shelf is looked through: the heights of the shelves before, and the greatest height so far. -/
theorem pad12_set {xs : List Int} {k : Nat} {u v : Int} (hk : k < 12) (hl : xs.length = k) : (pad12 (xs ++ [u])).set k v = pad12 (xs ++ [v]) := by
  subst hl
  unfold pad12
  rw [List.set_append_left _ _ (by simp)]
  congr 1
  · rw [List.set_append_right _ _ (Nat.le_refl _)]; simp
  · simp

theorem pad12_zero {xs : List Int} (hl : xs.length < 12) : pad12 (xs ++ [0]) = pad12 xs := by
  obtain ⟨m, hm⟩ : ∃ m, 12 - xs.length = m + 1 := ⟨12 - xs.length - 1, by omega⟩
  have h2 : 12 - (xs ++ [(0 : Int)]).length = m := by simp; omega
  unfold pad12
  rw [h2, hm, List.replicate_succ]
  simp

theorem pad12_at {xs : List Int} {k : Nat} {u : Int} (hl : xs.length = k) : (pad12 (xs ++ [u]))[k]? = some u := by
  subst hl
  unfold pad12
  rw [List.getElem?_append_left (by simp), List.getElem?_append_right (Nat.le_refl _)]
  simp

theorem ints_12 {l : List Int} (h : l.length = 12) : ∃ u0 u1 u2 u3 u4 u5 u6 u7 u8 u9 u10 u11, l = [u0, u1, u2, u3, u4, u5, u6, u7, u8, u9, u10, u11] := by
  match l, h with
  | [u0, u1, u2, u3, u4, u5, u6, u7, u8, u9, u10, u11], _ => exact ⟨u0, u1, u2, u3, u4, u5, u6, u7, u8, u9, u10, u11, rfl⟩

theorem cells_each12 {w : World} {g T : Nat} {u0 u1 u2 u3 u4 u5 u6 u7 u8 u9 u10 u11 : Value} (h : w.heap[g]? = some (.cells #[u0, u1, u2, u3, u4, u5, u6, u7, u8, u9, u10, u11] T (0, 0))) :
    w.cell? ⟨g, 0, none⟩ = some u0 ∧ w.cell? ⟨g, 1, none⟩ = some u1 ∧ w.cell? ⟨g, 2, none⟩ = some u2 ∧ w.cell? ⟨g, 3, none⟩ = some u3 ∧ w.cell? ⟨g, 4, none⟩ = some u4 ∧ w.cell? ⟨g, 5, none⟩ = some u5 ∧ w.cell? ⟨g, 6, none⟩ = some u6 ∧ w.cell? ⟨g, 7, none⟩ = some u7 ∧ w.cell? ⟨g, 8, none⟩ = some u8 ∧ w.cell? ⟨g, 9, none⟩ = some u9 ∧ w.cell? ⟨g, 10, none⟩ = some u10 ∧ w.cell? ⟨g, 11, none⟩ = some u11 :=
  ⟨cell_of h 0, cell_of h 1, cell_of h 2, cell_of h 3, cell_of h 4, cell_of h 5, cell_of h 6, cell_of h 7, cell_of h 8, cell_of h 9, cell_of h 10, cell_of h 11⟩
theorem frozen_each12 {w : World} {g T : Nat} {cs : Array Value} (h : w.heap[g]? = some (.cells cs T (0, 0))) :
    w.frozen? ⟨g, 0, none⟩ = false ∧ w.frozen? ⟨g, 1, none⟩ = false ∧ w.frozen? ⟨g, 2, none⟩ = false ∧ w.frozen? ⟨g, 3, none⟩ = false ∧ w.frozen? ⟨g, 4, none⟩ = false ∧ w.frozen? ⟨g, 5, none⟩ = false ∧ w.frozen? ⟨g, 6, none⟩ = false ∧ w.frozen? ⟨g, 7, none⟩ = false ∧ w.frozen? ⟨g, 8, none⟩ = false ∧ w.frozen? ⟨g, 9, none⟩ = false ∧ w.frozen? ⟨g, 10, none⟩ = false ∧ w.frozen? ⟨g, 11, none⟩ = false :=
  ⟨frozen_of h 0, frozen_of h 1, frozen_of h 2, frozen_of h 3, frozen_of h 4, frozen_of h 5, frozen_of h 6, frozen_of h 7, frozen_of h 8, frozen_of h 9, frozen_of h 10, frozen_of h 11⟩

theorem below_set12 {B g : Nat} {a w : World} (h : Below B a w) (hg : B ≤ g) (u0 u1 u2 u3 u4 u5 u6 u7 u8 u9 u10 u11 : Value) :
    Below B a ((((((((((((w.setCell ⟨g, 0, none⟩ u0).setCell ⟨g, 1, none⟩ u1).setCell ⟨g, 2, none⟩ u2).setCell ⟨g, 3, none⟩ u3).setCell ⟨g, 4, none⟩ u4).setCell ⟨g, 5, none⟩ u5).setCell ⟨g, 6, none⟩ u6).setCell ⟨g, 7, none⟩ u7).setCell ⟨g, 8, none⟩ u8).setCell ⟨g, 9, none⟩ u9).setCell ⟨g, 10, none⟩ u10).setCell ⟨g, 11, none⟩ u11) :=
  ((((((((((((h.setCell (p := ⟨g, 0, none⟩) hg _).setCell (p := ⟨g, 1, none⟩) hg _).setCell (p := ⟨g, 2, none⟩) hg _).setCell (p := ⟨g, 3, none⟩) hg _).setCell (p := ⟨g, 4, none⟩) hg _).setCell (p := ⟨g, 5, none⟩) hg _).setCell (p := ⟨g, 6, none⟩) hg _).setCell (p := ⟨g, 7, none⟩) hg _).setCell (p := ⟨g, 8, none⟩) hg _).setCell (p := ⟨g, 9, none⟩) hg _).setCell (p := ⟨g, 10, none⟩) hg _).setCell (p := ⟨g, 11, none⟩) hg _)

/-- Twelve heights, each told. -/
def RetH (xs : List Int) (w : World) (e : Ending) (w' : World) : Prop :=
  ∃ u0 u1 u2 u3 u4 u5 u6 u7 u8 u9 u10 u11 : Int, e = .returned (.agg #[.int .i64 u0, .int .i64 u1, .int .i64 u2, .int .i64 u3, .int .i64 u4, .int .i64 u5, .int .i64 u6, .int .i64 u7, .int .i64 u8, .int .i64 u9, .int .i64 u10, .int .i64 u11]) ∧ pad12 xs = [u0, u1, u2, u3, u4, u5, u6, u7, u8, u9, u10, u11] ∧ Below w.heap.size w w'

set_option maxHeartbeats 4000000 in
theorem heights_any (b off n c : Nat) (bs : List (Int × Int)) (qs : List Nat) (v0 v1 v2 v3 v4 v5 v6 v7 v8 v9 v10 v11 v12 : Int) (lo hi : Nat) (w : World) (hbl : bs.length = n) (hc : n ≤ c) (hcs : Cells13 #[.int .i64 v0, .int .i64 v1, .int .i64 v2, .int .i64 v3, .int .i64 v4, .int .i64 v5, .int .i64 v6, .int .i64 v7, .int .i64 v8, .int .i64 v9, .int .i64 v10, .int .i64 v11, .int .i64 v12] qs) (hr : Rise n qs) (hg : partB bs)
    (hs : Seg w lo hi (some ⟨b, off, none⟩) (flat bs)) (hB : hi ≤ w.heap.size) :
    Calls Try.prog 41 #[.agg #[.int .i64 v0, .int .i64 v1, .int .i64 v2, .int .i64 v3, .int .i64 v4, .int .i64 v5, .int .i64 v6, .int .i64 v7, .int .i64 v8, .int .i64 v9, .int .i64 v10, .int .i64 v11, .int .i64 v12], .slice (some ⟨b, off, none⟩) n c] w (RetH (heightsK bs qs) w) := by
  have hn : n ≤ 12 := by have := hg.1; omega
  have hl12 := hr.len
  have hz0 := hcs.zero
  obtain ⟨m, hm⟩ : ∃ m, m = qs.length := ⟨_, rfl⟩
  rw [← hm] at hl12 hz0
  obtain rfl : v0 = (m : Int) := by simpa using hz0
  have HC := Lib.hid hcs
  have HR := Lib.hid hr
  have HG := Lib.hid hg
  have HL := Lib.hid hbl
  have HM := Lib.hid hm
  clear hcs hr hg hbl hm hz0
  go_enter Try.func41, Try.ntmps41
  go_wp2
  go_loopw [6, 8, 11] (fun _ _ i wr => ∃ k : Nat, k ≤ m ∧ i = .int .i64 k ∧ Below w.heap.size w wr ∧ wr.heap[w.heap.size]? = some (.cells #[.int .i64 (m : Int), .int .i64 v1, .int .i64 v2, .int .i64 v3, .int .i64 v4, .int .i64 v5, .int .i64 v6, .int .i64 v7, .int .i64 v8, .int .i64 v9, .int .i64 v10, .int .i64 v11, .int .i64 v12] 51 (0, 0)) ∧
    wr.heap[w.heap.size + 1]? = some (.cells #[.int .i64 0, .int .i64 0, .int .i64 0, .int .i64 0, .int .i64 0, .int .i64 0, .int .i64 0, .int .i64 0, .int .i64 0, .int .i64 0, .int .i64 0, .int .i64 0] 59 (0, 0)) ∧
    Arr wr (w.heap.size + 1 + 1) 59 (pad12 ((heightsK bs qs).take k))) (fun _ _ i _ => m - (intOf i).toNat)
  case atStart => exact ⟨0, Nat.zero_le _, rfl, (((Below.refl _ _).alloc (Nat.le_refl _) _).alloc (by simp) _).alloc (by simp; omega) _, (alloc_old _ (by simp; omega) _).trans ((alloc_old _ (by simp) _).trans (new_at _ _ rfl)),
    (alloc_old _ (by simp) _).trans (new_at _ _ (by simp)), ⟨_, new_at _ _ (by simp), rfl⟩⟩
  case round =>
    obtain ⟨k, hk, rfl, hb, hbx, hz, har⟩ := hrel
    by_cases hlt : k < m
    · have hkq : k < qs.length := by have := HM.out; omega
      have hrq : Rise n qs := HR.out
      have he := hrq.ends hkq
      have HO := Lib.hid (booksOn_any b off n c qs _ k wr hc HC.out hrq hn hkq)
      have hat := heights_at bs hkq
      have hll : ((heightsK bs qs).take k).length = k := by rw [List.length_take, heights_length]; omega
      unfold partK at hat
      rw [HL.out] at hat
      obtain ⟨p, hpp⟩ : ∃ p, qs.getD k 0 = p := ⟨_, rfl⟩
      obtain ⟨r, hrr⟩ : ∃ r, endOf n qs k = r := ⟨_, rfl⟩
      rw [hpp, hrr] at he HO hat
      obtain ⟨pt, hpt⟩ : ∃ pt, (bs.take r).drop p = pt := ⟨_, rfl⟩
      rw [hpt] at hat
      have hpl : pt.length = r - p := by rw [← hpt, List.length_drop, List.length_take, HL.out]; omega
      have HPT := Lib.hid hpt
      have H2 := Lib.hid hpl
      have HT := Lib.hid (take_snoc hat)
      obtain ⟨hs0, hhs⟩ : ∃ hs0, (heightsK bs qs).take k = hs0 := ⟨_, rfl⟩
      rw [hhs] at HT hll har
      have HLL := Lib.hid hll
      rw [← pad12_zero (by omega)] at har
      clear hkq hrq hpp hrr hpt hpl hat hhs hll
      obtain ⟨q0, q1, q2, q3, q4, q5, q6, q7, q8, q9, q10, q11, q12⟩ := cells_each hbx
      have HBX := Lib.hid hbx
      have HZ := Lib.hid hz
      have hwr2 := har.lt
      clear hbx hz
      go_wp2_with fail
      refine HO.out.mono ?_
      rintro e w1 ⟨rfl, hb1⟩
      have hs1 := ((hs.below hb hB).below hb1 (Nat.le_trans hB hb.size)).cut p r
      rw [HPT.out] at hs1
      have hbb := hb.trans (hb1.mono hb.size)
      have hx1 := (hb1.block _ (heap_lt HBX.out)).trans HBX.out
      have hz1 := (hb1.block _ (heap_lt HZ.out)).trans HZ.out
      have har1 := har.keep (hb1.block _ har.lt)
      have H1 := Lib.hid hs1
      have HX1 := Lib.hid hx1
      have HZ1 := Lib.hid hz1
      have hw12 := har1.lt
      clear q0 q1 q2 q3 q4 q5 q6 q7 q8 q9 q10 q11 q12 HBX HZ har hs1 hx1 hz1 HO
      go_wp2
      go_loopw [8, 19] (fun _ i wr => ∃ j : Nat, j ≤ r - p ∧ i = .int .i64 j ∧ Below w.heap.size w wr ∧ wr.heap[w.heap.size]? = some (.cells #[.int .i64 (m : Int), .int .i64 v1, .int .i64 v2, .int .i64 v3, .int .i64 v4, .int .i64 v5, .int .i64 v6, .int .i64 v7, .int .i64 v8, .int .i64 v9, .int .i64 v10, .int .i64 v11, .int .i64 v12] 51 (0, 0)) ∧
        wr.heap[w.heap.size + 1]? = some (.cells #[.int .i64 0, .int .i64 0, .int .i64 0, .int .i64 0, .int .i64 0, .int .i64 0, .int .i64 0, .int .i64 0, .int .i64 0, .int .i64 0, .int .i64 0, .int .i64 0] 59 (0, 0)) ∧ Seg wr lo hi (some ⟨b, off + p * 2, none⟩) (flat pt) ∧
        Arr wr (w.heap.size + 1 + 1) 59 (pad12 (hs0 ++ [mostOf ((tls pt).take j)]))) (fun _ i _ => (r - p) - (intOf i).toNat)
      case atStart => exact ⟨0, Nat.zero_le _, rfl, hbb, HX1.out, HZ1.out, H1.out, har1⟩
      case round =>
        obtain ⟨j, hj, rfl, hbw, hbx, hz, hsg, har⟩ := hrel
        by_cases hjl : j < r - p
        · obtain ⟨b', off', t, u, hA, _, _, hx, hc0, hc1⟩ := hsg.book (k := j) (by rw [H2.out]; exact hjl)
          obtain ⟨rfl, rfl⟩ : b = b' ∧ off + p * 2 = off' := by injection hA with hA; injection hA with h1 h2; exact ⟨h1, h2⟩
          have HMX := Lib.hid (most_take _ (tls_at hx))
          have hc := har.cell (pad12_at HLL.out)
          have hfz := har.frozen k
          have HBX := Lib.hid hbx
          have HZ := Lib.hid hz
          have HAR := Lib.hid har
          have hlw := har.lt
          have hl0 := heap_lt hbx
          obtain ⟨mx, hmx⟩ : ∃ mx, mostOf ((tls pt).take j) = mx := ⟨_, rfl⟩
          rw [hmx] at HMX hc HAR
          have hv : (if mx < u then u else mx) = mostOf ((tls pt).take (j + 1)) := by rw [← HMX.out]; split <;> omega
          have HV := Lib.hid hv
          have hk12 : (k : Int) < 12 := by omega
          clear hA hx hbx hz hsg har hmx hv
          go_wp2
          go_region
          all_goals go_wp2
          go_roundw
          case rel =>
            have hbn : Below w.heap.size w (((wr.setCell ⟨w.heap.size + 1 + 1, k, none⟩ (.int .i64 (if mx < u then u else mx))).alloc (.cells #[.int .i64 t, .int .i64 u] 46)).drew) :=
              ((hbw.setCell (p := ⟨w.heap.size + 1 + 1, k, none⟩) (by show _ ≤ w.heap.size + 1 + 1; omega) _).alloc (by simp [World.setCell]; omega) _).drew
            have hsn := (hs.below hbn hB).cut p r
            rw [HPT.out] at hsn
            refine ⟨j + 1, by omega, by go_num, hbn, ?_, ?_, hsn, ?_⟩
            · exact (alloc_old _ (by simp [World.setCell]; omega) _).trans ((set_far _ (by show w.heap.size ≠ w.heap.size + 1 + 1; omega) _).trans HBX.out)
            · exact (alloc_old _ (by simp [World.setCell]; omega) _).trans ((set_far _ (by show w.heap.size + 1 ≠ w.heap.size + 1 + 1; omega) _).trans HZ.out)
            · have := (HAR.out.set k (if mx < u then u else mx)).alloc (.cells #[.int .i64 t, .int .i64 u] 46)
              rw [pad12_set (by omega) HLL.out, HV.out] at this
              rw [HV.out]
              exact this
          case measure => simp [intOf]; omega
        · obtain rfl : j = r - p := by omega
          rw [List.take_of_length_le (by rw [tls_length, H2.out]; exact Nat.le_refl _), ← HT.out] at har
          have HAR := Lib.hid har
          clear har hsg
          go_wp2
          go_roundw
          case rel => exact ⟨k + 1, by omega, by go_num, hbw, hbx, hz, HAR.out⟩
          case measure => simp [intOf]; omega
    · obtain rfl : k = m := by omega
      rw [List.take_of_length_le (by rw [heights_length]; have := HM.out; omega)] at har
      have hav := arr_vals har
      obtain ⟨u0, u1, u2, u3, u4, u5, u6, u7, u8, u9, u10, u11, hsl⟩ := ints_12 (pad12_len (xs := heightsK bs qs) (by rw [heights_length]; have := HM.out; omega))
      have hcs : ((pad12 (heightsK bs qs)).map (Value.int .i64)).toArray = #[.int .i64 u0, .int .i64 u1, .int .i64 u2, .int .i64 u3, .int .i64 u4, .int .i64 u5, .int .i64 u6, .int .i64 u7, .int .i64 u8, .int .i64 u9, .int .i64 u10, .int .i64 u11] := by rw [hsl]; rfl
      rw [hcs] at hav
      have HSL := Lib.hid hsl
      obtain ⟨p0, p1, p2, p3, p4, p5, p6, p7, p8, p9, p10, p11⟩ := cells_each12 hav
      obtain ⟨q0, q1, q2, q3, q4, q5, q6, q7, q8, q9, q10, q11⟩ := cells_each12 hz
      obtain ⟨g0, g1, g2, g3, g4, g5, g6, g7, g8, g9, g10, g11⟩ := frozen_each12 hz
      clear hcs hav hsl har hz hbx
      go_wp2
      refine bodyPost_ret (v := .agg #[.int .i64 u0, .int .i64 u1, .int .i64 u2, .int .i64 u3, .int .i64 u4, .int .i64 u5, .int .i64 u6, .int .i64 u7, .int .i64 u8, .int .i64 u9, .int .i64 u10, .int .i64 u11]) (by simp [results, Try.results41, go_sem, q0, q1, q2, q3, q4, q5, q6, q7, q8, q9, q10, q11]) rfl ⟨u0, u1, u2, u3, u4, u5, u6, u7, u8, u9, u10, u11, rfl, HSL.out, ?_⟩
      exact below_set12 hb (by omega) _ _ _ _ _ _ _ _ _ _ _ _
end Go.Proofs.Ytmdeijjlcebmaaa
