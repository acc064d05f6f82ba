/-
  The written program's squares by the first best cuts, greatest first.
  Conditions: none.
-/
import Derived.Test.YtjpejhpilfjheaaSqP
import Derived.Test.YtjpejhpilfjheaaSqS
import Derived.Test.YtjpejhpilfjheaaBdQ
import Derived.Test.YtjpejhpilfjheaaSomeN
namespace Go.Proofs.Ytjpejhpilfjheaa
set_option linter.unusedVariables false
set_option linter.unusedSimpArgs false
open Go.RowKit

/-- The sides, greatest first. -/
def sbL (x y : Int) : List Int := fallD (sqL x.toNat y.toNat)
theorem sbL_len {x y : Int} (h : bdB x y = true) : (sbL x y).length ≤ 576 := by
  obtain ⟨a, b, rfl, rfl, ⟨a1, a2⟩, b1, b2⟩ := bdB_nat h
  rw [sbL, fallD_len, Int.toNat_natCast, Int.toNat_natCast]
  exact sqL_bd a b a1 a2 b1 b2
set_option maxRecDepth 100000 in
set_option maxHeartbeats 1000000 in
theorem impl_SquaresByCuts (x y : Int) (w : World) (q : Bool) (hq : bdB x y = q) :
    Calls Try.prog 25 #[.int .i64 x, .int .i64 y] w (RetL q (someN q (sbL x y)) w) := by
  have hbd : ∀ (W : World) (x y : Int), (Instr.build 55 #[(0, .int .i64 x), (1, .int .i64 y)]).run Try.prog W = .ok (.agg #[.int .i64 x, .int .i64 y]) W := fun W x y => run_build W 55 _ _ (by kernel_rfl)
  have hb0 := (Below.refl w.heap.size w).alloc (Nat.le_refl _) (.cells #[.int .i64 x, .int .i64 y] 55)
  have hx0 := new_at w (.cells #[.int .i64 x, .int .i64 y] 55) rfl
  have HB0 := Lib.hid hb0
  have HX0 := Lib.hid hx0
  clear hb0 hx0
  cases q
  · go_enter Try.func25, Try.ntmps25
    go_wp2_with fail
    refine (isBoard_any x y _ false hq).mono ?_
    rintro e w1 ⟨rfl, hb1⟩
    go_wp2
    go_ret2
    exact ⟨none, 0, 0, rfl, rfl, Own.nil_, HB0.out.trans (hb1.mono (by simp))⟩
  · obtain ⟨a, b, rfl, rfl, ⟨a1, a2⟩, b1, b2⟩ := bdB_nat hq
    have HQ := Lib.hid hq
    clear hq
    go_enter Try.func25, Try.ntmps25
    go_wp2_with fail
    refine (isBoard_any _ _ _ true HQ.out).mono ?_
    rintro e w1 ⟨rfl, hb1⟩
    have hx1 := (hb1.block w.heap.size (by simp)).trans HX0.out
    have HB1 := Lib.hid (HB0.out.trans (hb1.mono (by simp)))
    clear hb1 hbd
    have c0 := cell_of hx1 0
    have c1 := cell_of hx1 1
    go_wp2_with fail
    refine (few_all a b _ a1 a2 b1 b2).mono ?_
    rintro e w2 ⟨X, rfl, hW, hb2⟩
    have hx2 := (hb2.block w.heap.size (heap_lt hx1)).trans hx1
    have HB2 := Lib.hid (HB1.out.trans (hb2.mono HB1.out.size))
    have hz2 : w.heap.size < w2.heap.size := heap_lt hx2
    clear hx1 c0 c1 hb2
    obtain ⟨W3, hW3⟩ : ∃ W3, ((w2.alloc (.cells #[.func (.func 75) #[] #[.pointer (some ⟨X, 0, none⟩)]] 57)).alloc (.cells #[.slice none 0 0] 31)).alloc (.cells #[.func (.func 48) #[] #[.pointer (some ⟨w2.heap.size + 1, 0, none⟩), .pointer (some ⟨w2.heap.size, 0, none⟩), .pointer (some ⟨w2.heap.size + 1 + 1, 0, none⟩)]] 70) = W3 := ⟨_, rfl⟩
    have hb3 : Below w2.heap.size w2 W3 := by rw [← hW3]; exact (((Below.refl _ _).alloc (Nat.le_refl _) _).alloc (by simp) _).alloc (by simp; omega) _
    have hz3 : w2.heap.size + 3 ≤ W3.heap.size := by rw [← hW3]; simp
    have hF : W3.heap[w2.heap.size]? = some (.cells #[.func (.func 75) #[] #[.pointer (some ⟨X, 0, none⟩)]] 57 (0, 0)) := by rw [← hW3]; exact (alloc_old _ (by simp; omega) _).trans ((alloc_old _ (by simp) _).trans (new_at _ _ rfl))
    have hS : W3.heap[w2.heap.size + 1]? = some (.cells #[.slice none 0 0] 31 (0, 0)) := by rw [← hW3]; exact (alloc_old _ (by simp) _).trans (new_at _ _ (by simp))
    have hP : W3.heap[w2.heap.size + 1 + 1]? = some (.cells #[.func (.func 48) #[] #[.pointer (some ⟨w2.heap.size + 1, 0, none⟩), .pointer (some ⟨w2.heap.size, 0, none⟩), .pointer (some ⟨w2.heap.size + 1 + 1, 0, none⟩)]] 70 (0, 0)) := by rw [← hW3]; exact new_at _ _ (by simp)
    have HST := Lib.hid (show St a b X w2.heap.size w2.heap.size (w2.heap.size + 1) (w2.heap.size + 1 + 1) (w2.heap.size + 3) W3 (.slice none 0 0) 0 [] from ⟨hW.below hb3 (Nat.le_refl _), hF, hP, hS, World.ownsRow_nil _ _ _ _, hz3⟩)
    have hx3 := (hb3.block w.heap.size hz2).trans hx2
    have b0 := cell_of hx3 0
    have b1' := cell_of hx3 1
    have p0 := cell_of hP 0
    have HB3 := Lib.hid (HB2.out.trans (hb3.mono (by omega)))
    rw [← hW3] at b0 b1' p0
    have HW3 := Lib.hid hW3
    have hsl := sqL_bd a b a1 a2 b1 b2
    have c0 := cell_of hx2 0
    have c1 := cell_of hx2 1
    clear hW3 hb3 hF hS hP hx3 hW hx2
    go_wp2_with fail
    rw [HW3.out]
    clear b0 b1' p0 c0 c1
    refine (part_any a b X w2.heap.size w2.heap.size (w2.heap.size + 1) (w2.heap.size + 1 + 1) (w2.heap.size + 3) a2 b2 (by omega) (by omega) (by omega) (by omega) (a + b) a b (Nat.le_refl _) a1 (Nat.le_refl _) b1 (Nat.le_refl _) W3 (.slice none 0 0) 0 [] HST.out (by omega)).mono ?_
    rintro e w4 ⟨rfl, v4, m4, hst4, ho4, hl4⟩
    rw [List.nil_append] at hst4
    obtain ⟨A4, c4, rfl⟩ := ownsRow_form hst4.own
    have hm4 : m4 = (sqL a b).length := by have h := hst4.own.1; simp at h; omega
    have hm5 : m4 ≤ 576 := by omega
    have HM4 := Lib.hid hm4
    clear hm4
    have HB4 := Lib.hid (HB3.out.trans (ho4.below (B := w.heap.size) HB3.out.size (fun k hk => by
      rcases hk with hk | hk
      · omega
      · have := (HST.out.own.lt k hk).1; omega)))
    have HS4 := Lib.hid hst4
    have s0 := cell_of hst4.sides 0
    clear hst4 ho4 hl4
    go_wp2_with fail
    refine (sortOwn_any A4 m4 c4 (w2.heap.size + 3) (sqL a b) w4 (by omega) HS4.out.own).mono ?_
    rintro e w5 ⟨rfl, hown5, hb5⟩
    have hsd5 := (hb5.block (w2.heap.size + 1) (by omega)).trans HS4.out.sides
    have HB5 := Lib.hid (HB4.out.trans (hb5.mono (by omega)))
    have HO5 := Lib.hid hown5
    clear s0 hown5 hb5
    have s0 := cell_of hsd5 0
    go_wp2_with fail
    refine (revOwn_any A4 m4 c4 (w2.heap.size + 3) _ w5 (by omega) HO5.out).mono ?_
    rintro e w6 ⟨rfl, hown6, hb6⟩
    have hsd6 := (hb6.block (w2.heap.size + 1) (by omega)).trans hsd5
    have HB6 := Lib.hid (HB5.out.trans (hb6.mono (by omega)))
    rw [sort_falls] at hown6
    have HLN := Lib.hid (show (fallD (sqL a b)).length = m4 by rw [fallD_len, HM4.out])
    have HO6 := Lib.hid (ownsRow_own (ys := fallD (sqL a b)) (by rw [HLN.out]; exact hown6)).2
    clear s0 hown6 hb6 hsd5
    have s0 := cell_of hsd6 0
    clear hsd6
    go_wp2
    go_ret2
    have e : sbL (a : Int) (b : Int) = fallD (sqL a b) := by rw [sbL, Int.toNat_natCast, Int.toNat_natCast]
    exact ⟨A4, m4, c4, rfl, by rw [e]; exact HLN.out, by rw [e]; exact HO6.out.more (by omega) (Nat.le_refl _), HB6.out⟩
end Go.Proofs.Ytjpejhpilfjheaa
