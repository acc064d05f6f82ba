/-
  Sheets: what both programs ask of a board and its pieces, the written program's sheet and its value, and both programs' best value.
  Conditions: none.
-/
import Derived.Test.YtjpejhpilfjheaaBdS2
import Derived.Test.YtjpejhpilfjheaaBdT2
import Derived.Test.YtjpejhpilfjheaaPcGood
import Derived.Laws.EntriesVeiled
namespace Go.Proofs.Ytjpejhpilfjheaa
set_option linter.unusedVariables false
open Go.RowKit

/-- What is asked. -/
def askP (x y : Int) (ps : List (Int × Int × Int)) : Bool := bdB x y && goodPc ps
theorem askP_true {x y : Int} {ps : List (Int × Int × Int)} : askP x y ps = true ↔ bdB x y = true ∧ goodPc ps = true := by simp [askP]
/-- The value that is told of a board. -/
def bpN (ps : List (Int × Int × Int)) (tu : Bool) (x y : Int) : Int := if askP x y ps = true then valB ps tu x.toNat y.toNat else 0
theorem bpN_no {ps : List (Int × Int × Int)} {tu : Bool} {x y : Int} (h : askP x y ps = false) : bpN ps tu x y = 0 := by rw [bpN, h]; rfl
theorem bpN_yes {ps : List (Int × Int × Int)} {tu : Bool} {a b : Nat} (h : askP (a : Int) (b : Int) ps = true) : bpN ps tu (a : Int) (b : Int) = valB ps tu a b := by rw [bpN, if_pos h]; rfl

set_option maxHeartbeats 1000000 in
theorem bdAsked_any (x y : Int) (C0 : Option Addr) (np cp0 : Nat) (ps : List (Int × Int × Int)) (lo hi : Nat) (w : World) (hn : ps.length = np) (hlen : np ≤ 1048576) (hs : Seg w lo hi C0 (flat3 ps)) (hB : hi ≤ w.heap.size) (q : Bool) (hq : askP x y ps = q) :
    Calls Try.prog 32 #[.int .i64 x, .int .i64 y, .slice C0 np cp0] w fun e w' => e = .returned (.bool q) ∧ Below w.heap.size w w' := by
  cases h1 : bdB x y
  · obtain rfl : q = false := by rw [← hq]; simp [askP, h1]
    clear hq
    go_enter Try.func32, Try.ntmps32
    go_wp2_with fail
    refine (bdGood_p x y _ false h1).mono ?_
    rintro e w1 ⟨rfl, rfl⟩
    go_wp2
    go_ret
    exact ⟨rfl, Below.refl _ _⟩
  · have h2 : goodPc ps = q := by rw [← hq]; simp [askP, h1]
    have HG := Lib.hid (bdPieces_any C0 np cp0 ps lo hi w hn hlen hs hB q h2)
    clear hq hn hs h2
    go_enter Try.func32, Try.ntmps32
    go_wp2_with fail
    refine (bdGood_p x y _ true h1).mono ?_
    rintro e w1 ⟨rfl, rfl⟩
    go_wp2_with fail
    refine HG.out.mono ?_
    rintro e w1 ⟨rfl, hb⟩
    go_wp2
    go_ret
    exact ⟨rfl, hb⟩

theorem built_sheet (x y : Int) (A : Option Addr) (n c : Nat) (tu : Bool) (W : World) : (Instr.build 59 #[(0, .agg #[.int .i64 x, .int .i64 y]), (1, .slice A n c), (2, .bool tu)]).run Try.prog W = .ok (.agg #[.int .i64 x, .int .i64 y, .slice A n c, .bool tu, .nilFunc]) W := run_build W 59 _ _ (by kernel_rfl)
theorem built_none (W : World) : (Instr.build 59 #[]).run Try.prog W = .ok (.agg #[.int .i64 0, .int .i64 0, .slice none 0 0, .bool false, .nilFunc]) W := run_build W 59 _ _ (by kernel_rfl)
theorem built_board (x y : Int) (W : World) : (Instr.build 55 #[(0, .int .i64 x), (1, .int .i64 y)]).run Try.prog W = .ok (.agg #[.int .i64 x, .int .i64 y]) W := run_build W 55 _ _ (by kernel_rfl)

theorem set_five {w : World} {p T : Nat} {a b c d e : Value} (h : w.heap[p]? = some (.cells #[a, b, c, d, e] T (0, 0))) (v0 v1 v2 v3 v4 : Value) : (((((w.setCell ⟨p, 0, none⟩ v0).setCell ⟨p, 1, none⟩ v1).setCell ⟨p, 2, none⟩ v2).setCell ⟨p, 3, none⟩ v3).setCell ⟨p, 4, none⟩ v4).heap[p]? = some (.cells #[v0, v1, v2, v3, v4] T (0, 0)) := by
  rw [set_self ((set_self ((set_self ((set_self ((set_self h 0 v0).trans rfl) 1 v1).trans rfl) 2 v2).trans rfl) 3 v3).trans rfl) 4 v4]
  rfl
theorem below_five {w w' : World} {b p : Nat} (h : Below b w w') (hp : b ≤ p) (v0 v1 v2 v3 v4 : Value) : Below b w (((((w'.setCell ⟨p, 0, none⟩ v0).setCell ⟨p, 1, none⟩ v1).setCell ⟨p, 2, none⟩ v2).setCell ⟨p, 3, none⟩ v3).setCell ⟨p, 4, none⟩ v4) :=
  ((((h.setCell (p := ⟨p, 0, none⟩) hp v0).setCell (p := ⟨p, 1, none⟩) hp v1).setCell (p := ⟨p, 2, none⟩) hp v2).setCell (p := ⟨p, 3, none⟩) hp v3).setCell (p := ⟨p, 4, none⟩) hp v4

/-- How a sheet is answered. -/
def RetSh (x y : Int) (C0 : Option Addr) (np cp0 : Nat) (tu : Bool) (ps : List (Int × Int × Int)) (q : Bool) (w : World) (e : Ending) (w' : World) : Prop :=
  Below w.heap.size w w' ∧ ∃ v, e = .returned (.tuple #[v, .bool q]) ∧ (q = true → ∃ X, v = .agg #[.int .i64 x, .int .i64 y, .slice C0 np cp0, .bool tu, .func (.func 75) #[] #[.pointer (some ⟨X, 0, none⟩)]] ∧ Worth w' w'.heap.size X (valB ps tu) (fun a b => 1 ≤ a ∧ 1 ≤ b ∧ a ≤ x.toNat ∧ b ≤ y.toNat)) ∧ (q = false → v = .agg #[.int .i64 0, .int .i64 0, .slice none 0 0, .bool false, .nilFunc])

set_option maxRecDepth 100000 in
set_option maxHeartbeats 1000000 in
theorem sheetOf_any (x y : Int) (C0 : Option Addr) (np cp0 : Nat) (ps : List (Int × Int × Int)) (lo hi : Nat) (tu : Bool) (w : World) (hn : ps.length = np) (hlen : np ≤ 1048576) (hs : Seg w lo hi C0 (flat3 ps)) (hB : hi ≤ w.heap.size) (q : Bool) (hq : askP x y ps = q) :
    Calls Try.prog 37 #[.int .i64 x, .int .i64 y, .slice C0 np cp0, .bool tu] w (RetSh x y C0 np cp0 tu ps q w) := by
  have hbs := built_sheet
  have hbn := built_none
  have hbb := built_board
  obtain ⟨W0, hW0⟩ : ∃ W0, (((w.alloc (.cells #[.slice C0 np cp0] 34)).alloc (.cells #[.bool tu] 4)).alloc (.cells #[.int .i64 0, .int .i64 0, .slice none 0 0, .bool false, .nilFunc] 59)).alloc (.cells #[.int .i64 x, .int .i64 y, .slice C0 np cp0, .bool tu, .nilFunc] 59) = W0 := ⟨_, rfl⟩
  have hb0 : Below w.heap.size w W0 := by rw [← hW0]; exact ((((Below.refl w.heap.size w).alloc (Nat.le_refl _) _).alloc (by simp) _).alloc (by first | (simp; done) | (simp; omega)) _).alloc (by first | (simp; done) | (simp; omega)) _
  have hk0 : W0.heap[w.heap.size]? = some (.cells #[.slice C0 np cp0] 34 (0, 0)) := by rw [← hW0]; exact (alloc_old _ (by first | (simp; done) | (simp; omega)) _).trans ((alloc_old _ (by first | (simp; done) | (simp; omega)) _).trans ((alloc_old _ (by simp) _).trans (new_at _ _ rfl)))
  have hk1 : W0.heap[w.heap.size + 1]? = some (.cells #[.bool tu] 4 (0, 0)) := by rw [← hW0]; exact (alloc_old _ (by first | (simp; done) | (simp; omega)) _).trans ((alloc_old _ (by simp) _).trans (new_at _ _ (by simp)))
  have hk2 : W0.heap[w.heap.size + 1 + 1]? = some (.cells #[.int .i64 0, .int .i64 0, .slice none 0 0, .bool false, .nilFunc] 59 (0, 0)) := by rw [← hW0]; exact (alloc_old _ (by simp) _).trans (new_at _ _ (by simp))
  have hk3 : W0.heap[w.heap.size + 1 + 1 + 1]? = some (.cells #[.int .i64 x, .int .i64 y, .slice C0 np cp0, .bool tu, .nilFunc] 59 (0, 0)) := by rw [← hW0]; exact new_at _ _ (by simp)
  have HK0 := Lib.hid hk0
  have HK1 := Lib.hid hk1
  have HK2 := Lib.hid hk2
  have HK3 := Lib.hid hk3
  have HB0 := Lib.hid hb0
  have HW0 := Lib.hid hW0
  have HN := Lib.hid hn
  have HS := Lib.hid hs
  clear hk0 hk1 hk2 hk3 hb0 hW0 hn hs
  cases h1 : bdB x y
  · obtain rfl : q = false := by rw [← hq]; simp [askP, h1]
    clear hq
    go_enter Try.func37, Try.ntmps37
    go_wp2_with fail
    rw [HW0.out]
    refine (isBoard_any x y _ false h1).mono ?_
    rintro e w1 ⟨rfl, hb1⟩
    have HB1 := Lib.hid (HB0.out.trans (hb1.mono HB0.out.size))
    have hk2 := (hb1.block _ (heap_lt HK2.out)).trans HK2.out
    have HK2' := Lib.hid hk2
    have c0 := cell_of hk2 0
    have c1 := cell_of hk2 1
    have c2 := cell_of hk2 2
    have c3 := cell_of hk2 3
    have c4 := cell_of hk2 4
    have f0 := frozen_of hk2 0
    have f1 := frozen_of hk2 1
    have f2 := frozen_of hk2 2
    have f3 := frozen_of hk2 3
    have f4 := frozen_of hk2 4
    clear hb1 hbs hbb
    have hset := set_five hk2 (.int .i64 0) (.int .i64 0) (.slice none 0 0) (.bool false) .nilFunc
    have hbel := below_five (b := w.heap.size) (p := w.heap.size + 1 + 1) HB1.out (by omega) (.int .i64 0) (.int .i64 0) (.slice none 0 0) (.bool false) .nilFunc
    have HSET := Lib.hid hset
    have HBEL := Lib.hid hbel
    clear hset hbel hk2
    go_wp2
    have hset := HSET.out
    have hbel := HBEL.out
    clear HSET HBEL c0 c1 c2 c3 c4 f0 f1 f2 f3 f4
    generalize (((((w1.setCell ⟨w.heap.size + 1 + 1, 0, none⟩ (.int .i64 0)).setCell ⟨w.heap.size + 1 + 1, 1, none⟩ (.int .i64 0)).setCell ⟨w.heap.size + 1 + 1, 2, none⟩ (.slice none 0 0)).setCell ⟨w.heap.size + 1 + 1, 3, none⟩ (.bool false)).setCell ⟨w.heap.size + 1 + 1, 4, none⟩ .nilFunc) = W' at hset hbel ⊢
    have d0 := cell_of hset 0
    have d1 := cell_of hset 1
    have d2 := cell_of hset 2
    have d3 := cell_of hset 3
    have d4 := cell_of hset 4
    refine bodyPost_ret (v := .tuple #[.agg #[.int .i64 0, .int .i64 0, .slice none 0 0, .bool false, .nilFunc], .bool false]) (by simp [results, Try.results37, go_sem, d0, d1, d2, d3, d4]) rfl ⟨hbel, _, rfl, fun h => (by cases h), fun _ => rfl⟩
  · have h2 : goodPc ps = q := by rw [← hq]; simp [askP, h1]
    clear hq
    go_enter Try.func37, Try.ntmps37
    go_wp2_with fail
    rw [HW0.out]
    refine (isBoard_any x y _ true h1).mono ?_
    rintro e w1 ⟨rfl, hb1⟩
    have HB1 := Lib.hid (HB0.out.trans (hb1.mono HB0.out.size))
    have hk0 := (hb1.block _ (heap_lt HK0.out)).trans HK0.out
    have c0 := cell_of hk0 0
    have HB1' := Lib.hid hb1
    clear hb1 hk0
    go_wp2_with fail
    refine (arePieces_any C0 np cp0 ps lo hi w1 HN.out hlen (HS.out.below HB1.out hB) (by have := HB1.out.size; omega) q h2).mono ?_
    rintro e w2 ⟨rfl, hb2⟩
    clear c0
    have HB2 := Lib.hid (HB1.out.trans (hb2.mono HB1.out.size))
    have h12 := HB1'.out.trans (hb2.mono HB1'.out.size)
    have hk2 := (h12.block _ (heap_lt HK2.out)).trans HK2.out
    have hk3 := (h12.block _ (heap_lt HK3.out)).trans HK3.out
    have HK0' := Lib.hid ((h12.block _ (heap_lt HK0.out)).trans HK0.out)
    have HK1' := Lib.hid ((h12.block _ (heap_lt HK1.out)).trans HK1.out)
    have HK3' := Lib.hid hk3
    have HK2' := Lib.hid hk2
    clear hb2 h12 HB0 HB1 HB1' HW0 HK0 HK1 HK2 HK3
    cases q
    · have c0 := cell_of hk2 0
      have c1 := cell_of hk2 1
      have c2 := cell_of hk2 2
      have c3 := cell_of hk2 3
      have c4 := cell_of hk2 4
      have f0 := frozen_of hk2 0
      have f1 := frozen_of hk2 1
      have f2 := frozen_of hk2 2
      have f3 := frozen_of hk2 3
      have f4 := frozen_of hk2 4
      clear hk3 hbs hbb
      have hset := set_five hk2 (.int .i64 0) (.int .i64 0) (.slice none 0 0) (.bool false) .nilFunc
      have hbel := below_five (b := w.heap.size) (p := w.heap.size + 1 + 1) HB2.out (by omega) (.int .i64 0) (.int .i64 0) (.slice none 0 0) (.bool false) .nilFunc
      have HSET := Lib.hid hset
      have HBEL := Lib.hid hbel
      clear hset hbel hk2
      go_wp2
      have hset := HSET.out
      have hbel := HBEL.out
      clear HSET HBEL c0 c1 c2 c3 c4 f0 f1 f2 f3 f4
      generalize (((((w2.setCell ⟨w.heap.size + 1 + 1, 0, none⟩ (.int .i64 0)).setCell ⟨w.heap.size + 1 + 1, 1, none⟩ (.int .i64 0)).setCell ⟨w.heap.size + 1 + 1, 2, none⟩ (.slice none 0 0)).setCell ⟨w.heap.size + 1 + 1, 3, none⟩ (.bool false)).setCell ⟨w.heap.size + 1 + 1, 4, none⟩ .nilFunc) = W' at hset hbel ⊢
      have d0 := cell_of hset 0
      have d1 := cell_of hset 1
      have d2 := cell_of hset 2
      have d3 := cell_of hset 3
      have d4 := cell_of hset 4
      refine bodyPost_ret (v := .tuple #[.agg #[.int .i64 0, .int .i64 0, .slice none 0 0, .bool false, .nilFunc], .bool false]) (by simp [results, Try.results37, go_sem, d0, d1, d2, d3, d4]) rfl ⟨hbel, _, rfl, fun h => (by cases h), fun _ => rfl⟩
    · clear hk2
      have d0 := cell_of hk3 0
      have d1 := cell_of hk3 1
      have HD3 := Lib.hid hk3
      clear hk3
      obtain ⟨A, H, rfl, rfl, ⟨a1, a2⟩, b1, b2⟩ := bdB_nat h1
      have hbo := HB2.out.size
      go_wp2_with fail
      refine (valueV A H (w.heap.size) (w.heap.size + 1) (valB ps tu) w2 a1 a2 b1 b2 (fun w' B1 X a b hb a1' aA b1' bH hW hB1 => ?_)).mono ?_
      · exact sheet1_any a b B1 X (w.heap.size) (w.heap.size + 1) C0 np cp0 ps lo hi tu (valB ps tu) w' a1' (by omega) b1' (by omega) HN.out h2 ((hb.block _ (heap_lt HK0'.out)).trans HK0'.out) ((hb.block _ (heap_lt HK1'.out)).trans HK1'.out)
          ((HS.out.below HB2.out hB).below hb (by omega)) (by have := hb.size; omega) hW hB1
          (fun a' b' ha' hb' h => by have := valB_bd (goodPc_vals h2) tu _ a' b' (Nat.le_refl _) ha' hb'; have h2 : a' * b' ≤ 48 * 48 := Nat.mul_le_mul (by omega) (by omega); omega) _ (valB_eq ps tu a1' b1').symm
      · rintro e w3 ⟨X, rfl, hW, hb3⟩
        have hd3 := (hb3.block _ (heap_lt HD3.out)).trans HD3.out
        have hd2 := (hb3.block _ (heap_lt HK2'.out)).trans HK2'.out
        have HW := Lib.hid hW
        have HB3 := Lib.hid (HB2.out.trans (hb3.mono hbo))
        clear d0 d1 hb3 hW
        have e0 := frozen_of hd3 4
        have e1 := cell_of hd3 4
        have hset := set_self hd3 4 (.func (.func 75) #[] #[.pointer (some ⟨X, 0, none⟩)])
        have k0 := cell_of hset 0
        have k1 := cell_of hset 1
        have k2 := cell_of hset 2
        have k3 := cell_of hset 3
        have k4 := cell_of hset 4
        have hd2s := (set_far w3 (p := ⟨w.heap.size + 1 + 1 + 1, 4, none⟩) (g := w.heap.size + 1 + 1) (by show w.heap.size + 1 + 1 ≠ w.heap.size + 1 + 1 + 1; omega) (.func (.func 75) #[] #[.pointer (some ⟨X, 0, none⟩)])).trans hd2
        have j0 := cell_of hd2s 0
        have j1 := cell_of hd2s 1
        have j2 := cell_of hd2s 2
        have j3 := cell_of hd2s 3
        have j4 := cell_of hd2s 4
        have g0 := frozen_of hd2s 0
        have g1 := frozen_of hd2s 1
        have g2 := frozen_of hd2s 2
        have g3 := frozen_of hd2s 3
        have g4 := frozen_of hd2s 4
        have hset2 := set_five hd2s (.int .i64 (A : Int)) (.int .i64 (H : Int)) (.slice C0 np cp0) (.bool tu) (.func (.func 75) #[] #[.pointer (some ⟨X, 0, none⟩)])
        have hb4 := (Below.refl w3.heap.size w3)
        have hb5 : Below w.heap.size w (w3.setCell ⟨w.heap.size + 1 + 1 + 1, 4, none⟩ (.func (.func 75) #[] #[.pointer (some ⟨X, 0, none⟩)])) := HB3.out.setCell (p := ⟨w.heap.size + 1 + 1 + 1, 4, none⟩) (by show w.heap.size ≤ w.heap.size + 1 + 1 + 1; omega) _
        have hbel := below_five (b := w.heap.size) (p := w.heap.size + 1 + 1) hb5 (by omega) (.int .i64 (A : Int)) (.int .i64 (H : Int)) (.slice C0 np cp0) (.bool tu) (.func (.func 75) #[] #[.pointer (some ⟨X, 0, none⟩)])
        have HBEL := Lib.hid hbel
        have HSET := Lib.hid hset2
        clear hd2 hd3 hd2s hset2 hbel hb4 hb5 hset
        go_wp2
        have hset := HSET.out
        have hbel := HBEL.out
        have hl2 := heap_lt HD3.out
        have hmv : ∀ k, w2.heap.size ≤ k → k < ((((((w3.setCell ⟨w.heap.size + 1 + 1 + 1, 4, none⟩ (.func (.func 75) #[] #[.pointer (some ⟨X, 0, none⟩)])).setCell ⟨w.heap.size + 1 + 1, 0, none⟩ (.int .i64 (A : Int))).setCell ⟨w.heap.size + 1 + 1, 1, none⟩ (.int .i64 (H : Int))).setCell ⟨w.heap.size + 1 + 1, 2, none⟩ (.slice C0 np cp0)).setCell ⟨w.heap.size + 1 + 1, 3, none⟩ (.bool tu)).setCell ⟨w.heap.size + 1 + 1, 4, none⟩ (.func (.func 75) #[] #[.pointer (some ⟨X, 0, none⟩)])).heap.size → ((((((w3.setCell ⟨w.heap.size + 1 + 1 + 1, 4, none⟩ (.func (.func 75) #[] #[.pointer (some ⟨X, 0, none⟩)])).setCell ⟨w.heap.size + 1 + 1, 0, none⟩ (.int .i64 (A : Int))).setCell ⟨w.heap.size + 1 + 1, 1, none⟩ (.int .i64 (H : Int))).setCell ⟨w.heap.size + 1 + 1, 2, none⟩ (.slice C0 np cp0)).setCell ⟨w.heap.size + 1 + 1, 3, none⟩ (.bool tu)).setCell ⟨w.heap.size + 1 + 1, 4, none⟩ (.func (.func 75) #[] #[.pointer (some ⟨X, 0, none⟩)])).heap[k]? = w3.heap[k]? := fun k h1 _ => (set_far _ (by show k ≠ w.heap.size + 1 + 1; omega) _).trans ((set_far _ (by show k ≠ w.heap.size + 1 + 1; omega) _).trans ((set_far _ (by show k ≠ w.heap.size + 1 + 1; omega) _).trans ((set_far _ (by show k ≠ w.heap.size + 1 + 1; omega) _).trans ((set_far _ (by show k ≠ w.heap.size + 1 + 1; omega) _).trans (set_far _ (by show k ≠ w.heap.size + 1 + 1 + 1; omega) _)))))
        have hsz : ((((((w3.setCell ⟨w.heap.size + 1 + 1 + 1, 4, none⟩ (.func (.func 75) #[] #[.pointer (some ⟨X, 0, none⟩)])).setCell ⟨w.heap.size + 1 + 1, 0, none⟩ (.int .i64 (A : Int))).setCell ⟨w.heap.size + 1 + 1, 1, none⟩ (.int .i64 (H : Int))).setCell ⟨w.heap.size + 1 + 1, 2, none⟩ (.slice C0 np cp0)).setCell ⟨w.heap.size + 1 + 1, 3, none⟩ (.bool tu)).setCell ⟨w.heap.size + 1 + 1, 4, none⟩ (.func (.func 75) #[] #[.pointer (some ⟨X, 0, none⟩)])).heap.size = w3.heap.size := by simp
        clear HSET HBEL k0 k1 k2 k3 k4 j0 j1 j2 j3 j4 g0 g1 g2 g3 g4 e0 e1
        generalize ((((((w3.setCell ⟨w.heap.size + 1 + 1 + 1, 4, none⟩ (.func (.func 75) #[] #[.pointer (some ⟨X, 0, none⟩)])).setCell ⟨w.heap.size + 1 + 1, 0, none⟩ (.int .i64 (A : Int))).setCell ⟨w.heap.size + 1 + 1, 1, none⟩ (.int .i64 (H : Int))).setCell ⟨w.heap.size + 1 + 1, 2, none⟩ (.slice C0 np cp0)).setCell ⟨w.heap.size + 1 + 1, 3, none⟩ (.bool tu)).setCell ⟨w.heap.size + 1 + 1, 4, none⟩ (.func (.func 75) #[] #[.pointer (some ⟨X, 0, none⟩)])) = W' at hset hbel hmv hsz ⊢
        have d0 := cell_of hset 0
        have d1 := cell_of hset 1
        have d2 := cell_of hset 2
        have d3 := cell_of hset 3
        have d4 := cell_of hset 4
        refine bodyPost_ret (v := .tuple #[.agg #[.int .i64 (A : Int), .int .i64 (H : Int), .slice C0 np cp0, .bool tu, (.func (.func 75) #[] #[.pointer (some ⟨X, 0, none⟩)])], .bool true]) (by simp [results, Try.results37, go_sem, d0, d1, d2, d3, d4]) rfl ⟨hbel, _, rfl, fun _ => ⟨X, rfl, ?_⟩, fun h => (by cases h)⟩
        rw [hsz]
        exact HW.out W' (fun k h1 h2 => hmv k h1 (by rw [hsz]; exact h2))

set_option maxRecDepth 100000 in
set_option maxHeartbeats 1000000 in
theorem sheetValue_any (A H X : Nat) (C0 : Option Addr) (np cp0 : Nat) (tu : Bool) (t : Nat → Nat → Int) (w : World) (a1 : 1 ≤ A) (b1 : 1 ≤ H) (hW : Worth w w.heap.size X t (fun a b => 1 ≤ a ∧ 1 ≤ b ∧ a ≤ A ∧ b ≤ H)) (hbd : 0 ≤ t A H ∧ t A H ≤ 1000000000000001) (v : Int) (hv : t A H = v) :
    Calls Try.prog 58 #[.agg #[.int .i64 (A : Int), .int .i64 (H : Int), .slice C0 np cp0, .bool tu, .func (.func 75) #[] #[.pointer (some ⟨X, 0, none⟩)]]] w fun e w' => e = .returned (.int .i64 v) ∧ Below w.heap.size w w' := by
  have HW := Lib.hid hW
  have HV := Lib.hid hv
  clear hW hv
  go_enter Try.func58, Try.ntmps58
  go_wp2_with fail
  obtain ⟨W1, hW1⟩ : ∃ W1, w.alloc (.cells #[.int .i64 (A : Int), .int .i64 (H : Int), .slice C0 np cp0, .bool tu, .func (.func 75) #[] #[.pointer (some ⟨X, 0, none⟩)]] 59) = W1 := ⟨_, rfl⟩
  rw [hW1]
  have hb1 : Below w.heap.size w W1 := by rw [← hW1]; exact (Below.refl _ _).alloc (Nat.le_refl _) _
  have hz1 : W1.heap.size = w.heap.size + 1 := by rw [← hW1]; simp
  clear hW1
  have hnew : (W1.alloc (.cells #[.int .i64 (A : Int), .int .i64 (H : Int)] 55)).heap[w.heap.size + 1]? = some (.cells #[.int .i64 (A : Int), .int .i64 (H : Int)] 55 (0, 0)) := by rw [← hz1]; exact new_at W1 _ rfl
  refine (worth_any w.heap.size X (w.heap.size + 1) 1 1 t _ [(A, H)] _ ((HW.out.below hb1 (Nat.le_refl _)).below ((Below.refl _ _).alloc (Nat.le_refl _) _) (by omega)) (by simp; omega) rfl (by omega) (heap_lt hnew) (one_cell hnew) (fun p hp => ?_) (fun p hp => ?_) v (by rw [sumB_one]; exact HV.out)).mono ?_
  · simp at hp; subst hp; exact ⟨a1, b1, Nat.le_refl _, Nat.le_refl _⟩
  · simp at hp; subst hp; exact hbd
  rintro e w3 ⟨rfl, hb3⟩
  go_wp2
  go_ret
  exact ⟨rfl, (hb1.alloc (by omega) _).trans (hb3.mono (by simp; omega))⟩

set_option maxRecDepth 100000 in
set_option maxHeartbeats 1000000 in
theorem spec_BestValue (x y : Int) (C0 : Option Addr) (np cp0 : Nat) (ps : List (Int × Int × Int)) (lo hi : Nat) (tu : Bool) (w : World) (hn : ps.length = np) (hlen : np ≤ 1048576) (hs : Seg w lo hi C0 (flat3 ps)) (hB : hi ≤ w.heap.size) (q : Bool) (hq : askP x y ps = q) (v : Int) (hv : bpN ps tu x y = v) :
    Calls Try.prog 30 #[.int .i64 x, .int .i64 y, .slice C0 np cp0, .bool tu] w (RetI v q w) := by
  have HA := Lib.hid (bdAsked_any x y C0 np cp0 ps lo hi w hn hlen hs hB q hq)
  cases q
  · obtain rfl : v = 0 := by rw [← hv]; exact bpN_no hq
    clear hv hn hs hq
    go_enter Try.func30, Try.ntmps30
    go_wp2_with fail
    refine HA.out.mono ?_
    rintro e w1 ⟨rfl, hb1⟩
    go_wp2
    go_ret2
    exact ⟨rfl, hb1⟩
  · obtain ⟨h1, h2⟩ := askP_true.1 hq
    obtain ⟨a, b, rfl, rfl, ⟨a1, a2⟩, b1, b2⟩ := bdB_nat h1
    have hva : valB ps tu a b = v := by rw [← hv]; exact (bpN_yes hq).symm
    have hn4 := (goodPc_at h2).2.1
    have HN := Lib.hid hn
    have HS := Lib.hid hs
    have HV := Lib.hid hva
    have HG := Lib.hid h2
    clear hq hv hva hn hs h1 h2
    go_enter Try.func30, Try.ntmps30
    go_wp2_with fail
    refine HA.out.mono ?_
    rintro e w1 ⟨rfl, hb1⟩
    have HB1 := Lib.hid hb1
    have hz1 := hb1.size
    clear hb1
    go_wp2_with fail
    refine (bdValues_any a b C0 np cp0 ps lo hi tu _ a1 a2 b1 b2 HN.out (by rw [← HN.out]; exact hn4) (Lib.hid (goodPc_vals HG.out)) (Lib.hid (HS.out.below HB1.out hB)) (by omega)).mono ?_
    rintro e w2 ⟨F, rfl, ht, hb⟩
    obtain ⟨g, e1, e2⟩ := ht.read (a := a) (b := b) a1 (Nat.le_refl _) b1 (Nat.le_refl _) (.inr (Nat.le_refl _))
    rw [HV.out] at e2
    clear ht
    go_wp2
    go_ret2
    exact ⟨rfl, HB1.out.trans (hb.mono hz1)⟩

set_option maxRecDepth 100000 in
set_option maxHeartbeats 1000000 in
theorem impl_BestValue (x y : Int) (C0 : Option Addr) (np cp0 : Nat) (ps : List (Int × Int × Int)) (lo hi : Nat) (tu : Bool) (w : World) (hn : ps.length = np) (hlen : np ≤ 1048576) (hs : Seg w lo hi C0 (flat3 ps)) (hB : hi ≤ w.heap.size) (q : Bool) (hq : askP x y ps = q) (v : Int) (hv : bpN ps tu x y = v) :
    Calls Try.prog 31 #[.int .i64 x, .int .i64 y, .slice C0 np cp0, .bool tu] w (RetI v q w) := by
  have HA := Lib.hid (sheetOf_any x y C0 np cp0 ps lo hi tu w hn hlen hs hB q hq)
  cases q
  · obtain rfl : v = 0 := by rw [← hv]; exact bpN_no hq
    clear hv hn hs hq
    go_enter Try.func31, Try.ntmps31
    go_wp2_with fail
    refine HA.out.mono ?_
    rintro e w1 ⟨hb1, u, rfl, _, hu⟩
    obtain rfl := hu rfl
    have HB1 := Lib.hid hb1
    clear hb1
    go_wp2
    go_ret2
    exact ⟨rfl, HB1.out.alloc HB1.out.size _⟩
  · obtain ⟨h1, h2⟩ := askP_true.1 hq
    obtain ⟨a, b, rfl, rfl, ⟨a1, a2⟩, b1, b2⟩ := bdB_nat h1
    have hva : valB ps tu a b = v := by rw [← hv]; exact (bpN_yes hq).symm
    have hbd := valB_bd4 (goodPc_vals h2) tu a b a1 a2 b1 b2
    have HV := Lib.hid hva
    clear hq hv hva hn hs h1 h2
    go_enter Try.func31, Try.ntmps31
    go_wp2_with fail
    refine HA.out.mono ?_
    rintro e w1 ⟨hb1, u, rfl, hu, _⟩
    obtain ⟨X, rfl, hW⟩ := hu rfl
    have HB1 := Lib.hid hb1
    have HW := Lib.hid hW
    clear hb1 hW hu
    go_wp2_with fail
    refine (sheetValue_any a b X C0 np cp0 tu (valB ps tu) _ a1 b1 ((HW.out.below ((Below.refl _ _).alloc (Nat.le_refl _) _) (Nat.le_refl _)).mono (by simp) (fun a' b' h => ⟨h, rfl⟩)) (by omega) v HV.out).mono ?_
    rintro e w2 ⟨rfl, hb2⟩
    have HB2 := Lib.hid ((HB1.out.alloc HB1.out.size _).trans (hb2.mono (by have := HB1.out.size; simp; omega)))
    clear hb2
    go_wp2
    go_ret2
    exact ⟨rfl, HB2.out⟩
end Go.Proofs.Ytjpejhpilfjheaa
