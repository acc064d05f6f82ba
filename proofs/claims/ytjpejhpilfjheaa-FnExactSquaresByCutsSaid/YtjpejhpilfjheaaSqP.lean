/-
  The written program's squares by the first best cuts, in the order of the cuts.
  Conditions: a board, and its table.
-/
import Derived.Test.YtjpejhpilfjheaaBdFC
import Derived.Test.YtjpejhpilfjheaaSqC
import Derived.Test.YtjpejhpilfjheaaAppendB
namespace Go.Proofs.Ytjpejhpilfjheaa
set_option linter.unusedVariables false
set_option linter.unusedSimpArgs false
open Go.RowKit

/-- The blocks that a call turns. -/
def SP (Ps : Nat) (v : Value) : Nat → Prop := fun k => k = Ps ∨ v.ownBlock = some k
/-- What the closure captures, and the sides so far. -/
structure St (A H X B0 Pf Ps Pp base : Nat) (w : World) (v : Value) (m : Nat) (xs : List Int) : Prop where
  worth : Worth w B0 X fewB (fun a b => 1 ≤ a ∧ 1 ≤ b ∧ a ≤ A ∧ b ≤ H)
  few : w.heap[Pf]? = some (.cells #[.func (.func 75) #[] #[.pointer (some ⟨X, 0, none⟩)]] 57 (0, 0))
  part : w.heap[Pp]? = some (.cells #[.func (.func 48) #[] #[.pointer (some ⟨Ps, 0, none⟩), .pointer (some ⟨Pf, 0, none⟩), .pointer (some ⟨Pp, 0, none⟩)]] 70 (0, 0))
  sides : w.heap[Ps]? = some (.cells #[v] 31 (0, 0))
  own : w.ownsRow base 3 1 v m (xs.map (Value.int .i64))
  len : base ≤ w.heap.size
theorem St.below {A H X B0 Pf Ps Pp base : Nat} {w w' : World} {v : Value} {m : Nat} {xs : List Int} (h : St A H X B0 Pf Ps Pp base w v m xs) (hB : B0 ≤ base) (hb : Below w.heap.size w w') : St A H X B0 Pf Ps Pp base w' v m xs :=
  ⟨h.worth.below hb (by have := h.len; omega), (hb.block _ (heap_lt h.few)).trans h.few, (hb.block _ (heap_lt h.part)).trans h.part, (hb.block _ (heap_lt h.sides)).trans h.sides, row_below h.own hb, Nat.le_trans h.len hb.size⟩
theorem St.only {A H X B0 Pf Ps Pp base : Nat} {w w' : World} {v v' : Value} {m m' : Nat} {xs xs' : List Int} (h : St A H X B0 Pf Ps Pp base w v m xs) (hB : B0 ≤ Ps) (hf : Pf < Ps) (hp : Ps < Pp) (hpb : Pp < base) (ho : Only (SP Ps v) w w')
    (hs : w'.heap[Ps]? = some (.cells #[v'] 31 (0, 0))) (hown : w'.ownsRow base 3 1 v' m' (xs'.map (Value.int .i64))) : St A H X B0 Pf Ps Pp base w' v' m' xs' := by
  have hne : ∀ k, k < base → k ≠ Ps → ¬ SP Ps v k := fun k hk hks e => by
    rcases e with e | e
    · exact hks e
    · have := (h.own.lt k e).1; omega
  have hl := h.len
  refine ⟨h.worth.below (ho.below (B := Ps) (by omega) (fun k hk => ?_)) hB, (ho.block _ (by omega) (hne Pf (by omega) (by omega))).trans h.few, (ho.block _ (by omega) (hne Pp hpb (by omega))).trans h.part, hs, hown, Nat.le_trans hl ho.size⟩
  rcases hk with hk | hk
  · omega
  · have := (h.own.lt k hk).1; omega
theorem only_two {Ps : Nat} {v v5 : Value} {w w5 w6 : World} (h1 : Only (SP Ps v) w w5) (hl : v5.ownBlock = v.ownBlock ∨ ∃ g, v5.ownBlock = some g ∧ w.heap.size ≤ g) (h2 : Only (SP Ps v5) w5 w6) : Only (SP Ps v) w w6 :=
  ⟨h2.os.trans h1.os, h2.tape.trans h1.tape, h2.output.trans h1.output, Nat.le_trans h1.size h2.size, fun k hk hs => (h2.block k (Nat.lt_of_lt_of_le hk h1.size) (fun e => by
    rcases e with e | e
    · exact hs (.inl e)
    · rcases hl with hl | ⟨g, hg, hge⟩
      · exact hs (.inr (hl ▸ e))
      · rw [hg] at e; injection e with e; omega)).trans (h1.block k hk hs)⟩
theorem row_set {w : World} {base T n P i : Nat} {v : Value} {xs : List Value} (h : w.ownsRow base T 1 v n xs) (hP : P < base) (u : Value) : (w.setCell ⟨P, i, none⟩ u).ownsRow base T 1 v n xs :=
  h.kept (row := some P) ⟨rfl, rfl, rfl, by simp [World.setCell], fun k _ hne => Below.heap_setCell _ _ _ _ (fun e => hne (by rw [e]))⟩ (by
    by_cases e : v.ownBlock = some P
    · have := (h.lt _ e).1; omega
    · exact .inr e)
theorem only_grown2 {S : Nat → Prop} {a w w' : World} {row : Option Nat} (h : Only S a w) (hg : w.grownBy w' row) (hr : ∀ b, row = some b → S b) : Only S a w' :=
  h.trans ⟨hg.os, hg.tape, hg.output, hg.size, fun k hk hs => hg.block k hk (fun e => hs (hr k e.symm))⟩
/-- What is answered. -/
def RetPart (A H X B0 Pf Ps Pp base : Nat) (v : Value) (xs : List Int) (w : World) (e : Ending) (w' : World) : Prop :=
  e = .returned (.tuple #[]) ∧ ∃ v' m', St A H X B0 Pf Ps Pp base w' v' m' xs ∧ Only (SP Ps v) w w' ∧ (v'.ownBlock = v.ownBlock ∨ ∃ g, v'.ownBlock = some g ∧ w.heap.size ≤ g)

set_option maxRecDepth 100000 in
set_option maxHeartbeats 4000000 in
theorem part_any (A H X B0 Pf Ps Pp base : Nat) (hA : A ≤ 24) (hH : H ≤ 24) (hB : B0 ≤ Ps) (hf : Pf < Ps) (hp : Ps < Pp) (hpb : Pp < base) : ∀ N a b : Nat, a + b ≤ N → 1 ≤ a → a ≤ A → 1 ≤ b → b ≤ H → ∀ (w : World) (v : Value) (m : Nat) (xs : List Int), St A H X B0 Pf Ps Pp base w v m xs → m + (sqL a b).length ≤ 4000 →
    Calls Try.prog 48 #[.agg #[.int .i64 (a : Int), .int .i64 (b : Int)], .pointer (some ⟨Ps, 0, none⟩), .pointer (some ⟨Pf, 0, none⟩), .pointer (some ⟨Pp, 0, none⟩)] w (RetPart A H X B0 Pf Ps Pp base v (xs ++ sqL a b) w) := by
  intro N
  induction N with
  | zero => intro a b h a1; omega
  | succ N ih =>
    intro a b hN a1 aA b1 bH w v m xs hst hmx
    have HIH := Lib.hid (fun (a' b' : Nat) (h : a' + b' ≤ N) => ih a' b' h)
    obtain ⟨i0, hi0, hz0, hz1, hz2⟩ := info_parts int_info
    have HST := Lib.hid hst
    have hbw := hst.len
    have hB0 : B0 ≤ base := by omega
    have HB0 := Lib.hid ((Below.refl w.heap.size w).alloc (Nat.le_refl _) (.cells #[.int .i64 (a : Int), .int .i64 (b : Int)] 55))
    have HX0 := Lib.hid (new_at w (.cells #[.int .i64 (a : Int), .int .i64 (b : Int)] 55) rfl)
    have hx0 := HX0.out
    have x0 := cell_of hx0 0
    have x1 := cell_of hx0 1
    clear hst ih hx0
    by_cases hab : a = b
    · subst hab
      have HSQ := Lib.hid (sqL_square a1)
      go_enter Try.func48, Try.ntmps48
      go_wp2_with fail
      refine (isSquare_any a a _ true (decide_eq_true rfl)).mono ?_
      rintro e w1 ⟨rfl, hb1⟩
      have HB1 := Lib.hid (HB0.out.trans (hb1.mono (by simp)))
      have HS1 := Lib.hid (HST.out.below hB0 HB1.out)
      have hx1 := (hb1.block w.heap.size (by simp)).trans HX0.out
      have hz1w : w.heap.size ≤ w1.heap.size := HB1.out.size
      clear hb1 x0 x1
      have x0 := cell_of hx1 0
      have s0 := cell_of HS1.out.sides 0
      have HOW := Lib.hid (HS1.out.own.alloc (.cells #[.int .i64 (a : Int)] 3))
      have HLT := Lib.hid HS1.out.own.lt
      have hPs := heap_lt HS1.out.sides
      have HPA := Lib.hid ((alloc_old w1 hPs (.cells #[.int .i64 (a : Int)] 3)).trans HS1.out.sides)
      have hm4 : m ≤ 4000 := by omega
      go_wp2_with (at_builtin; refine wpList_append_ownB _ rfl _ _ 31 rfl base 3 i0 Try.underlying31 hi0 hz0 hz1 hz2 _ m _ rfl HOW.out w1.heap.size 1 (.int .i64 (a : Int)) rfl (by rw [cell_of (heap_alloc_new w1 _)]; rfl) rfl (by omega) (by simp; omega) ?_; intro v3 w3 hown3 hgr3 hloc3; obtain ⟨A3, c3, rfl⟩ := ownsRow_form hown3; have hp3 := (hgr3.block Ps (by simp; omega) (fun e => by have := (HLT.out _ e.symm).1; omega)).trans HPA.out; have q0 := cell_of hp3 0; have g0 := frozen_of hp3 0; have HP3 := Lib.hid hp3; have HO3 := Lib.hid (show w3.ownsRow base 3 1 (.slice A3 (m + 1) c3) (m + 1) ((xs ++ [(a : Int)]).map (Value.int .i64)) by rw [List.map_append]; exact hown3); have HG3 := Lib.hid hgr3; have HL3 := Lib.hid hloc3; clear hp3 hown3 hgr3 hloc3)
      go_end0
      have ho3 := only_grown2 (S := SP Ps v) ((Only.of_below HB1.out (Nat.le_refl _)).alloc (.cells #[.int .i64 (a : Int)] 3)) HG3.out (fun b hb => .inr hb)
      have hoS := ho3.setCell (p := ⟨Ps, 0, none⟩) (.inl rfl) (.slice A3 (m + 1) c3)
      refine ⟨rfl, .slice A3 (m + 1) c3, m + 1, HST.out.only hB hf hp hpb hoS (by rw [set_self HP3.out 0 _]; rfl) (by rw [HSQ.out]; exact row_set HO3.out (by omega) _), hoS, ?_⟩
      rcases HL3.out with h | h
      · exact .inl h
      · exact .inr ⟨_, h, by simp; omega⟩
    · cases hc : fcut fewB (fewB a b) a b with
      | none =>
        have HSQ := Lib.hid (sqL_none a1 b1 hab hc)
        have HFO := Lib.hid hc
        clear hc
        go_enter Try.func48, Try.ntmps48
        go_wp2_with fail
        refine (isSquare_any a b _ false (decide_eq_false hab)).mono ?_
        rintro e w1 ⟨rfl, hb1⟩
        have HB1 := Lib.hid (HB0.out.trans (hb1.mono (by simp)))
        have HS1 := Lib.hid (HST.out.below hB0 HB1.out)
        have hx1 := (hb1.block w.heap.size (by simp)).trans HX0.out
        clear hb1 x0 x1
        have x0 := cell_of hx1 0
        have x1 := cell_of hx1 1
        have s0 := cell_of HS1.out.few 0
        clear hx1
        go_wp2_with fail
        refine (firstCut_any A H a b B0 X fewB w1 hA hH a1 aA b1 bH HS1.out.worth (by have := HS1.out.len; omega) (fun a' b' h1 h2 h3 h4 => by have := fewB_bd a' b' h1 (by omega) h2 (by omega); omega) _ rfl _ HFO.out).mono ?_
        rintro e w2 ⟨hb2, he2⟩
        revert he2
        simp only []
        intro e2
        subst e2
        have HB2 := Lib.hid (HB1.out.trans (hb2.mono HB1.out.size))
        clear hb2 s0 x0 x1
        go_wp2
        go_end0
        have hbE := (HB2.out.alloc HB2.out.size (.cells #[.int .i64 0, .int .i64 0] 55)).alloc (by have := HB2.out.size; simp; omega) (.cells #[.int .i64 0, .int .i64 0] 55)
        exact ⟨rfl, v, m, by rw [HSQ.out, List.append_nil]; exact HST.out.below hB0 hbE, Only.of_below hbE (Nat.le_refl _), .inl rfl⟩
      | some cu =>
        have HSQ := Lib.hid (sqL_cut a1 b1 hab hc)
        have hcl := cut_less (fcut_mem hc).1 a1 b1
        have hlens := congrArg List.length HSQ.out
        rw [List.length_append] at hlens
        have HFO := Lib.hid hc
        obtain ⟨⟨c1, c2⟩, d1, d2⟩ := cu
        simp only [] at hcl hlens
        clear hc
        go_enter Try.func48, Try.ntmps48
        go_wp2_with fail
        refine (isSquare_any a b _ false (decide_eq_false hab)).mono ?_
        rintro e w1 ⟨rfl, hb1⟩
        have HB1 := Lib.hid (HB0.out.trans (hb1.mono (by simp)))
        have HS1 := Lib.hid (HST.out.below hB0 HB1.out)
        have hx1 := (hb1.block w.heap.size (by simp)).trans HX0.out
        clear hb1 x0 x1
        have x0 := cell_of hx1 0
        have x1 := cell_of hx1 1
        have s0 := cell_of HS1.out.few 0
        clear hx1
        go_wp2_with fail
        refine (firstCut_any A H a b B0 X fewB w1 hA hH a1 aA b1 bH HS1.out.worth (by have := HS1.out.len; omega) (fun a' b' h1 h2 h3 h4 => by have := fewB_bd a' b' h1 (by omega) h2 (by omega); omega) _ rfl _ HFO.out).mono ?_
        rintro e w2 ⟨hb2, he2⟩
        revert he2
        simp only []
        intro e2
        subst e2
        have HB2 := Lib.hid (HB1.out.trans (hb2.mono HB1.out.size))
        have hz2w := HB2.out.size
        clear hb2 s0 x0 x1
        obtain ⟨W4, hW4⟩ : ∃ W4, (w2.alloc (.cells #[.int .i64 (c1 : Int), .int .i64 (c2 : Int)] 55)).alloc (.cells #[.int .i64 (d1 : Int), .int .i64 (d2 : Int)] 55) = W4 := ⟨_, rfl⟩
        have HB4 := Lib.hid (show Below w.heap.size w W4 by rw [← hW4]; exact (HB2.out.alloc HB2.out.size _).alloc (by simp; omega) _)
        have HS4 := Lib.hid (HST.out.below hB0 HB4.out)
        have hf4 : W4.heap[w2.heap.size]? = some (.cells #[.int .i64 (c1 : Int), .int .i64 (c2 : Int)] 55 (0, 0)) := by rw [← hW4]; exact (alloc_old _ (by simp) _).trans (new_at _ _ rfl)
        have HD4 := Lib.hid (show W4.heap[w2.heap.size + 1]? = some (.cells #[.int .i64 (d1 : Int), .int .i64 (d2 : Int)] 55 (0, 0)) by rw [← hW4]; exact new_at _ _ (by simp))
        have hzW4 : w2.heap.size + 2 ≤ W4.heap.size := by rw [← hW4]; simp
        have p0 := cell_of HS4.out.part 0
        have f0 := cell_of hf4 0
        have f1 := cell_of hf4 1
        have HW4 := Lib.hid hW4
        clear hf4
        rw [← hW4] at p0 f0 f1
        clear hW4
        go_wp2_with fail
        rw [HW4.out]
        clear p0 f0 f1
        refine (HIH.out c1 c2 (by omega) (by omega) (by omega) (by omega) (by omega) W4 v m xs HS4.out (by omega)).mono ?_
        rintro e w5 ⟨rfl, v5, m5, hst5, ho5, hl5⟩
        have HS5 := Lib.hid hst5
        have HO5 := Lib.hid ho5
        have HL5 := Lib.hid hl5
        have hm5 : m5 = m + (sqL c1 c2).length := by have h1 := hst5.own.1; have h2 := HST.out.own.1; simp at h1 h2; omega
        have hd5 := (ho5.block (w2.heap.size + 1) (by omega) (fun e => by
          rcases e with e | e
          · omega
          · have := (HST.out.own.lt _ e).2; omega)).trans HD4.out
        clear hst5 ho5 hl5
        have p0 := cell_of HS5.out.part 0
        have f0 := cell_of hd5 0
        have f1 := cell_of hd5 1
        clear hd5
        go_wp2_with fail
        refine (HIH.out d1 d2 (by omega) (by omega) (by omega) (by omega) (by omega) w5 v5 m5 (xs ++ sqL c1 c2) HS5.out (by omega)).mono ?_
        rintro e w6 ⟨rfl, v6, m6, hst6, ho6, hl6⟩
        have HS6 := Lib.hid hst6
        have HO6 := Lib.hid ho6
        have HL6 := Lib.hid hl6
        clear hst6 ho6 hl6 p0 f0 f1
        go_wp2
        go_end0
        have hsz5 := HO5.out.size
        have hsz4 := HB4.out.size
        have hL5w : v5.ownBlock = v.ownBlock ∨ ∃ g, v5.ownBlock = some g ∧ w.heap.size ≤ g := by
          rcases HL5.out with h | ⟨g, h1, h2⟩
          · exact .inl h
          · exact .inr ⟨g, h1, by omega⟩
        refine ⟨rfl, v6, m6, by have h := HS6.out; rw [List.append_assoc] at h; rw [HSQ.out]; exact h, only_two ((Only.of_below HB4.out (Nat.le_refl _)).trans HO5.out) hL5w HO6.out, ?_⟩
        rcases HL6.out with h | ⟨g, h1, h2⟩
        · rw [h]; exact hL5w
        · exact .inr ⟨g, h1, by omega⟩
end Go.Proofs.Ytjpejhpilfjheaa
