/-
  The first cut that is worth as much as the whole board, as the written program finds it.
  Conditions: a board; the lesser boards' values are in the table.
-/
import Derived.Test.YtjpejhpilfjheaaBdL
import Derived.Test.YtjpejhpilfjheaaBdE
namespace Go.Proofs.Ytjpejhpilfjheaa
set_option linter.unusedVariables false
open Go.RowKit Go.Shelf
attribute [local go_sem] Oper.semAt_some

/-- The blocks of the three answers. -/
def Thr (z k : Nat) : Prop := k = z + 1 + 1 ∨ k = z + 1 + 1 + 1 ∨ k = z + 1 + 1 + 1 + 1
theorem thr_lt {z B : Nat} (h : z + 5 ≤ B) : ∀ k, Thr z k → k < B := fun k hk => by rcases hk with rfl | rfl | rfl <;> omega
theorem ownFrom_onlyS {β : Type} {B : Nat} {S : Nat → Prop} {w : World} (hB : w.heap.size ≤ B) (hS : ∀ k, S k → k < B) : OwnFrom B (fun (_ : β) W => Only S w W) := by
  intro s X Y row hs hg hr
  refine ⟨hg.os.trans hs.os, hg.tape.trans hs.tape, hg.output.trans hs.output, Nat.le_trans hs.size hg.size, fun k hk hne => ?_⟩
  refine (hg.block k (Nat.lt_of_lt_of_le hk hs.size) (fun e => ?_)).trans (hs.block k hk hne)
  have := (hr k e.symm).1
  omega
theorem ownFrom_and {β : Type} {B : Nat} {J : β → World → Prop} {K : β → Prop} (hJ : OwnFrom B J) (hK : ∀ (s : β) (X Y : World) (row : Option Nat), K s → X.grownBy Y row → (∀ r, row = some r → B ≤ r ∧ ∃ o : Obj, X.heap[r]? = some o ∧ o.isCells = false) → K s) : OwnFrom B (fun s W => J s W ∧ K s) := fun s X Y row hs hg hr => ⟨hJ s X Y row hs.1 hg hr, hs.2⟩
theorem keeps_from_only {B : Nat} {S : Nat → Prop} {W W' : World} (h : Only S W W') (hS : ∀ k, S k → k < B) : KeepsFrom B W W' :=
  ⟨h.size, fun k o hB hk ho => (h.block k (by have := (Array.getElem?_eq_some_iff.1 hk).1; exact this) (fun e => by have := hS k e; omega)).trans hk⟩
theorem only_of_b {S : Nat → Prop} {W W' : World} (h : Below W.heap.size W W') : Only S W W' := ⟨h.os, h.tape, h.output, h.size, fun k hk _ => h.block k hk⟩
theorem below_of_none {W W' : World} (h : Only (fun _ => False) W W') : Below W.heap.size W W' := ⟨h.os, h.tape, h.output, h.size, fun k hk => h.block k hk (fun e => e)⟩
theorem set_two {w : World} {p T : Nat} {a b : Value} (h : w.heap[p]? = some (.cells #[a, b] T (0, 0))) (x y : Value) : ((w.setCell ⟨p, 0, none⟩ x).setCell ⟨p, 1, none⟩ y).heap[p]? = some (.cells #[x, y] T (0, 0)) := by
  rw [set_self ((set_self h 0 x).trans rfl) 1 y]
  rfl
/-- How the first cut is answered. -/
def RetFC (o : Option Cut) (w : World) (e : Ending) (w' : World) : Prop := Below w.heap.size w w' ∧ match o with
  | none => e = .returned (.tuple #[.agg #[.int .i64 0, .int .i64 0], .agg #[.int .i64 0, .int .i64 0], .bool false])
  | some c => e = .returned (.tuple #[.agg #[.int .i64 (c.1.1 : Int), .int .i64 (c.1.2 : Int)], .agg #[.int .i64 (c.2.1 : Int), .int .i64 (c.2.2 : Int)], .bool true])

set_option maxRecDepth 100000 in
set_option maxHeartbeats 4000000 in
theorem firstCut_any (A H a b B0 X : Nat) (t : Nat → Nat → Int) (w : World) (hA : A ≤ 24) (hH : H ≤ 24) (ha : 1 ≤ a) (haA : a ≤ A) (hb : 1 ≤ b) (hbH : b ≤ H) (hT : Worth w B0 X t (fun a' b' => 1 ≤ a' ∧ 1 ≤ b' ∧ a' ≤ A ∧ b' ≤ H)) (hB : B0 ≤ w.heap.size)
    (hbd : ∀ a' b', 1 ≤ a' → 1 ≤ b' → a' ≤ A → b' ≤ H → 0 ≤ t a' b' ∧ t a' b' ≤ 1000000000000001) (v0 : Int) (hv0 : t a b = v0) (o : Option Cut) (ho : fcut t v0 a b = o) :
    Calls Try.prog 50 #[.func (.func 75) #[] #[.pointer (some ⟨X, 0, none⟩)], .agg #[.int .i64 (a : Int), .int .i64 (b : Int)]] w (RetFC o w) := by
  have ha2 : a ≤ 24 := by omega
  have hb2 : b ≤ 24 := by omega
  have HV0 := Lib.hid hv0
  have HFO := Lib.hid ho
  have HT := Lib.hid hT
  have HBD := Lib.hid hbd
  clear hv0 ho hT hbd
  refine (callsIn_wide (n := 7)).1 ?_
  refine callsIn_of_wp_marks Try.func50 rfl trivial ?_ rfl
  simp only [Try.ntmps50, List.size_toArray, List.length_cons, List.length_nil, Nat.reduceAdd, Nat.reduceSub, Array.replicate_succ, Array.replicate_zero, List.push_toArray, List.append_toArray, List.nil_append, List.cons_append]
  obtain ⟨z, hz⟩ : ∃ z, w.heap.size = z := ⟨_, rfl⟩
  obtain ⟨W0, hW0⟩ : ∃ W0, ((((w.alloc (.cells #[.func (.func 75) #[] #[.pointer (some ⟨X, 0, none⟩)]] 57)).alloc (.cells #[.int .i64 (a : Int), .int .i64 (b : Int)] 55)).alloc (.cells #[.int .i64 0, .int .i64 0] 55)).alloc (.cells #[.int .i64 0, .int .i64 0] 55)).alloc (.cells #[.bool false] 4) = W0 := ⟨_, rfl⟩
  have hb0 : Below w.heap.size w W0 := by rw [← hW0]; exact (((((Below.refl w.heap.size w).alloc (Nat.le_refl _) _).alloc (by first | (simp; done) | (simp; omega)) _).alloc (by first | (simp; done) | (simp; omega)) _).alloc (by first | (simp; done) | (simp; omega)) _).alloc (by first | (simp; done) | (simp; omega)) _
  have hz0 : W0.heap.size = z + 5 := by rw [← hW0, ← hz]; simp
  have hk0 : W0.heap[z]? = some (.cells #[.func (.func 75) #[] #[.pointer (some ⟨X, 0, none⟩)]] 57 (0, 0)) := by rw [← hW0, ← hz]; exact (alloc_old _ (by first | (simp; done) | (simp; omega)) _).trans ((alloc_old _ (by first | (simp; done) | (simp; omega)) _).trans ((alloc_old _ (by first | (simp; done) | (simp; omega)) _).trans ((alloc_old _ (by first | (simp; done) | (simp; omega)) _).trans (new_at _ _ rfl))))
  have hk1 : W0.heap[z + 1]? = some (.cells #[.int .i64 (a : Int), .int .i64 (b : Int)] 55 (0, 0)) := by rw [← hW0, ← hz]; exact (alloc_old _ (by first | (simp; done) | (simp; omega)) _).trans ((alloc_old _ (by first | (simp; done) | (simp; omega)) _).trans ((alloc_old _ (by first | (simp; done) | (simp; omega)) _).trans (new_at _ _ (by simp))))
  have hk2 : W0.heap[z + 1 + 1]? = some (.cells #[.int .i64 0, .int .i64 0] 55 (0, 0)) := by rw [← hW0, ← hz]; exact (alloc_old _ (by first | (simp; done) | (simp; omega)) _).trans ((alloc_old _ (by first | (simp; done) | (simp; omega)) _).trans (new_at _ _ (by simp)))
  have hk3 : W0.heap[z + 1 + 1 + 1]? = some (.cells #[.int .i64 0, .int .i64 0] 55 (0, 0)) := by rw [← hW0, ← hz]; exact (alloc_old _ (by first | (simp; done) | (simp; omega)) _).trans (new_at _ _ (by simp))
  have hk4 : W0.heap[z + 1 + 1 + 1 + 1]? = some (.cells #[.bool false] 4 (0, 0)) := by rw [← hW0, ← hz]; exact new_at _ _ (by simp)
  have HB0 := Lib.hid hb0
  have HJ := Lib.hid (And.intro hk0 (And.intro hk1 (And.intro hk2 (And.intro hk3 hk4))))
  have HW0 := Lib.hid hW0
  have HZ0 := Lib.hid hz0
  have HZ := Lib.hid hz
  clear hb0 hk0 hk1 hk2 hk3 hk4 hW0 hz0 hz
  gi_wp2_with fail
  rw [HW0.out]
  refine ⟨trivial, (callsIn_wide.2 (cuts_any (a : Int) (b : Int) _)).mono ?_⟩
  rintro e w3 ⟨rfl, hw3⟩
  gi_wp2
  obtain ⟨W3, hW3⟩ : ∃ W3, W0.alloc (.cells #[.int .i64 (a : Int), .int .i64 (b : Int)] 55) = W3 := ⟨_, rfl⟩
  have hJ3 := HJ.out
  have hB3 : Below W0.heap.size W0 W3 := by rw [← hW3]; exact (Below.refl _ _).alloc (Nat.le_refl _) _
  have HK0 := Lib.hid ((hB3.block _ (heap_lt hJ3.1)).trans hJ3.1)
  have HK1 := Lib.hid ((hB3.block _ (heap_lt hJ3.2.1)).trans hJ3.2.1)
  have HK2 := Lib.hid ((hB3.block _ (heap_lt hJ3.2.2.1)).trans hJ3.2.2.1)
  have HK3 := Lib.hid ((hB3.block _ (heap_lt hJ3.2.2.2.1)).trans hJ3.2.2.2.1)
  have HK4 := Lib.hid ((hB3.block _ (heap_lt hJ3.2.2.2.2)).trans hJ3.2.2.2.2)
  have HC3 := Lib.hid (show W3.heap[W0.heap.size]? = some (.cells #[.int .i64 (a : Int), .int .i64 (b : Int)] 55 (0, 0)) by rw [← hW3]; exact new_at _ _ rfl)
  have hz3 : W3.heap.size = W0.heap.size + 1 := by rw [← hW3]; simp
  have HB3 := Lib.hid (HB0.out.trans (hB3.mono HB0.out.size))
  try rw [hW3]
  have HZ3 := Lib.hid hz3
  have hz0 := HZ0.out
  clear hW3 hJ3 hB3 hz3
  obtain ⟨C, hC⟩ : ∃ C, W0.heap.size = C := ⟨_, rfl⟩
  rw [hC] at HC3 HZ3 hz0 ⊢
  have hz5 : z + 5 ≤ C := by omega
  have hzl : w.heap.size ≤ z := by rw [HZ.out]; exact Nat.le_refl _
  try rw [HZ.out]
  clear hC hz0 HW0 HZ0 HJ HB0
  refine wpIn_rangeFunc_ownH (α := CutOf a b) rfl (by omega) (gf := 79) (lb := #[.pointer (some ⟨C, 0, none⟩)]) rfl trivial (enters_of Try.func79 (by kernel_rfl) rfl)
    (cuts_stops 6 C a b 55 ha ha2 hb hb2 W3 HC3.out) keepsB_t (keepsB_b (by have := HZ3.out; omega)) (Below.refl _ _) (fun _ => rfl)
    (fun pre W => Only (fun _ => False) W3 W ∧ ∀ c ∈ vals pre, ¬ sumT t c = v0)
    (fun c pre W => c = .ret ∧ Only (Thr z) W3 W ∧ ∃ x : CutOf a b, (∃ q, pre = q ++ [x] ∧ ∀ c ∈ vals q, ¬ sumT t c = v0) ∧ sumT t x.1 = v0 ∧ W.heap[z + 1 + 1]? = some (.cells #[.int .i64 (x.1.1.1 : Int), .int .i64 (x.1.1.2 : Int)] 55 (0, 0)) ∧ W.heap[z + 1 + 1 + 1]? = some (.cells #[.int .i64 (x.1.2.1 : Int), .int .i64 (x.1.2.2 : Int)] 55 (0, 0)) ∧ W.heap[z + 1 + 1 + 1 + 1]? = some (.cells #[.bool true] 4 (0, 0)))
    (ownFrom_and (ownFrom_onlyS (Nat.le_refl _) (fun _ h => h.elim)) (fun _ _ _ _ h _ _ => h))
    ?hIx
    ⟨Only.refl _ _, fun c hc => by cases hc⟩
    (fun x a' W => ∃ p6 p7, W3.heap.size ≤ p6 ∧ W3.heap.size ≤ p7 ∧ W.heap[p6]? = some (.cells #[.int .i64 (x.1.1.1 : Int), .int .i64 (x.1.1.2 : Int)] 55 (0, 0)) ∧ W.heap[p7]? = some (.cells #[.int .i64 (x.1.2.1 : Int), .int .i64 (x.1.2.2 : Int)] 55 (0, 0)) ∧ a' = { tmps := #[.func (.func 75) #[] #[.pointer (some ⟨X, 0, none⟩)], .agg #[.int .i64 (a : Int), .int .i64 (b : Int)], .pointer (some ⟨z, 0, none⟩), .pointer (some ⟨z + 1, 0, none⟩), .pointer (some ⟨z + 1 + 1, 0, none⟩), .pointer (some ⟨z + 1 + 1 + 1, 0, none⟩), .pointer (some ⟨z + 1 + 1 + 1 + 1, 0, none⟩), .pointer (some ⟨p6, 0, none⟩), .pointer (some ⟨p7, 0, none⟩), .agg #[.int .i64 (a : Int), .int .i64 (b : Int)], .func (.func 79) #[] #[.pointer (some ⟨C, 0, none⟩)], .agg #[.int .i64 (x.1.1.1 : Int), .int .i64 (x.1.1.2 : Int)], .agg #[.int .i64 (x.1.2.1 : Int), .int .i64 (x.1.2.2 : Int)], undef, undef, undef, undef, undef, undef, undef, undef, undef, undef, undef, undef, undef, undef], defers := [] })
    ?hAx ?assign ?body ?done ?stop
  case hIx =>
    rintro c s U V row ⟨rfl, ho, x, hx1, hx2, h2, h3, h4⟩ hg hr
    exact ⟨rfl, ownFrom_onlyS (B := W3.heap.size) (S := Thr z) (Nat.le_refl _) (thr_lt (by have := HZ3.out; omega)) s U V row ho hg hr, x, hx1, hx2, heap_kept h2 hg hr, heap_kept h3 hg hr, heap_kept h4 hg hr⟩
  case hAx =>
    rintro x a' s U V row ⟨p6, p7, h6, h7, hc6, hc7, rfl⟩ hg hr
    exact ⟨p6, p7, h6, h7, heap_kept hc6 hg hr, heap_kept hc7 hg hr, rfl⟩
  case assign =>
    rintro l pre x W K ⟨ho, hno⟩ hK
    have hzw := ho.size
    have hz3 := HZ3.out
    have HNO := Lib.hid hno
    clear hno
    gi_wp2
    refine hK _ _ (((KeepsOthers.alloc W _).trans (KeepsOthers.alloc _ _)).from _) ((alloc_old _ (by simp; omega) _).trans (alloc_old _ (by omega) _)) ⟨(ho.alloc _).alloc _, HNO.out⟩ ⟨W.heap.size, W.heap.size + 1, hzw, by omega, (alloc_old _ (by simp) _).trans (new_at _ _ rfl), new_at _ _ (by simp), rfl⟩
  case body =>
    rintro l pre x a' W hl hrec ⟨ho, hno⟩ ⟨p6, p7, h6, h7, hc6, hc7, rfl⟩ hlt
    have hzw := ho.size
    have hz3 := HZ3.out
    have HNO := Lib.hid hno
    clear hno
    have hbz := below_of_none ho
    have h0 := (hbz.block z (by omega)).trans HK0.out
    have h1 := (hbz.block (z + 1) (by omega)).trans HK1.out
    have HC2W := Lib.hid ((hbz.block (z + 1 + 1) (by omega)).trans HK2.out)
    have HC3W := Lib.hid ((hbz.block (z + 1 + 1 + 1) (by omega)).trans HK3.out)
    have HC4W := Lib.hid ((hbz.block (z + 1 + 1 + 1 + 1) (by omega)).trans HK4.out)
    have l2 := heap_lt HC2W.out
    have l3 := heap_lt HC3W.out
    have l4 := heap_lt HC4W.out
    have hx := cut_less x.2 ha hb
    obtain ⟨⟨⟨x1, y1⟩, ⟨x2, y2⟩⟩, hxm⟩ := x
    simp only [] at hx hc6 hc7 ⊢
    have HX := Lib.hid hx
    have HTW := Lib.hid ((HT.out.below HB3.out hB).below (hbz.mono (B' := w.heap.size) HB3.out.size) hB)
    have hTWB : B0 ≤ W.heap.size := Nat.le_trans hB (by have := HB3.out.size; omega)
    have HBW := Lib.hid hTWB
    have l6 := heap_lt hc6
    have l7 := heap_lt hc7
    have lz := heap_lt h0
    have lz1 := heap_lt h1
    have HSB := Lib.hid (show ∀ wq : World, Below W.heap.size W wq → wq.heap[z]? = some (.cells #[.func (.func 75) #[] #[.pointer (some ⟨X, 0, none⟩)]] 57 (0, 0)) ∧ wq.heap[z + 1]? = some (.cells #[.int .i64 (a : Int), .int .i64 (b : Int)] 55 (0, 0)) ∧ wq.heap[p6]? = some (.cells #[.int .i64 (x1 : Int), .int .i64 (y1 : Int)] 55 (0, 0)) ∧ wq.heap[p7]? = some (.cells #[.int .i64 (x2 : Int), .int .i64 (y2 : Int)] 55 (0, 0)) from fun wq h => ⟨(h.block _ lz).trans h0, (h.block _ lz1).trans h1, (h.block p6 l6).trans hc6, (h.block p7 l7).trans hc7⟩)
    obtain ⟨q1, hq1⟩ : ∃ q, sumB t [(x1, y1), (x2, y2)] = q := ⟨_, rfl⟩
    have HQ1 := Lib.hid hq1
    have HO := Lib.hid ho
    clear hq1 hx hTWB hbz ho
    have HH := Lib.hid (And.intro h0 (And.intro h1 (And.intro hc6 hc7)))
    clear h0 h1 hc6 hc7
    gi_wp2
    refine round_region_held (S := fun wq => wq.heap[z]? = some (.cells #[.func (.func 75) #[] #[.pointer (some ⟨X, 0, none⟩)]] 57 (0, 0)) ∧ wq.heap[z + 1]? = some (.cells #[.int .i64 (a : Int), .int .i64 (b : Int)] 55 (0, 0)) ∧ wq.heap[p6]? = some (.cells #[.int .i64 (x1 : Int), .int .i64 (y1 : Int)] 55 (0, 0)) ∧ wq.heap[p7]? = some (.cells #[.int .i64 (x2 : Int), .int .i64 (y2 : Int)] 55 (0, 0))) (by kernel_rfl) (noDef_spec (by kernel_rfl)) (by rintro ⟨_, _, h⟩; exact h) HH.out (fun hH0 => ?_)
    refine wpAnyH_take (i := 0) (v := ?_) (ops_at rfl) (by kernel_rfl) (by kernel_rfl) (by kernel_rfl) (fun _ _ _ h => h) (Or.inl ⟨by rfl, ?ya0⟩) (by assumption) ?na0
    case ya0 => (intro wS hSw; (try dsimp only at hSw); (have k0 := cell_of hSw.1 0); go_simp; try rfl)
    try simp only [Act.put, List.setIfInBounds_toArray, List.set_cons_zero, List.set_cons_succ]
    refine wpAnyH_take (i := 1) (v := ?_) (ops_at rfl) (by kernel_rfl) (by kernel_rfl) (by kernel_rfl) (fun _ _ _ h => h) (Or.inl ⟨by rfl, ?ya1⟩) (by assumption) ?na1
    case ya1 => (intro wS hSw; (try dsimp only at hSw); (have k0 := cell_of hSw.2.2.1 0); (have k1 := cell_of hSw.2.2.1 1); go_simp; try rfl)
    try simp only [Act.put, List.setIfInBounds_toArray, List.set_cons_zero, List.set_cons_succ]
    refine wpAnyH_take (i := 2) (v := ?_) (ops_at rfl) (by kernel_rfl) (by kernel_rfl) (by kernel_rfl) (fun _ _ _ h => h) (Or.inl ⟨by rfl, ?ya2⟩) (by assumption) ?na2
    case ya2 => (intro wS hSw; (try dsimp only at hSw); (have k0 := cell_of hSw.2.2.2 0); (have k1 := cell_of hSw.2.2.2 1); go_simp; try rfl)
    try simp only [Act.put, List.setIfInBounds_toArray, List.set_cons_zero, List.set_cons_succ]
    refine wpAnyH_take (i := 5) (v := ?_) (ops_at rfl) (by kernel_rfl) (by kernel_rfl) (by kernel_rfl) (fun _ _ _ h => h) (Or.inl ⟨by rfl, ?ya5⟩) (by assumption) ?na5
    case ya5 => (intro wS hSw; (try dsimp only at hSw); (have k0 := cell_of hSw.1 0); go_simp; try rfl)
    try simp only [Act.put, List.setIfInBounds_toArray, List.set_cons_zero, List.set_cons_succ]
    refine wpAnyH_take (i := 6) (v := ?_) (ops_at rfl) (by kernel_rfl) (by kernel_rfl) (by kernel_rfl) (fun _ _ _ h => h) (Or.inl ⟨by rfl, ?ya6⟩) (by assumption) ?na6
    case ya6 => (intro wS hSw; (try dsimp only at hSw); (have k0 := cell_of hSw.2.1 0); (have k1 := cell_of hSw.2.1 1); go_simp; try rfl)
    try simp only [Act.put, List.setIfInBounds_toArray, List.set_cons_zero, List.set_cons_succ]
    refine wpAnyH_ready (rs := [3, 7]) (by kernel_rfl) (by simp) ?_
    refine AllReadyH.cons (ops_at rfl) (fun K hK => ?_) (AllReadyH.cons (ops_at rfl) (fun K hK => ?_) AllReadyH.nil)
    · go_simp
      refine hK.out _ _ (HSB.out _ (drewB ((Below.refl W.heap.size W).alloc (Nat.le_refl _) (.cells #[.int .i64 (x1 : Int), .int .i64 (y1 : Int), .int .i64 (x2 : Int), .int .i64 (y2 : Int)] 55)))) (fun _ => ?_)
      clear hK K
      refine wpAnyH_ready (rs := [4, 7]) (by kernel_rfl) (by simp) ?_
      refine AllReadyH.cons (ops_at rfl) (fun K hK => ?_) (AllReadyH.cons (ops_at rfl) (fun K hK => ?_) AllReadyH.nil)
      · go_simp
        refine (worth_any B0 X (W.heap.size) 2 2 t _ [(x1, y1), (x2, y2)] _ (HTW.out.below (drewB ((Below.refl W.heap.size W).alloc (Nat.le_refl _) (.cells #[.int .i64 (x1 : Int), .int .i64 (y1 : Int), .int .i64 (x2 : Int), .int .i64 (y2 : Int)] 55))) HBW.out) (Nat.le_trans HBW.out ((drewB ((Below.refl W.heap.size W).alloc (Nat.le_refl _) (.cells #[.int .i64 (x1 : Int), .int .i64 (y1 : Int), .int .i64 (x2 : Int), .int .i64 (y2 : Int)] 55)))).size) rfl (by omega) (heap_lt (show (W.alloc (.cells #[.int .i64 (x1 : Int), .int .i64 (y1 : Int), .int .i64 (x2 : Int), .int .i64 (y2 : Int)] 55)).heap[W.heap.size]? = _ from new_at W _ rfl)) (two_cells (show (W.alloc (.cells #[.int .i64 (x1 : Int), .int .i64 (y1 : Int), .int .i64 (x2 : Int), .int .i64 (y2 : Int)] 55)).heap[W.heap.size]? = _ from new_at W _ rfl)) (fun p hp => ?_) (fun p hp => ?_) q1 HQ1.out).mono ?_
        · have hx := HX.out
          simp at hp
          rcases hp with rfl | rfl
          · exact ⟨hx.1.1, hx.1.2.1, by have := hx.1.2.2.2.1; show x1 ≤ A; omega, by have := hx.1.2.2.2.2; show y1 ≤ H; omega⟩
          · exact ⟨hx.2.1, hx.2.2.1, by have := hx.2.2.2.2.1; show x2 ≤ A; omega, by have := hx.2.2.2.2.2; show y2 ≤ H; omega⟩
        · have hx := HX.out
          simp at hp
          rcases hp with rfl | rfl
          · exact HBD.out _ _ hx.1.1 hx.1.2.1 (by have := hx.1.2.2.2.1; omega) (by have := hx.1.2.2.2.2; omega)
          · exact HBD.out _ _ hx.2.1 hx.2.2.1 (by have := hx.2.2.2.2.1; omega) (by have := hx.2.2.2.2.2; omega)
        rintro e w4 ⟨rfl, hb4⟩
        have hb4' : Below W.heap.size W w4 := ((drewB ((Below.refl W.heap.size W).alloc (Nat.le_refl _) (.cells #[.int .i64 (x1 : Int), .int .i64 (y1 : Int), .int .i64 (x2 : Int), .int .i64 (y2 : Int)] 55)))).trans (hb4.mono (by simp))
        refine hK.out _ _ (HSB.out _ hb4') (fun _ => ?_)
        clear hK K
        refine wpAnyH_ready (rs := [7]) (by kernel_rfl) (by simp) ?_
        refine AllReadyH.cons (ops_at rfl) (fun K hK => ?_) AllReadyH.nil
        go_simp
        refine hK.out _ _ (HSB.out _ (hb4'.alloc hb4'.size (.cells #[.int .i64 (a : Int), .int .i64 (b : Int)] 55))) (fun _ => ?_)
        clear hK K
        refine wpAnyH_ready (rs := [8]) (by kernel_rfl) (by simp) ?_
        refine AllReadyH.cons (ops_at rfl) (fun K hK => ?_) AllReadyH.nil
        go_simp
        refine (worth_any B0 X (w4.heap.size) 1 1 t _ [(a, b)] _ (HTW.out.below (hb4'.alloc hb4'.size (.cells #[.int .i64 (a : Int), .int .i64 (b : Int)] 55)) HBW.out) (Nat.le_trans HBW.out ((hb4'.alloc hb4'.size (.cells #[.int .i64 (a : Int), .int .i64 (b : Int)] 55))).size) rfl (by omega) (heap_lt (show (w4.alloc (.cells #[.int .i64 (a : Int), .int .i64 (b : Int)] 55)).heap[w4.heap.size]? = _ from new_at w4 _ rfl)) (one_cell (show (w4.alloc (.cells #[.int .i64 (a : Int), .int .i64 (b : Int)] 55)).heap[w4.heap.size]? = _ from new_at w4 _ rfl)) (fun p hp => ?_) (fun p hp => ?_) v0 (by rw [sumB_one]; exact HV0.out)).mono ?_
        · simp at hp
          subst hp
          exact ⟨ha, hb, haA, hbH⟩
        · simp at hp
          subst hp
          exact HBD.out _ _ ha hb haA hbH
        rintro e w6 ⟨rfl, hb6⟩
        have hb6' : Below W.heap.size W w6 := (hb4'.alloc hb4'.size (.cells #[.int .i64 (a : Int), .int .i64 (b : Int)] 55)).trans (hb6.mono (hb4'.alloc hb4'.size (.cells #[.int .i64 (a : Int), .int .i64 (b : Int)] 55)).size)
        refine hK.out _ _ (HSB.out _ hb6') (fun _ => ?_)
        clear hK K
        refine wpAnyH_take (i := 9) (v := ?_) (ops_at rfl) (by kernel_rfl) (by kernel_rfl) (by kernel_rfl) (fun _ _ _ h => h) (Or.inl ⟨by rfl, ?ye19⟩) (by assumption) ?ne19
        case ye19 => (intro wS hSw; (try dsimp only at hSw);  go_simp; try rfl)
        try simp only [Act.put, List.setIfInBounds_toArray, List.set_cons_zero, List.set_cons_succ]
        refine wpAnyH_done (by kernel_rfl) ?_ _
        have hS6 := HSB.out _ hb6'
        have HBE := Lib.hid hb6'
        by_cases hq : q1 = v0
        · have hqe : (q1 == v0) = true := by rw [beq_iff_eq]; exact hq
          have HQE := Lib.hid hq
          clear hq
          have hT := HBE.out
          have HR2 := Lib.hid ((hT.block _ l2).trans HC2W.out)
          have HR3 := Lib.hid ((hT.block _ l3).trans HC3W.out)
          have HR4 := Lib.hid ((hT.block _ l4).trans HC4W.out)
          clear hT
          gi_wp2
          refine round_region_E (S := fun wq => (wq.heap[p6]? = some (.cells #[.int .i64 (x1 : Int), .int .i64 (y1 : Int)] 55 (0, 0)) ∧ wq.heap[p7]? = some (.cells #[.int .i64 (x2 : Int), .int .i64 (y2 : Int)] 55 (0, 0)))) 4 (by kernel_rfl) (by kernel_rfl) (by rintro ⟨_, _, h⟩; exact h) ⟨hS6.2.2.1, hS6.2.2.2⟩ (fun hH0 => ?_)
          refine AnyE.take (i := 0) (v := ?_) (ops_at rfl) (by kernel_rfl) (by kernel_rfl) (by kernel_rfl) (by kernel_rfl) (fun _ _ _ h => h) (Or.inl ⟨by rfl, ?ye10⟩) (by assumption) ?ne10
          case ye10 => (intro wS hSw; (try dsimp only at hSw); (have k0 := cell_of hSw.1 0); (have k1 := cell_of hSw.1 1); go_simp; try rfl)
          try simp only [Act.put, List.setIfInBounds_toArray, List.set_cons_zero, List.set_cons_succ]
          refine AnyE.take (i := 1) (v := ?_) (ops_at rfl) (by kernel_rfl) (by kernel_rfl) (by kernel_rfl) (by kernel_rfl) (fun _ _ _ h => h) (Or.inl ⟨by rfl, ?ye11⟩) (by assumption) ?ne11
          case ye11 => (intro wS hSw; (try dsimp only at hSw); (have k0 := cell_of hSw.2 0); (have k1 := cell_of hSw.2 1); go_simp; try rfl)
          try simp only [Act.put, List.setIfInBounds_toArray, List.set_cons_zero, List.set_cons_succ]
          have c0 := cell_of HR2.out 0
          have c1 := cell_of HR2.out 1
          have f0 := frozen_of HR2.out 0
          have f1 := frozen_of HR2.out 1
          refine AnyE.of_ready (rs := [2]) (by kernel_rfl) (by simp) ?_
          refine ReadyE.cons (ops_at rfl) (fun K hK => ?_) ReadyE.nil
          go_simp
          have hs2 := set_two HR2.out (.int .i64 (x1 : Int)) (.int .i64 (y1 : Int))
          refine hK.out _ _ (fun _ => ⟨(set_far _ (by show p6 ≠ z + 1 + 1; omega) _).trans ((set_far _ (by show p6 ≠ z + 1 + 1; omega) _).trans hS6.2.2.1), (set_far _ (by show p7 ≠ z + 1 + 1; omega) _).trans ((set_far _ (by show p7 ≠ z + 1 + 1; omega) _).trans hS6.2.2.2)⟩) (fun hH1 => ?_)
          clear hK K c0 c1 f0 f1
          have hR3 : ((w6.setCell ⟨z + 1 + 1, 0, none⟩ (.int .i64 (x1 : Int))).setCell ⟨z + 1 + 1, 1, none⟩ (.int .i64 (y1 : Int))).heap[z + 1 + 1 + 1]? = _ := (set_far _ (by show z + 1 + 1 + 1 ≠ z + 1 + 1; omega) _).trans ((set_far _ (by show z + 1 + 1 + 1 ≠ z + 1 + 1; omega) _).trans HR3.out)
          have hR4 : ((((w6.setCell ⟨z + 1 + 1, 0, none⟩ (.int .i64 (x1 : Int))).setCell ⟨z + 1 + 1, 1, none⟩ (.int .i64 (y1 : Int))).setCell ⟨z + 1 + 1 + 1, 0, none⟩ (.int .i64 (x2 : Int))).setCell ⟨z + 1 + 1 + 1, 1, none⟩ (.int .i64 (y2 : Int))).heap[z + 1 + 1 + 1 + 1]? = _ := (set_far _ (by show z + 1 + 1 + 1 + 1 ≠ z + 1 + 1 + 1; omega) _).trans ((set_far _ (by show z + 1 + 1 + 1 + 1 ≠ z + 1 + 1 + 1; omega) _).trans ((set_far _ (by show z + 1 + 1 + 1 + 1 ≠ z + 1 + 1; omega) _).trans ((set_far _ (by show z + 1 + 1 + 1 + 1 ≠ z + 1 + 1; omega) _).trans HR4.out)))
          have hs3 := set_two hR3 (.int .i64 (x2 : Int)) (.int .i64 (y2 : Int))
          have HS2 := Lib.hid hs2
          have HS3 := Lib.hid hs3
          have H4 := Lib.hid hR4
          have hS1 := hH1 (by omega)
          have c0 := cell_of hR3 0
          have c1 := cell_of hR3 1
          have f0 := frozen_of hR3 0
          have f1 := frozen_of hR3 1
          clear hs2 hs3 hR4 hR3 hH1
          refine AnyE.of_ready (rs := [3]) (by kernel_rfl) (by simp) ?_
          refine ReadyE.cons (ops_at rfl) (fun K hK => ?_) ReadyE.nil
          go_simp
          refine hK.out _ _ (fun _ => ⟨(set_far _ (by show p6 ≠ z + 1 + 1 + 1; omega) _).trans ((set_far _ (by show p6 ≠ z + 1 + 1 + 1; omega) _).trans hS1.1), (set_far _ (by show p7 ≠ z + 1 + 1 + 1; omega) _).trans ((set_far _ (by show p7 ≠ z + 1 + 1 + 1; omega) _).trans hS1.2)⟩) (fun hH2 => ?_)
          clear hK K c0 c1 f0 f1 hH2
          have c0 := cell_of H4.out 0
          have f0 := frozen_of H4.out 0
          refine AnyE.of_ready (rs := [4]) (by kernel_rfl) (by simp) ?_
          refine ReadyE.cons (ops_at rfl) (fun K hK => ?_) ReadyE.nil
          go_simp
          refine hK.out _ _ (fun h => absurd rfl h) (fun _ => ?_)
          clear hK K c0 f0
          refine AnyE.end_ (by kernel_rfl) ?_ _
          gi_wp2
          have hO4 : Only (Thr z) W (((((w6.setCell ⟨z + 1 + 1, 0, none⟩ (.int .i64 (x1 : Int))).setCell ⟨z + 1 + 1, 1, none⟩ (.int .i64 (y1 : Int))).setCell ⟨z + 1 + 1 + 1, 0, none⟩ (.int .i64 (x2 : Int))).setCell ⟨z + 1 + 1 + 1, 1, none⟩ (.int .i64 (y2 : Int))).setCell ⟨z + 1 + 1 + 1 + 1, 0, none⟩ (.bool true)) := Only.setCell (S := Thr z) (Only.setCell (S := Thr z) (Only.setCell (S := Thr z) (Only.setCell (S := Thr z) (Only.setCell (S := Thr z) (only_of_b HBE.out) (p := ⟨z + 1 + 1, 0, none⟩) (.inl rfl) _) (p := ⟨z + 1 + 1, 1, none⟩) (.inl rfl) _) (p := ⟨z + 1 + 1 + 1, 0, none⟩) (.inr (.inl rfl)) _) (p := ⟨z + 1 + 1 + 1, 1, none⟩) (.inr (.inl rfl)) _) (p := ⟨z + 1 + 1 + 1 + 1, 0, none⟩) (.inr (.inr rfl)) _
          refine ⟨keeps_from_only (B := W3.heap.size) hO4.drew (thr_lt (by omega)), rfl, (only_of_b (below_of_none HO.out)).trans hO4.drew, ⟨((x1, y1), (x2, y2)), hxm⟩, ⟨pre, rfl, HNO.out⟩, ?_, ?_, ?_, ?_⟩
          · rw [← HQE.out, ← HQ1.out, sumB_two]; rfl
          · exact (set_far _ (by show z + 1 + 1 ≠ z + 1 + 1 + 1 + 1; omega) _).trans ((set_far _ (by show z + 1 + 1 ≠ z + 1 + 1 + 1; omega) _).trans ((set_far _ (by show z + 1 + 1 ≠ z + 1 + 1 + 1; omega) _).trans HS2.out))
          · exact (set_far _ (by show z + 1 + 1 + 1 ≠ z + 1 + 1 + 1 + 1; omega) _).trans HS3.out
          · exact (set_self H4.out 0 (.bool true)).trans rfl
        · have hqe : (q1 == v0) = false := by rw [beq_eq_false_iff_ne]; exact hq
          gi_wp2
          refine ⟨keeps_from_only (S := fun _ => False) (only_of_b HBE.out) (fun k h => h.elim), (HBE.out.block C (by omega)), HO.out.trans (only_of_b HBE.out), fun c hc => ?_⟩
          rw [vals_snoc, List.mem_append, List.mem_singleton] at hc
          rcases hc with hc | rfl
          · exact HNO.out c hc
          · intro e; exact hq (by rw [← HQ1.out, sumB_two]; exact e)
      · go_simp
        refine hK.out _ _ (HSB.out _ (drewB (((Below.refl W.heap.size W).alloc (Nat.le_refl _) (.cells #[.int .i64 (x1 : Int), .int .i64 (y1 : Int), .int .i64 (x2 : Int), .int .i64 (y2 : Int)] 55)).alloc (by simp) (.cells #[.int .i64 (a : Int), .int .i64 (b : Int)] 55)))) (fun _ => ?_)
        clear hK K
        refine wpAnyH_ready (rs := [4]) (by kernel_rfl) (by simp) ?_
        refine AllReadyH.cons (ops_at rfl) (fun K hK => ?_) AllReadyH.nil
        go_simp
        refine (worth_any B0 X (W.heap.size) 2 2 t _ [(x1, y1), (x2, y2)] _ (HTW.out.below (drewB (((Below.refl W.heap.size W).alloc (Nat.le_refl _) (.cells #[.int .i64 (x1 : Int), .int .i64 (y1 : Int), .int .i64 (x2 : Int), .int .i64 (y2 : Int)] 55)).alloc (by simp) (.cells #[.int .i64 (a : Int), .int .i64 (b : Int)] 55))) HBW.out) (Nat.le_trans HBW.out ((drewB (((Below.refl W.heap.size W).alloc (Nat.le_refl _) (.cells #[.int .i64 (x1 : Int), .int .i64 (y1 : Int), .int .i64 (x2 : Int), .int .i64 (y2 : Int)] 55)).alloc (by simp) (.cells #[.int .i64 (a : Int), .int .i64 (b : Int)] 55)))).size) rfl (by omega) (heap_lt (show ((W.alloc (.cells #[.int .i64 (x1 : Int), .int .i64 (y1 : Int), .int .i64 (x2 : Int), .int .i64 (y2 : Int)] 55)).alloc (.cells #[.int .i64 (a : Int), .int .i64 (b : Int)] 55)).heap[W.heap.size]? = _ from (alloc_old _ (by simp) _).trans (new_at W _ rfl))) (two_cells (show ((W.alloc (.cells #[.int .i64 (x1 : Int), .int .i64 (y1 : Int), .int .i64 (x2 : Int), .int .i64 (y2 : Int)] 55)).alloc (.cells #[.int .i64 (a : Int), .int .i64 (b : Int)] 55)).heap[W.heap.size]? = _ from (alloc_old _ (by simp) _).trans (new_at W _ rfl))) (fun p hp => ?_) (fun p hp => ?_) q1 HQ1.out).mono ?_
        · have hx := HX.out
          simp at hp
          rcases hp with rfl | rfl
          · exact ⟨hx.1.1, hx.1.2.1, by have := hx.1.2.2.2.1; show x1 ≤ A; omega, by have := hx.1.2.2.2.2; show y1 ≤ H; omega⟩
          · exact ⟨hx.2.1, hx.2.2.1, by have := hx.2.2.2.2.1; show x2 ≤ A; omega, by have := hx.2.2.2.2.2; show y2 ≤ H; omega⟩
        · have hx := HX.out
          simp at hp
          rcases hp with rfl | rfl
          · exact HBD.out _ _ hx.1.1 hx.1.2.1 (by have := hx.1.2.2.2.1; omega) (by have := hx.1.2.2.2.2; omega)
          · exact HBD.out _ _ hx.2.1 hx.2.2.1 (by have := hx.2.2.2.2.1; omega) (by have := hx.2.2.2.2.2; omega)
        rintro e w5 ⟨rfl, hb5⟩
        have hb5' : Below W.heap.size W w5 := ((drewB (((Below.refl W.heap.size W).alloc (Nat.le_refl _) (.cells #[.int .i64 (x1 : Int), .int .i64 (y1 : Int), .int .i64 (x2 : Int), .int .i64 (y2 : Int)] 55)).alloc (by simp) (.cells #[.int .i64 (a : Int), .int .i64 (b : Int)] 55)))).trans (hb5.mono (by simp; omega))
        have hg2 := (hb5.block (W.heap.size + 1) (heap_lt (show ((W.alloc (.cells #[.int .i64 (x1 : Int), .int .i64 (y1 : Int), .int .i64 (x2 : Int), .int .i64 (y2 : Int)] 55)).alloc (.cells #[.int .i64 (a : Int), .int .i64 (b : Int)] 55)).heap[W.heap.size + 1]? = _ from new_at _ _ (by simp)))).trans (show ((W.alloc (.cells #[.int .i64 (x1 : Int), .int .i64 (y1 : Int), .int .i64 (x2 : Int), .int .i64 (y2 : Int)] 55)).alloc (.cells #[.int .i64 (a : Int), .int .i64 (b : Int)] 55)).heap[W.heap.size + 1]? = _ from new_at _ _ (by simp))
        refine hK.out _ _ (HSB.out _ hb5') (fun _ => ?_)
        clear hK K
        refine wpAnyH_ready (rs := [8]) (by kernel_rfl) (by simp) ?_
        refine AllReadyH.cons (ops_at rfl) (fun K hK => ?_) AllReadyH.nil
        go_simp
        refine (worth_any B0 X (W.heap.size + 1) 1 1 t _ [(a, b)] _ (HTW.out.below hb5' HBW.out) (Nat.le_trans HBW.out (hb5').size) rfl (by omega) (heap_lt hg2) (one_cell hg2) (fun p hp => ?_) (fun p hp => ?_) v0 (by rw [sumB_one]; exact HV0.out)).mono ?_
        · simp at hp
          subst hp
          exact ⟨ha, hb, haA, hbH⟩
        · simp at hp
          subst hp
          exact HBD.out _ _ ha hb haA hbH
        rintro e w6 ⟨rfl, hb6⟩
        have hb6' : Below W.heap.size W w6 := hb5'.trans (hb6.mono hb5'.size)
        refine hK.out _ _ (HSB.out _ hb6') (fun _ => ?_)
        clear hK K
        refine wpAnyH_take (i := 9) (v := ?_) (ops_at rfl) (by kernel_rfl) (by kernel_rfl) (by kernel_rfl) (fun _ _ _ h => h) (Or.inl ⟨by rfl, ?ye29⟩) (by assumption) ?ne29
        case ye29 => (intro wS hSw; (try dsimp only at hSw);  go_simp; try rfl)
        try simp only [Act.put, List.setIfInBounds_toArray, List.set_cons_zero, List.set_cons_succ]
        refine wpAnyH_done (by kernel_rfl) ?_ _
        have hS6 := HSB.out _ hb6'
        have HBE := Lib.hid hb6'
        by_cases hq : q1 = v0
        · have hqe : (q1 == v0) = true := by rw [beq_iff_eq]; exact hq
          have HQE := Lib.hid hq
          clear hq
          have hT := HBE.out
          have HR2 := Lib.hid ((hT.block _ l2).trans HC2W.out)
          have HR3 := Lib.hid ((hT.block _ l3).trans HC3W.out)
          have HR4 := Lib.hid ((hT.block _ l4).trans HC4W.out)
          clear hT
          gi_wp2
          refine round_region_E (S := fun wq => (wq.heap[p6]? = some (.cells #[.int .i64 (x1 : Int), .int .i64 (y1 : Int)] 55 (0, 0)) ∧ wq.heap[p7]? = some (.cells #[.int .i64 (x2 : Int), .int .i64 (y2 : Int)] 55 (0, 0)))) 4 (by kernel_rfl) (by kernel_rfl) (by rintro ⟨_, _, h⟩; exact h) ⟨hS6.2.2.1, hS6.2.2.2⟩ (fun hH0 => ?_)
          refine AnyE.take (i := 0) (v := ?_) (ops_at rfl) (by kernel_rfl) (by kernel_rfl) (by kernel_rfl) (by kernel_rfl) (fun _ _ _ h => h) (Or.inl ⟨by rfl, ?ye20⟩) (by assumption) ?ne20
          case ye20 => (intro wS hSw; (try dsimp only at hSw); (have k0 := cell_of hSw.1 0); (have k1 := cell_of hSw.1 1); go_simp; try rfl)
          try simp only [Act.put, List.setIfInBounds_toArray, List.set_cons_zero, List.set_cons_succ]
          refine AnyE.take (i := 1) (v := ?_) (ops_at rfl) (by kernel_rfl) (by kernel_rfl) (by kernel_rfl) (by kernel_rfl) (fun _ _ _ h => h) (Or.inl ⟨by rfl, ?ye21⟩) (by assumption) ?ne21
          case ye21 => (intro wS hSw; (try dsimp only at hSw); (have k0 := cell_of hSw.2 0); (have k1 := cell_of hSw.2 1); go_simp; try rfl)
          try simp only [Act.put, List.setIfInBounds_toArray, List.set_cons_zero, List.set_cons_succ]
          have c0 := cell_of HR2.out 0
          have c1 := cell_of HR2.out 1
          have f0 := frozen_of HR2.out 0
          have f1 := frozen_of HR2.out 1
          refine AnyE.of_ready (rs := [2]) (by kernel_rfl) (by simp) ?_
          refine ReadyE.cons (ops_at rfl) (fun K hK => ?_) ReadyE.nil
          go_simp
          have hs2 := set_two HR2.out (.int .i64 (x1 : Int)) (.int .i64 (y1 : Int))
          refine hK.out _ _ (fun _ => ⟨(set_far _ (by show p6 ≠ z + 1 + 1; omega) _).trans ((set_far _ (by show p6 ≠ z + 1 + 1; omega) _).trans hS6.2.2.1), (set_far _ (by show p7 ≠ z + 1 + 1; omega) _).trans ((set_far _ (by show p7 ≠ z + 1 + 1; omega) _).trans hS6.2.2.2)⟩) (fun hH1 => ?_)
          clear hK K c0 c1 f0 f1
          have hR3 : ((w6.setCell ⟨z + 1 + 1, 0, none⟩ (.int .i64 (x1 : Int))).setCell ⟨z + 1 + 1, 1, none⟩ (.int .i64 (y1 : Int))).heap[z + 1 + 1 + 1]? = _ := (set_far _ (by show z + 1 + 1 + 1 ≠ z + 1 + 1; omega) _).trans ((set_far _ (by show z + 1 + 1 + 1 ≠ z + 1 + 1; omega) _).trans HR3.out)
          have hR4 : ((((w6.setCell ⟨z + 1 + 1, 0, none⟩ (.int .i64 (x1 : Int))).setCell ⟨z + 1 + 1, 1, none⟩ (.int .i64 (y1 : Int))).setCell ⟨z + 1 + 1 + 1, 0, none⟩ (.int .i64 (x2 : Int))).setCell ⟨z + 1 + 1 + 1, 1, none⟩ (.int .i64 (y2 : Int))).heap[z + 1 + 1 + 1 + 1]? = _ := (set_far _ (by show z + 1 + 1 + 1 + 1 ≠ z + 1 + 1 + 1; omega) _).trans ((set_far _ (by show z + 1 + 1 + 1 + 1 ≠ z + 1 + 1 + 1; omega) _).trans ((set_far _ (by show z + 1 + 1 + 1 + 1 ≠ z + 1 + 1; omega) _).trans ((set_far _ (by show z + 1 + 1 + 1 + 1 ≠ z + 1 + 1; omega) _).trans HR4.out)))
          have hs3 := set_two hR3 (.int .i64 (x2 : Int)) (.int .i64 (y2 : Int))
          have HS2 := Lib.hid hs2
          have HS3 := Lib.hid hs3
          have H4 := Lib.hid hR4
          have hS1 := hH1 (by omega)
          have c0 := cell_of hR3 0
          have c1 := cell_of hR3 1
          have f0 := frozen_of hR3 0
          have f1 := frozen_of hR3 1
          clear hs2 hs3 hR4 hR3 hH1
          refine AnyE.of_ready (rs := [3]) (by kernel_rfl) (by simp) ?_
          refine ReadyE.cons (ops_at rfl) (fun K hK => ?_) ReadyE.nil
          go_simp
          refine hK.out _ _ (fun _ => ⟨(set_far _ (by show p6 ≠ z + 1 + 1 + 1; omega) _).trans ((set_far _ (by show p6 ≠ z + 1 + 1 + 1; omega) _).trans hS1.1), (set_far _ (by show p7 ≠ z + 1 + 1 + 1; omega) _).trans ((set_far _ (by show p7 ≠ z + 1 + 1 + 1; omega) _).trans hS1.2)⟩) (fun hH2 => ?_)
          clear hK K c0 c1 f0 f1 hH2
          have c0 := cell_of H4.out 0
          have f0 := frozen_of H4.out 0
          refine AnyE.of_ready (rs := [4]) (by kernel_rfl) (by simp) ?_
          refine ReadyE.cons (ops_at rfl) (fun K hK => ?_) ReadyE.nil
          go_simp
          refine hK.out _ _ (fun h => absurd rfl h) (fun _ => ?_)
          clear hK K c0 f0
          refine AnyE.end_ (by kernel_rfl) ?_ _
          gi_wp2
          have hO4 : Only (Thr z) W (((((w6.setCell ⟨z + 1 + 1, 0, none⟩ (.int .i64 (x1 : Int))).setCell ⟨z + 1 + 1, 1, none⟩ (.int .i64 (y1 : Int))).setCell ⟨z + 1 + 1 + 1, 0, none⟩ (.int .i64 (x2 : Int))).setCell ⟨z + 1 + 1 + 1, 1, none⟩ (.int .i64 (y2 : Int))).setCell ⟨z + 1 + 1 + 1 + 1, 0, none⟩ (.bool true)) := Only.setCell (S := Thr z) (Only.setCell (S := Thr z) (Only.setCell (S := Thr z) (Only.setCell (S := Thr z) (Only.setCell (S := Thr z) (only_of_b HBE.out) (p := ⟨z + 1 + 1, 0, none⟩) (.inl rfl) _) (p := ⟨z + 1 + 1, 1, none⟩) (.inl rfl) _) (p := ⟨z + 1 + 1 + 1, 0, none⟩) (.inr (.inl rfl)) _) (p := ⟨z + 1 + 1 + 1, 1, none⟩) (.inr (.inl rfl)) _) (p := ⟨z + 1 + 1 + 1 + 1, 0, none⟩) (.inr (.inr rfl)) _
          refine ⟨keeps_from_only (B := W3.heap.size) hO4.drew (thr_lt (by omega)), rfl, (only_of_b (below_of_none HO.out)).trans hO4.drew, ⟨((x1, y1), (x2, y2)), hxm⟩, ⟨pre, rfl, HNO.out⟩, ?_, ?_, ?_, ?_⟩
          · rw [← HQE.out, ← HQ1.out, sumB_two]; rfl
          · exact (set_far _ (by show z + 1 + 1 ≠ z + 1 + 1 + 1 + 1; omega) _).trans ((set_far _ (by show z + 1 + 1 ≠ z + 1 + 1 + 1; omega) _).trans ((set_far _ (by show z + 1 + 1 ≠ z + 1 + 1 + 1; omega) _).trans HS2.out))
          · exact (set_far _ (by show z + 1 + 1 + 1 ≠ z + 1 + 1 + 1 + 1; omega) _).trans HS3.out
          · exact (set_self H4.out 0 (.bool true)).trans rfl
        · have hqe : (q1 == v0) = false := by rw [beq_eq_false_iff_ne]; exact hq
          gi_wp2
          refine ⟨keeps_from_only (S := fun _ => False) (only_of_b HBE.out) (fun k h => h.elim), (HBE.out.block C (by omega)), HO.out.trans (only_of_b HBE.out), fun c hc => ?_⟩
          rw [vals_snoc, List.mem_append, List.mem_singleton] at hc
          rcases hc with hc | rfl
          · exact HNO.out c hc
          · intro e; exact hq (by rw [← HQ1.out, sumB_two]; exact e)
    · go_simp
      refine hK.out _ _ (HSB.out _ (drewB ((Below.refl W.heap.size W).alloc (Nat.le_refl _) (.cells #[.int .i64 (a : Int), .int .i64 (b : Int)] 55)))) (fun _ => ?_)
      clear hK K
      refine wpAnyH_ready (rs := [3]) (by kernel_rfl) (by simp) ?_
      refine AllReadyH.cons (ops_at rfl) (fun K hK => ?_) AllReadyH.nil
      go_simp
      refine hK.out _ _ (HSB.out _ (drewB (((Below.refl W.heap.size W).alloc (Nat.le_refl _) (.cells #[.int .i64 (a : Int), .int .i64 (b : Int)] 55)).alloc (by simp) (.cells #[.int .i64 (x1 : Int), .int .i64 (y1 : Int), .int .i64 (x2 : Int), .int .i64 (y2 : Int)] 55)))) (fun _ => ?_)
      clear hK K
      refine wpAnyH_ready (rs := [4]) (by kernel_rfl) (by simp) ?_
      refine AllReadyH.cons (ops_at rfl) (fun K hK => ?_) AllReadyH.nil
      go_simp
      refine (worth_any B0 X (W.heap.size + 1) 2 2 t _ [(x1, y1), (x2, y2)] _ (HTW.out.below (drewB (((Below.refl W.heap.size W).alloc (Nat.le_refl _) (.cells #[.int .i64 (a : Int), .int .i64 (b : Int)] 55)).alloc (by simp) (.cells #[.int .i64 (x1 : Int), .int .i64 (y1 : Int), .int .i64 (x2 : Int), .int .i64 (y2 : Int)] 55))) HBW.out) (Nat.le_trans HBW.out ((drewB (((Below.refl W.heap.size W).alloc (Nat.le_refl _) (.cells #[.int .i64 (a : Int), .int .i64 (b : Int)] 55)).alloc (by simp) (.cells #[.int .i64 (x1 : Int), .int .i64 (y1 : Int), .int .i64 (x2 : Int), .int .i64 (y2 : Int)] 55)))).size) rfl (by omega) (heap_lt (show ((W.alloc (.cells #[.int .i64 (a : Int), .int .i64 (b : Int)] 55)).alloc (.cells #[.int .i64 (x1 : Int), .int .i64 (y1 : Int), .int .i64 (x2 : Int), .int .i64 (y2 : Int)] 55)).heap[W.heap.size + 1]? = _ from new_at _ _ (by simp))) (two_cells (show ((W.alloc (.cells #[.int .i64 (a : Int), .int .i64 (b : Int)] 55)).alloc (.cells #[.int .i64 (x1 : Int), .int .i64 (y1 : Int), .int .i64 (x2 : Int), .int .i64 (y2 : Int)] 55)).heap[W.heap.size + 1]? = _ from new_at _ _ (by simp))) (fun p hp => ?_) (fun p hp => ?_) q1 HQ1.out).mono ?_
      · have hx := HX.out
        simp at hp
        rcases hp with rfl | rfl
        · exact ⟨hx.1.1, hx.1.2.1, by have := hx.1.2.2.2.1; show x1 ≤ A; omega, by have := hx.1.2.2.2.2; show y1 ≤ H; omega⟩
        · exact ⟨hx.2.1, hx.2.2.1, by have := hx.2.2.2.2.1; show x2 ≤ A; omega, by have := hx.2.2.2.2.2; show y2 ≤ H; omega⟩
      · have hx := HX.out
        simp at hp
        rcases hp with rfl | rfl
        · exact HBD.out _ _ hx.1.1 hx.1.2.1 (by have := hx.1.2.2.2.1; omega) (by have := hx.1.2.2.2.2; omega)
        · exact HBD.out _ _ hx.2.1 hx.2.2.1 (by have := hx.2.2.2.2.1; omega) (by have := hx.2.2.2.2.2; omega)
      rintro e w5 ⟨rfl, hb5⟩
      have hb5' : Below W.heap.size W w5 := ((drewB (((Below.refl W.heap.size W).alloc (Nat.le_refl _) (.cells #[.int .i64 (a : Int), .int .i64 (b : Int)] 55)).alloc (by simp) (.cells #[.int .i64 (x1 : Int), .int .i64 (y1 : Int), .int .i64 (x2 : Int), .int .i64 (y2 : Int)] 55)))).trans (hb5.mono (by simp; omega))
      have hg2 := (hb5.block (W.heap.size) (heap_lt (show ((W.alloc (.cells #[.int .i64 (a : Int), .int .i64 (b : Int)] 55)).alloc (.cells #[.int .i64 (x1 : Int), .int .i64 (y1 : Int), .int .i64 (x2 : Int), .int .i64 (y2 : Int)] 55)).heap[W.heap.size]? = _ from (alloc_old _ (by simp) _).trans (new_at W _ rfl)))).trans (show ((W.alloc (.cells #[.int .i64 (a : Int), .int .i64 (b : Int)] 55)).alloc (.cells #[.int .i64 (x1 : Int), .int .i64 (y1 : Int), .int .i64 (x2 : Int), .int .i64 (y2 : Int)] 55)).heap[W.heap.size]? = _ from (alloc_old _ (by simp) _).trans (new_at W _ rfl))
      refine hK.out _ _ (HSB.out _ hb5') (fun _ => ?_)
      clear hK K
      refine wpAnyH_ready (rs := [8]) (by kernel_rfl) (by simp) ?_
      refine AllReadyH.cons (ops_at rfl) (fun K hK => ?_) AllReadyH.nil
      go_simp
      refine (worth_any B0 X (W.heap.size) 1 1 t _ [(a, b)] _ (HTW.out.below hb5' HBW.out) (Nat.le_trans HBW.out (hb5').size) rfl (by omega) (heap_lt hg2) (one_cell hg2) (fun p hp => ?_) (fun p hp => ?_) v0 (by rw [sumB_one]; exact HV0.out)).mono ?_
      · simp at hp
        subst hp
        exact ⟨ha, hb, haA, hbH⟩
      · simp at hp
        subst hp
        exact HBD.out _ _ ha hb haA hbH
      rintro e w6 ⟨rfl, hb6⟩
      have hb6' : Below W.heap.size W w6 := hb5'.trans (hb6.mono hb5'.size)
      refine hK.out _ _ (HSB.out _ hb6') (fun _ => ?_)
      clear hK K
      refine wpAnyH_take (i := 9) (v := ?_) (ops_at rfl) (by kernel_rfl) (by kernel_rfl) (by kernel_rfl) (fun _ _ _ h => h) (Or.inl ⟨by rfl, ?ye39⟩) (by assumption) ?ne39
      case ye39 => (intro wS hSw; (try dsimp only at hSw);  go_simp; try rfl)
      try simp only [Act.put, List.setIfInBounds_toArray, List.set_cons_zero, List.set_cons_succ]
      refine wpAnyH_done (by kernel_rfl) ?_ _
      have hS6 := HSB.out _ hb6'
      have HBE := Lib.hid hb6'
      by_cases hq : q1 = v0
      · have hqe : (q1 == v0) = true := by rw [beq_iff_eq]; exact hq
        have HQE := Lib.hid hq
        clear hq
        have hT := HBE.out
        have HR2 := Lib.hid ((hT.block _ l2).trans HC2W.out)
        have HR3 := Lib.hid ((hT.block _ l3).trans HC3W.out)
        have HR4 := Lib.hid ((hT.block _ l4).trans HC4W.out)
        clear hT
        gi_wp2
        refine round_region_E (S := fun wq => (wq.heap[p6]? = some (.cells #[.int .i64 (x1 : Int), .int .i64 (y1 : Int)] 55 (0, 0)) ∧ wq.heap[p7]? = some (.cells #[.int .i64 (x2 : Int), .int .i64 (y2 : Int)] 55 (0, 0)))) 4 (by kernel_rfl) (by kernel_rfl) (by rintro ⟨_, _, h⟩; exact h) ⟨hS6.2.2.1, hS6.2.2.2⟩ (fun hH0 => ?_)
        refine AnyE.take (i := 0) (v := ?_) (ops_at rfl) (by kernel_rfl) (by kernel_rfl) (by kernel_rfl) (by kernel_rfl) (fun _ _ _ h => h) (Or.inl ⟨by rfl, ?ye30⟩) (by assumption) ?ne30
        case ye30 => (intro wS hSw; (try dsimp only at hSw); (have k0 := cell_of hSw.1 0); (have k1 := cell_of hSw.1 1); go_simp; try rfl)
        try simp only [Act.put, List.setIfInBounds_toArray, List.set_cons_zero, List.set_cons_succ]
        refine AnyE.take (i := 1) (v := ?_) (ops_at rfl) (by kernel_rfl) (by kernel_rfl) (by kernel_rfl) (by kernel_rfl) (fun _ _ _ h => h) (Or.inl ⟨by rfl, ?ye31⟩) (by assumption) ?ne31
        case ye31 => (intro wS hSw; (try dsimp only at hSw); (have k0 := cell_of hSw.2 0); (have k1 := cell_of hSw.2 1); go_simp; try rfl)
        try simp only [Act.put, List.setIfInBounds_toArray, List.set_cons_zero, List.set_cons_succ]
        have c0 := cell_of HR2.out 0
        have c1 := cell_of HR2.out 1
        have f0 := frozen_of HR2.out 0
        have f1 := frozen_of HR2.out 1
        refine AnyE.of_ready (rs := [2]) (by kernel_rfl) (by simp) ?_
        refine ReadyE.cons (ops_at rfl) (fun K hK => ?_) ReadyE.nil
        go_simp
        have hs2 := set_two HR2.out (.int .i64 (x1 : Int)) (.int .i64 (y1 : Int))
        refine hK.out _ _ (fun _ => ⟨(set_far _ (by show p6 ≠ z + 1 + 1; omega) _).trans ((set_far _ (by show p6 ≠ z + 1 + 1; omega) _).trans hS6.2.2.1), (set_far _ (by show p7 ≠ z + 1 + 1; omega) _).trans ((set_far _ (by show p7 ≠ z + 1 + 1; omega) _).trans hS6.2.2.2)⟩) (fun hH1 => ?_)
        clear hK K c0 c1 f0 f1
        have hR3 : ((w6.setCell ⟨z + 1 + 1, 0, none⟩ (.int .i64 (x1 : Int))).setCell ⟨z + 1 + 1, 1, none⟩ (.int .i64 (y1 : Int))).heap[z + 1 + 1 + 1]? = _ := (set_far _ (by show z + 1 + 1 + 1 ≠ z + 1 + 1; omega) _).trans ((set_far _ (by show z + 1 + 1 + 1 ≠ z + 1 + 1; omega) _).trans HR3.out)
        have hR4 : ((((w6.setCell ⟨z + 1 + 1, 0, none⟩ (.int .i64 (x1 : Int))).setCell ⟨z + 1 + 1, 1, none⟩ (.int .i64 (y1 : Int))).setCell ⟨z + 1 + 1 + 1, 0, none⟩ (.int .i64 (x2 : Int))).setCell ⟨z + 1 + 1 + 1, 1, none⟩ (.int .i64 (y2 : Int))).heap[z + 1 + 1 + 1 + 1]? = _ := (set_far _ (by show z + 1 + 1 + 1 + 1 ≠ z + 1 + 1 + 1; omega) _).trans ((set_far _ (by show z + 1 + 1 + 1 + 1 ≠ z + 1 + 1 + 1; omega) _).trans ((set_far _ (by show z + 1 + 1 + 1 + 1 ≠ z + 1 + 1; omega) _).trans ((set_far _ (by show z + 1 + 1 + 1 + 1 ≠ z + 1 + 1; omega) _).trans HR4.out)))
        have hs3 := set_two hR3 (.int .i64 (x2 : Int)) (.int .i64 (y2 : Int))
        have HS2 := Lib.hid hs2
        have HS3 := Lib.hid hs3
        have H4 := Lib.hid hR4
        have hS1 := hH1 (by omega)
        have c0 := cell_of hR3 0
        have c1 := cell_of hR3 1
        have f0 := frozen_of hR3 0
        have f1 := frozen_of hR3 1
        clear hs2 hs3 hR4 hR3 hH1
        refine AnyE.of_ready (rs := [3]) (by kernel_rfl) (by simp) ?_
        refine ReadyE.cons (ops_at rfl) (fun K hK => ?_) ReadyE.nil
        go_simp
        refine hK.out _ _ (fun _ => ⟨(set_far _ (by show p6 ≠ z + 1 + 1 + 1; omega) _).trans ((set_far _ (by show p6 ≠ z + 1 + 1 + 1; omega) _).trans hS1.1), (set_far _ (by show p7 ≠ z + 1 + 1 + 1; omega) _).trans ((set_far _ (by show p7 ≠ z + 1 + 1 + 1; omega) _).trans hS1.2)⟩) (fun hH2 => ?_)
        clear hK K c0 c1 f0 f1 hH2
        have c0 := cell_of H4.out 0
        have f0 := frozen_of H4.out 0
        refine AnyE.of_ready (rs := [4]) (by kernel_rfl) (by simp) ?_
        refine ReadyE.cons (ops_at rfl) (fun K hK => ?_) ReadyE.nil
        go_simp
        refine hK.out _ _ (fun h => absurd rfl h) (fun _ => ?_)
        clear hK K c0 f0
        refine AnyE.end_ (by kernel_rfl) ?_ _
        gi_wp2
        have hO4 : Only (Thr z) W (((((w6.setCell ⟨z + 1 + 1, 0, none⟩ (.int .i64 (x1 : Int))).setCell ⟨z + 1 + 1, 1, none⟩ (.int .i64 (y1 : Int))).setCell ⟨z + 1 + 1 + 1, 0, none⟩ (.int .i64 (x2 : Int))).setCell ⟨z + 1 + 1 + 1, 1, none⟩ (.int .i64 (y2 : Int))).setCell ⟨z + 1 + 1 + 1 + 1, 0, none⟩ (.bool true)) := Only.setCell (S := Thr z) (Only.setCell (S := Thr z) (Only.setCell (S := Thr z) (Only.setCell (S := Thr z) (Only.setCell (S := Thr z) (only_of_b HBE.out) (p := ⟨z + 1 + 1, 0, none⟩) (.inl rfl) _) (p := ⟨z + 1 + 1, 1, none⟩) (.inl rfl) _) (p := ⟨z + 1 + 1 + 1, 0, none⟩) (.inr (.inl rfl)) _) (p := ⟨z + 1 + 1 + 1, 1, none⟩) (.inr (.inl rfl)) _) (p := ⟨z + 1 + 1 + 1 + 1, 0, none⟩) (.inr (.inr rfl)) _
        refine ⟨keeps_from_only (B := W3.heap.size) hO4.drew (thr_lt (by omega)), rfl, (only_of_b (below_of_none HO.out)).trans hO4.drew, ⟨((x1, y1), (x2, y2)), hxm⟩, ⟨pre, rfl, HNO.out⟩, ?_, ?_, ?_, ?_⟩
        · rw [← HQE.out, ← HQ1.out, sumB_two]; rfl
        · exact (set_far _ (by show z + 1 + 1 ≠ z + 1 + 1 + 1 + 1; omega) _).trans ((set_far _ (by show z + 1 + 1 ≠ z + 1 + 1 + 1; omega) _).trans ((set_far _ (by show z + 1 + 1 ≠ z + 1 + 1 + 1; omega) _).trans HS2.out))
        · exact (set_far _ (by show z + 1 + 1 + 1 ≠ z + 1 + 1 + 1 + 1; omega) _).trans HS3.out
        · exact (set_self H4.out 0 (.bool true)).trans rfl
      · have hqe : (q1 == v0) = false := by rw [beq_eq_false_iff_ne]; exact hq
        gi_wp2
        refine ⟨keeps_from_only (S := fun _ => False) (only_of_b HBE.out) (fun k h => h.elim), (HBE.out.block C (by omega)), HO.out.trans (only_of_b HBE.out), fun c hc => ?_⟩
        rw [vals_snoc, List.mem_append, List.mem_singleton] at hc
        rcases hc with hc | rfl
        · exact HNO.out c hc
        · intro e; exact hq (by rw [← HQ1.out, sumB_two]; exact e)
  case done =>
    rintro D xs W hD hxs ⟨ho, hno⟩ hK
    have hbz := below_of_none ho
    have g2 := (hbz.block (z + 1 + 1) (by have := heap_lt HK2.out; omega)).trans HK2.out
    have g3 := (hbz.block (z + 1 + 1 + 1) (by have := heap_lt HK3.out; omega)).trans HK3.out
    have g4 := (hbz.block (z + 1 + 1 + 1 + 1) (by have := heap_lt HK4.out; omega)).trans HK4.out
    have HNO := Lib.hid hno
    clear hno
    have c20 := cell_of g2 0
    have c21 := cell_of g2 1
    have c30 := cell_of g3 0
    have c31 := cell_of g3 1
    have c40 := cell_of g4 0
    have f20 := frozen_of g2 0
    have f21 := frozen_of g2 1
    have f30 := frozen_of g3 0
    have f31 := frozen_of g3 1
    have f40 := frozen_of g4 0
    have hbn : ∀ W : World, (Instr.build 55 #[]).run Try.prog W = .ok (.agg #[.int .i64 0, .int .i64 0]) W := fun W => run_build W 55 _ _ (by kernel_rfl)
    gi_wp2
    have hD2 := heap_lt HK4.out
    have hDz : z + 1 + 1 + 1 + 1 < D := by omega
    have hs2 := set_two g2 (.int .i64 0) (.int .i64 0)
    have hg3 : ((W.setCell ⟨z + 1 + 1, 0, none⟩ (.int .i64 0)).setCell ⟨z + 1 + 1, 1, none⟩ (.int .i64 0)).heap[z + 1 + 1 + 1]? = _ := (set_far _ (by show z + 1 + 1 + 1 ≠ z + 1 + 1; omega) _).trans ((set_far _ (by show z + 1 + 1 + 1 ≠ z + 1 + 1; omega) _).trans g3)
    have hs3 := set_two hg3 (.int .i64 0) (.int .i64 0)
    have hg4 : ((((W.setCell ⟨z + 1 + 1, 0, none⟩ (.int .i64 0)).setCell ⟨z + 1 + 1, 1, none⟩ (.int .i64 0)).setCell ⟨z + 1 + 1 + 1, 0, none⟩ (.int .i64 0)).setCell ⟨z + 1 + 1 + 1, 1, none⟩ (.int .i64 0)).heap[z + 1 + 1 + 1 + 1]? = _ := (set_far _ (by show z + 1 + 1 + 1 + 1 ≠ z + 1 + 1 + 1; omega) _).trans ((set_far _ (by show z + 1 + 1 + 1 + 1 ≠ z + 1 + 1 + 1; omega) _).trans ((set_far _ (by show z + 1 + 1 + 1 + 1 ≠ z + 1 + 1; omega) _).trans ((set_far _ (by show z + 1 + 1 + 1 + 1 ≠ z + 1 + 1; omega) _).trans g4)))
    have x4 := set_self hg4 0 (.bool false)
    have x3 := (set_far (p := ⟨z + 1 + 1 + 1 + 1, 0, none⟩) _ (by show z + 1 + 1 + 1 ≠ z + 1 + 1 + 1 + 1; omega) (.bool false)).trans hs3
    have x2 : (((((W.setCell ⟨z + 1 + 1, 0, none⟩ (.int .i64 0)).setCell ⟨z + 1 + 1, 1, none⟩ (.int .i64 0)).setCell ⟨z + 1 + 1 + 1, 0, none⟩ (.int .i64 0)).setCell ⟨z + 1 + 1 + 1, 1, none⟩ (.int .i64 0)).setCell ⟨z + 1 + 1 + 1 + 1, 0, none⟩ (.bool false)).heap[z + 1 + 1]? = _ := (set_far _ (by show z + 1 + 1 ≠ z + 1 + 1 + 1 + 1; omega) _).trans ((set_far _ (by show z + 1 + 1 ≠ z + 1 + 1 + 1; omega) _).trans ((set_far _ (by show z + 1 + 1 ≠ z + 1 + 1 + 1; omega) _).trans hs2))
    have hK5 : (((((W.setCell ⟨z + 1 + 1, 0, none⟩ (.int .i64 0)).setCell ⟨z + 1 + 1, 1, none⟩ (.int .i64 0)).setCell ⟨z + 1 + 1 + 1, 0, none⟩ (.int .i64 0)).setCell ⟨z + 1 + 1 + 1, 1, none⟩ (.int .i64 0)).setCell ⟨z + 1 + 1 + 1 + 1, 0, none⟩ (.bool false)).heap[D]? = _ := (set_far _ (by show D ≠ z + 1 + 1 + 1 + 1; omega) _).trans ((set_far _ (by show D ≠ z + 1 + 1 + 1; omega) _).trans ((set_far _ (by show D ≠ z + 1 + 1 + 1; omega) _).trans ((set_far _ (by show D ≠ z + 1 + 1; omega) _).trans ((set_far _ (by show D ≠ z + 1 + 1; omega) _).trans hK))))
    have hB5 : Below w.heap.size w (((((W.setCell ⟨z + 1 + 1, 0, none⟩ (.int .i64 0)).setCell ⟨z + 1 + 1, 1, none⟩ (.int .i64 0)).setCell ⟨z + 1 + 1 + 1, 0, none⟩ (.int .i64 0)).setCell ⟨z + 1 + 1 + 1, 1, none⟩ (.int .i64 0)).setCell ⟨z + 1 + 1 + 1 + 1, 0, none⟩ (.bool false)) := (((((HB3.out.trans (hbz.mono HB3.out.size)).setCell (p := ⟨z + 1 + 1, 0, none⟩) (by show w.heap.size ≤ z + 1 + 1; omega) _).setCell (p := ⟨z + 1 + 1, 1, none⟩) (by show w.heap.size ≤ z + 1 + 1; omega) _).setCell (p := ⟨z + 1 + 1 + 1, 0, none⟩) (by show w.heap.size ≤ z + 1 + 1 + 1; omega) _).setCell (p := ⟨z + 1 + 1 + 1, 1, none⟩) (by show w.heap.size ≤ z + 1 + 1 + 1; omega) _).setCell (p := ⟨z + 1 + 1 + 1 + 1, 0, none⟩) (by show w.heap.size ≤ z + 1 + 1 + 1 + 1; omega) _
    clear c20 c21 c30 c31 c40 f20 f21 f30 f31 f40 hbn hs2 hs3 hg3 hg4 g2 g3 g4 hK
    generalize (((((W.setCell ⟨z + 1 + 1, 0, none⟩ (.int .i64 0)).setCell ⟨z + 1 + 1, 1, none⟩ (.int .i64 0)).setCell ⟨z + 1 + 1 + 1, 0, none⟩ (.int .i64 0)).setCell ⟨z + 1 + 1 + 1, 1, none⟩ (.int .i64 0)).setCell ⟨z + 1 + 1 + 1 + 1, 0, none⟩ (.bool false)) = Y at x2 x3 x4 hK5 hB5 ⊢
    have d0 := cell_kept (cell_of x2 0) (grownBy_putObj' Y D (.deferred none)) (fun r e => by cases e; exact ⟨_, hK5, rfl⟩)
    have d1 := cell_kept (cell_of x2 1) (grownBy_putObj' Y D (.deferred none)) (fun r e => by cases e; exact ⟨_, hK5, rfl⟩)
    have d2 := cell_kept (cell_of x3 0) (grownBy_putObj' Y D (.deferred none)) (fun r e => by cases e; exact ⟨_, hK5, rfl⟩)
    have d3 := cell_kept (cell_of x3 1) (grownBy_putObj' Y D (.deferred none)) (fun r e => by cases e; exact ⟨_, hK5, rfl⟩)
    have d4 := cell_kept (cell_of x4 0) (grownBy_putObj' Y D (.deferred none)) (fun r e => by cases e; exact ⟨_, hK5, rfl⟩)
    refine ⟨by simp, .inl ⟨_, _, rfl, run_takeDeferred hK5, ?_⟩⟩
    refine ⟨.tuple #[.agg #[.int .i64 0, .int .i64 0], .agg #[.int .i64 0, .int .i64 0], .bool false], by simp [results, Try.results50, go_sem, d0, d1, d2, d3, d4], ?_, ?_⟩
    · exact (hB5).trans (belowK_b (w := W3) HB3.out.size Y D _ _ hD hK5 rfl rfl)
    · obtain rfl : o = none := by rw [← HFO.out, fcut, List.find?_eq_none]; intro c hc; rw [← hxs] at hc; simpa using HNO.out c hc
      rfl
  case stop =>
    rintro D c pre W hD hsp ⟨rfl, ho, x, hx1, hx2, h2, h3, h4⟩ hK
    gi_wp2
    obtain ⟨q, rfl, hq⟩ := hx1
    obtain ⟨rr, hrr⟩ := hsp
    have hzz := heap_lt HK4.out
    have key : ∀ L : List Cut, List.map Subtype.val (q ++ [x]) ++ rr = L → L.find? (fun c => sumT t c == v0) = some x.1 := by
      rintro L rfl
      rw [List.map_append, List.append_assoc, List.find?_append, List.find?_eq_none.2 (fun c hc => by simpa using hq c hc)]
      simp [hx2]
    obtain rfl : o = some x.1 := by rw [← HFO.out, fcut]; exact key _ hrr
    have d0 := cell_kept (cell_of h2 0) (grownBy_putObj' W D (.deferred none)) (fun r e => by cases e; exact ⟨_, hK, rfl⟩)
    have d1 := cell_kept (cell_of h2 1) (grownBy_putObj' W D (.deferred none)) (fun r e => by cases e; exact ⟨_, hK, rfl⟩)
    have d2 := cell_kept (cell_of h3 0) (grownBy_putObj' W D (.deferred none)) (fun r e => by cases e; exact ⟨_, hK, rfl⟩)
    have d3 := cell_kept (cell_of h3 1) (grownBy_putObj' W D (.deferred none)) (fun r e => by cases e; exact ⟨_, hK, rfl⟩)
    have d4 := cell_kept (cell_of h4 0) (grownBy_putObj' W D (.deferred none)) (fun r e => by cases e; exact ⟨_, hK, rfl⟩)
    refine ⟨by simp, .inl ⟨_, _, rfl, run_takeDeferred hK, ?_⟩⟩
    refine ⟨.tuple #[.agg #[.int .i64 (x.1.1.1 : Int), .int .i64 (x.1.1.2 : Int)], .agg #[.int .i64 (x.1.2.1 : Int), .int .i64 (x.1.2.2 : Int)], .bool true], by simp [results, Try.results50, go_sem, d0, d1, d2, d3, d4], ?_, ?_⟩
    · exact (HB3.out.trans (ho.below (B := w.heap.size) HB3.out.size (fun k hk => by rcases hk with rfl | rfl | rfl <;> omega))).trans (belowK_b (w := W3) HB3.out.size W D _ _ hD hK rfl rfl)
    · rfl
end Go.Proofs.Ytjpejhpilfjheaa
