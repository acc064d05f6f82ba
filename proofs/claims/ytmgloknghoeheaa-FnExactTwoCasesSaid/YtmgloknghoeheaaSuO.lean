/-
  The written program's best choices so far: one more is offered; what its visitors keep.
  Conditions: lists of at most 1048576 numbers, and at most 4096 of them.
-/
import Derived.Test.YtmgloknghoeheaaSuV
import Derived.Test.YtmgloknghoeheaaSuB
import Derived.Test.YtmgloknghoeheaaCloneI
namespace Go.Proofs.Ytmgloknghoeheaa
set_option linter.unusedVariables false
open Go.RowKit

/-- The library's clone of a list, which may be none. -/
theorem cloneO_any (A : Option Addr) (n c : Nat) (xs : List Int) (lo hi : Nat) (w : World) (hn : xs.length = n) (hlen : n ≤ 1048576) (hs : Seg w lo hi A xs) (hB : hi ≤ w.heap.size) :
    Calls Try.prog 88 #[.slice A n c] w fun e w' => ∃ A' c', e = .returned (.slice A' n c') ∧ Own w' w.heap.size w'.heap.size A' xs ∧ Below w.heap.size w w' := by
  rcases A with _ | a
  · have hx : xs = [] := by
      rcases hs with h | ⟨b, off, e, _⟩
      · exact h
      · cases e
    subst hx
    obtain rfl : n = 0 := hn.symm
    have hnil : ∀ (w : World) (a : Option Addr) (n c n' c' : Nat), (binOp .eql 31 (.slice a n c) (.slice none n' c')).run Try.prog w = .ok (.bool a.isNone) w := fun w a n c n' c' => Lib.run_eql_slice_nil w _ _ a n c n' c' Try.underlying31
    go_enter Try.func88, Try.ntmps88
    go_wp2
    go_ret
    exact ⟨none, 0, rfl, Own.nil_, Below.refl _ _⟩
  · refine (cloneI_any a n c xs lo hi w hn hlen hs hB).mono ?_
    rintro e w' ⟨v, rfl, hown, hb⟩
    obtain ⟨A', c', rfl⟩ := ownsRow_form hown
    exact ⟨A', c', rfl, (ownsRow_own (ys := xs) (by rw [hn]; exact hown)).2, hb⟩

/-- One choice has been offered. -/
def RetOff (q : Nat) (s : Int × List Int × Nat) (Af : Option Addr) (nf cf : Nat) (ks : List Int) (v : Int) (w : World) (e : Ending) (w' : World) : Prop :=
  e = .returned (.tuple #[]) ∧ ∃ A' n' c', w'.heap[q]? = some (.cells #[.int .i64 (offF s ks v).1, .slice A' n' c', .int .i64 ((offF s ks v).2.2 : Nat)] 70 (0, 0)) ∧ (offF s ks v).2.1.length = n' ∧
    ((A' = Af ∧ (offF s ks v).2.1 = s.2.1) ∨ ((offF s ks v).2.1 = ks ∧ Own w' w.heap.size w'.heap.size A' ks)) ∧ Only (fun b => b = q) w w'

set_option maxRecDepth 100000 in
set_option maxHeartbeats 2000000 in
theorem offer_any (q : Nat) (wo : Int) (first : List Int) (cnt : Nat) (Af : Option Addr) (nf cf : Nat) (A : Option Addr) (m c : Nat) (ks : List Int) (v : Int) (lo hi : Nat) (w : World) (hq : w.heap[q]? = some (.cells #[.int .i64 wo, .slice Af nf cf, .int .i64 (cnt : Nat)] 70 (0, 0)))
    (hnf : first.length = nf) (hc : cnt ≤ 4096) (hm : ks.length = m) (hlen : m ≤ 1048576) (hs : Seg w lo hi A ks) (hB : hi ≤ w.heap.size) :
    Calls Try.prog 61 #[.pointer (some ⟨q, 0, none⟩), .slice A m c, .int .i64 v] w (RetOff q (wo, first, cnt) Af nf cf ks v w) := by
  have HQ := Lib.hid hq
  have HNF := Lib.hid hnf
  have HM := Lib.hid hm
  have q0 := cell_of hq 0
  have q1 := cell_of hq 1
  have q2 := cell_of hq 2
  have z0 := frozen_of hq 0
  have z1 := frozen_of hq 1
  have z2 := frozen_of hq 2
  have hqlt := heap_lt hq
  have HLT := Lib.hid hqlt
  by_cases hnew : cnt = 0 ∨ wo < v
  · have HOF := Lib.hid (show offF (wo, first, cnt) ks v = (v, ks, 1) by unfold offF; exact if_pos hnew)
    have hcase : ((cnt : Int) == 0) = true ∨ (((cnt : Int) == 0) = false ∧ decide (wo < v) = true) := by
      by_cases h0 : cnt = 0
      · left; rw [beq_iff_eq]; omega
      · right; exact ⟨by rw [beq_eq_false_iff_ne]; omega, decide_eq_true (by omega)⟩
    have hvv : (v == v) = true := by rw [beq_iff_eq]
    clear hq hnf hm hnew
    rcases hcase with hd0 | ⟨hd0, hd1⟩
    all_goals
      go_enter Try.func61, Try.ntmps61
      go_wp2_with fail
      refine (cloneO_any A m c ks lo hi _ HM.out hlen hs hB).mono ?_
      rintro e w1 ⟨A', c', rfl, ho, hb⟩
      have hq1 := (hb.block q HLT.out).trans HQ.out
      have HQ1 := Lib.hid hq1
      have HO := Lib.hid ho
      have HB := Lib.hid hb
      clear q0 q1 q2 z0 z1 z2
      have q0 := cell_of hq1 0
      have q1 := cell_of hq1 1
      have q2 := cell_of hq1 2
      have z0 := frozen_of hq1 0
      have z1 := frozen_of hq1 1
      have z2 := frozen_of hq1 2
      clear hq1 ho hb
      go_wp2
      go_end0
      have h1 := set_self (set_self (set_self HQ1.out 0 (.int .i64 v)) 1 (.slice A' m c')) 2 (.int .i64 0)
      have h2 := set_self h1 2 (.int .i64 1)
      rw [RetOff, HOF.out]
      refine ⟨rfl, A', m, c', h2.trans rfl, HM.out, .inr ⟨rfl, ?_⟩, ((((Only.of_below (S := fun b => b = q) HB.out (Nat.le_refl _)).setCell (p := ⟨q, 0, none⟩) rfl _).setCell (p := ⟨q, 1, none⟩) rfl _).setCell (p := ⟨q, 2, none⟩) rfl _).setCell (p := ⟨q, 2, none⟩) rfl _⟩
      have hne : ∀ b, w.heap.size ≤ b → b ≠ q := fun b hb e => by have := HLT.out; omega
      refine (HO.out.keep fun b hb1 _ => ?_).more (Nat.le_refl _) (by simp [World.setCell])
      rw [set_far _ (hne b hb1), set_far _ (hne b hb1), set_far _ (hne b hb1), set_far _ (hne b hb1)]
  · have hd0 : ((cnt : Int) == 0) = false := by rw [beq_eq_false_iff_ne]; omega
    have hd1 : decide (wo < v) = false := decide_eq_false (by omega)
    by_cases he : v = wo
    · have HOF := Lib.hid (show offF (wo, first, cnt) ks v = (wo, first, cnt + 1) by unfold offF; rw [if_neg hnew, if_pos he])
      have hvv : (v == wo) = true := by rw [beq_iff_eq]; exact he
      clear hq hnf hm hnew he
      go_enter Try.func61, Try.ntmps61
      go_wp2
      go_end0
      have h1 := set_self HQ.out 2 (.int .i64 ((cnt : Int) + 1))
      rw [RetOff, HOF.out]
      exact ⟨rfl, Af, nf, cf, h1.trans rfl, HNF.out, .inl ⟨rfl, rfl⟩, (Only.refl (fun b => b = q) w).setCell (p := ⟨q, 2, none⟩) rfl _⟩
    · have HOF := Lib.hid (show offF (wo, first, cnt) ks v = (wo, first, cnt) by unfold offF; rw [if_neg hnew, if_neg he])
      have hvv : (v == wo) = false := by rw [beq_eq_false_iff_ne]; exact he
      clear hq hnf hm hnew he
      go_enter Try.func61, Try.ntmps61
      go_wp2
      go_end0
      rw [RetOff, HOF.out]
      exact ⟨rfl, Af, nf, cf, HQ.out, HNF.out, .inl ⟨rfl, rfl⟩, Only.refl _ w⟩

/-- What the visitors keep: the best choices of those that count, and some cells that stay as they are. -/
structure RG (P0 q : Nat) (ex : List (Nat × Obj)) (g : List Int → Int) (fl : List (List Int) → List (List Int)) (ob : Option Nat) (L : List (List Int)) (w : World) : Prop where
  size : P0 ≤ w.heap.size
  far : ∀ g, ob = some g → P0 ≤ g
  ext : ∀ p ∈ ex, w.heap[p.1]? = some p.2
  cel : ∃ Af nf cf, w.heap[q]? = some (.cells #[.int .i64 (offL g (fl L)).1, .slice Af nf cf, .int .i64 ((offL g (fl L)).2.2 : Nat)] 70 (0, 0)) ∧ (offL g (fl L)).2.1.length = nf ∧ Own w P0 w.heap.size Af (offL g (fl L)).2.1 ∧
    ((offL g (fl L)).2.1 ≠ [] → ∀ g', Af = some ⟨g', 0, none⟩ → g' ≠ P0 + 2 ∧ ob ≠ some g')

theorem own_lk {w w' : World} {P lo : Nat} {ob : Option Nat} {A : Option Addr} {xs : List Int} (h : Own w lo w.heap.size A xs) (k : Lk P ob w w') (hf : xs ≠ [] → ∀ g, A = some ⟨g, 0, none⟩ → g ≠ P ∧ ob ≠ some g) : Own w' lo w'.heap.size A xs := by
  rcases h with h | ⟨b, cs, T, e, h1, h2, hb, hc⟩
  · exact .inl h
  · by_cases hx : xs = []
    · exact .inl hx
    · have := hf hx b e
      exact .inr ⟨b, cs, T, e, h1, Nat.lt_of_lt_of_le h2 k.size, (k.block b h2 fun hs => hs.elim this.1 this.2).trans hb, hc⟩
theorem RG.keeps {P0 q : Nat} {ex : List (Nat × Obj)} {g : List Int → Int} {fl : List (List Int) → List (List Int)} (hq : q < P0) (hex : ∀ p ∈ ex, p.1 < P0) : Keeps P0 (RG P0 q ex g fl) where
  below ob L w w' h hb := by
    obtain ⟨Af, nf, cf, h1, h2, h3, h4⟩ := h.cel
    exact ⟨Nat.le_trans h.size hb.size, h.far, fun p hp => (hb.block _ (heap_lt (h.ext p hp))).trans (h.ext p hp), Af, nf, cf, (hb.block _ (heap_lt h1)).trans h1, h2, (h3.below hb (Nat.le_refl _)).more (Nat.le_refl _) hb.size, h4⟩
  row ob ob' L w w' h ho hob := by
    obtain ⟨Af, nf, cf, h1, h2, h3, h4⟩ := h.cel
    have hne : ∀ p, p < P0 → ¬ (p = P0 + 2 ∨ ob = some p) := fun p hp hs => by
      rcases hs with e | e
      · omega
      · have := h.far p e; omega
    refine ⟨Nat.le_trans h.size ho.size, fun g hg => ?_, fun p hp => (ho.block _ (heap_lt (h.ext p hp)) (hne _ (hex p hp))).trans (h.ext p hp), Af, nf, cf, (ho.block _ (heap_lt h1) (hne q hq)).trans h1, h2, own_lk h3 ho h4, fun hx g' hg' => ⟨(h4 hx g' hg').1, fun e => ?_⟩⟩
    · rcases hob with e | ⟨g', e, hg'⟩
      · exact h.far g (e ▸ hg)
      · rw [e] at hg
        injection hg with hg
        have := h.size
        omega
    · rcases hob with e' | ⟨g2, e', hg2⟩
      · exact (h4 hx g' hg').2 (e' ▸ e)
      · rw [e'] at e
        injection e with e
        have := h3.lt_ hx hg'
        omega
/-- One choice more has been offered. -/
theorem RG.step {P0 q : Nat} {ex : List (Nat × Obj)} {g : List Int → Int} {fl : List (List Int) → List (List Int)} {ob : Option Nat} {L : List (List Int)} {w1 w' : World} {ks : List Int} {Af : Option Addr} {nf cf : Nat} {e : Ending} (hq : q < P0) (hex : ∀ p ∈ ex, p.1 < P0 ∧ p.1 ≠ q) (hz : P0 + 4 ≤ w1.heap.size)
    (hnew : ∀ g, ob = some g → g < w1.heap.size) (h : RG P0 q ex g fl ob L w1)
    (hcel : w1.heap[q]? = some (.cells #[.int .i64 (offL g (fl L)).1, .slice Af nf cf, .int .i64 ((offL g (fl L)).2.2 : Nat)] 70 (0, 0)))
    (hfl : fl (L ++ [ks]) = fl L ++ [ks]) (k : RetOff q (offL g (fl L)) Af nf cf ks (g ks) w1 e w') : RG P0 q ex g fl ob (L ++ [ks]) w' := by
  obtain ⟨_, A', n', c', h1, h2, h3, ho⟩ := k
  obtain ⟨Ag, ng, cg, g1, g2, g3, g4⟩ := h.cel
  have e1 : Ag = Af := by
    rw [g1] at hcel
    injection hcel with hcel
    injection hcel with hcel _
    have e3 := congrArg (fun x : Array Value => x[1]?) hcel
    simp at e3
    exact e3.1
  subst e1
  have hs : offL g (fl (L ++ [ks])) = offF (offL g (fl L)) ks (g ks) := by rw [hfl, offL_snoc]
  refine ⟨Nat.le_trans h.size ho.size, h.far, fun p hp => (ho.block _ (heap_lt (h.ext p hp)) (fun e => (hex p hp).2 e)).trans (h.ext p hp), A', n', c', by rw [hs]; exact h1, by rw [hs]; exact h2, ?_, ?_⟩
  · rw [hs]
    rcases h3 with ⟨rfl, h3⟩ | ⟨h3, h4⟩
    · rw [h3]
      exact (g3.keep fun b hb1 hb2 => ho.block b hb2 (fun e => by omega)).more (Nat.le_refl _) ho.size
    · rw [h3]
      exact h4.more (by omega) (Nat.le_refl _)
  · rw [hs]
    intro hx g' hg'
    rcases h3 with ⟨rfl, h3⟩ | ⟨h3, h4⟩
    · rw [h3] at hx
      exact g4 hx g' hg'
    · rw [h3] at hx
      have := (h4.lt_ hx hg').1
      exact ⟨by omega, fun e => by have := hnew g' e; omega⟩
end Go.Proofs.Ytmgloknghoeheaa
