/-
  The written program's walk through all choices: what it keeps, the test whether there is room; an item more, and one less.
  Conditions: numbers of 0 to 4000.
-/
import Derived.Test.YtmgloknghoeheaaSuC
import Derived.Test.YtmgloknghoeheaaSuL
import Derived.Test.YtmgloknghoeheaaAppendB
namespace Go.Proofs.Ytmgloknghoeheaa
set_option linter.unusedVariables false
open Go.RowKit

theorem holds_any (Wr Br x y z : Int) (w : World) (q : Bool) (hq : (decide (x ≤ Wr) && decide (y ≤ Br)) = q) :
    Calls Try.prog 86 #[.agg #[.int .i64 Wr, .int .i64 Br], .agg #[.int .i64 x, .int .i64 y, .int .i64 z]] w fun e w' => e = .returned (.bool q) ∧ Below w.heap.size w w' := by
  have hb := ((Below.refl w.heap.size w).alloc (Nat.le_refl _) (.cells #[.int .i64 Wr, .int .i64 Br] 34)).alloc (by simp) (.cells #[.int .i64 x, .int .i64 y, .int .i64 z] 54)
  by_cases h1 : x ≤ Wr
  · by_cases h2 : y ≤ Br
    · obtain rfl : q = true := by rw [← hq]; simp [h1, h2]
      clear hq
      go_enter Try.func86, Try.ntmps86
      go_wp2
      go_ret
      exact ⟨rfl, hb⟩
    · obtain rfl : q = false := by rw [← hq]; simp [h2]
      have h3 : decide (y ≤ Br) = false := decide_eq_false h2
      clear hq
      go_enter Try.func86, Try.ntmps86
      go_wp2
      go_ret
      exact ⟨rfl, hb⟩
  · obtain rfl : q = false := by rw [← hq]; simp [h1]
    have h3 : decide (x ≤ Wr) = false := decide_eq_false h1
    clear hq
    go_enter Try.func86, Try.ntmps86
    go_wp2
    go_ret
    exact ⟨rfl, hb⟩

theorem without_any (Wr Br x y z : Int) (w : World) (h1 : 0 ≤ Wr ∧ Wr ≤ 4000) (h2 : 0 ≤ Br ∧ Br ≤ 4000) (h3 : 0 ≤ x ∧ x ≤ 4000) (h4 : 0 ≤ y ∧ y ≤ 4000) :
    Calls Try.prog 87 #[.agg #[.int .i64 Wr, .int .i64 Br], .agg #[.int .i64 x, .int .i64 y, .int .i64 z]] w fun e w' => e = .returned (.agg #[.int .i64 (Wr - x), .int .i64 (Br - y)]) ∧ Below w.heap.size w w' := by
  have e1 : IntKind.i64.wrap (Wr - x) = Wr - x := by rw [IntKind.wrap_i64]; omega
  have e2 : IntKind.i64.wrap (Br - y) = Br - y := by rw [IntKind.wrap_i64]; omega
  go_enter Try.func87, Try.ntmps87
  go_wp2
  refine bodyPost_ret (v := .agg #[.int .i64 (Wr - x), .int .i64 (Br - y)]) (by simp [results, Try.results87, go_sem]) rfl ⟨rfl, ?_⟩
  exact (((Below.refl w.heap.size w).alloc (Nat.le_refl _) _).alloc (by simp) _).alloc (by simp; omega) _

/-- What the visitor keeps stays where new memory is made, and where the choice turns. -/
structure Keeps (P0 : Nat) (R : Option Nat → List (List Int) → World → Prop) : Prop where
  below : ∀ ob L (w w' : World), R ob L w → Below w.heap.size w w' → R ob L w'
  row : ∀ ob ob' L (w w' : World), R ob L w → Lk (P0 + 2) ob w w' → Loc w ob ob' → R ob' L w'

/-- Of the blocks from 'P0' on, only the cell behind it by two and the block 'ob' may have turned. -/
def Frame (P0 : Nat) (ob : Option Nat) (w w' : World) : Prop := ∀ k, P0 ≤ k → k < w.heap.size → k ≠ P0 + 2 → ob ≠ some k → w'.heap[k]? = w.heap[k]?
theorem Frame.trans {P0 : Nat} {a b : Option Nat} {w w1 w2 : World} (h : Frame P0 a w w1) (hz : w.heap.size ≤ w1.heap.size) (hl : Loc w a b) (k : Frame P0 b w1 w2) : Frame P0 a w w2 := by
  intro i h0 h1 h2 h3
  refine (k i h0 (by omega) h2 fun e => ?_).trans (h i h0 h1 h2 h3)
  rcases hl with e' | ⟨g, e', hg⟩
  · exact h3 (e' ▸ e)
  · rw [e'] at e
    injection e with e
    omega
theorem Frame.of_lk {P0 : Nat} {ob : Option Nat} {w w' : World} (h : Lk (P0 + 2) ob w w') : Frame P0 ob w w' := fun k _ h1 h2 h3 => h.block k h1 fun hs => hs.elim h2 h3
theorem Frame.of_below {P0 : Nat} {ob : Option Nat} {w w' : World} (h : Below w.heap.size w w') : Frame P0 ob w w' := fun k _ h1 _ _ => h.block k h1

/-- The choice as it grows and shrinks. -/
def ChAt (w : World) (P0 : Nat) (v : Value) (ks : List Int) : Prop :=
  w.heap[P0 + 2]? = some (.cells #[v] 31 (0, 0)) ∧ w.ownsRow (P0 + 4) 3 1 v ks.length (ks.map (Value.int .i64))
theorem ChAt.below {w w' : World} {P0 : Nat} {v : Value} {ks : List Int} (h : ChAt w P0 v ks) (hb : Below w.heap.size w w') : ChAt w' P0 v ks :=
  ⟨(hb.block _ (heap_lt h.1)).trans h.1, row_below h.2 hb⟩

/-- The cells that the walk leaves as they are: the luggage, the visitor, the walk itself. -/
def StatAt (w : World) (P0 : Nat) (A : Option Addr) (n c : Nat) (W B : Int) (VF SF : Value) : Prop :=
  w.heap[P0]? = some (.cells #[.slice A n c, .int .i64 W, .int .i64 B] 62 (0, 0)) ∧ w.heap[P0 + 1]? = some (.cells #[VF] 75 (0, 0)) ∧ w.heap[P0 + 3]? = some (.cells #[SF] 95 (0, 0))
theorem StatAt.frame {w w' : World} {P0 n c : Nat} {A : Option Addr} {W B : Int} {VF SF : Value} {ob : Option Nat} (h : StatAt w P0 A n c W B VF SF) (hf : Frame P0 ob w w') (ho : ∀ g, ob = some g → P0 + 4 ≤ g) : StatAt w' P0 A n c W B VF SF :=
  ⟨(hf _ (Nat.le_refl _) (heap_lt h.1) (by omega) (fun e => by have := ho _ e; omega)).trans h.1, (hf _ (by omega) (heap_lt h.2.1) (by omega) (fun e => by have := ho _ e; omega)).trans h.2.1, (hf _ (by omega) (heap_lt h.2.2) (by omega) (fun e => by have := ho _ e; omega)).trans h.2.2⟩

/-- The visitor has seen one choice more. -/
def RetVis (P0 b0 : Nat) (R : Option Nat → List (List Int) → World → Prop) (ob : Option Nat) (L : List (List Int)) (w : World) (e : Ending) (w' : World) : Prop :=
  e = .returned (.tuple #[]) ∧ R ob L w' ∧ (∀ k, P0 ≤ k → k < w.heap.size → w'.heap[k]? = w.heap[k]?) ∧ Below b0 w w'
/-- The walk has been through the choices. -/
def RetS (P0 b0 : Nat) (R : Option Nat → List (List Int) → World → Prop) (ob : Option Nat) (ks : List Int) (L : List (List Int)) (w : World) (e : Ending) (w' : World) : Prop :=
  e = .returned (.tuple #[]) ∧ ∃ v, ChAt w' P0 v ks ∧ R v.ownBlock L w' ∧ Loc w ob v.ownBlock ∧ Frame P0 ob w w' ∧ Below b0 w w'

theorem row_kept {w w' : World} {P0 : Nat} {v : Value} {n : Nat} {xs : List Value} (h : w.ownsRow (P0 + 4) 3 1 v n xs) (hk : ∀ k, P0 ≤ k → k < w.heap.size → w'.heap[k]? = w.heap[k]?) : w'.ownsRow (P0 + 4) 3 1 v n xs := by
  obtain ⟨h1, h2⟩ := h
  refine ⟨h1, ?_⟩
  rcases h2 with h2 | ⟨g, cap, cur, e, hg, hb, h3⟩
  · exact .inl h2
  · exact .inr ⟨g, cap, cur, e, hg, (hk g (by omega) (heap_lt hb)).trans hb, h3⟩
theorem row_shrunk {w : World} {base g m d : Nat} {ks : List Int} {k : Int} (h : w.ownsRow base 3 1 (.slice (some ⟨g, 0, none⟩) (m + 1) d) (m + 1) ((ks ++ [k]).map (Value.int .i64))) (hl : ks.length = m) :
    w.ownsRow base 3 1 (.slice (some ⟨g, 0, none⟩) m d) m (ks.map (Value.int .i64)) := by
  obtain ⟨h1, h0 | ⟨g', cap, cur, hv, hbg, hb, hnc, hcm, hcs, htk⟩⟩ := h
  · omega
  · injection hv with e1 e2 e3
    injection e1 with e1
    injection e1 with e1
    subst e1 e3
    refine ⟨by simp at h1 ⊢; omega, .inr ⟨g, d, cur, rfl, hbg, hb, by omega, hcm, hcs, ?_⟩⟩
    have : cur.toList.take (m * 1) = (cur.toList.take ((m + 1) * 1)).take (m * 1) := by rw [List.take_take, Nat.min_eq_left (by omega)]
    rw [this, htk, List.map_append, List.take_append_of_le_length (by simp at h1 ⊢; omega), List.take_of_length_le (by simp at h1 ⊢; omega)]
theorem row_cap {w : World} {base g m d : Nat} {xs : List Value} (h : w.ownsRow base 3 1 (.slice (some ⟨g, 0, none⟩) m d) m xs) (hm : 1 ≤ m) : m ≤ d := by
  obtain ⟨_, h0 | ⟨g', cap, cur, hv, _, _, hnc, _⟩⟩ := h
  · omega
  · injection hv with h1 h2 h3; omega
theorem Lk.setAt {P : Nat} {w w' : World} {a : Option Nat} (h : Lk P a w w') (u : Value) : Lk P a w (w'.setCell ⟨P, 0, none⟩ u) := h.set u
theorem fit_room {ts : List (Int × Int × Int)} {W B : Int} {ks : List Int} {j : Nat} {x y z : Int} (hx : ts[j]? = some (x, y, z)) :
    (decide (x ≤ W - sumF (wI ts) ks) && decide (y ≤ B - sumF (bI ts) ks)) = fitI ts W B (ks ++ [(j : Int)]) := by
  obtain ⟨e1, e2, _⟩ := itm_w hx
  unfold fitI
  rw [sumF_snoc, sumF_snoc, e1, e2, Bool.eq_iff_iff]
  simp only [Bool.and_eq_true, decide_eq_true_eq]
  omega
end Go.Proofs.Ytmgloknghoeheaa
