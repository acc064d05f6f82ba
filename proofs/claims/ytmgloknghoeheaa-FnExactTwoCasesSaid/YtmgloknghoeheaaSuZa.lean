/-
  What both programs answer of two suitcases.
  Conditions: lists of at most 1048576 items.
-/
import Derived.Test.YtmgloknghoeheaaSuE
import Derived.Test.YtmgloknghoeheaaSuR
import Derived.Test.YtmgloknghoeheaaSuXtwo
import Derived.Test.YtmgloknghoeheaaHas
import Derived.Lib.MinMax
namespace Go.Proofs.Ytmgloknghoeheaa
set_option linter.unusedVariables false
open Go.RowKit

/-- A choice for one suitcase, and the best of the rest for another one. -/
def twoV (ts : List (Int × Int × Int)) (X Y : Int) (c : List Int) : Int := valI ts c + (topI (restI ts c) X Y).1
def twoL (ts : List (Int × Int × Int)) (X Y : Int) (L : List (List Int)) : Int := L.foldl (fun m c => max m (twoV ts X Y c)) 0
theorem twoL_snoc (ts : List (Int × Int × Int)) (X Y : Int) (L : List (List Int)) (c : List Int) : twoL ts X Y (L ++ [c]) = max (twoL ts X Y L) (twoV ts X Y c) := by simp [twoL]
theorem twoL_next (ts : List (Int × Int × Int)) (X Y : Int) {L : List (List Int)} {k : Nat} {c : List Int} (h : L[k]? = some c) : twoL ts X Y (L.take (k + 1)) = max (twoL ts X Y (L.take k)) (twoV ts X Y c) := by rw [take_snocI h, twoL_snoc]
theorem twoV_bd {ts : List (Int × Int × Int)} (hg : OkI ts) {X Y : Int} (hX : 0 ≤ X) (hY : 0 ≤ Y) {c : List Int} (hc : incI ts.length c = true) : 0 ≤ twoV ts X Y c ∧ twoV ts X Y c ≤ 4000 := by
  have h1 := valI_bd hg hc
  have h2 := topI_bd (restI_ok hg c) hX hY
  unfold twoV
  omega
theorem twoL_bd {ts : List (Int × Int × Int)} (hg : OkI ts) {X Y : Int} (hX : 0 ≤ X) (hY : 0 ≤ Y) (L : List (List Int)) (h : ∀ c ∈ L, incI ts.length c = true) : 0 ≤ twoL ts X Y L ∧ twoL ts X Y L ≤ 4000 := by
  have : ∀ (L : List (List Int)) (m : Int), (∀ c ∈ L, incI ts.length c = true) → 0 ≤ m ∧ m ≤ 4000 → 0 ≤ L.foldl (fun m c => max m (twoV ts X Y c)) m ∧ L.foldl (fun m c => max m (twoV ts X Y c)) m ≤ 4000 := by
    intro L
    induction L with
    | nil => intro m _ hm; exact hm
    | cons x L ih =>
      intro m h hm
      rw [List.foldl_cons]
      have := twoV_bd hg hX hY (h x List.mem_cons_self)
      exact ih _ (fun c hc => h c (List.mem_cons_of_mem _ hc)) (by omega)
  exact this L 0 h (by omega)

theorem l1Most_any (a b : Int) (w : World) : Calls Try.prog 75 #[.int .i64 a, .int .i64 b] w fun e w' => e = .returned (.int .i64 (max a b)) ∧ w = w' := by
  by_cases h : b < a
  · have hd : decide (b < a) = true := decide_eq_true h
    have he : max a b = a := by omega
    rw [he]
    go_enter Try.func75, Try.ntmps75
    go_wp2
    go_ret
    exact ⟨rfl, rfl⟩
  · have hd : decide (b < a) = false := decide_eq_false h
    have he : max a b = b := by omega
    rw [he]
    go_enter Try.func75, Try.ntmps75
    go_wp2
    go_ret
    exact ⟨rfl, rfl⟩

theorem field_lug (A : Option Addr) (n c : Nat) (W B : Int) (w : World) : (Instr.field 62 (.agg #[.slice A n c, .int .i64 W, .int .i64 B]) 0).run Try.prog w = .ok (.slice A n c) w := by kernel_rfl

/-- What the visitor keeps: the greatest value so far, and some cells that stay as they are. -/
structure RT (P0 q : Nat) (ex : List (Nat × Obj)) (g : List (List Int) → Int) (ob : Option Nat) (L : List (List Int)) (w : World) : Prop where
  size : P0 ≤ w.heap.size
  far : ∀ g, ob = some g → P0 ≤ g
  ext : ∀ p ∈ ex, w.heap[p.1]? = some p.2
  val : w.heap[q]? = some (.cells #[.int .i64 (g L)] 3 (0, 0))
theorem RT.keeps {P0 q : Nat} {ex : List (Nat × Obj)} {g : List (List Int) → Int} (hq : q < P0) (hex : ∀ p ∈ ex, p.1 < P0) : Keeps P0 (RT P0 q ex g) where
  below ob L w w' h hb := ⟨Nat.le_trans h.size hb.size, h.far, fun p hp => (hb.block _ (heap_lt (h.ext p hp))).trans (h.ext p hp), (hb.block _ (heap_lt h.val)).trans h.val⟩
  row ob ob' L w w' h ho hob := by
    have hne : ∀ p, p < P0 → ¬ (p = P0 + 2 ∨ ob = some p) := fun p hp hs => by
      rcases hs with e | e
      · omega
      · have := h.far p e; omega
    refine ⟨Nat.le_trans h.size ho.size, fun g hg => ?_, fun p hp => (ho.block _ (heap_lt (h.ext p hp)) (hne _ (hex p hp))).trans (h.ext p hp), (ho.block _ (heap_lt h.val) (hne q hq)).trans h.val⟩
    rcases hob with e | ⟨g', e, hg'⟩
    · exact h.far g (e ▸ hg)
    · rw [e] at hg
      injection hg with hg
      have := h.size
      omega

end Go.Proofs.Ytmgloknghoeheaa
