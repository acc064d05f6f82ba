/-
  The written program's best choices of a luggage.
  Conditions: at most ten items, and room of at most 4000.
-/
import Derived.Test.YtmgloknghoeheaaSuY
namespace Go.Proofs.Ytmgloknghoeheaa
set_option linter.unusedVariables false
open Go.RowKit

/-- The best choices are answered. -/
def RetTop (t : Int × List Int × Nat) (w : World) (e : Ending) (w' : World) : Prop :=
  ∃ Af nf cf, e = .returned (.agg #[.int .i64 t.1, .slice Af nf cf, .int .i64 (t.2.2 : Nat)]) ∧ t.2.1.length = nf ∧ Own w' w.heap.size w'.heap.size Af t.2.1 ∧ Below w.heap.size w w'
theorem RG.start {P0 q : Nat} {ex : List (Nat × Obj)} {g : List Int → Int} {fl : List (List Int) → List (List Int)} {w : World} (hP : P0 = w.heap.size) (hfl : fl [] = []) (hex : ∀ p ∈ ex, w.heap[p.1]? = some p.2)
    (hq : w.heap[q]? = some (.cells #[.int .i64 0, .slice none 0 0, .int .i64 0] 70 (0, 0))) : RG P0 q ex g fl none [] w :=
  ⟨by omega, (fun g e => by cases e), hex, none, 0, 0, by rw [hfl]; exact hq, by rw [hfl]; rfl, by rw [hfl]; exact Own.nil_, fun h => absurd (by rw [hfl]; rfl) h⟩

set_option maxRecDepth 100000 in
set_option maxHeartbeats 2000000 in
theorem best_any (A : Option Addr) (n c : Nat) (W B : Int) (ts : List (Int × Int × Int)) (lo hi : Nat) (w : World) (hn : ts.length = n) (hg : OkI ts) (hW : 0 ≤ W ∧ W ≤ 4000) (hBd : 0 ≤ B ∧ B ≤ 4000) (hs : Seg w lo hi A (flat3 ts)) (hB : hi ≤ w.heap.size) :
    Calls Try.prog 57 #[.agg #[.slice A n c, .int .i64 W, .int .i64 B]] w (RetTop (topI ts W B) w) := by
  have HN := Lib.hid hn
  have HG := Lib.hid hg
  obtain ⟨w3, hw3⟩ : ∃ w3, ((w.alloc (.cells #[.slice A n c, .int .i64 W, .int .i64 B] 62)).alloc (.cells #[.int .i64 0, .slice none 0 0, .int .i64 0] 70)).alloc (.cells #[.int .i64 0, .slice none 0 0, .int .i64 0] 70) = w3 := ⟨_, rfl⟩
  have hb3 : Below w.heap.size w w3 := by rw [← hw3]; exact (((Below.refl w.heap.size w).alloc (Nat.le_refl _) _).alloc (by simp) _).alloc (by simp; omega) _
  have hz3 : w3.heap.size = w.heap.size + 3 := by rw [← hw3]; simp
  have hlug : w3.heap[w.heap.size]? = some (Obj.cells #[.slice A n c, .int .i64 W, .int .i64 B] 62 (0, 0)) := by rw [← hw3, alloc_old _ (by simp; omega), alloc_old _ (by simp)]; exact new_at w _ rfl
  have hres : w3.heap[w.heap.size + 1]? = some (.cells #[.int .i64 0, .slice none 0 0, .int .i64 0] 70 (0, 0)) := by rw [← hw3, alloc_old _ (by simp)]; exact new_at _ _ (by simp)
  have hbst : w3.heap[w.heap.size + 2]? = some (.cells #[.int .i64 0, .slice none 0 0, .int .i64 0] 70 (0, 0)) := by rw [← hw3]; exact new_at _ _ (by simp)
  have HW3 := Lib.hid hw3
  have HS3 := Lib.hid (hs.below hb3 hB)
  have HB3 := Lib.hid hb3
  have HRES := Lib.hid hres
  have HEX := Lib.hid (show ∀ p ∈ [(w.heap.size, (Obj.cells #[.slice A n c, .int .i64 W, .int .i64 B] 62 (0, 0)))], w3.heap[p.1]? = some p.2 by
    intro p hp
    rw [List.mem_singleton] at hp
    subst hp
    exact hlug)
  have HLT := Lib.hid (show ∀ p ∈ [(w.heap.size, (Obj.cells #[.slice A n c, .int .i64 W, .int .i64 B] 62 (0, 0)))], p.1 < w3.heap.size by
    intro p hp
    exact heap_lt (HEX.out p hp))
  have HR3 := Lib.hid (RG.start (ex := [(w.heap.size, (Obj.cells #[.slice A n c, .int .i64 W, .int .i64 B] 62 (0, 0)))]) (g := valI ts) (fl := id) (P0 := w3.heap.size) rfl rfl HEX.out hbst)
  have l0 : w.heap.size + 2 < w3.heap.size := by omega
  clear hn hg hs hb3 hw3 hlug hres hbst
  go_enter Try.func57, Try.ntmps57
  go_wp2_with fail
  rw [HW3.out]
  refine (each_best (w.heap.size + 2) w.heap.size A n c ts W B lo hi (w.heap.size + 2) (RG w3.heap.size (w.heap.size + 2) [(w.heap.size, (Obj.cells #[.slice A n c, .int .i64 W, .int .i64 B] 62 (0, 0)))] (valI ts) id) w3 HN.out HG.out (by omega) (by omega) hW hBd (RG.keeps (by omega) HLT.out) ?_ HS3.out HR3.out).mono ?_
  · exact visit_best _ _ A n c ts W B lo hi _ _ HN.out HG.out (by omega) (by omega) (by omega) (by omega) (by omega)
  rintro e w4 ⟨rfl, ⟨ob, hr4⟩, hb4⟩
  obtain ⟨Af, nf, cf, hcel, hnf, hown, _⟩ := hr4.cel
  have HB4 := Lib.hid (HB3.out.trans (hb4.mono (by omega)))
  have hres4 := (hb4.block (w.heap.size + 1) (by omega)).trans HRES.out
  have HRES4 := Lib.hid hres4
  have HTOP := Lib.hid (show offL (valI ts) (id (allC ts W B)) = topI ts W B from rfl)
  rw [HTOP.out] at hcel hnf hown
  obtain ⟨worth, hw⟩ : ∃ worth, (topI ts W B).1 = worth := ⟨_, rfl⟩
  obtain ⟨first, hf⟩ : ∃ first, (topI ts W B).2.1 = first := ⟨_, rfl⟩
  obtain ⟨cnt, hc⟩ : ∃ cnt, (topI ts W B).2.2 = cnt := ⟨_, rfl⟩
  rw [hw, hc] at hcel
  rw [hf] at hnf hown
  have HWO := Lib.hid hw
  have HFI := Lib.hid hf
  have HCO := Lib.hid hc
  have HNF := Lib.hid hnf
  have HOWN := Lib.hid hown
  have hz4 := hb4.size
  have c0 := cell_of hcel 0
  have c1 := cell_of hcel 1
  have c2 := cell_of hcel 2
  have r0 := cell_of hres4 0
  have r1 := cell_of hres4 1
  have r2 := cell_of hres4 2
  have q0 := frozen_of hres4 0
  have q1 := frozen_of hres4 1
  have q2 := frozen_of hres4 2
  clear hr4 hb4 hcel hnf hown hw hf hc hres4
  go_wp2
  clear c0 c1 c2 r0 r1 r2 q0 q1 q2
  have HF := Lib.hid (set_self (set_self (set_self HRES4.out 0 (.int .i64 worth)) 1 (.slice Af nf cf)) 2 (.int .i64 (cnt : Nat)))
  have r0 := cell_of HF.out 0
  have r1 := cell_of HF.out 1
  have r2 := cell_of HF.out 2
  refine bodyPost_ret (v := .agg #[.int .i64 worth, .slice Af nf cf, .int .i64 (cnt : Nat)]) (by simp [results, Try.results57, go_sem, r0, r1, r2]) rfl ⟨Af, nf, cf, by rw [HWO.out, HCO.out], by rw [HFI.out]; exact HNF.out, ?_, ((HB4.out.setCell (Nat.le_succ _) _).setCell (Nat.le_succ _) _).setCell (Nat.le_succ _) _⟩
  rw [HFI.out]
  have h1 := own_lk (P := w.heap.size + 1) (ob := none) HOWN.out (w' := (((w4.setCell ⟨w.heap.size + 1, 0, none⟩ (.int .i64 worth)).setCell ⟨w.heap.size + 1, 1, none⟩ (.slice Af nf cf)).setCell ⟨w.heap.size + 1, 2, none⟩ (.int .i64 (cnt : Nat)))) ((((Only.refl (fun b => b = w.heap.size + 1 ∨ (none : Option Nat) = some b) w4).setCell (p := ⟨w.heap.size + 1, 0, none⟩) (.inl rfl) _).setCell (p := ⟨w.heap.size + 1, 1, none⟩) (.inl rfl) _).setCell (p := ⟨w.heap.size + 1, 2, none⟩) (.inl rfl) _) (fun hx g hg => ⟨by have := (HOWN.out.lt_ hx hg).1; omega, fun e => by cases e⟩)
  exact h1.more (by omega) (Nat.le_refl _)
end Go.Proofs.Ytmgloknghoeheaa
