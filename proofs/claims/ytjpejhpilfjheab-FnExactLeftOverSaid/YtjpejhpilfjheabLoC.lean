/-
  The law's own bulk and copy of a list of lists.
  Conditions: lists of at most 1048576 numbers.
-/
import Derived.Test.YtjpejhpilfjheabLoM
import Derived.Test.YtjpejhpilfjheabCopy
import Derived.Test.YtjpejhpilfjheabNest
namespace Go.Proofs.Ytjpejhpilfjheab
set_option linter.unusedVariables false
set_option linter.unusedSimpArgs false
open Go.RowKit

theorem rows_info : (Try.prog.info? 22).map (fun i => (i.zero, i.size, i.bytes)) = some (some (.slice none 0 0), 1, 24) := by kernel_rfl
theorem make_lists (n : Nat) (hn : n ≤ 1048576) (W : World) : (Instr.makeSlice 23 (.int .i64 (n : Int)) (.int .i64 (n : Int))).run Try.prog W =
    .ok (.slice (some ⟨W.heap.size, 0, none⟩) n n) (W.alloc (.cells (madeCells #[.slice none 0 0] n) 22)) := by
  obtain ⟨i, hi, hz, hs, hb⟩ := info_parts rows_info
  have h := run_make (P := Try.prog) W 23 22 i _ Try.underlying23 hi hz .i64 .i64 (n : Int) (n : Int) (by omega) (by omega) (by rw [hb]; omega) (by omega)
  rw [Int.toNat_natCast] at h
  simpa [hs, Value.cells] using h

/-- The first 'k' lists have been copied. -/
def Cop (w : World) (G : Nat) (xss : List (List Int)) (n k : Nat) : Prop :=
  ∃ (cs : Array Value) (bl : Nat → Nat), w.heap[G]? = some (.cells cs 22 (0, 0)) ∧ cs.size = n ∧ (∀ j xs, j < k → xss[j]? = some xs → cs[j]? = some (.slice (some ⟨bl j, 0, none⟩) xs.length xs.length) ∧ (xs ≠ [] → G < bl j ∧ bl j < w.heap.size) ∧ Own w (G + 1) w.heap.size (some ⟨bl j, 0, none⟩) xs) ∧
    ∀ i j xs, i < j → j < k → xss[i]? = some xs → xs ≠ [] → bl i < bl j
theorem Cop.nest {w : World} {G n lo : Nat} {xss : List (List Int)} (h : Cop w G xss n n) (hn : xss.length = n) (hl : lo ≤ G) : Nest w lo w.heap.size (some ⟨G, 0, none⟩) xss := by
  obtain ⟨cs, bl, h1, h2, h3, h4⟩ := h
  refine .inr ⟨G, cs, 22, bl, rfl, hl, heap_lt h1, h1, fun k xs hk => ?_, fun i j xs ys hi hj hx hy hne => ?_⟩
  · have hkl := (List.getElem?_eq_some_iff.1 hk).1
    obtain ⟨e, g1, ho⟩ := h3 k xs (by omega) hk
    exact ⟨_, _, e, ho.more (by omega) (Nat.le_refl _), fun hx => ⟨rfl, by have := g1 hx; omega⟩⟩
  · have hil := (List.getElem?_eq_some_iff.1 hi).1
    have hjl := (List.getElem?_eq_some_iff.1 hj).1
    rcases Nat.lt_or_gt_of_ne hne with h | h
    · have := h4 i j xs h (by omega) hi hx; omega
    · have := h4 j i ys h (by omega) hj hy; omega
theorem Cop.step {w w1 : World} {G n k : Nat} {xss : List (List Int)} {xs : List Int} (h : Cop w G xss n k) (hk : k < n) (hxs : xss[k]? = some xs) (hb : Below w.heap.size w w1) (ho : Own w1 w.heap.size w1.heap.size (some ⟨w.heap.size, 0, none⟩) xs) :
    Cop (w1.setCell ⟨G, k, none⟩ (.slice (some ⟨w.heap.size, 0, none⟩) xs.length xs.length)) G xss n (k + 1) := by
  obtain ⟨cs, bl, h1, h2, h3, h4⟩ := h
  have hG := heap_lt h1
  have hz := hb.size
  refine ⟨_, fun j => if j = k then w.heap.size else bl j, set_self ((hb.block G hG).trans h1) k _, by simpa using h2, fun j ys hj hys => ?_, fun i j ys hij hj hi hx => ?_⟩
  · by_cases e : j = k
    · subst e
      rw [hxs] at hys
      injection hys with hys
      subst hys
      simp only [if_true]
      refine ⟨by simp [Array.getElem?_setIfInBounds, show j < cs.size by omega], fun hx => ⟨hG, ?_⟩, ?_⟩
      · rcases ho with h | ⟨b5, cs5, T5, e5, g5, g6, _⟩
        · exact absurd h hx
        · simp [World.setCell]; omega
      · have h5 := ho.keep (w' := w1.setCell ⟨G, j, none⟩ (.slice (some ⟨w.heap.size, 0, none⟩) xs.length xs.length)) (fun b g5 _ => set_far _ (by show b ≠ G; omega) _)
        exact h5.more (by omega) (by simp [World.setCell])
    · simp only [if_neg e]
      obtain ⟨a1, a2, a3⟩ := h3 j ys (by omega) hys
      refine ⟨by rw [Array.getElem?_setIfInBounds_ne (by omega)]; exact a1, fun hx => ?_, ?_⟩
      · have := a2 hx; simp [World.setCell]; omega
      · have h5 := (a3.below hb (Nat.le_refl _)).keep (w' := w1.setCell ⟨G, k, none⟩ (.slice (some ⟨w.heap.size, 0, none⟩) xs.length xs.length)) (fun b g5 _ => set_far _ (by show b ≠ G; omega) _)
        exact h5.more (Nat.le_refl _) (by simp [World.setCell]; omega)
  · have hik : i ≠ k := by omega
    simp only [if_neg hik]
    by_cases e : j = k
    · simp only [if_pos e]
      exact ((h3 i ys (by omega) hi).2.1 hx).2
    · simp only [if_neg e]
      exact h4 i j ys hij (by omega) hi hx

/-- A copy is read like what came in. -/
theorem rows_of_nest {w : World} {lo hi : Nat} {A : Option Addr} {xss : List (List Int)} (h : Nest w lo hi A xss) : RowsIn w hi A xss := by
  rcases h with h | ⟨g, cs, T, bl, e, h1, h2, h3, h4, _⟩
  · exact .inl h
  · refine .inr ⟨g, 0, e, h2, fun k xs hk => ?_⟩
    obtain ⟨B, c, h5, h6, _⟩ := h4 k xs hk
    exact ⟨B, c, by rw [Nat.zero_add, cell_of h3 k, h5], h6.seg.more (Nat.zero_le _) (Nat.le_refl _)⟩

set_option maxRecDepth 100000 in
set_option maxHeartbeats 2000000 in
theorem toIntSS_any (A : Option Addr) (n c : Nat) (xss : List (List Int)) (hi : Nat) (w : World) (hn : xss.length = n) (hlen : n ≤ 1048576) (hx : ∀ xs ∈ xss, xs.length ≤ 1048576) (h : RowsIn w hi A xss) (hB : hi ≤ w.heap.size) :
    Calls Try.prog 12 #[.slice A n c] w fun e w' => e = .returned (.slice (some ⟨w.heap.size, 0, none⟩) n n) ∧
      Nest w' w.heap.size w'.heap.size (some ⟨w.heap.size, 0, none⟩) xss ∧ Below w.heap.size w w' := by
  have hmk := fun W : World => make_lists n hlen W
  have HN := Lib.hid hn
  have HX := Lib.hid hx
  have HR := Lib.hid h
  obtain ⟨G, hG⟩ : ∃ G, w.heap.size = G := ⟨_, rfl⟩
  obtain ⟨W0, hW0⟩ : ∃ W0, w.alloc (.cells (madeCells #[.slice none 0 0] n) 22) = W0 := ⟨_, rfl⟩
  have HB0 := Lib.hid (show Below w.heap.size w W0 by rw [← hW0]; exact (Below.refl _ _).alloc (Nat.le_refl _) _)
  have HC0 := Lib.hid (show Cop W0 G xss n 0 from ⟨_, fun _ => 0, by rw [← hW0, ← hG]; exact new_at _ _ rfl, by simp [madeCells], fun j xs hj => by omega, fun i j _ hj => by omega⟩)
  have HW0 := Lib.hid hW0
  clear hn hx h hW0
  go_enter Try.func12, Try.ntmps12
  go_wp2
  rw [HW0.out]
  go_loopw [4] (fun i wr => ∃ k : Nat, k ≤ n ∧ i = .int .i64 (k : Int) ∧ Below w.heap.size w wr ∧ Cop wr G xss n k) (fun i _ => n - (intOf i).toNat)
  case atStart => exact ⟨0, Nat.zero_le _, rfl, HB0.out, HC0.out⟩
  case round =>
    obtain ⟨k, hk, rfl, hb, hc⟩ := hrel
    have HB := Lib.hid hb
    have hz := hb.size
    by_cases hlt : k < n
    · obtain ⟨xs, hxs⟩ : ∃ xs, xss[k]? = some xs := ⟨_, List.getElem?_eq_getElem (by rw [HN.out]; exact hlt)⟩
      obtain ⟨b, off, D, dc, rfl, hbh, hcell, hseg⟩ := (HR.out.below hb hB).at_ hxs
      have hlI : (k : Int) < (n : Int) := by omega
      obtain ⟨pl, hpl⟩ : ∃ pl, xs.length = pl := ⟨_, rfl⟩
      have hpm : pl ≤ 1048576 := by rw [← hpl]; exact HX.out xs (List.mem_of_getElem? hxs)
      rw [hpl] at hcell
      have HPL := Lib.hid hpl
      have HXS := Lib.hid hxs
      have HC := Lib.hid hc
      have HSG := Lib.hid hseg
      clear hpl hxs hc hb hseg
      go_wp2_with fail
      refine (toIntS_any D pl dc xs hi wr HPL.out hpm HSG.out (by omega)).mono ?_
      rintro e w1 ⟨rfl, ho, hb1⟩
      have HB1 := Lib.hid (HB.out.trans (hb1.mono hz))
      have hz1 := hb1.size
      have HCN := Lib.hid (HC.out.step hlt HXS.out hb1 ho)
      rw [HPL.out] at HCN
      obtain ⟨cs, bl, h1, h2, h3, h4⟩ := HC.out
      have hG1 := (hb1.block G (heap_lt h1)).trans h1
      obtain ⟨u, hu⟩ : ∃ u, cs[k]? = some u := ⟨_, Array.getElem?_eq_getElem (by omega)⟩
      have hcu := (cell_of hG1 k).trans hu
      have hfu := frozen_of hG1 k
      clear h1 h2 h3 h4 hG1 hu ho hb1 hcell
      go_wp2
      go_roundw
      case rel => exact ⟨k + 1, by omega, by go_num, HB1.out.setCell (p := ⟨G, k, none⟩) (by rw [hG]; exact Nat.le_refl _) _, HCN.out⟩
      case measure => simp [intOf]; omega
    · obtain rfl : k = n := by omega
      have HB := Lib.hid hb
      have HN2 := Lib.hid (hc.nest HN.out (by omega) (lo := w.heap.size))
      clear hc hb
      go_wp2
      go_ret
      exact ⟨by rw [hG]; rfl, by rw [hG]; rw [hG] at HN2; exact HN2.out, HB.out⟩
end Go.Proofs.Ytjpejhpilfjheab
