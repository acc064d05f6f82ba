/-
  The library's Delete and Insert at books, in a slice that has room: what they do to its block.
  Conditions: the slice lies at the head of a block of its own; the inserted book lies in another one.
-/
import Derived.Test.YtplohhmggfifkaaMoveLaws
namespace Go.Proofs.Ytplohhmggfifkaa
set_option linter.unusedVariables false
open Go.RowKit

/-- Two cells of nothing. -/
def zz : List Value := [.int .i64 0, .int .i64 0]
/-- The two cells of a book. -/
def two (a b : Int) : List Value := [.int .i64 a, .int .i64 b]

set_option maxRecDepth 100000 in
set_option maxHeartbeats 4000000 in
theorem deleteK_any (g k cap f : Nat) (A B C R : List Value) (w : World) (hf : f ≤ k) (hnc : k + 1 ≤ cap) (hcap : cap ≤ 9223372036854775807) (hA : A.length = f * 2) (hB : B.length = 2) (hC : C.length = (k - f) * 2)
    (hg : w.heap[g]? = some (.cells (A ++ (B ++ (C ++ R))).toArray 51 (0, 0))) (h1 : ∀ v ∈ C, v.oneCell' = true) :
    Calls Try.prog 77 #[.slice (some ⟨g, 0, none⟩) (k + 1) cap, .int .i64 (f : Int), .int .i64 ((f : Int) + 1)] w fun e w' =>
      e = .returned (.slice (some ⟨g, 0, none⟩) k cap) ∧ w'.heap[g]? = some (.cells (A ++ (C ++ (zz ++ R))).toArray 51 (0, 0)) ∧ Below g w w' := by
  obtain ⟨i0, hi0, hz0, hz1, hz2⟩ := info_parts book_info
  have hne : ¬ ((f : Int) = (f : Int) + 1) := by omega
  have htn : ((f : Int) + 1).toNat = f + 1 := by omega
  have hb3 : (f : Int) ≤ (k : Int) := by omega
  have hb4 : (f : Int) ≤ (f : Int) + 1 := by omega
  have hb5 : (0 : Int) ≤ (f : Int) + 1 := by omega
  have hb6 : ¬ (cap = f) := by omega
  have hb7 : f ≤ cap := by omega
  have hb8 : ¬ (cap = k) := by omega
  obtain ⟨Y, hY⟩ : ∃ Y, (B ++ C).take C.length = Y := ⟨_, rfl⟩
  obtain ⟨D, hD⟩ : ∃ D, (B ++ C).drop C.length = D := ⟨_, rfl⟩
  have hYD : B ++ (C ++ R) = Y ++ (D ++ R) := by rw [← hY, ← hD, ← List.append_assoc, ← List.append_assoc, List.take_append_drop]
  have hYl : Y.length = (k - f) * 2 := by rw [← hY, List.length_take, List.length_append]; omega
  have hDl : D.length = 2 := by rw [← hD, List.length_drop, List.length_append]; omega
  have hsrc : ∀ j u, C[j]? = some u → w.cell? ((⟨g, (f + 1) * 2, none⟩ : Addr).add j) = some u := by
    intro j u hj
    have hjl := (List.getElem?_eq_some_iff.1 hj).1
    rw [Addr.add_lit, cell_of hg, List.getElem?_toArray, List.getElem?_append_right (by omega), List.getElem?_append_right (by omega), show (f + 1) * 2 + j - A.length - B.length = j by omega, List.getElem?_append_left hjl, hj]
  rw [hYD] at hg
  have hap : ∀ (a : Addr), (C = [] ∨ a = ⟨g, (f + 1) * 2, none⟩) → ∀ ty c, (Builtin.append_ #[25, 25] ty #[.slice (some ⟨g, 0, none⟩) f cap, .slice (some a) (k - f) c]).run Try.prog w.drew = .ok (.slice (some ⟨g, 0, none⟩) k cap) (w.drew.setRow g (A ++ (C ++ (D ++ R))).toArray) := by
    intro a ha ty c
    have h := run_append_in w.drew _ ty _ i0 Try.underlying25 hi0 hz1 g f cap A Y (D ++ R) hg hA a (k - f) c C hC hYl (by
      rcases ha with rfl | rfl
      · intro j u hj; cases hj
      · exact hsrc) h1 (by omega)
    rwa [show f + (k - f) = k by omega] at h
  have hW1 : (w.drew.setRow g (A ++ (C ++ (D ++ R))).toArray).heap[g]? = some (.cells (A ++ (C ++ (D ++ R))).toArray 51 (0, 0)) := setRow_heap w.drew g _ _ _ _ hg
  have hb1 : Below g w (w.drew.setRow g (A ++ (C ++ (D ++ R))).toArray) := below_setRow ((Below.refl g w).drew) (Nat.le_refl _) _
  have HAP := Lib.hid hap
  obtain ⟨W1, hW⟩ : ∃ W1, w.drew.setRow g (A ++ (C ++ (D ++ R))).toArray = W1 := ⟨_, rfl⟩
  rw [hW] at HAP hW1 hb1
  have hl1 : A.length + C.length = k * 2 := by omega
  have hcl : ∀ ty c, (Builtin.clear_ #[25] ty #[.slice (some ⟨g, k * 2, none⟩) 1 c]).run Try.prog W1 = .ok (.tuple #[]) (W1.setRow g (A ++ (C ++ (zz ++ R))).toArray) := by
    intro ty c
    have h := run_clear2 (P := Try.prog) W1 25 _ ty i0 Try.underlying25 hi0 hz0 g (k * 2) c _ _ hW1 (by simp; omega)
    have hL : (A ++ (C ++ (D ++ R))).take (k * 2) ++ zz ++ (A ++ (C ++ (D ++ R))).drop (k * 2 + 2) = A ++ (C ++ (zz ++ R)) := by
      have e := over_mid (A ++ C) D R zz (by rw [hDl]; rfl)
      rw [List.append_assoc A C (D ++ R), List.append_assoc A C (zz ++ R), List.length_append, hl1] at e
      exact e
    exact h.trans (congrArg (fun L : List Value => Result.ok (Value.tuple #[]) (W1.setRow g L.toArray)) hL)
  have HCL := Lib.hid hcl
  have HG2 := Lib.hid (show (W1.setRow g (A ++ (C ++ (zz ++ R))).toArray).heap[g]? = some (.cells (A ++ (C ++ (zz ++ R))).toArray 51 (0, 0)) from setRow_heap W1 g _ _ _ _ hW1)
  have HB2 := Lib.hid (show Below g w (W1.setRow g (A ++ (C ++ (zz ++ R))).toArray) from below_setRow hb1 (Nat.le_refl _) _)
  obtain ⟨W2, hW2⟩ : ∃ W2, W1.setRow g (A ++ (C ++ (zz ++ R))).toArray = W2 := ⟨_, rfl⟩
  rw [hW2] at HCL HG2 HB2
  have mixed : Try.prog.follows Departure.mixedOrders = true := by kernel_rfl
  clear hap hW1 hb1 hg hYD hY hD hW hW2 hcl hl1 hYl hDl hsrc
  go_enter Try.func77, Try.ntmps77
  by_cases hc : cap = f + 1
  · obtain rfl : k = f := by omega
    subst hc
    have hC0 : C = [] := List.eq_nil_of_length_eq_zero (by omega)
    have HAP2 := Lib.hid (fun a ty c => HAP.out a (.inl hC0) ty c)
    simp only [Nat.sub_self] at HAP2
    go_wp2_with fail
    go_region_law_o (refine step_append_runI rfl _ _ 25 25 rfl (.slice (some ⟨g, 0, none⟩) k (k + 1)) (.slice (some ⟨g, 0, none⟩) 0 0) (by simp [Act.eval, Act.put]) (by simp [Act.eval, Act.put]) (HAP2.out _ _ _) ?_)
    have hclx := HCL.out
    go_wp2_with fail
    go_ret
    exact ⟨rfl, HG2.out, HB2.out⟩
  · go_wp2_with fail
    go_region_law_o (refine step_append_runI rfl _ _ 25 25 rfl (.slice (some ⟨g, 0, none⟩) f cap) (.slice (some ⟨g, (f + 1) * 2, none⟩) (k - f) (cap - (f + 1))) (by simp [Act.eval, Act.put]) (by simp [Act.eval, Act.put]) (HAP.out _ (.inr rfl) _ _) ?_)
    have hclx := HCL.out
    go_wp2_with fail
    go_ret
    exact ⟨rfl, HG2.out, HB2.out⟩

set_option maxRecDepth 100000 in
set_option maxHeartbeats 4000000 in
theorem insertK_any (g k cap t gv : Nat) (X Y Z R : List Value) (a b : Int) (w : World) (ht : t ≤ k) (hnc : k + 1 ≤ cap) (hcap : cap ≤ 9223372036854775807) (hX : X.length = t * 2) (hY : Y.length = (k - t) * 2) (hZ : Z.length = 2) (hR : (k + 1) * 2 + R.length = cap * 2)
    (hg : w.heap[g]? = some (.cells (X ++ (Y ++ (Z ++ R))).toArray 51 (0, 0))) (h1 : ∀ v ∈ Y, v.oneCell' = true)
    (hv : w.heap[gv]? = some (.cells #[.int .i64 a, .int .i64 b] 51 (0, 0))) (hne : gv ≠ g) :
    Calls Try.prog 78 #[.slice (some ⟨g, 0, none⟩) k cap, .int .i64 (t : Int), .slice (some ⟨gv, 0, none⟩) 1 1] w fun e w' =>
      e = .returned (.slice (some ⟨g, 0, none⟩) (k + 1) cap) ∧ w'.heap[g]? = some (.cells (X ++ (two a b ++ (Y ++ R))).toArray 51 (0, 0)) ∧ Below g w w' := by
  obtain ⟨i0, hi0, hz0, hz1, hz2⟩ := info_parts book_info
  have mixed : Try.prog.follows Departure.mixedOrders = true := by kernel_rfl
  have hsz : (Try.prog.info? 51).map (·.size) = some 2 := by rw [hi0]; simp [hz1]
  have hnew1 : ∀ v ∈ two a b, v.oneCell' = true := by
    intro v hv; simp only [two, List.mem_cons, List.not_mem_nil, or_false] at hv; rcases hv with rfl | rfl <;> rfl
  have hvc : ∀ (W : World), W.heap[gv]? = some (.cells #[.int .i64 a, .int .i64 b] 51 (0, 0)) → ∀ (j : Nat) (u : Value), (two a b)[j]? = some u → W.cell? ((⟨gv, 0, none⟩ : Addr).add j) = some u := by
    intro W hW j u hj
    rw [Addr.add_lit, Nat.zero_add, cell_of hW]
    simpa [two] using hj
  by_cases hk : t = k
  · subst hk
    have hY0 : Y = [] := List.eq_nil_of_length_eq_zero (by omega)
    subst hY0
    rw [List.nil_append] at hg
    have hrun : ∀ ty, (Builtin.append_ #[25, 25] ty #[.slice (some ⟨g, 0, none⟩) t cap, .slice (some ⟨gv, 0, none⟩) 1 1]).run Try.prog w = .ok (.slice (some ⟨g, 0, none⟩) (t + 1) cap) (w.setRow g (X ++ (two a b ++ R)).toArray) := fun ty =>
      run_append_in w _ ty _ i0 Try.underlying25 hi0 hz1 g t cap X Z R hg hX ⟨gv, 0, none⟩ 1 1 _ rfl (by omega) (hvc w hv) hnew1 hnc
    have HRUN := Lib.hid hrun
    have HG2 := Lib.hid (show (w.setRow g (X ++ (two a b ++ R)).toArray).heap[g]? = some (.cells (X ++ (two a b ++ R)).toArray 51 (0, 0)) from setRow_heap w g _ _ _ _ hg)
    have HB2 := Lib.hid (show Below g w (w.setRow g (X ++ (two a b ++ R)).toArray) from below_setRow (Below.refl g w) (Nat.le_refl _) _)
    obtain ⟨W2, hW2⟩ : ∃ W2, w.setRow g (X ++ (two a b ++ R)).toArray = W2 := ⟨_, rfl⟩
    rw [hW2] at HRUN HG2 HB2
    have hb4 : ¬ (cap = t) := by omega
    clear hrun hW2 hvc hnew1 hg hv
    go_enter Try.func78, Try.ntmps78
    go_wp2_with (at_builtin; refine Lib.wpList_append_run _ rfl _ _ _ _ rfl _ _ rfl rfl _ _ (HRUN.out _) ?_)
    go_ret
    exact ⟨rfl, HG2.out, HB2.out⟩
  · have hlt : t < k := by omega
    obtain ⟨Q, hQ⟩ : ∃ Q, (Y ++ Z).drop 2 = Q := ⟨_, rfl⟩
    obtain ⟨P2, hP2⟩ : ∃ P2, (Y ++ Z).take 2 = P2 := ⟨_, rfl⟩
    have hYZ : Y ++ (Z ++ R) = P2 ++ (Q ++ R) := by rw [← hQ, ← hP2, ← List.append_assoc, ← List.append_assoc, List.take_append_drop]
    have hQl : Q.length = (k - t) * 2 := by rw [← hQ, List.length_drop, List.length_append]; omega
    have hPl : P2.length = 2 := by rw [← hP2, List.length_take, List.length_append]; omega
    have hsrc : ∀ j u, Y[j]? = some u → w.cell? ((⟨g, t * 2, none⟩ : Addr).add j) = some u := by
      intro j u hj
      have hjl := (List.getElem?_eq_some_iff.1 hj).1
      rw [Addr.add_lit, cell_of hg, List.getElem?_toArray, List.getElem?_append_right (by omega), show t * 2 + j - X.length = j by omega, List.getElem?_append_left hjl, hj]
    rw [hYZ] at hg
    have hov : ∀ lb cb, (callFunc 84 #[.slice (some ⟨gv, 0, none⟩) 1 1, .slice (some ⟨g, (t + 1) * 2, none⟩) lb cb]).run Try.prog w = .ok (.value (.bool false)) w := fun lb cb => by
      rw [run_callFunc_extern Try.func84 (by kernel_rfl) (by kernel_rfl) (by kernel_rfl) (e := Extern.SlicesOverlaps.overlaps #[25, 25] #[4]) (by kernel_rfl),
        Lib.run_overlaps_apart w 25 4 51 Try.underlying25 2 (fun w => by simp [sizeOf, typeInfo, hi0, hz1]) ⟨gv, 0, none⟩ ⟨g, (t + 1) * 2, none⟩ 1 1 lb cb hne 51 51 2 (X ++ (P2 ++ (Q ++ R))).length (by simp [World.shape?, hv]) (by simp [World.shape?, hg]) (by rw [List.length_append, List.length_append]; omega) (frozen_of hv 0) (frozen_of hv 2)]
      rfl
    have hl1 : X.length + P2.length = (t + 1) * 2 := by omega
    have hcp1 : ∀ ty dc sc, (Builtin.copy_ #[25, 25] ty #[.slice (some ⟨g, (t + 1) * 2, none⟩) (k - t) dc, .slice (some ⟨g, t * 2, none⟩) (k + 1 - t) sc]).run Try.prog w.drew = .ok (goInt (Nat.min (k + 1 - t) (k - t))) (w.drew.setRow g (X ++ (P2 ++ (Y ++ R))).toArray) := by
      intro ty dc sc
      have h := run_copy2 (P := Try.prog) w.drew 25 ty 51 g ((t + 1) * 2) (k - t) dc ⟨g, t * 2, none⟩ (k + 1 - t) sc _ _ Y Try.underlying25 hsz hg (by show _ = (min (k + 1 - t) (k - t)) * 2; rw [hY, Nat.min_eq_right (by omega)]) hsrc (by simp; omega) h1
      have hL : (X ++ (P2 ++ (Q ++ R))).take ((t + 1) * 2) ++ Y ++ (X ++ (P2 ++ (Q ++ R))).drop ((t + 1) * 2 + Y.length) = X ++ (P2 ++ (Y ++ R)) := by
        have e := over_mid (X ++ P2) Q R Y (by omega)
        rw [List.append_assoc X P2 (Q ++ R), List.append_assoc X P2 (Y ++ R), List.length_append, hl1] at e
        exact e
      exact h.trans (congrArg (fun L : List Value => Result.ok (goInt (Nat.min (k + 1 - t) (k - t))) (w.drew.setRow g L.toArray)) hL)
    have hW1 : (w.drew.setRow g (X ++ (P2 ++ (Y ++ R))).toArray).heap[g]? = some (.cells (X ++ (P2 ++ (Y ++ R))).toArray 51 (0, 0)) := setRow_heap w.drew g _ _ _ _ hg
    have hV1 : (w.drew.setRow g (X ++ (P2 ++ (Y ++ R))).toArray).heap[gv]? = some (.cells #[.int .i64 a, .int .i64 b] 51 (0, 0)) := (setRow_other w.drew g gv _ hne).trans hv
    have hb1 : Below g w (w.drew.setRow g (X ++ (P2 ++ (Y ++ R))).toArray) := below_setRow ((Below.refl g w).drew) (Nat.le_refl _) _
    have HCP1 := Lib.hid hcp1
    obtain ⟨W1, hW⟩ : ∃ W1, w.drew.setRow g (X ++ (P2 ++ (Y ++ R))).toArray = W1 := ⟨_, rfl⟩
    rw [hW] at HCP1 hW1 hb1 hV1
    have hcp2 : ∀ ty dc, (Builtin.copy_ #[25, 25] ty #[.slice (some ⟨g, t * 2, none⟩) (k + 1 - t) dc, .slice (some ⟨gv, 0, none⟩) 1 1]).run Try.prog W1 = .ok (goInt (Nat.min 1 (k + 1 - t))) (W1.setRow g (X ++ (two a b ++ (Y ++ R))).toArray) := by
      intro ty dc
      have h := run_copy2 (P := Try.prog) W1 25 ty 51 g (t * 2) (k + 1 - t) dc ⟨gv, 0, none⟩ 1 1 _ _ (two a b) Try.underlying25 hsz hW1 (by show _ = (min 1 (k + 1 - t)) * 2; rw [Nat.min_eq_left (by omega)]; rfl) (hvc W1 hV1) (by rw [List.length_append, List.length_append]; show t * 2 + 2 ≤ _; omega) hnew1
      have hL := over_mid X P2 (Y ++ R) (two a b) (by rw [hPl]; rfl)
      rw [hX] at hL
      exact h.trans (congrArg (fun L : List Value => Result.ok (goInt (Nat.min 1 (k + 1 - t))) (W1.setRow g L.toArray)) hL)
    have HCP2 := Lib.hid hcp2
    have HG2 := Lib.hid (show (W1.setRow g (X ++ (two a b ++ (Y ++ R))).toArray).heap[g]? = some (.cells (X ++ (two a b ++ (Y ++ R))).toArray 51 (0, 0)) from setRow_heap W1 g _ _ _ _ hW1)
    have HB2 := Lib.hid (show Below g w (W1.setRow g (X ++ (two a b ++ (Y ++ R))).toArray) from below_setRow hb1 (Nat.le_refl _) _)
    obtain ⟨W2, hW2⟩ : ∃ W2, W1.setRow g (X ++ (two a b ++ (Y ++ R))).toArray = W2 := ⟨_, rfl⟩
    rw [hW2] at HCP2 HG2 HB2
    have hz2 : ¬ ((t : Int) = (k : Int)) := by omega
    have hbc : ¬ ((cap : Int) < (k : Int) + 1) := by omega
    have hb0 : ¬ (cap = t) := by omega
    have hb2 : ¬ (cap = t + 1) := by omega
    have hb3 : (t : Int) ≤ (k : Int) := by omega
    have hb5 : (0 : Int) ≤ (t : Int) + 1 := by omega
    have htn : ((t : Int) + 1).toNat = t + 1 := by omega
    have hw1 : IntKind.i64.wrap ((t : Int) + 1) = (t : Int) + 1 := by rw [IntKind.wrap_i64]; omega
    have hb9 : (t : Int) + 1 ≤ (k : Int) + 1 := by omega
    have hkn : ((k : Int) + 1).toNat = k + 1 := by omega
    have hb6 : (t : Int) ≤ (k : Int) + 1 := by omega
    have hb7 : k + 1 ≤ cap := hnc
    clear hcp1 hcp2 hW hW2 hW1 hV1 hb1 hvc hnew1 hg hv hYZ hQ hP2 hsrc hl1 hQl hPl
    go_enter Try.func78, Try.ntmps78
    go_wp2_with (simp only [hov])
    go_region_law_o (refine step_copy_runJ rfl _ _ 25 25 rfl (.slice (some ⟨g, (t + 1) * 2, none⟩) (k - t) (cap - (t + 1))) (.slice (some ⟨g, t * 2, none⟩) (k + 1 - t) (cap - t)) (by simp [Act.eval, Act.put]) (by simp [Act.eval, Act.put]) (HCP1.out _ _ _) ?_)
    have hcpx := HCP2.out
    go_wp2_with fail
    go_ret
    exact ⟨rfl, HG2.out, HB2.out⟩
end Go.Proofs.Ytplohhmggfifkaa
