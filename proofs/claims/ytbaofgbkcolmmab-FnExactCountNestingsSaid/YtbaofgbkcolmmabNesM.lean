/-
  What the written program's search for the cheapest nestings answers, for each of its two costs.
  Conditions: there are boxes.
-/
import Derived.Test.YtbaofgbkcolmmabNesX
import Derived.Test.YtbaofgbkcolmmabBoxIn
namespace Go.Proofs.Ytbaofgbkcolmmab
set_option linter.unusedVariables false
open Go.RowKit

/-- The least cost, the first nesting that has it, and how many have it. -/
def RetLst (g : List Int → Int) (bs : List (Int × Int × Int)) (w : World) (e : Ending) (w' : World) : Prop :=
  ∃ Af nf cf, e = .returned (.agg #[.int .i64 (leastC g (nesB g (nesAll bs))), .slice Af nf cf, .int .i64 ((nesB g (nesAll bs)).length : Nat)]) ∧ (firstC (nesB g (nesAll bs))).length = nf ∧ Own w' w.heap.size w'.heap.size Af (firstC (nesB g (nesAll bs))) ∧ Below w.heap.size w w'

set_option maxRecDepth 100000 in
set_option maxHeartbeats 2000000 in
theorem leastC_any (A : Option Addr) (n c : Nat) (bs : List (Int × Int × Int)) (lo hi : Nat) (w : World) (κ : Nat → Int) (hn : bs.length = n) (hg : goodN bs = true) (hs : Seg w lo hi A (flat3 bs)) (hB : hi ≤ w.heap.size)
    (hκ : ∀ k, k < n → 0 ≤ κ k ∧ κ k ≤ 1000000) (hF : ∀ (k : Nat) (x y z : Int) (w : World), bs[k]? = some (x, y, z) → Calls Try.prog 85 #[.agg #[.int .i64 x, .int .i64 y, .int .i64 z]] w fun e w' => e = .returned (.int .i64 (κ k)) ∧ Below w.heap.size w w') :
    Calls Try.prog 53 #[.slice A n c, .func (.func 85) #[] #[]] w (RetLst (costC κ) bs w) := by
  have eb : ((((w.alloc (.cells #[.slice A n c] 26)).alloc (.cells #[.func (.func 85) #[] #[]] 69)).alloc (.cells #[.int .i64 0, .slice none 0 0, .int .i64 0] 65)).alloc (.cells #[.int .i64 0, .slice none 0 0, .int .i64 0] 65)).heap[w.heap.size]? = some (.cells #[.slice A n c] 26 (0, 0)) := (alloc_old _ (by simp <;> omega) _).trans ((alloc_old _ (by simp <;> omega) _).trans ((alloc_old _ (by simp) _).trans (new_at w _ rfl)))
  have ef : ((((w.alloc (.cells #[.slice A n c] 26)).alloc (.cells #[.func (.func 85) #[] #[]] 69)).alloc (.cells #[.int .i64 0, .slice none 0 0, .int .i64 0] 65)).alloc (.cells #[.int .i64 0, .slice none 0 0, .int .i64 0] 65)).heap[w.heap.size + 1]? = some (.cells #[.func (.func 85) #[] #[]] 69 (0, 0)) := (alloc_old _ (by simp <;> omega) _).trans ((alloc_old _ (by simp) _).trans (new_at _ _ (by simp)))
  have er : ((((w.alloc (.cells #[.slice A n c] 26)).alloc (.cells #[.func (.func 85) #[] #[]] 69)).alloc (.cells #[.int .i64 0, .slice none 0 0, .int .i64 0] 65)).alloc (.cells #[.int .i64 0, .slice none 0 0, .int .i64 0] 65)).heap[w.heap.size + 2]? = some (.cells #[.int .i64 0, .slice none 0 0, .int .i64 0] 65 (0, 0)) := (alloc_old _ (by simp) _).trans (new_at _ _ (by simp))
  have el : ((((w.alloc (.cells #[.slice A n c] 26)).alloc (.cells #[.func (.func 85) #[] #[]] 69)).alloc (.cells #[.int .i64 0, .slice none 0 0, .int .i64 0] 65)).alloc (.cells #[.int .i64 0, .slice none 0 0, .int .i64 0] 65)).heap[w.heap.size + 3]? = some (.cells #[.int .i64 0, .slice none 0 0, .int .i64 0] 65 (0, 0)) := new_at _ _ (by simp)
  have hb4 : Below w.heap.size w ((((w.alloc (.cells #[.slice A n c] 26)).alloc (.cells #[.func (.func 85) #[] #[]] 69)).alloc (.cells #[.int .i64 0, .slice none 0 0, .int .i64 0] 65)).alloc (.cells #[.int .i64 0, .slice none 0 0, .int .i64 0] 65)) := ((((Below.refl _ _).alloc (Nat.le_refl _) _).alloc (by simp) _).alloc (by simp <;> omega) _).alloc (by simp <;> omega) _
  have hs4 : ((((w.alloc (.cells #[.slice A n c] 26)).alloc (.cells #[.func (.func 85) #[] #[]] 69)).alloc (.cells #[.int .i64 0, .slice none 0 0, .int .i64 0] 65)).alloc (.cells #[.int .i64 0, .slice none 0 0, .int .i64 0] 65)).heap.size = w.heap.size + 4 := by simp
  have hr4 : RL (w.heap.size + 4) (w.heap.size + 1) w.heap.size (w.heap.size + 3) (.func (.func 85) #[] #[]) A n c (costC κ) none [] ((((w.alloc (.cells #[.slice A n c] 26)).alloc (.cells #[.func (.func 85) #[] #[]] 69)).alloc (.cells #[.int .i64 0, .slice none 0 0, .int .i64 0] 65)).alloc (.cells #[.int .i64 0, .slice none 0 0, .int .i64 0] 65)) := ⟨by rw [hs4]; exact Nat.le_refl _, fun g h => (by cases h), ef, eb, ⟨none, 0, 0, el, rfl, Own.nil_, fun h => absurd rfl h⟩⟩
  have hcB : ((((w.alloc (.cells #[.slice A n c] 26)).alloc (.cells #[.func (.func 85) #[] #[]] 69)).alloc (.cells #[.int .i64 0, .slice none 0 0, .int .i64 0] 65)).alloc (.cells #[.int .i64 0, .slice none 0 0, .int .i64 0] 65)).cell? ⟨w.heap.size, 0, none⟩ = some (.slice A n c) := (cell_of eb 0).trans rfl
  generalize hW : ((((w.alloc (.cells #[.slice A n c] 26)).alloc (.cells #[.func (.func 85) #[] #[]] 69)).alloc (.cells #[.int .i64 0, .slice none 0 0, .int .i64 0] 65)).alloc (.cells #[.int .i64 0, .slice none 0 0, .int .i64 0] 65)) = W4v at *
  have hbb := (Below.refl W4v.heap.size W4v).alloc (Nat.le_refl _) (.cells #[.slice A n c, .slice none 0 0] 113)
  have hr5 := (RL.keeps (P := w.heap.size + 4) (p0 := w.heap.size + 1) (p1 := w.heap.size) (p2 := w.heap.size + 3) (fn := .func (.func 85) #[] #[]) (A := A) (n := n) (c := c) (g := costC κ) (by omega) (by omega) (by omega)).below _ _ _ _ hr4 hbb
  have hp5 : PileSt (W4v.alloc (.cells #[.slice A n c, .slice none 0 0] 113)) (w.heap.size + 4) A n c (.slice none 0 0) [] := ⟨new_at _ _ (by rw [hs4]), World.ownsRow_nil _ _ _ _⟩
  have er5 := (alloc_old W4v (by rw [hs4]; omega) (.cells #[.slice A n c, .slice none 0 0] 113)).trans er
  have hb5 := hb4.trans (hbb.mono (B' := w.heap.size) (by rw [hs4]; omega))
  have HR5 := Lib.hid hr5
  have HP5 := Lib.hid hp5
  have HER := Lib.hid er5
  have HB5 := Lib.hid hb5
  have HS5 := Lib.hid (hs.below hb5 hB)
  have HN := Lib.hid hn
  have HG := Lib.hid hg
  have hHI := hB
  have HAL := Lib.hid (show nesF bs n [] = nesAll bs by rw [nesAll, hn])
  have HFW := Lib.hid (nesAll_len hg)
  have HV := Lib.hid (visitNC (w.heap.size + 1) w.heap.size (w.heap.size + 3) A n c bs lo hi (w.heap.size + 4) (w.heap.size + 3) κ hn hg (by omega) (by omega) hκ hF (by omega) (by omega) (by omega) (by omega) (by omega) (Nat.le_refl _))
  have HKP := Lib.hid (RL.keeps (P := w.heap.size + 4) (p0 := w.heap.size + 1) (p1 := w.heap.size) (p2 := w.heap.size + 3) (fn := .func (.func 85) #[] #[]) (A := A) (n := n) (c := c) (g := costC κ) (by omega) (by omega) (by omega))
  have HS4 := Lib.hid hs4
  clear eb ef er el hb4 hr4 hbb hr5 hp5 er5 hb5 hn hg hs hκ hF
  go_enter Try.func53, Try.ntmps53
  go_wp2_with fail
  refine (walkN_any (w.heap.size + 1) w.heap.size (w.heap.size + 3) A n c bs lo hi (w.heap.size + 4) (w.heap.size + 3) _ HN.out HG.out (by omega) (by omega) HKP.out HV.out n [] [] _ _ (by simp) (inN_nil _) (by rw [HAL.out]; simpa using HFW.out) (by simp [hs4]) HS5.out HP5.out HR5.out).mono ?_
  rintro e w6 ⟨rfl, ⟨v6, hp6, hr6⟩, hb6⟩
  have hr6' : RL (w.heap.size + 4) (w.heap.size + 1) w.heap.size (w.heap.size + 3) (.func (.func 85) #[] #[]) A n c (costC κ) v6.ownBlock (nesAll bs) w6 := by rw [← HAL.out]; exact hr6
  obtain ⟨Af, nf, cf, e1, e2, e3, _⟩ := hr6'.lst
  have e6 := (hb6.block (w.heap.size + 2) (by omega)).trans HER.out
  have HB6 := Lib.hid (HB5.out.trans (hb6.mono (by omega)))
  have hz6 : w.heap.size + 4 ≤ w6.heap.size := hr6'.size
  clear hp6 hr6 hr6' hb6 hcB hW
  obtain ⟨a, ha⟩ : ∃ a, leastC (costC κ) (nesB (costC κ) (nesAll bs)) = a := ⟨_, rfl⟩
  obtain ⟨k, hk⟩ : ∃ k, (nesB (costC κ) (nesAll bs)).length = k := ⟨_, rfl⟩
  have HK := Lib.hid hk
  have HA := Lib.hid ha
  rw [ha, hk] at e1
  have c0 : w6.cell? ⟨w.heap.size + 1 + 1 + 1, 0, none⟩ = some (.int .i64 a) := (cell_of e1 0).trans rfl
  have c1 : w6.cell? ⟨w.heap.size + 1 + 1 + 1, 1, none⟩ = some (.slice Af nf cf) := (cell_of e1 1).trans rfl
  have c2 : w6.cell? ⟨w.heap.size + 1 + 1 + 1, 2, none⟩ = some (.int .i64 k) := (cell_of e1 2).trans rfl
  have y0 : w6.cell? ⟨w.heap.size + 1 + 1, 0, none⟩ = some (.int .i64 0) := (cell_of e6 0).trans rfl
  have y1 : w6.cell? ⟨w.heap.size + 1 + 1, 1, none⟩ = some (.slice none 0 0) := (cell_of e6 1).trans rfl
  have y2 : w6.cell? ⟨w.heap.size + 1 + 1, 2, none⟩ = some (.int .i64 0) := (cell_of e6 2).trans rfl
  have x0 : w6.frozen? ⟨w.heap.size + 1 + 1, 0, none⟩ = false := frozen_of e6 0
  have x1 : w6.frozen? ⟨w.heap.size + 1 + 1, 1, none⟩ = false := frozen_of e6 1
  have x2 : w6.frozen? ⟨w.heap.size + 1 + 1, 2, none⟩ = false := frozen_of e6 2
  have H6 := Lib.hid e6
  have HE2 := Lib.hid e2
  have HE3 := Lib.hid e3
  clear e1 e2 e3 e6 ha hk
  go_wp2
  have h7 := set_three H6.out (.int .i64 a) (.slice Af nf cf) (.int .i64 k)
  have z0 : ((((w6.setCell ⟨w.heap.size + 1 + 1, 0, none⟩ (.int .i64 a)).setCell ⟨w.heap.size + 1 + 1, 1, none⟩ (.slice Af nf cf)).setCell ⟨w.heap.size + 1 + 1, 2, none⟩ (.int .i64 k))).cell? ⟨w.heap.size + 1 + 1, 0, none⟩ = some (.int .i64 a) := (cell_of h7 0).trans rfl
  have z1 : ((((w6.setCell ⟨w.heap.size + 1 + 1, 0, none⟩ (.int .i64 a)).setCell ⟨w.heap.size + 1 + 1, 1, none⟩ (.slice Af nf cf)).setCell ⟨w.heap.size + 1 + 1, 2, none⟩ (.int .i64 k))).cell? ⟨w.heap.size + 1 + 1, 1, none⟩ = some (.slice Af nf cf) := (cell_of h7 1).trans rfl
  have z2 : ((((w6.setCell ⟨w.heap.size + 1 + 1, 0, none⟩ (.int .i64 a)).setCell ⟨w.heap.size + 1 + 1, 1, none⟩ (.slice Af nf cf)).setCell ⟨w.heap.size + 1 + 1, 2, none⟩ (.int .i64 k))).cell? ⟨w.heap.size + 1 + 1, 2, none⟩ = some (.int .i64 k) := (cell_of h7 2).trans rfl
  refine bodyPost_ret (v := .agg #[.int .i64 a, .slice Af nf cf, .int .i64 k]) (by simp [results, Try.results53, go_sem, z0, z1, z2]) rfl ⟨Af, nf, cf, by rw [HA.out, HK.out], HE2.out, ?_, below_three HB6.out (by omega) _ _ _⟩
  have hg7 := grown_three w6 (w.heap.size + 1 + 1) (.int .i64 a) (.slice Af nf cf) (.int .i64 k)
  exact (Own.grownFar HE3.out hg7 (Nat.le_refl _) (fun hx g' hA e => by have h := (HE3.out.lt_ hx hA).1; injection e with e; omega)).more (by omega) hg7.size

set_option maxRecDepth 100000 in
set_option maxHeartbeats 2000000 in
theorem leastV_any (A : Option Addr) (n c : Nat) (bs : List (Int × Int × Int)) (lo hi : Nat) (w : World) (κ : Nat → Int) (hn : bs.length = n) (hg : goodN bs = true) (hs : Seg w lo hi A (flat3 bs)) (hB : hi ≤ w.heap.size)
    (hκ : ∀ k, k < n → 0 ≤ κ k ∧ κ k ≤ 1000000) (hF : ∀ (k : Nat) (x y z : Int) (w : World), bs[k]? = some (x, y, z) → Calls Try.prog 54 #[.agg #[.int .i64 x, .int .i64 y, .int .i64 z]] w fun e w' => e = .returned (.int .i64 (κ k)) ∧ Below w.heap.size w w') :
    Calls Try.prog 53 #[.slice A n c, .func (.func 54) #[] #[]] w (RetLst (costC κ) bs w) := by
  have eb : ((((w.alloc (.cells #[.slice A n c] 26)).alloc (.cells #[.func (.func 54) #[] #[]] 69)).alloc (.cells #[.int .i64 0, .slice none 0 0, .int .i64 0] 65)).alloc (.cells #[.int .i64 0, .slice none 0 0, .int .i64 0] 65)).heap[w.heap.size]? = some (.cells #[.slice A n c] 26 (0, 0)) := (alloc_old _ (by simp <;> omega) _).trans ((alloc_old _ (by simp <;> omega) _).trans ((alloc_old _ (by simp) _).trans (new_at w _ rfl)))
  have ef : ((((w.alloc (.cells #[.slice A n c] 26)).alloc (.cells #[.func (.func 54) #[] #[]] 69)).alloc (.cells #[.int .i64 0, .slice none 0 0, .int .i64 0] 65)).alloc (.cells #[.int .i64 0, .slice none 0 0, .int .i64 0] 65)).heap[w.heap.size + 1]? = some (.cells #[.func (.func 54) #[] #[]] 69 (0, 0)) := (alloc_old _ (by simp <;> omega) _).trans ((alloc_old _ (by simp) _).trans (new_at _ _ (by simp)))
  have er : ((((w.alloc (.cells #[.slice A n c] 26)).alloc (.cells #[.func (.func 54) #[] #[]] 69)).alloc (.cells #[.int .i64 0, .slice none 0 0, .int .i64 0] 65)).alloc (.cells #[.int .i64 0, .slice none 0 0, .int .i64 0] 65)).heap[w.heap.size + 2]? = some (.cells #[.int .i64 0, .slice none 0 0, .int .i64 0] 65 (0, 0)) := (alloc_old _ (by simp) _).trans (new_at _ _ (by simp))
  have el : ((((w.alloc (.cells #[.slice A n c] 26)).alloc (.cells #[.func (.func 54) #[] #[]] 69)).alloc (.cells #[.int .i64 0, .slice none 0 0, .int .i64 0] 65)).alloc (.cells #[.int .i64 0, .slice none 0 0, .int .i64 0] 65)).heap[w.heap.size + 3]? = some (.cells #[.int .i64 0, .slice none 0 0, .int .i64 0] 65 (0, 0)) := new_at _ _ (by simp)
  have hb4 : Below w.heap.size w ((((w.alloc (.cells #[.slice A n c] 26)).alloc (.cells #[.func (.func 54) #[] #[]] 69)).alloc (.cells #[.int .i64 0, .slice none 0 0, .int .i64 0] 65)).alloc (.cells #[.int .i64 0, .slice none 0 0, .int .i64 0] 65)) := ((((Below.refl _ _).alloc (Nat.le_refl _) _).alloc (by simp) _).alloc (by simp <;> omega) _).alloc (by simp <;> omega) _
  have hs4 : ((((w.alloc (.cells #[.slice A n c] 26)).alloc (.cells #[.func (.func 54) #[] #[]] 69)).alloc (.cells #[.int .i64 0, .slice none 0 0, .int .i64 0] 65)).alloc (.cells #[.int .i64 0, .slice none 0 0, .int .i64 0] 65)).heap.size = w.heap.size + 4 := by simp
  have hr4 : RL (w.heap.size + 4) (w.heap.size + 1) w.heap.size (w.heap.size + 3) (.func (.func 54) #[] #[]) A n c (costC κ) none [] ((((w.alloc (.cells #[.slice A n c] 26)).alloc (.cells #[.func (.func 54) #[] #[]] 69)).alloc (.cells #[.int .i64 0, .slice none 0 0, .int .i64 0] 65)).alloc (.cells #[.int .i64 0, .slice none 0 0, .int .i64 0] 65)) := ⟨by rw [hs4]; exact Nat.le_refl _, fun g h => (by cases h), ef, eb, ⟨none, 0, 0, el, rfl, Own.nil_, fun h => absurd rfl h⟩⟩
  have hcB : ((((w.alloc (.cells #[.slice A n c] 26)).alloc (.cells #[.func (.func 54) #[] #[]] 69)).alloc (.cells #[.int .i64 0, .slice none 0 0, .int .i64 0] 65)).alloc (.cells #[.int .i64 0, .slice none 0 0, .int .i64 0] 65)).cell? ⟨w.heap.size, 0, none⟩ = some (.slice A n c) := (cell_of eb 0).trans rfl
  generalize hW : ((((w.alloc (.cells #[.slice A n c] 26)).alloc (.cells #[.func (.func 54) #[] #[]] 69)).alloc (.cells #[.int .i64 0, .slice none 0 0, .int .i64 0] 65)).alloc (.cells #[.int .i64 0, .slice none 0 0, .int .i64 0] 65)) = W4v at *
  have hbb := (Below.refl W4v.heap.size W4v).alloc (Nat.le_refl _) (.cells #[.slice A n c, .slice none 0 0] 113)
  have hr5 := (RL.keeps (P := w.heap.size + 4) (p0 := w.heap.size + 1) (p1 := w.heap.size) (p2 := w.heap.size + 3) (fn := .func (.func 54) #[] #[]) (A := A) (n := n) (c := c) (g := costC κ) (by omega) (by omega) (by omega)).below _ _ _ _ hr4 hbb
  have hp5 : PileSt (W4v.alloc (.cells #[.slice A n c, .slice none 0 0] 113)) (w.heap.size + 4) A n c (.slice none 0 0) [] := ⟨new_at _ _ (by rw [hs4]), World.ownsRow_nil _ _ _ _⟩
  have er5 := (alloc_old W4v (by rw [hs4]; omega) (.cells #[.slice A n c, .slice none 0 0] 113)).trans er
  have hb5 := hb4.trans (hbb.mono (B' := w.heap.size) (by rw [hs4]; omega))
  have HR5 := Lib.hid hr5
  have HP5 := Lib.hid hp5
  have HER := Lib.hid er5
  have HB5 := Lib.hid hb5
  have HS5 := Lib.hid (hs.below hb5 hB)
  have HN := Lib.hid hn
  have HG := Lib.hid hg
  have hHI := hB
  have HAL := Lib.hid (show nesF bs n [] = nesAll bs by rw [nesAll, hn])
  have HFW := Lib.hid (nesAll_len hg)
  have HV := Lib.hid (visitNV (w.heap.size + 1) w.heap.size (w.heap.size + 3) A n c bs lo hi (w.heap.size + 4) (w.heap.size + 3) κ hn hg (by omega) (by omega) hκ hF (by omega) (by omega) (by omega) (by omega) (by omega) (Nat.le_refl _))
  have HKP := Lib.hid (RL.keeps (P := w.heap.size + 4) (p0 := w.heap.size + 1) (p1 := w.heap.size) (p2 := w.heap.size + 3) (fn := .func (.func 54) #[] #[]) (A := A) (n := n) (c := c) (g := costC κ) (by omega) (by omega) (by omega))
  have HS4 := Lib.hid hs4
  clear eb ef er el hb4 hr4 hbb hr5 hp5 er5 hb5 hn hg hs hκ hF
  go_enter Try.func53, Try.ntmps53
  go_wp2_with fail
  refine (walkN_any (w.heap.size + 1) w.heap.size (w.heap.size + 3) A n c bs lo hi (w.heap.size + 4) (w.heap.size + 3) _ HN.out HG.out (by omega) (by omega) HKP.out HV.out n [] [] _ _ (by simp) (inN_nil _) (by rw [HAL.out]; simpa using HFW.out) (by simp [hs4]) HS5.out HP5.out HR5.out).mono ?_
  rintro e w6 ⟨rfl, ⟨v6, hp6, hr6⟩, hb6⟩
  have hr6' : RL (w.heap.size + 4) (w.heap.size + 1) w.heap.size (w.heap.size + 3) (.func (.func 54) #[] #[]) A n c (costC κ) v6.ownBlock (nesAll bs) w6 := by rw [← HAL.out]; exact hr6
  obtain ⟨Af, nf, cf, e1, e2, e3, _⟩ := hr6'.lst
  have e6 := (hb6.block (w.heap.size + 2) (by omega)).trans HER.out
  have HB6 := Lib.hid (HB5.out.trans (hb6.mono (by omega)))
  have hz6 : w.heap.size + 4 ≤ w6.heap.size := hr6'.size
  clear hp6 hr6 hr6' hb6 hcB hW
  obtain ⟨a, ha⟩ : ∃ a, leastC (costC κ) (nesB (costC κ) (nesAll bs)) = a := ⟨_, rfl⟩
  obtain ⟨k, hk⟩ : ∃ k, (nesB (costC κ) (nesAll bs)).length = k := ⟨_, rfl⟩
  have HK := Lib.hid hk
  have HA := Lib.hid ha
  rw [ha, hk] at e1
  have c0 : w6.cell? ⟨w.heap.size + 1 + 1 + 1, 0, none⟩ = some (.int .i64 a) := (cell_of e1 0).trans rfl
  have c1 : w6.cell? ⟨w.heap.size + 1 + 1 + 1, 1, none⟩ = some (.slice Af nf cf) := (cell_of e1 1).trans rfl
  have c2 : w6.cell? ⟨w.heap.size + 1 + 1 + 1, 2, none⟩ = some (.int .i64 k) := (cell_of e1 2).trans rfl
  have y0 : w6.cell? ⟨w.heap.size + 1 + 1, 0, none⟩ = some (.int .i64 0) := (cell_of e6 0).trans rfl
  have y1 : w6.cell? ⟨w.heap.size + 1 + 1, 1, none⟩ = some (.slice none 0 0) := (cell_of e6 1).trans rfl
  have y2 : w6.cell? ⟨w.heap.size + 1 + 1, 2, none⟩ = some (.int .i64 0) := (cell_of e6 2).trans rfl
  have x0 : w6.frozen? ⟨w.heap.size + 1 + 1, 0, none⟩ = false := frozen_of e6 0
  have x1 : w6.frozen? ⟨w.heap.size + 1 + 1, 1, none⟩ = false := frozen_of e6 1
  have x2 : w6.frozen? ⟨w.heap.size + 1 + 1, 2, none⟩ = false := frozen_of e6 2
  have H6 := Lib.hid e6
  have HE2 := Lib.hid e2
  have HE3 := Lib.hid e3
  clear e1 e2 e3 e6 ha hk
  go_wp2
  have h7 := set_three H6.out (.int .i64 a) (.slice Af nf cf) (.int .i64 k)
  have z0 : ((((w6.setCell ⟨w.heap.size + 1 + 1, 0, none⟩ (.int .i64 a)).setCell ⟨w.heap.size + 1 + 1, 1, none⟩ (.slice Af nf cf)).setCell ⟨w.heap.size + 1 + 1, 2, none⟩ (.int .i64 k))).cell? ⟨w.heap.size + 1 + 1, 0, none⟩ = some (.int .i64 a) := (cell_of h7 0).trans rfl
  have z1 : ((((w6.setCell ⟨w.heap.size + 1 + 1, 0, none⟩ (.int .i64 a)).setCell ⟨w.heap.size + 1 + 1, 1, none⟩ (.slice Af nf cf)).setCell ⟨w.heap.size + 1 + 1, 2, none⟩ (.int .i64 k))).cell? ⟨w.heap.size + 1 + 1, 1, none⟩ = some (.slice Af nf cf) := (cell_of h7 1).trans rfl
  have z2 : ((((w6.setCell ⟨w.heap.size + 1 + 1, 0, none⟩ (.int .i64 a)).setCell ⟨w.heap.size + 1 + 1, 1, none⟩ (.slice Af nf cf)).setCell ⟨w.heap.size + 1 + 1, 2, none⟩ (.int .i64 k))).cell? ⟨w.heap.size + 1 + 1, 2, none⟩ = some (.int .i64 k) := (cell_of h7 2).trans rfl
  refine bodyPost_ret (v := .agg #[.int .i64 a, .slice Af nf cf, .int .i64 k]) (by simp [results, Try.results53, go_sem, z0, z1, z2]) rfl ⟨Af, nf, cf, by rw [HA.out, HK.out], HE2.out, ?_, below_three HB6.out (by omega) _ _ _⟩
  have hg7 := grown_three w6 (w.heap.size + 1 + 1) (.int .i64 a) (.slice Af nf cf) (.int .i64 k)
  exact (Own.grownFar HE3.out hg7 (Nat.le_refl _) (fun hx g' hA e => by have h := (HE3.out.lt_ hx hA).1; injection e with e; omega)).more (by omega) hg7.size

end Go.Proofs.Ytbaofgbkcolmmab
