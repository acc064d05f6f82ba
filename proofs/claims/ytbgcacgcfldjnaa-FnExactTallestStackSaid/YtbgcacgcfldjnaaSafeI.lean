/-
  The written program's counts of safe stacks, and first safe stacks.
  Conditions: the list has at most 1048576 things.
-/
import Derived.Test.YtbgcacgcfldjnaaSafeM
namespace Go.Proofs.Ytbgcacgcfldjnaa
set_option linter.unusedVariables false
open Go.RowKit

set_option maxRecDepth 100000 in
set_option maxHeartbeats 2000000 in
theorem greatestH_any (A : Option Addr) (n c : Nat) (ts : List (Int × Int × Int)) (lo hi : Nat) (w : World) (hn : ts.length = n) (hg : goodT ts = true) (hs : Seg w lo hi A (flat3 ts)) (hB : hi ≤ w.heap.size) :
    Calls Try.prog 26 #[.slice A n c, .func (.func 21) #[] #[]] w (RetLN (bestF (fun xs => sumF (hT ts) xs) (fullT ts)).2 (bestF (fun xs => sumF (hT ts) xs) (fullT ts)).1 w) := by
  obtain ⟨bv, hbv⟩ : ∃ bv, (bestF (fun xs => sumF (hT ts) xs) (fullT ts)).2 = bv := ⟨_, rfl⟩
  rw [hbv]
  have HBV := Lib.hid hbv
  clear hbv
  have hb1 := (Below.refl w.heap.size w).alloc (Nat.le_refl _) (.cells #[.func (.func 21) #[] #[]] 55)
  have hb2 := (hb1.alloc (by simp) (.cells #[.slice none 0 0] 23)).alloc (by simp; omega) (.cells #[.int .i64 0] 3)
  have e0 : (((w.alloc (.cells #[.func (.func 21) #[] #[]] 55)).alloc (.cells #[.slice none 0 0] 23)).alloc (.cells #[.int .i64 0] 3)).heap[w.heap.size]? = some (.cells #[.func (.func 21) #[] #[]] 55 (0, 0)) := (alloc_old _ (by simp; omega) _).trans ((alloc_old _ (by simp) _).trans (new_at w _ rfl))
  have e2 : (((w.alloc (.cells #[.func (.func 21) #[] #[]] 55)).alloc (.cells #[.slice none 0 0] 23)).alloc (.cells #[.int .i64 0] 3)).heap[w.heap.size + 1]? = some (.cells #[.slice none 0 0] 23 (0, 0)) := (alloc_old _ (by simp) _).trans (new_at _ _ (by simp))
  have e1 : (((w.alloc (.cells #[.func (.func 21) #[] #[]] 55)).alloc (.cells #[.slice none 0 0] 23)).alloc (.cells #[.int .i64 0] 3)).heap[w.heap.size + 2]? = some (.cells #[.int .i64 0] 3 (0, 0)) := new_at _ _ (by simp)
  obtain ⟨W, hW⟩ : ∃ W, ((w.alloc (.cells #[.func (.func 21) #[] #[]] 55)).alloc (.cells #[.slice none 0 0] 23)).alloc (.cells #[.int .i64 0] 3) = W := ⟨_, rfl⟩
  have hsz : W.heap.size = w.heap.size + 3 := by rw [← hW]; simp
  rw [hW] at hb2 e0 e1 e2
  have HB := Lib.hid hb2
  have HSZ := Lib.hid hsz
  have HN := Lib.hid hn
  have HG := Lib.hid hg
  have HS := Lib.hid (hs.below hb2 hB)
  have HE0 := Lib.hid e0
  have HE1 := Lib.hid e1
  have HE2 := Lib.hid e2
  have HW := Lib.hid hW
  clear hb1 hb2 e0 e1 e2 hn hg hs hsz hW
  go_enter Try.func26, Try.ntmps26
  go_wp2_with fail
  rw [HW.out]
  refine (eachG_any w.heap.size (w.heap.size + 2) (w.heap.size + 1) A n c ts lo hi w.heap.size (RG W.heap.size w.heap.size (w.heap.size + 2) (w.heap.size + 1) (.func (.func 21) #[] #[]) (fun xs => sumF (hT ts) xs)) W HN.out HG.out hB HB.out.size (RG.keeps (by have := HSZ.out; omega) (by have := HSZ.out; omega) (by have := HSZ.out; omega)) (visitH _ _ _ A n c ts lo hi _ _ HN.out HG.out hB (by have := HSZ.out; omega) (by have := HSZ.out; omega) (by have := HSZ.out; omega) (by omega) (by omega) (by omega) (by omega) (by omega)) HS.out ⟨Nat.le_refl _, fun g hg => by (cases hg), HE0.out, HE1.out, ⟨none, 0, 0, HE2.out, rfl, Own.nil_, fun h => absurd rfl h⟩⟩).mono ?_
  rintro e w1 ⟨rfl, ⟨ob, hr⟩, hb1⟩
  have HV := Lib.hid (show visF ts n 7000 [] = fullT ts by rw [fullT, HN.out])
  rw [HV.out] at hr
  obtain ⟨Af, nf, cf, e1, e2, e3, _⟩ := hr.fst
  have hcc : w1.cell? ⟨w.heap.size + 1 + 1, 0, none⟩ = some (.int .i64 bv) := (cell_of hr.bst 0).trans (by rw [HBV.out]; rfl)
  have hcf : w1.cell? ⟨w.heap.size + 1, 0, none⟩ = some (.slice Af nf cf) := (cell_of e1 0).trans rfl
  have HB1 := Lib.hid (HB.out.trans hb1)
  have HE2' := Lib.hid e2
  have HE3 := Lib.hid e3
  clear hr hb1 e1 e2 e3
  go_wp2
  go_quiet (fail)
  go_wp2
  go_ret2
  exact ⟨Af, nf, cf, rfl, HE2'.out, HE3.out.more (by have := HSZ.out; omega) (Nat.le_refl _), below_drewN HB1.out _⟩

theorem ask_cases {ts : List (Int × Int × Int)} {many : Int} {q : Bool} {n : Nat} (hn : ts.length = n) (h : askC ts many = q) :
    (q = false ∧ goodT ts = false) ∨ (q = false ∧ goodT ts = true ∧ decide (many < 0) = true) ∨ (q = false ∧ goodT ts = true ∧ decide (many < 0) = false ∧ decide ((n : Int) < many) = true) ∨ (q = true ∧ goodT ts = true ∧ decide (many < 0) = false ∧ decide ((n : Int) < many) = false) := by
  rw [← h, ← hn]; unfold askC inB
  cases goodT ts
  · exact .inl ⟨rfl, rfl⟩
  · refine .inr ?_
    by_cases h1 : many < 0
    · exact .inl ⟨by simp; omega, rfl, decide_eq_true h1⟩
    · refine .inr ?_
      by_cases h2 : (ts.length : Int) < many
      · exact .inl ⟨by simp; omega, rfl, decide_eq_false h1, decide_eq_true h2⟩
      · exact .inr ⟨by simp; omega, rfl, decide_eq_false h1, decide_eq_false h2⟩

set_option maxRecDepth 100000 in
set_option maxHeartbeats 2000000 in
theorem impl_TallestStack (A : Option Addr) (n c : Nat) (ts : List (Int × Int × Int)) (lo hi : Nat) (w : World) (hn : ts.length = n) (hlen : n ≤ 1048576) (hs : Seg w lo hi A (flat3 ts)) (hB : hi ≤ w.heap.size) (q : Bool) (hq : goodT ts = q) :
    Calls Try.prog 13 #[.slice A n c] w (RetLIB q (if q = true then (bestF (fun xs => sumF (hT ts) xs) (fullT ts)).2 else 0) (someN q (bestF (fun xs => sumF (hT ts) xs) (fullT ts)).1) w) := by
  have HN := Lib.hid hn
  have HG := Lib.hid hq
  cases q
  · clear hn hq
    go_enter Try.func13, Try.ntmps13
    go_wp2_with fail
    refine (areStackable_any _ _ _ ts lo hi _ HN.out hlen hs hB _ HG.out).mono ?_
    rintro e w1 ⟨rfl, hb1⟩
    go_wp2
    exact bodyPost_ret (v := .tuple #[.slice none 0 0, .int .i64 0, .bool false]) (by simp [results, Try.results13, go_sem]) rfl ⟨none, 0, 0, rfl, rfl, Own.nil_, hb1⟩
  · clear hn hq
    go_enter Try.func13, Try.ntmps13
    go_wp2_with fail
    refine (areStackable_any _ _ _ ts lo hi _ HN.out hlen hs hB _ HG.out).mono ?_
    rintro e w1 ⟨rfl, hb1⟩
    have hz1 := hb1.size
    have HB1 := Lib.hid hb1
    clear hb1
    go_wp2_with fail
    refine (greatestH_any A n c ts lo hi _ HN.out HG.out (hs.below HB1.out hB) (by omega)).mono ?_
    rintro e w2 ⟨A2, n2, c2, rfl, hl2, ho2, hb2⟩
    have HL2 := Lib.hid hl2
    clear hl2
    go_wp2
    exact bodyPost_ret (v := .tuple #[.slice A2 n2 c2, .int .i64 (bestF (fun xs => sumF (hT ts) xs) (fullT ts)).2, .bool true]) (by simp [results, Try.results13, go_sem]) rfl ⟨A2, n2, c2, rfl, HL2.out, ho2.more hz1 (Nat.le_refl _), HB1.out.trans (hb2.mono hz1)⟩

theorem order_cases {ts : List (Int × Int × Int)} {q : Bool} (h : safeQ ts = q) :
    (q = false ∧ goodT ts = false) ∨ (q = false ∧ goodT ts = true ∧ cntT (ts.length : Nat) (fullT ts) = 0 ∧ decide ((bestF (fun xs => (xs.length : Int)) (fullT ts)).2 < (ts.length : Int)) = true) ∨
      (q = true ∧ goodT ts = true ∧ decide ((bestF (fun xs => (xs.length : Int)) (fullT ts)).2 < (ts.length : Int)) = false ∧ ∃ r, ordT (ts.length : Nat) (fullT ts) = firstS ts :: r) := by
  rw [← h]; unfold safeQ
  cases hg : goodT ts
  · exact .inl ⟨rfl, rfl⟩
  · refine .inr ?_
    rcases best_order hg with ⟨h1, h2⟩ | ⟨x, r, h1, h2⟩
    · exact .inl ⟨by rw [h1]; rfl, rfl, h1, decide_eq_true h2⟩
    · have hc : 0 < cntT (ts.length : Nat) (fullT ts) := by rw [← ordT_len, h1]; simp
      exact .inr ⟨by rw [decide_eq_true hc]; rfl, rfl, decide_eq_false (by rw [h2]; show ¬ (ts.length : Int) < (ts.length : Int); omega), r, by rw [h1, firstS, h2]⟩

end Go.Proofs.Ytbgcacgcfldjnaa
