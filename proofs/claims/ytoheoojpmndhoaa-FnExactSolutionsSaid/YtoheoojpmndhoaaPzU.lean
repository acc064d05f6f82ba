/-
  What a clue tells of things, by both programs.
  Conditions: hidden things.
-/
import Derived.Test.YtoheoojpmndhoaaPzV
import Derived.Test.YtoheoojpmndhoaaPzI
import Derived.Test.YtoheoojpmndhoaaFewA
import Derived.Test.YtoheoojpmndhoaaPkA
import Derived.BigQuiet
namespace Go.Proofs.Ytoheoojpmndhoaa
set_option linter.unusedVariables false
set_option linter.unusedSimpArgs false
open Go.RowKit

theorem mask_take {xs : List Int} {k : Nat} {x : Int} (h : xs[k]? = some x) (s : Nat) : maskS (xs.take (k + 1)) s = maskS (xs.take k) s + ((s / 2 ^ k % 2 : Nat) : Int) * x := by
  induction xs generalizing k s with
  | nil => simp at h
  | cons y xs ih =>
    cases k with
    | zero => simp at h; subst h; simp [maskS]
    | succ k =>
      have h' : xs[k]? = some x := by simpa using h
      simp only [List.take_succ_cons, maskS, ih h']
      rw [show s / 2 / 2 ^ k = s / 2 ^ (k + 1) by rw [Nat.div_div_eq_div_mul, Nat.pow_succ, Nat.mul_comm]]
      omega

theorem mask_bd {xs : List Int} (h : ∀ x ∈ xs, 1 ≤ x ∧ x ≤ 6) (s : Nat) : 0 ≤ maskS xs s ∧ maskS xs s ≤ 6 * (xs.length : Int) := by
  induction xs generalizing s with
  | nil => simp [maskS]
  | cons x xs ih =>
    have h1 := h x (List.mem_cons_self)
    have h2 := ih (fun y hy => h y (List.mem_cons_of_mem _ hy)) (s / 2)
    have h3 : s % 2 = 0 ∨ s % 2 = 1 := by omega
    simp only [maskS, List.length_cons]
    rcases h3 with e | e
    · rw [e]; simp; omega
    · rw [e]; simp; omega
theorem and_one (q : Nat) (h : q < 16) : bits .and .i64 (q : Int) 1 = ((q % 2 : Nat) : Int) := by
  have : ∀ q : Fin 16, bits .and .i64 ((q.val : Nat) : Int) 1 = ((q.val % 2 : Nat) : Int) := by decide
  exact this ⟨q, h⟩

def RetV (k a b : Int) (xs : List Int) (w : World) (e : Ending) (w' : World) : Prop := e = .returned (.int .i64 (toldK k a b xs)) ∧ Below w.heap.size w w'

set_option maxHeartbeats 2000000 in
set_option maxRecDepth 100000 in
theorem pzValue_mask (A : Option Addr) (n c : Nat) (a b : Int) (xs : List Int) (lo hi : Nat) (w : World) (hn : xs.length = n) (hh : hidB xs = true) (ha : 1 ≤ a ∧ a ≤ 24) (hs : Seg w lo hi A xs) :
    Calls Try.prog 98 #[.int .i64 3, .int .i64 a, .int .i64 b, .slice A n c] w (RetV 3 a b xs w) := by
  obtain ⟨h2, h4, hx⟩ := hidB_at hh
  rw [hn] at h2 h4
  have HN := Lib.hid hn
  have HX := Lib.hid hx
  clear hn hx
  go_enter Try.func98, Try.ntmps98
  obtain ⟨N, hN⟩ : ∃ N : Nat, 2 ^ n = N := ⟨_, rfl⟩
  have hNN : N = 4 ∨ N = 8 ∨ N = 16 := by
    rcases (show n = 2 ∨ n = 3 ∨ n = 4 by omega) with rfl | rfl | rfl
    · exact .inl hN.symm
    · exact .inr (.inl hN.symm)
    · exact .inr (.inr hN.symm)
  have hw : wrap64 ((2 : Int) ^ n) = (N : Int) := by
    have e : ((2 : Int) ^ n) = ((2 ^ n : Nat) : Int) := by simp
    rw [e, hN]
    exact IntWalk.wrap64_in _ (by omega)
  have HNN := Lib.hid hN
  clear hN
  go_wp2
  go_loop [12, 13, 14, 15] (fun s _ _ _ => ∃ k : Nat, 1 ≤ k ∧ k ≤ N ∧ s = .int .i64 (k : Int) ∧ ∀ j, 1 ≤ j → j < k → maskS xs j ≠ a) (fun s _ _ _ => N - (intOf s).toNat)
  case atStart => exact ⟨1, Nat.le_refl _, by omega, rfl, fun j h1 h2 => by omega⟩
  case round =>
    obtain ⟨k, hk1, hk2, rfl, hall⟩ := hrel
    have HA := Lib.hid hall
    clear hall
    by_cases hlt : k < N
    · have hlt' : decide ((k : Int) < (N : Int)) = true := by simpa using hlt
      go_wp2
      go_loop [13, 14, 15, 53] (fun s _ _ i => ∃ j : Nat, j ≤ n ∧ i = .int .i64 (j : Int) ∧ s = .int .i64 (maskS (xs.take j) k)) (fun _ _ _ i => n - (intOf i).toNat)
      case atStart => exact ⟨0, Nat.zero_le _, rfl, by simp [maskS]⟩
      case round =>
        obtain ⟨j, hj, rfl, rfl⟩ := hrel
        by_cases hjn : j < n
        · obtain ⟨bb, off, x, rfl, _, _, hx, hc⟩ := hs.at_ (k := j) (by rw [HN.out]; exact hjn)
          have hxb := HX.out x (List.mem_of_getElem? hx)
          have hmt := mask_take hx k
          obtain ⟨mj, hmj⟩ : ∃ mj, maskS (xs.take j) k = mj := ⟨_, rfl⟩
          rw [hmj] at hmt
          rw [hmj]
          have hq : k / 2 ^ j < 16 := Nat.lt_of_le_of_lt (Nat.div_le_self _ _) (by omega)
          have hand := and_one _ hq
          have e : ((k / 2 ^ j : Nat) : Int) = (k : Int) / 2 ^ j := by simp
          rw [e] at hand
          have hb := mask_bd (xs := xs.take j) (fun y hy => HX.out y (List.mem_of_mem_take hy)) k
          rw [hmj] at hb
          have hl := List.length_take_le j xs
          have hv : k / 2 ^ j % 2 = 0 ∨ k / 2 ^ j % 2 = 1 := by omega
          obtain ⟨v, hv1⟩ : ∃ v, k / 2 ^ j % 2 = v := ⟨_, rfl⟩
          rw [hv1] at hand hmt hv
          have HMT := Lib.hid hmt
          have HMJ := Lib.hid hmj
          clear hv1 hmt hmj e hq hx
          rcases hv with rfl | rfl
          · go_wp2
            go_round
            case rel => exact ⟨j + 1, by omega, by go_num, by rw [HMT.out]; simp⟩
            case measure => simp [intOf]; omega
          · go_wp2
            go_round
            case rel => exact ⟨j + 1, by omega, by go_num, by rw [HMT.out]; simp⟩
            case measure => simp [intOf]; omega
        · obtain rfl : j = n := by omega
          have ht : xs.take j = xs := by rw [← HN.out]; exact List.take_length
          rw [ht]
          by_cases he : maskS xs k = a
          · have HE := Lib.hid he
            obtain ⟨q, hq⟩ : ∃ q, maskS xs k = q := ⟨_, rfl⟩
            rw [hq]
            obtain rfl : q = a := by rw [← hq, he]
            clear hq he
            go_wp2
            go_ret
            refine ⟨?_, Below.refl _ _⟩
            have hsm : someS xs q = true := (someS_from (by omega)).2 ⟨k, hk1, by rw [HN.out, HNN.out]; exact hlt, HE.out⟩
            simp [toldK, hsm]
          · obtain ⟨q, hq⟩ : ∃ q, maskS xs k = q := ⟨_, rfl⟩
            rw [hq]
            have he' : (q == a) = false := by rw [← hq]; simpa using he
            have HE := Lib.hid he
            clear hq he
            go_wp2
            go_round
            case rel =>
              refine ⟨k + 1, by omega, by omega, by go_num, fun i h1 h2 => ?_⟩
              by_cases e : i = k
              · subst e; exact HE.out
              · exact HA.out i h1 (by omega)
            case measure => simp [intOf]; omega
    · have hlt' : decide ((k : Int) < (N : Int)) = false := by simpa using hlt
      go_wp2
      go_ret
      refine ⟨?_, Below.refl _ _⟩
      have hsm : someS xs a = false := by
        rw [Bool.eq_false_iff]
        intro h
        obtain ⟨s, h1, h2, h3⟩ := (someS_from (by omega)).1 h
        rw [HN.out, HNN.out] at h2
        exact HA.out s h1 (by omega) h3
      simp [toldK, hsm]

set_option maxHeartbeats 2000000 in
set_option maxRecDepth 100000 in
theorem pzValue_any (A : Option Addr) (n c : Nat) (k a b : Int) (xs : List Int) (lo hi : Nat) (w : World) (hn : xs.length = n) (hh : hidB xs = true) (hv : ValOk (n : Int) k a b) (hs : Seg w lo hi A xs) (hB : hi ≤ w.heap.size) :
    Calls Try.prog 98 #[.int .i64 k, .int .i64 a, .int .i64 b, .slice A n c] w (RetV k a b xs w) := by
  obtain ⟨h2, h4, hx⟩ := hidB_at hh
  rw [hn] at h2 h4
  obtain ⟨v1, v2, v3⟩ := hv
  by_cases k3 : k = 3
  · subst k3
    exact pzValue_mask A n c a b xs lo hi w hn hh (v3 rfl) hs
  have HN := Lib.hid hn
  have HX := Lib.hid hx
  have HG := Lib.hid (hid_good hh)
  clear hn hx
  by_cases k0 : k = 0
  · subst k0
    go_enter Try.func98, Try.ntmps98
    go_wp2_with (go_at_call 115; refine (bxSum_any _ _ _ xs lo hi _ HN.out hs HG.out).mono ?_; rintro e w' ⟨rfl, rfl⟩)
    go_ret
    exact ⟨rfl, Below.refl _ _⟩
  have e0 : (k == 0) = false := by simpa using k0
  by_cases k1 : k = 1
  · subst k1
    obtain ⟨⟨a1, a2⟩, b1, b2⟩ := v1 (.inl rfl)
    obtain ⟨i, rfl⟩ : ∃ i : Nat, a = (i : Int) := ⟨a.toNat, by omega⟩
    obtain ⟨j, rfl⟩ : ∃ j : Nat, b = (j : Int) := ⟨b.toNat, by omega⟩
    obtain ⟨bb, off, x, rfl, _, _, hx1, hc1⟩ := hs.at_ (k := i) (by rw [HN.out]; omega)
    obtain ⟨bb', off', y, hA, _, _, hx2, hc2⟩ := hs.at_ (k := j) (by rw [HN.out]; omega)
    obtain ⟨rfl, rfl⟩ : bb = bb' ∧ off = off' := by injection hA with hA; injection hA with h1 h2; exact ⟨h1, h2⟩
    have hval : toldK 1 (i : Int) (j : Int) xs = if y < x then 1 else 0 := by simp [toldK, List.getD, hx1, hx2]
    have HV := Lib.hid hval
    have i1 : i < n := by omega
    have j1 : j < n := by omega
    clear hx1 hx2 hval hA v1 v2 v3
    by_cases hlt : y < x
    · have hlt' : decide (y < x) = true := by simpa using hlt
      go_enter Try.func98, Try.ntmps98
      go_wp2_with fail
      go_quiet (fail)
      go_wp2
      go_ret
      exact ⟨by rw [HV.out, if_pos hlt]; rfl, below_drewN (Below.refl _ _) _⟩
    · have hlt' : decide (y < x) = false := by simpa using hlt
      go_enter Try.func98, Try.ntmps98
      go_wp2_with fail
      go_quiet (fail)
      go_wp2
      go_ret
      exact ⟨by rw [HV.out, if_neg (by omega)]; rfl, below_drewN (Below.refl _ _) _⟩
  have e1 : (k == 1) = false := by simpa using k1
  by_cases k2 : k = 2
  · subst k2
    obtain ⟨a1, a2⟩ := v2 rfl
    have hm := fewN_least (room := a) (xs := xs) (fun x hx => by have := HX.out x hx; omega)
    go_enter Try.func98, Try.ntmps98
    go_wp2_with (go_at_call 116; refine (bxFew_any _ _ _ xs a lo hi _ HN.out (by omega) (by omega) (fun x hx => by have := HX.out x hx; omega) (by omega) hs hB (fewN a xs) hm).mono ?_; rintro e w1 ⟨A2, n2, c2, rfl, -, hb⟩)
    go_ret
    exact ⟨by simp [toldK], hb⟩
  have e2 : (k == 2) = false := by simpa using k2
  have e3 : (k == 3) = false := by simpa using k3
  by_cases k4 : k = 4
  · subst k4
    obtain ⟨⟨a1, a2⟩, b1, b2⟩ := v1 (.inr rfl)
    obtain ⟨i, rfl⟩ : ∃ i : Nat, a = (i : Int) := ⟨a.toNat, by omega⟩
    obtain ⟨j, rfl⟩ : ∃ j : Nat, b = (j : Int) := ⟨b.toNat, by omega⟩
    obtain ⟨bb, off, x, rfl, _, _, hx1, hc1⟩ := hs.at_ (k := i) (by rw [HN.out]; omega)
    obtain ⟨bb', off', y, hA, _, _, hx2, hc2⟩ := hs.at_ (k := j) (by rw [HN.out]; omega)
    obtain ⟨rfl, rfl⟩ : bb = bb' ∧ off = off' := by injection hA with hA; injection hA with h1 h2; exact ⟨h1, h2⟩
    have hval : toldK 4 (i : Int) (j : Int) xs = x * y := by simp [toldK, List.getD, hx1, hx2]
    have HV := Lib.hid hval
    have i1 : i < n := by omega
    have j1 : j < n := by omega
    have bx := HX.out x (List.mem_of_getElem? hx1)
    have byy := HX.out y (List.mem_of_getElem? hx2)
    have bm : 0 ≤ x * y ∧ x * y ≤ 36 := ⟨Int.mul_nonneg (by omega) (by omega), by have := Int.mul_le_mul (show x ≤ 6 by omega) (show y ≤ 6 by omega) (by omega) (by omega); omega⟩
    have hwr : IntKind.i64.wrap (x * y) = x * y := IntWalk.i64_in _ (by omega)
    clear hx1 hx2 hval hA v1 v2 v3
    go_enter Try.func98, Try.ntmps98
    go_wp2_with fail
    go_quiet (fail)
    go_wp2
    go_ret
    exact ⟨by rw [HV.out]; rfl, below_drewN (Below.refl _ _) _⟩
  have e4 : (k == 4) = false := by simpa using k4
  go_enter Try.func98, Try.ntmps98
  go_wp2_with (go_at_call 117; refine (bxMost_any _ _ _ xs lo hi _ HN.out (by omega) hs).mono ?_; rintro e w' ⟨rfl, rfl⟩)
  go_ret
  exact ⟨by simp [toldK, k0, k1, k2, k3, k4], Below.refl _ _⟩
end Go.Proofs.Ytoheoojpmndhoaa
