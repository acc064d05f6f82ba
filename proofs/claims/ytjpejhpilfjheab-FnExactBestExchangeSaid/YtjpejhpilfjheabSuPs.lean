/-
  The given program's test of two items, and a number put among those that rise.
  Conditions: at most ten numbers that rise.
-/
import Derived.Test.YtjpejhpilfjheabSuPk
import Derived.Test.YtjpejhpilfjheabSuS
import Derived.Test.YtjpejhpilfjheabSegT
import Derived.Test.YtjpejhpilfjheabL1Own
namespace Go.Proofs.Ytjpejhpilfjheab
set_option linter.unusedVariables false
set_option linter.unusedSimpArgs false
open Go.RowKit

set_option maxRecDepth 100000 in
set_option maxHeartbeats 1000000 in
theorem suBefore_any (x y z x2 y2 z2 : Int) (ra : Bool) (w : World) (h1 : itB (x, y, z) = true) (h2 : itB (x2, y2, z2) = true) (q : Bool) (hq : bef2 ra x y z x2 y2 z2 = q) :
    Calls Try.prog 84 #[.agg #[.int .i64 x, .int .i64 y, .int .i64 z], .agg #[.int .i64 x2, .int .i64 y2, .int .i64 z2], .bool ra] w fun e w' => e = .returned (.bool q) ∧ Below w.heap.size w w' := by
  obtain ⟨⟨hx1, hx2⟩, ⟨hy1, hy2⟩, hz1, hz2⟩ := itB_true.1 h1
  obtain ⟨⟨hx3, hx4⟩, ⟨hy3, hy4⟩, hz3, hz4⟩ := itB_true.1 h2
  have HB := Lib.hid (((Below.refl w.heap.size w).alloc (Nat.le_refl _) (.cells #[.int .i64 x, .int .i64 y, .int .i64 z] 63)).alloc (by simp) (.cells #[.int .i64 x2, .int .i64 y2, .int .i64 z2] 63))
  simp only [] at hx1 hx2 hy1 hy2 hz1 hz2 hx3 hx4 hy3 hy4 hz3 hz4
  clear h1 h2
  cases ra
  · have hd : decide (z2 < z) = q := by rw [← hq]; rfl
    clear hq
    go_enter Try.func84, Try.ntmps84
    go_wp2
    go_ret
    exact ⟨rfl, HB.out⟩
  · obtain ⟨a, ha⟩ : ∃ a, x + y = a := ⟨_, rfl⟩
    obtain ⟨b, hb⟩ : ∃ b, x2 + y2 = b := ⟨_, rfl⟩
    have hq' : befR a z b z2 = q := by rw [← hq, bef2, if_pos rfl, ha, hb]
    have ha1 : 0 ≤ a ∧ a ≤ 400 := by omega
    have hb1 : 0 ≤ b ∧ b ≤ 400 := by omega
    have hwa : IntKind.i64.wrap a = a := by rw [IntKind.wrap_i64]; omega
    have hwb : IntKind.i64.wrap b = b := by rw [IntKind.wrap_i64]; omega
    clear hq
    by_cases ha0 : a = 0
    · have haq : (a == 0) = true := by rw [beq_iff_eq]; exact ha0
      have hd : decide (0 < b) = q := by rw [← hq', befR, if_pos (.inl ha0), decide_eq_true ha0, Bool.true_and]
      clear hq' ha0
      go_enter Try.func84, Try.ntmps84
      go_wp2
      go_quiet (fail)
      go_wp2
      go_ret
      exact ⟨rfl, below_drewN HB.out _⟩
    · have haq : (a == 0) = false := by rw [beq_eq_false_iff_ne]; exact ha0
      by_cases hb0 : b = 0
      · have hbq : (b == 0) = true := by rw [beq_iff_eq]; exact hb0
        obtain rfl : false = q := by rw [← hq', befR, if_pos (.inr hb0), decide_eq_false ha0, Bool.false_and]
        clear hq' hb0 ha0
        go_enter Try.func84, Try.ntmps84
        go_wp2
        go_quiet (fail)
        go_wp2
        go_ret
        exact ⟨rfl, below_drewN HB.out _⟩
      · have hbq : (b == 0) = false := by rw [beq_eq_false_iff_ne]; exact hb0
        have m1 : 0 ≤ z * b ∧ z * b ≤ 200 * 400 := ⟨Int.mul_nonneg hz1 hb1.1, Int.mul_le_mul hz2 hb1.2 hb1.1 (by omega)⟩
        have m2 : 0 ≤ z2 * a ∧ z2 * a ≤ 200 * 400 := ⟨Int.mul_nonneg hz3 ha1.1, Int.mul_le_mul hz4 ha1.2 ha1.1 (by omega)⟩
        obtain ⟨p1, hp1⟩ : ∃ p1, z * b = p1 := ⟨_, rfl⟩
        obtain ⟨p2, hp2⟩ : ∃ p2, z2 * a = p2 := ⟨_, rfl⟩
        rw [hp1] at m1
        rw [hp2] at m2
        have hw1 : IntKind.i64.wrap p1 = p1 := by rw [IntKind.wrap_i64]; omega
        have hw2 : IntKind.i64.wrap p2 = p2 := by rw [IntKind.wrap_i64]; omega
        have hd : decide (p2 < p1) = q := by rw [← hq', befR, if_neg (by omega), hp1, hp2]
        clear hq' hb0 ha0
        go_enter Try.func84, Try.ntmps84
        go_wp2
        go_quiet (fail)
        go_wp2
        go_ret
        exact ⟨rfl, below_drewN HB.out _⟩

theorem app3 (xs : List Int) (x : Int) (k : Nat) : xs.take k ++ [x] ++ xs.drop k = xs.take k ++ x :: xs.drop k := by simp

set_option maxRecDepth 100000 in
set_option maxHeartbeats 4000000 in
theorem l1Put_any (A : Option Addr) (n c base : Nat) (xs : List Int) (x : Int) (w : World) (hown : w.ownsRow base 3 1 (.slice A n c) n (xs.map (Value.int .i64))) (hn10 : n ≤ 1000) (hr : xs.Pairwise (· < ·)) (hx : x ∉ xs) (hbase : base ≤ w.heap.size) :
    Calls Try.prog 46 #[.slice A n c, .int .i64 x] w fun e w' => ∃ A' c', e = .returned (.slice A' (n + 1) c') ∧ w'.ownsRow w.heap.size 3 1 (.slice A' (n + 1) c') (n + 1) ((insG upLt xs x).map (Value.int .i64)) ∧ Below w.heap.size w w' := by
  obtain ⟨i0, hi0, hz0, hz1, hz2⟩ := info_parts int_info
  have hlen : xs.length = n := by have := hown.1; simpa using this
  have hseg := (ownsRow_own (ys := xs) (by rw [hlen]; exact hown)).2.seg
  have hcap := own_cap hown
  have HL := Lib.hid hlen
  have HSEG := Lib.hid hseg
  have HR := Lib.hid hr
  have HX := Lib.hid hx
  have hlit := World.ownsRow_lit (base := w.heap.size) (e := 3) (size := 1) w #[] 0 (Nat.le_refl _) (Nat.zero_le _) rfl
  have HLIT := Lib.hid hlit
  have HB0 := Lib.hid ((Below.refl w.heap.size w).alloc (Nat.le_refl _) (.cells #[] 3))
  have HOWN := Lib.hid hown
  clear hlen hr hx hlit hown hseg
  go_enter Try.func46, Try.ntmps46
  go_wp2
  go_loop [5] (fun kk => ∃ k : Nat, k ≤ n ∧ kk = .int .i64 (k : Int) ∧ ∀ j, j < k → xs.getD j 0 < x) (fun kk => n - (intOf kk).toNat)
  case atStart => exact ⟨0, Nat.zero_le _, rfl, fun j hj => by omega⟩
  case round =>
    obtain ⟨k, hk, rfl, hlow⟩ := hrel
    have HLOW := Lib.hid hlow
    clear hlow
    by_cases hlt : k < n
    · have hlt' : (k : Int) < (n : Int) := by omega
      have hdt : decide ((k : Int) < (n : Int)) = true := decide_eq_true hlt'
      obtain ⟨b, off, u, rfl, _, _, hu, hcu⟩ := HSEG.out.at_ (k := k) (by rw [HL.out]; exact hlt)
      have HU := Lib.hid hu
      clear hu
      by_cases hux : u < x
      · have hud : decide (u < x) = true := decide_eq_true hux
        go_wp2
        go_round
        case rel => exact ⟨k + 1, by omega, by go_num, fun j hj => by
          by_cases e : j = k
          · subst e; simpa [List.getD, HU.out] using hux
          · exact HLOW.out j (by omega)⟩
        case measure => simp [intOf]; omega
      · have hud : decide (u < x) = false := decide_eq_false hux
        have hne : u ≠ x := fun e => HX.out (by rw [← e]; exact List.mem_of_getElem? HU.out)
        have hue : (u == x) = false := by rw [beq_eq_false_iff_ne]; exact hne
        have HF := Lib.hid (frontL_put HR.out HX.out (k := k) ⟨by rw [HL.out]; omega, HLOW.out, fun _ => by simp [List.getD, HU.out]; omega⟩)
        obtain ⟨gr, cap2, hvv, hg0, hg1, hcs, _⟩ := ownsRow_head (ys := xs) HOWN.out (by omega : 0 < n)
        obtain ⟨⟨rfl, rfl⟩, rfl⟩ : (b = gr ∧ off = 0) ∧ c = cap2 := by injection hvv with a1 a2 a3; injection a1 with a1; injection a1 with a1 a4; exact ⟨⟨a1, a4⟩, a3⟩
        rw [Nat.zero_add] at hcu
        have hsT := HSEG.out.dropI k
        rw [Nat.zero_add] at hsT
        have HTK := Lib.hid (HSEG.out.takeI k)
        have HSTL := Lib.hid hsT
        clear hvv hcs hsT
        go_wp2_with (first | (at_builtin; refine wpList_append_seg _ rfl _ _ 22 rfl w.heap.size 3 i0 Try.underlying22 hi0 hz0 hz1 hz2 _ 0 _ rfl HLIT.out _ k _ (xs.take k) _ _ rfl (by rw [List.length_take, HL.out]; omega) (HTK.out.below HB0.out (by omega)) (by omega) (by simp) ?_; intro v2 w2 hown2 hgr2; have HB2 := Lib.hid (HB0.out.grown hgr2 (by simp) (fun g' hg' => (HLIT.out.lt g' hg').1)); have HOW2 := Lib.hid (show w2.ownsRow w.heap.size 3 1 v2 k ((xs.take k).map (Value.int .i64)) by simpa using hown2); have HLT2 := Lib.hid hown2.lt; have hz2' := HB2.out.size; clear hown2 hgr2; obtain ⟨A2, c2, rfl⟩ := ownsRow_form HOW2.out) | (at_builtin; refine wpList_append_seg _ rfl _ _ 22 rfl w.heap.size 3 i0 Try.underlying22 hi0 hz0 hz1 hz2 _ k _ rfl (HOW2.out.alloc (.cells #[.int .i64 x] 3)) _ 1 1 [x] _ _ rfl rfl (seg_one w2 x 3) (by omega) (by simp; omega) ?_; intro v3 w3 hown3 hgr3; have hb3 : Below w.heap.size w w3 := (HB2.out.alloc hz2' _).grown hgr3 (by simp; omega) (fun g' hg' => (HLT2.out g' hg').1); have HB3 := Lib.hid hb3; have HOW3 := Lib.hid (show w3.ownsRow w.heap.size 3 1 v3 (k + 1) ((xs.take k ++ [x]).map (Value.int .i64)) by simpa using hown3); have HS3 := Lib.hid ((HSTL.out).below hb3 (by omega)); have HLT3 := Lib.hid hown3.lt; clear hown3 hgr3 hb3; obtain ⟨A3, c3, rfl⟩ := ownsRow_form HOW3.out) | (at_builtin; refine wpList_append_seg _ rfl _ _ 22 rfl w.heap.size 3 i0 Try.underlying22 hi0 hz0 hz1 hz2 _ (k + 1) _ rfl HOW3.out _ (n - k) _ (xs.drop k) _ _ rfl (by rw [List.length_drop, HL.out]) HS3.out (by omega) HB3.out.size ?_; intro v5 w5 hown5 hgr5; have HB5 := Lib.hid (HB3.out.grown hgr5 HB3.out.size (fun g' hg' => (HLT3.out g' hg').1)); have HOW5 := Lib.hid (show w5.ownsRow w.heap.size 3 1 v5 (k + 1 + (n - k)) ((xs.take k ++ [x] ++ (xs.drop k)).map (Value.int .i64)) by simpa [List.map_append] using hown5); clear hown5 hgr5; obtain ⟨A5, c5, rfl⟩ := ownsRow_form HOW5.out))
        go_ret
        have hl : k + 1 + (n - k) = n + 1 := by omega
        have h := HOW5.out
        rw [app3, HF.out, hl] at h
        try rw [hl]
        exact ⟨A5, c5, rfl, h, HB5.out⟩
    · obtain rfl : k = n := by omega
      have hdt : decide ((k : Int) < (k : Int)) = false := by simp
      have HF := Lib.hid (frontL_put HR.out HX.out (k := k) ⟨by rw [HL.out]; omega, HLOW.out, fun h => by rw [HL.out] at h; omega⟩)
      have hdr : xs.drop k = [] := List.drop_of_length_le (by rw [HL.out]; omega)
      have htk : xs.take k = xs := List.take_of_length_le (by rw [HL.out]; omega)
      rw [hdr, htk] at HF
      have hnil : (A = none ∧ c = 0 ∧ k = 0) ∨ ∃ g, A = some ⟨g, 0, none⟩ := by
        obtain ⟨_, ⟨hv, hn⟩ | ⟨g, cap', cur, hv, _⟩⟩ := HOWN.out
        · injection hv with a1 a2 a3; exact .inl ⟨a1, a3, hn⟩
        · injection hv with a1 a2 a3; exact .inr ⟨g, a1⟩
      clear hdr htk
      rcases hnil with ⟨rfl, rfl, rfl⟩ | ⟨g, rfl⟩
      · go_wp2_with (first | (at_builtin; refine wpList_append_seg _ rfl _ _ 22 rfl w.heap.size 3 i0 Try.underlying22 hi0 hz0 hz1 hz2 _ 0 _ rfl HLIT.out _ 0 _ xs _ _ rfl HL.out (HSEG.out.below HB0.out (by omega)) (by omega) (by simp) ?_; intro v2 w2 hown2 hgr2; have HB2 := Lib.hid (HB0.out.grown hgr2 (by simp) (fun g' hg' => (HLIT.out.lt g' hg').1)); have HOW2 := Lib.hid (show w2.ownsRow w.heap.size 3 1 v2 0 (xs.map (Value.int .i64)) by simpa using hown2); have HLT2 := Lib.hid hown2.lt; have hz2' := HB2.out.size; clear hown2 hgr2; obtain ⟨A2, c2, rfl⟩ := ownsRow_form HOW2.out) | (at_builtin; refine wpList_append_seg _ rfl _ _ 22 rfl w.heap.size 3 i0 Try.underlying22 hi0 hz0 hz1 hz2 _ 0 _ rfl (HOW2.out.alloc (.cells #[.int .i64 x] 3)) _ 1 1 [x] _ _ rfl rfl (seg_one w2 x 3) (by omega) (by simp; omega) ?_; intro v3 w3 hown3 hgr3; have hb3 : Below w.heap.size w w3 := (HB2.out.alloc hz2' _).grown hgr3 (by simp; omega) (fun g' hg' => (HLT2.out g' hg').1); have HB3 := Lib.hid hb3; have HOW3 := Lib.hid (show w3.ownsRow w.heap.size 3 1 v3 (0 + 1) ((xs ++ [x]).map (Value.int .i64)) by simpa using hown3); have HLT3 := Lib.hid hown3.lt; clear hown3 hgr3 hb3; obtain ⟨A3, c3, rfl⟩ := ownsRow_form HOW3.out) | (at_builtin; refine wpList_append_seg _ rfl _ _ 22 rfl w.heap.size 3 i0 Try.underlying22 hi0 hz0 hz1 hz2 _ (0 + 1) _ rfl HOW3.out _ 0 _ [] 0 0 rfl rfl Seg.nil_ (by omega) HB3.out.size ?_; intro v5 w5 hown5 hgr5; have HB5 := Lib.hid (HB3.out.grown hgr5 HB3.out.size (fun g' hg' => (HLT3.out g' hg').1)); have HOW5 := Lib.hid (show w5.ownsRow w.heap.size 3 1 v5 (0 + 1) ((xs ++ [x]).map (Value.int .i64)) by simpa using hown5); clear hown5 hgr5; obtain ⟨A5, c5, rfl⟩ := ownsRow_form HOW5.out))
        go_ret
        have h := HOW5.out
        rw [HF.out] at h
        exact ⟨A5, c5, rfl, h, HB5.out⟩
      · obtain ⟨ad, hsA, hsT⟩ := tail_seg HSEG.out HL.out hk hcap
        clear hsT
        go_wp2_with (first | (at_builtin; refine wpList_append_seg _ rfl _ _ 22 rfl w.heap.size 3 i0 Try.underlying22 hi0 hz0 hz1 hz2 _ 0 _ rfl HLIT.out _ k _ xs _ _ rfl HL.out (HSEG.out.below HB0.out (by omega)) (by omega) (by simp) ?_; intro v2 w2 hown2 hgr2; have HB2 := Lib.hid (HB0.out.grown hgr2 (by simp) (fun g' hg' => (HLIT.out.lt g' hg').1)); have HOW2 := Lib.hid (show w2.ownsRow w.heap.size 3 1 v2 k (xs.map (Value.int .i64)) by simpa using hown2); have HLT2 := Lib.hid hown2.lt; have hz2' := HB2.out.size; clear hown2 hgr2; obtain ⟨A2, c2, rfl⟩ := ownsRow_form HOW2.out) | (at_builtin; refine wpList_append_seg _ rfl _ _ 22 rfl w.heap.size 3 i0 Try.underlying22 hi0 hz0 hz1 hz2 _ k _ rfl (HOW2.out.alloc (.cells #[.int .i64 x] 3)) _ 1 1 [x] _ _ rfl rfl (seg_one w2 x 3) (by omega) (by simp; omega) ?_; intro v3 w3 hown3 hgr3; have hb3 : Below w.heap.size w w3 := (HB2.out.alloc hz2' _).grown hgr3 (by simp; omega) (fun g' hg' => (HLT2.out g' hg').1); have HB3 := Lib.hid hb3; have HOW3 := Lib.hid (show w3.ownsRow w.heap.size 3 1 v3 (k + 1) ((xs ++ [x]).map (Value.int .i64)) by simpa using hown3); have HLT3 := Lib.hid hown3.lt; clear hown3 hgr3 hb3; obtain ⟨A3, c3, rfl⟩ := ownsRow_form HOW3.out) | (at_builtin; refine wpList_append_seg _ rfl _ _ 22 rfl w.heap.size 3 i0 Try.underlying22 hi0 hz0 hz1 hz2 _ (k + 1) _ rfl HOW3.out _ 0 _ [] 0 0 rfl rfl Seg.nil_ (by omega) HB3.out.size ?_; intro v5 w5 hown5 hgr5; have HB5 := Lib.hid (HB3.out.grown hgr5 HB3.out.size (fun g' hg' => (HLT3.out g' hg').1)); have HOW5 := Lib.hid (show w5.ownsRow w.heap.size 3 1 v5 (k + 1) ((xs ++ [x]).map (Value.int .i64)) by simpa using hown5); clear hown5 hgr5; obtain ⟨A5, c5, rfl⟩ := ownsRow_form HOW5.out))
        go_ret
        have h := HOW5.out
        rw [HF.out] at h
        exact ⟨A5, c5, rfl, h, HB5.out⟩
end Go.Proofs.Ytjpejhpilfjheab
