/-
  Both programs' answers on places of boxes.
  Conditions: none.
-/
import Derived.Test.YtgcljhgpihpfgaaPlS
import Derived.Test.YtgcljhgpihpfgaaPlI
namespace Go.Proofs.Ytgcljhgpihpfgaa
set_option linter.unusedVariables false
open Go.RowKit

theorem fold_take (f : Int → Int → Int) (a : Int) (xs : List Int) {k : Nat} {u : Int} (h : xs[k]? = some u) : f ((xs.take k).foldl f a) u = (xs.take (k + 1)).foldl f a := by
  rw [take_snoc h, List.foldl_append]; rfl


theorem slicesMaxA_any (A : Option Addr) (n c : Nat) (xs : List Int) (u0 : Int) (lo hi : Nat) (w : World) (hn : xs.length = n) (hlen : n ≤ 1048576) (hs : Seg w lo hi A xs) (h1 : 1 ≤ n) (hu : xs[0]? = some u0) :
    Calls Try.prog 45 #[.slice A n c] w fun e w' => e = .returned (.int .i64 (xs.foldl max u0)) ∧ w = w' := by
  have HN := Lib.hid hn
  clear hn
  obtain ⟨b, off, u1, rfl, _, _, hx0, hc0⟩ := hs.at_ (k := 0) (by rw [HN.out]; exact h1)
  obtain rfl : u0 = u1 := by rw [hu] at hx0; injection hx0
  have HX : Hid (u0 = (xs.take 1).foldl max u0) := by
    rw [take_snoc (k := 0) hx0]
    show u0 = max u0 u0
    omega
  clear hx0 hu
  have hc0' : w.cell? ⟨b, off, none⟩ = some (.int .i64 u0) := hc0
  clear hc0
  have hlt1 : (0 : Int) < (n : Int) := by omega
  go_enter Try.func45, Try.ntmps45
  go_wp2
  go_loop [3, 4] (fun m i => ∃ k : Nat, 1 ≤ k ∧ k ≤ n ∧ i = .int .i64 k ∧ m = .int .i64 ((xs.take k).foldl max u0)) (fun _ i => n - (intOf i).toNat)
  case atStart => exact ⟨1, Nat.le_refl _, h1, rfl, by rw [← HX.out]⟩
  case round =>
    obtain ⟨k, hk1, hk, rfl, rfl⟩ := hrel
    by_cases hlt : k < n
    · obtain ⟨b', off', u, hA, _, _, hx, hc⟩ := hs.at_ (k := k) (by rw [HN.out]; exact hlt)
      obtain ⟨rfl, rfl⟩ : b = b' ∧ off = off' := by injection hA with hA; injection hA with h1 h2; exact ⟨h1, h2⟩
      clear hA
      have HM := Lib.hid (fold_take max u0 xs hx)
      clear hx
      obtain ⟨q, hq⟩ : ∃ q, q = (xs.take k).foldl max u0 := ⟨_, rfl⟩
      rw [← hq] at HM
      rw [← hq]
      clear hq
      go_wp2
      go_round
      case rel => exact ⟨k + 1, by omega, by omega, by go_num, by rw [← HM.out]; congr 1; split <;> omega⟩
      case measure => simp [intOf]; omega
    · obtain rfl : k = n := by omega
      go_wp2
      go_ret
      exact ⟨by rw [← HN.out, List.take_length]; rfl, rfl⟩


theorem spec_PlacesOfBoxes (s : ByteArray) (q : Bool) (w : World) (hq : ldB s.data.toList = q) :
    Calls Try.prog 17 #[.string s] w (RetL q (someN q (plcS (u8 s.data.toList)).2) w) := by
  have HQ := Lib.hid hq
  clear hq
  cases q
  · go_enter Try.func17, Try.ntmps17
    go_wp2_with fail
    refine (ldGood_any s _ HQ.out _).mono ?_
    rintro e w1 ⟨rfl, rfl⟩
    go_wp2
    go_ret2
    exact ⟨none, 0, 0, rfl, rfl, Own.nil_, Below.refl _ _⟩
  · have hs : s.size ≤ 12 := by have := (ldB_true.1 HQ.out).1; rw [byte_len] at this; exact this
    go_enter Try.func17, Try.ntmps17
    go_wp2_with fail
    refine (ldGood_any s _ HQ.out _).mono ?_
    rintro e w1 ⟨rfl, rfl⟩
    go_wp2_with fail
    refine (ldPlaces_any s _ hs).mono ?_
    rintro e w2 ⟨A, c, B, m, d, rfl, hp⟩
    have hl : (plcS (u8 s.data.toList)).2.length = s.size := by rw [(plcS_len _).1, u8_len, byte_len]
    have hout := hp.out
    rw [← hl] at hout
    have ho := ownsRow_own hout
    have hb := hp.below
    have HL := Lib.hid hl
    clear hp hl hout
    go_wp2
    go_ret2
    exact ⟨A, s.size, c, rfl, HL.out, ho.2, hb⟩

theorem spec_FewestPlaces (s : ByteArray) (q : Bool) (w : World) (hq : ldB s.data.toList = q) (v : Int) (hv : (((plcS (u8 s.data.toList)).1.length : Nat) : Int) = v) :
    Calls Try.prog 22 #[.string s] w fun e w' => e = .returned (.tuple #[.int .i64 (if q then v else 0), .bool q]) ∧ Below w.heap.size w w' := by
  have HQ := Lib.hid hq
  have HV := Lib.hid hv
  clear hq hv
  cases q
  · go_enter Try.func22, Try.ntmps22
    go_wp2_with fail
    refine (ldGood_any s _ HQ.out _).mono ?_
    rintro e w1 ⟨rfl, rfl⟩
    go_wp2
    go_ret2
    exact ⟨rfl, Below.refl _ _⟩
  · have hs : s.size ≤ 12 := by have := (ldB_true.1 HQ.out).1; rw [byte_len] at this; exact this
    go_enter Try.func22, Try.ntmps22
    go_wp2_with fail
    refine (ldGood_any s _ HQ.out _).mono ?_
    rintro e w1 ⟨rfl, rfl⟩
    go_wp2_with fail
    refine (ldPlaces_any s _ hs).mono ?_
    rintro e w2 ⟨A, c, B, m, d, rfl, hp⟩
    have hm := hp.row.len
    have hvm := HV.out
    rw [hm] at hvm
    have hb := hp.below
    subst hvm
    clear hp hm HV
    go_wp2
    go_ret2
    exact ⟨rfl, hb⟩

theorem impl_PlacesOfBoxes (s : ByteArray) (q : Bool) (w : World) (hq : ldB s.data.toList = q) :
    Calls Try.prog 18 #[.string s] w (RetL q (someN q (plcS (u8 s.data.toList)).2) w) := by
  cases q
  · have HV := Lib.hid (vanOf_no s w hq)
    clear hq
    go_enter Try.func18, Try.ntmps18
    go_wp2_with fail
    refine HV.out.mono ?_
    rintro e w1 ⟨rfl, hb1⟩
    have hb2 := hb1.alloc hb1.size (.cells #[.slice none 0 0] 45)
    go_wp2
    go_ret2
    exact ⟨none, 0, 0, rfl, rfl, Own.nil_, hb2⟩
  · exact places_any s w hq

theorem plc_max {L : List Int} {u0 : Int} (h0 : 0 < L.length) (hu : (plcS L).2[0]? = some u0) : (plcS L).2.foldl max u0 + 1 = (((plcS L).1.length : Nat) : Int) := by
  obtain ⟨m, c, e⟩ : ∃ m c, L = m ++ [c] := ⟨L.dropLast, L.getLast (by intro e; simp [e] at h0), (List.dropLast_concat_getLast _).symm⟩
  rw [← plcS_most L m c e]
  have hz : u0 = 0 := by
    match L, h0 with
    | x :: r, _ =>
      have h : ∀ (r : List Int) (st : List Int × List Int), st.2[0]? = some 0 → (r.foldl (fun s c => (putP s.1 (fitP s.1 c) c, s.2 ++ [((fitP s.1 c : Nat) : Int)])) st).2[0]? = some 0 := by
        intro r
        induction r with
        | nil => intro st h; exact h
        | cons y r ih =>
          intro st h
          refine ih _ ?_
          show (st.2 ++ _)[0]? = some 0
          rw [List.getElem?_append_left (List.getElem?_eq_some_iff.1 h).1]; exact h
      have h2 := h r (putP [] (fitP [] x) x, [] ++ [((fitP [] x : Nat) : Int)]) (by simp [fitP])
      have h3 : (plcS (x :: r)).2[0]? = some 0 := h2
      rw [h3] at hu
      injection hu with hu
      exact hu.symm
  rw [hz]

theorem impl_FewestPlaces (s : ByteArray) (q : Bool) (w : World) (hq : ldB s.data.toList = q) (v : Int) (hv : (((plcS (u8 s.data.toList)).1.length : Nat) : Int) = v) :
    Calls Try.prog 23 #[.string s] w fun e w' => e = .returned (.tuple #[.int .i64 (if q then v else 0), .bool q]) ∧ Below w.heap.size w w' := by
  have HC := Lib.hid (impl_PlacesOfBoxes s q w hq)
  have HV := Lib.hid hv
  have HQ := Lib.hid hq
  clear hq hv
  cases q
  · go_enter Try.func23, Try.ntmps23
    go_wp2_with fail
    refine HC.out.mono ?_
    rintro e w1 ⟨A, n, c, rfl, hl, ho, hb⟩
    clear hl ho
    go_wp2
    go_ret2
    exact ⟨rfl, hb⟩
  · have hs : s.size ≤ 12 := by have := (ldB_true.1 HQ.out).1; rw [byte_len] at this; exact this
    obtain ⟨L, hL⟩ : ∃ L, u8 s.data.toList = L := ⟨_, rfl⟩
    have hLl : L.length = s.size := by rw [← hL, u8_len, byte_len]
    rw [hL] at HC HV
    go_enter Try.func23, Try.ntmps23
    go_wp2_with fail
    refine HC.out.mono ?_
    rintro e w1 ⟨A, n, c, rfl, hl, ho, hb⟩
    have hn := (plcS_len L).1
    simp only [someN, if_true] at hl ho
    have hnn : n = s.size := by omega
    by_cases h0 : n = 0
    · have d1 : ((n : Int) == 0) = true := beq_iff_eq.2 (by omega)
      have hv0 : v = 0 := by
        rw [← HV.out]
        obtain rfl : L = [] := List.length_eq_zero_iff.1 (show L.length = 0 by omega)
        rfl
      subst hv0
      clear hl ho hn h0 hnn
      go_wp2
      go_ret2
      exact ⟨rfl, hb⟩
    · have d1 : ((n : Int) == 0) = false := beq_eq_false_iff_ne.2 (by omega)
      obtain ⟨u0, hu0⟩ : ∃ u0, (plcS L).2[0]? = some u0 := ⟨_, List.getElem?_eq_getElem (by omega)⟩
      have hm := plc_max (L := L) (show 0 < L.length by omega) hu0
      have hlm := (plcS_len L).2
      rw [HV.out] at hm
      have hv12 : v ≤ 12 := by rw [← HV.out]; omega
      have hv0 : 0 ≤ v := by rw [← HV.out]; omega
      have HM := Lib.hid (slicesMaxA_any A n c (plcS L).2 u0 _ _ w1 hl (by omega) ho.seg (by omega) hu0)
      obtain ⟨mx, hmx⟩ : ∃ mx, (plcS L).2.foldl max u0 = mx := ⟨_, rfl⟩
      rw [hmx] at HM hm
      obtain rfl : mx = v - 1 := by omega
      have hwr : wrap64 (v - 1 + 1) = v := by unfold wrap64; omega
      clear hl ho hn h0 hnn hu0 hmx hm hlm
      go_wp2_with fail
      refine HM.out.mono ?_
      rintro e w2 ⟨rfl, rfl⟩
      go_wp2
      go_ret2
      exact ⟨by simp, hb⟩
end Go.Proofs.Ytgcljhgpihpfgaa
