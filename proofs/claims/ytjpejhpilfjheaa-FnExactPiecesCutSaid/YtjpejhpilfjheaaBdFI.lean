/-
  The first kind of a board and the first cut of a sheet, as the written program finds them.
  Conditions: a board, pieces, the sheet's values.
-/
import Derived.Test.YtjpejhpilfjheaaBdKC
import Derived.Test.YtjpejhpilfjheaaBdKO
import Derived.Test.YtjpejhpilfjheaaBdFC
namespace Go.Proofs.Ytjpejhpilfjheaa
set_option linter.unusedVariables false
open Go.RowKit

set_option maxRecDepth 100000 in
set_option maxHeartbeats 2000000 in
theorem index_any (A H a b X Bb Sb B0 : Nat) (C0 : Option Addr) (np cp0 : Nat) (ps : List (Int × Int × Int)) (lo hi : Nat) (tu : Bool) (t : Nat → Nat → Int) (w : World) (hn : ps.length = np) (hlen : np ≤ 1048576) (hs : Seg w lo hi C0 (flat3 ps)) (hB : hi ≤ w.heap.size) (hnp : np ≤ 4) (a1 : 1 ≤ a) (aA : a ≤ A) (b1 : 1 ≤ b) (bH : b ≤ H)
    (hbx : w.heap[Bb]? = some (.cells #[.int .i64 (a : Int), .int .i64 (b : Int)] 55 (0, 0))) (hsx : w.heap[Sb]? = some (.cells #[.int .i64 (A : Int), .int .i64 (H : Int), .slice C0 np cp0, .bool tu, .func (.func 75) #[] #[.pointer (some ⟨X, 0, none⟩)]] 59 (0, 0)))
    (hW : Worth w B0 X t (fun a' b' => 1 ≤ a' ∧ 1 ≤ b' ∧ a' ≤ A ∧ b' ≤ H)) (hB0 : B0 ≤ w.heap.size) (hbd : 0 ≤ t a b ∧ t a b ≤ 1000000000000001) (v0 : Int) (hv0 : t a b = v0) (kk : Int) (hkk : kindI ps tu a b v0 = kk) :
    Calls Try.prog 91 #[.slice C0 np cp0, .func (.func 92) #[] #[.pointer (some ⟨Bb, 0, none⟩), .pointer (some ⟨Sb, 0, none⟩)]] w fun e w' => e = .returned (.int .i64 kk) ∧ Below w.heap.size w w' := by
  have HN := Lib.hid hn
  have HS := Lib.hid hs
  have HKK := Lib.hid hkk
  have HK1 := Lib.hid (fun (x y z : Int) (W : World) (h : Below w.heap.size w W) (q : Bool) (hq : (isP a b (x, y, z) tu && z == v0) = q) => kind1_any A H a b X Bb Sb B0 C0 np cp0 tu t x y z W a1 aA b1 bH ((h.block _ (heap_lt hbx)).trans hbx) ((h.block _ (heap_lt hsx)).trans hsx) (hW.below h hB0) (by have := h.size; omega) hbd v0 hv0 q hq)
  clear hn hs hkk hbx hsx hW hbd hv0
  go_enter Try.func91, Try.ntmps91
  go_wp2
  go_loopw [5, 8] (fun _ i wr => ∃ k : Nat, k ≤ np ∧ i = .int .i64 k ∧ Below w.heap.size w wr ∧ ∀ j p, j < k → ps[j]? = some p → (isP a b p tu && p.2.2 == v0) = false) (fun _ i _ => np - (intOf i).toNat)
  case atStart => exact ⟨0, Nat.zero_le _, rfl, Below.refl _ _, fun j p hj => by omega⟩
  case round =>
    obtain ⟨k, hk, rfl, hb, hno⟩ := hrel
    have HB := Lib.hid hb
    have HNO := Lib.hid hno
    have hsz := hb.size
    clear hno
    by_cases hlt : k < np
    · obtain ⟨b3, o3, x, y, z, hAe, _, _, hx, p0, p1, p2⟩ := (HS.out.below hb hB).tri (k := k) (by rw [HN.out]; exact hlt)
      subst hAe
      have HX := Lib.hid hx
      clear hx hb
      obtain ⟨r, hr⟩ : ∃ r, (isP a b (x, y, z) tu && z == v0) = r := ⟨_, rfl⟩
      have HR := Lib.hid hr
      clear hr
      cases r
      · go_wp2_with fail
        refine (HK1.out x y z _ (by first | exact HB.out | exact drewB HB.out) false HR.out).mono ?_
        rintro e w' ⟨rfl, hb3⟩
        have HB3 := Lib.hid (HB.out.trans (hb3.mono hsz))
        clear hb3
        go_wp2
        go_roundw
        case rel =>
          refine ⟨k + 1, by omega, by go_num, HB3.out, fun j p hj hp => ?_⟩
          by_cases e : j = k
          · subst e; rw [HX.out] at hp; injection hp with hp; subst hp; exact HR.out
          · exact HNO.out j p (by omega) hp
        case measure => simp [intOf]; omega
      · go_wp2_with fail
        refine (HK1.out x y z _ (by first | exact HB.out | exact drewB HB.out) true HR.out).mono ?_
        rintro e w' ⟨rfl, hb3⟩
        have HB3 := Lib.hid (HB.out.trans (hb3.mono hsz))
        have HRES := Lib.hid (show (k : Int) = kk by rw [← HKK.out]; exact (kind_at HX.out HR.out HNO.out).symm)
        clear hb3
        go_wp2
        go_ret
        exact ⟨by rw [HRES.out]; rfl, HB3.out⟩
    · obtain rfl : k = np := by omega
      have HRES := Lib.hid (show (-1 : Int) = kk by rw [← HKK.out]; exact (kind_no (fun j p hp => HNO.out j p (by rw [← HN.out]; exact (List.getElem?_eq_some_iff.1 hp).1) hp)).symm)
      go_wp2
      go_ret
      exact ⟨by rw [HRES.out]; rfl, HB.out⟩

set_option maxRecDepth 100000 in
set_option maxHeartbeats 2000000 in
theorem kindOf_any (A H a b X B0 : Nat) (C0 : Option Addr) (np cp0 : Nat) (ps : List (Int × Int × Int)) (lo hi : Nat) (tu : Bool) (t : Nat → Nat → Int) (w : World) (hn : ps.length = np) (hlen : np ≤ 1048576) (hs : Seg w lo hi C0 (flat3 ps)) (hB : hi ≤ w.heap.size) (hnp : np ≤ 4) (a1 : 1 ≤ a) (aA : a ≤ A) (b1 : 1 ≤ b) (bH : b ≤ H)
    (hW : Worth w B0 X t (fun a' b' => 1 ≤ a' ∧ 1 ≤ b' ∧ a' ≤ A ∧ b' ≤ H)) (hB0 : B0 ≤ w.heap.size) (hbd : 0 ≤ t a b ∧ t a b ≤ 1000000000000001) (v0 : Int) (hv0 : t a b = v0) (kk : Int) (hkk : kindI ps tu a b v0 = kk) :
    Calls Try.prog 74 #[.agg #[.int .i64 (A : Int), .int .i64 (H : Int), .slice C0 np cp0, .bool tu, .func (.func 75) #[] #[.pointer (some ⟨X, 0, none⟩)]], .agg #[.int .i64 (a : Int), .int .i64 (b : Int)]] w fun e w' => e = .returned (.int .i64 kk) ∧ Below w.heap.size w w' := by
  obtain ⟨W1, hW1⟩ : ∃ W1, (w.alloc (.cells #[.int .i64 (A : Int), .int .i64 (H : Int), .slice C0 np cp0, .bool tu, .func (.func 75) #[] #[.pointer (some ⟨X, 0, none⟩)]] 59)).alloc (.cells #[.int .i64 (a : Int), .int .i64 (b : Int)] 55) = W1 := ⟨_, rfl⟩
  have hb1 : Below w.heap.size w W1 := by rw [← hW1]; exact ((Below.refl _ _).alloc (Nat.le_refl _) _).alloc (by simp) _
  have hs1 : W1.heap[w.heap.size]? = some (.cells #[.int .i64 (A : Int), .int .i64 (H : Int), .slice C0 np cp0, .bool tu, .func (.func 75) #[] #[.pointer (some ⟨X, 0, none⟩)]] 59 (0, 0)) := by rw [← hW1]; exact (alloc_old _ (by simp) _).trans (new_at _ _ rfl)
  have hx1 : W1.heap[w.heap.size + 1]? = some (.cells #[.int .i64 (a : Int), .int .i64 (b : Int)] 55 (0, 0)) := by rw [← hW1]; exact new_at _ _ (by simp)
  have HI := Lib.hid (index_any A H a b X (w.heap.size + 1) w.heap.size B0 C0 np cp0 ps lo hi tu t W1 hn hlen (hs.below hb1 hB) (by have := hb1.size; omega) hnp a1 aA b1 bH hx1 hs1 (hW.below hb1 hB0) (by have := hb1.size; omega) hbd v0 hv0 kk hkk)
  have HW1 := Lib.hid hW1
  have HB1 := Lib.hid hb1
  clear hn hs hW hbd hv0 hkk hW1 hb1 hs1 hx1
  go_enter Try.func74, Try.ntmps74
  go_wp2_with fail
  rw [HW1.out]
  refine HI.out.mono ?_
  rintro e w2 ⟨rfl, hb2⟩
  have HB2 := Lib.hid (HB1.out.trans (hb2.mono HB1.out.size))
  clear hb2
  go_wp2
  go_ret
  exact ⟨rfl, HB2.out⟩
end Go.Proofs.Ytjpejhpilfjheaa
