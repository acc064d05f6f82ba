/-
  The written program makes a list of numbers a stack.
  Conditions: the lists have at most 1048576 things and numbers.
-/
import Derived.Test.YtbgcacgcfldjnaaPile
import Derived.Test.YtbgcacgcfldjnaaL1Own
namespace Go.Proofs.Ytbgcacgcfldjnaa
set_option linter.unusedVariables false
open Go.RowKit

/-- What of the stack has been built when 'k' numbers have been put on. -/
def Built (W : World) (P R : Nat) (A : Option Addr) (n c k : Nat) (ks : List Int) (wr : World) : Prop :=
  ∃ v, wr.heap[P]? = some (.cells #[.slice A n c, v] 45 (0, 0)) ∧ wr.ownsRow (P + 1) 3 1 v k (ks.map (Value.int .i64)) ∧ wr.heap[R]? = some (.cells #[.slice none 0 0, .slice none 0 0] 45 (0, 0)) ∧ Below W.heap.size W wr

theorem pile_set2 {w : World} {R T : Nat} {a b : Value} (u v : Value) (h : w.heap[R]? = some (.cells #[a, b] T (0, 0))) : ((w.setCell ⟨R, 0, none⟩ u).setCell ⟨R, 1, none⟩ v).heap[R]? = some (.cells #[u, v] T (0, 0)) := by
  rw [set_self (set_self h 0 u) 1 v]; rfl

set_option maxRecDepth 100000 in
set_option maxHeartbeats 2000000 in
theorem pileOf_any (A A2 : Option Addr) (n c m c2 : Nat) (ts : List (Int × Int × Int)) (ks : List Int) (lo hi lo2 hi2 : Nat) (w : World) (hn : ts.length = n) (hlen : n ≤ 1048576) (hm : ks.length = m) (hlen2 : m ≤ 1048576)
    (hs : Seg w lo hi A (flat3 ts)) (hB : hi ≤ w.heap.size) (hs2 : Seg w lo2 hi2 A2 ks) (hB2 : hi2 ≤ w.heap.size) (q : Bool) (hq : bothT ts ks = q) :
    Calls Try.prog 20 #[.slice A n c, .slice A2 m c2] w (RetPile q A n c m ks w) := by
  have HN := Lib.hid hn
  have HM := Lib.hid hm
  have hb0 := (Below.refl w.heap.size w).alloc (Nat.le_refl _) (.cells #[.slice none 0 0, .slice none 0 0] 45)
  have hR0 := new_at w (.cells #[.slice none 0 0, .slice none 0 0] 45) rfl
  obtain ⟨r0, r1, z0, z1⟩ := pile_cells hR0
  have HR0 := Lib.hid hR0
  have HB0 := Lib.hid hb0
  by_cases hg : goodT ts = true
  · have HG := Lib.hid hg
    have HNO := Lib.hid (show ∀ j u, ks[j]? = some u → canT n (ks.take j) u = false → q = false from fun j u hj hc => by
      rw [← hq]
      have : stackB ts.length ks = false := stackB_not hj (by rw [hn]; exact hc)
      simp [bothT, this])
    have HYES := Lib.hid (show (∀ j u, ks[j]? = some u → canT n (ks.take j) u = true) → q = true from fun h => by
      rw [← hq]
      exact bothT_true.2 ⟨hg, stackB_of (by rw [hn]; exact h)⟩)
    clear hn hm hq hg hR0 hb0
    go_enter Try.func20, Try.ntmps20
    go_wp2_with fail
    refine (areStackable_any _ _ _ ts lo hi _ HN.out hlen (hs.below HB0.out hB) (by simp; omega) _ HG.out).mono ?_
    rintro e w1 ⟨rfl, hb1⟩
    have hR1 : w1.heap[w.heap.size]? = some (.cells #[.slice none 0 0, .slice none 0 0] 45 (0, 0)) := (hb1.block _ (by simp)).trans HR0.out
    have hz1 := hb1.size
    simp only [World.size_alloc] at hz1
    have HB1 := Lib.hid (HB0.out.trans (hb1.mono (by simp)))
    have HS2 := Lib.hid (hs2.below HB1.out hB2)
    obtain ⟨P, hP⟩ : ∃ P, w1.heap.size = P := ⟨_, rfl⟩
    have HP := Lib.hid hP
    have HBU := Lib.hid (show Built w P w.heap.size A n c 0 [] (w1.alloc (.cells #[.slice A n c, .slice none 0 0] 45)) from ⟨_, by rw [← hP]; exact new_at w1 _ rfl, World.ownsRow_nil _ _ _ _, (alloc_old w1 (by omega) _).trans hR1, HB1.out.alloc (by omega) _⟩)
    clear hb1 hR1 hP
    go_wp2
    rw [HP.out]
    go_loopw [17] (fun i wr => ∃ k : Nat, k ≤ m ∧ i = .int .i64 k ∧ Built w P w.heap.size A n c k (ks.take k) wr ∧ ∀ j u, j < k → ks[j]? = some u → canT n (ks.take j) u = true) (fun i _ => m - (intOf i).toNat)
    case atStart => exact ⟨0, Nat.zero_le _, rfl, HBU.out, fun j u hj => by omega⟩
    case round =>
      obtain ⟨k, hk, rfl, ⟨v, hp, hown, hr, hb⟩, hall⟩ := hrel
      obtain ⟨B, d, rfl⟩ := ownsRow_form hown
      have HAL := Lib.hid hall
      have HPP := Lib.hid hp
      have HOW := Lib.hid hown
      have HR := Lib.hid hr
      have hPlt := heap_lt hp
      have hsz := hb.size
      have hPw : w.heap.size < P := by have := HP.out; omega
      clear hall hp hown hr
      by_cases hlt : k < m
      · obtain ⟨b, off, u, rfl, _, _, hx, hc⟩ := (HS2.out.more (Nat.le_refl _) (Nat.le_refl _)).at_ (k := k) (by rw [HM.out]; exact hlt)
        have HX := Lib.hid hx
        have hcw : wr.cell? ⟨b, off + k, none⟩ = some (.int .i64 u) := by
          obtain ⟨b', off', u', e1, _, hb', hx', hc'⟩ := (hs2.below hb hB2).at_ (k := k) (by rw [HM.out]; exact hlt)
          injection e1 with e1
          injection e1 with e2 e3
          subst e2 e3
          rw [hx] at hx'
          injection hx' with hx'
          subst hx'
          exact hc'
        have HTL := Lib.hid (show (ks.take k).length = k by rw [List.length_take, HM.out]; omega)
        have HSG := Lib.hid (ownsRow_own (ys := ks.take k) (by rw [HTL.out]; exact HOW.out)).2.seg
        clear hx hc
        cases hd : canT n (ks.take k) u
        · have HD := Lib.hid hd
          obtain ⟨s0, s1, y0, y1⟩ := pile_cells HR.out
          obtain ⟨t0, t1, _, _⟩ := pile_cells (pile_set2 (.slice none 0 0) (.slice none 0 0) HR.out)
          clear hd
          go_wp2_with fail
          refine (canTake_any P _ A B n c k d (ks.take k) u _ _ _ HPP.out HTL.out (by omega) HSG.out _ HD.out).mono ?_
          rintro e w' ⟨rfl, rfl⟩
          go_wp2
          exact bodyPost_ret (v := .tuple #[.agg #[.slice none 0 0, .slice none 0 0], .bool false]) (by simp [results, Try.results20, go_sem, t0, t1]) rfl ⟨_, _, _, _, _, _, by rw [HNO.out k u HX.out HD.out], fun h => by (rw [HNO.out k u HX.out HD.out] at h; cases h), (hb.setCell (p := ⟨w.heap.size, 0, none⟩) (Nat.le_refl _) _).setCell (p := ⟨w.heap.size, 1, none⟩) (Nat.le_refl _) _⟩
        · have HD := Lib.hid hd
          clear hd
          go_wp2_with fail
          refine (canTake_any P _ A B n c k d (ks.take k) u _ _ _ HPP.out HTL.out (by omega) HSG.out _ HD.out).mono ?_
          rintro e w' ⟨rfl, rfl⟩
          go_wp2_with fail
          refine (put_any P _ (P + 1) _ _ k (ks.take k) u _ HPP.out HOW.out (fun e => by have := (HOW.out.lt _ e).1; omega) (by omega) (by omega)).mono ?_
          rintro e w2 ⟨rfl, v2, hp2, how2, hne2, ho2, _⟩
          have HX2 := Lib.hid (take_snoc HX.out)
          have HBU2 := Lib.hid (show Built w P w.heap.size A n c (k + 1) (ks.take k ++ [u]) w2 from ⟨v2, hp2, how2, (ho2.block _ (by omega) (fun h => by rcases h with h | h; omega; have := (HOW.out.lt _ h).1; omega)).trans HR.out, hb.trans (ho2.below hsz (fun b hb' => by rcases hb' with h | h; omega; have := (HOW.out.lt _ h).1; omega))⟩)
          clear hp2 how2 hne2 ho2
          go_wp2
          go_roundw
          case rel => exact ⟨k + 1, by omega, by go_num, by rw [HX2.out]; exact HBU2.out, fun j v hj hv => by
            by_cases e : j = k
            · subst e; rw [HX.out] at hv; injection hv with hv; subst hv; exact HD.out
            · exact HAL.out j v (by omega) hv⟩
          case measure => simp [intOf]; omega
      · obtain rfl : k = m := by omega
        have HE := Lib.hid (show ks.take k = ks by rw [← HM.out, List.take_length])
        have HQ1 := Lib.hid (HYES.out fun j u hj => HAL.out j u (by rw [← HM.out]; exact (List.getElem?_eq_some_iff.1 hj).1) hj)
        obtain ⟨p0, p1, _, _⟩ := pile_cells HPP.out
        obtain ⟨s0, s1, y0, y1⟩ := pile_cells HR.out
        obtain ⟨t0, t1, _, _⟩ := pile_cells (pile_set2 (.slice A n c) (.slice B k d) HR.out)
        go_wp2
        refine bodyPost_ret (v := .tuple #[.agg #[.slice A n c, .slice B k d], .bool true]) (by simp [results, Try.results20, go_sem, t0, t1]) rfl ⟨_, _, _, _, _, _, by rw [HQ1.out], fun _ => ⟨rfl, rfl, rfl, rfl, ?_⟩, (hb.setCell (p := ⟨w.heap.size, 0, none⟩) (Nat.le_refl _) _).setCell (p := ⟨w.heap.size, 1, none⟩) (Nat.le_refl _) _⟩
        have h1 := HOW.out
        rw [HE.out] at h1
        have hg1 := grown_set (World.grownBy.refl wr (some w.heap.size)) (p := ⟨w.heap.size, 0, none⟩) rfl (.slice A n c)
        have hg2 := grown_set hg1 (p := ⟨w.heap.size, 1, none⟩) rfl (.slice B k d)
        exact own_mono (h1.kept hg2 (.inr (fun e => by have := (h1.lt _ e).1; omega))) (by omega)
  · obtain rfl : q = false := by rw [← hq]; simp [bothT, hg]
    have HG := Lib.hid (show goodT ts = false by simpa using hg)
    clear hn hm hq hg hR0 hb0
    go_enter Try.func20, Try.ntmps20
    go_wp2_with fail
    refine (areStackable_any _ _ _ ts lo hi _ HN.out hlen (hs.below HB0.out hB) (by simp; omega) _ HG.out).mono ?_
    rintro e w1 ⟨rfl, hb1⟩
    have hR1 : w1.heap[w.heap.size]? = some (.cells #[.slice none 0 0, .slice none 0 0] 45 (0, 0)) := (hb1.block _ (by simp)).trans HR0.out
    have HB1 := Lib.hid (HB0.out.trans (hb1.mono (by simp)))
    obtain ⟨s0, s1, y0, y1⟩ := pile_cells hR1
    obtain ⟨t0, t1, _, _⟩ := pile_cells (pile_set2 (.slice none 0 0) (.slice none 0 0) hR1)
    clear hb1
    go_wp2
    exact bodyPost_ret (v := .tuple #[.agg #[.slice none 0 0, .slice none 0 0], .bool false]) (by simp [results, Try.results20, go_sem, t0, t1]) rfl ⟨_, _, _, _, _, _, rfl, fun h => by (cases h), (HB1.out.setCell (p := ⟨w.heap.size, 0, none⟩) (Nat.le_refl _) _).setCell (p := ⟨w.heap.size, 1, none⟩) (Nat.le_refl _) _⟩
end Go.Proofs.Ytbgcacgcfldjnaa
