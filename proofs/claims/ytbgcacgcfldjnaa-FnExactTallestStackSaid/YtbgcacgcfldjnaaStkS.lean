/-
  The given program's stacks: whether numbers are a stack, how high it is, the weights above, whether it is safe.
  Conditions: the lists have at most 1048576 things and numbers.
-/
import Derived.Test.YtbgcacgcfldjnaaThgGood
import Derived.Test.YtbgcacgcfldjnaaHas
import Derived.Test.YtbgcacgcfldjnaaAppend
namespace Go.Proofs.Ytbgcacgcfldjnaa
set_option linter.unusedVariables false
open Go.RowKit

theorem Seg.takeT {w : World} {lo hi : Nat} {A : Option Addr} {xs : List Int} (h : Seg w lo hi A xs) (j : Nat) : Seg w lo hi A (xs.take j) := by
  rcases h with rfl | ⟨b, off, e, h1, h2, hc⟩
  · exact .inl (by simp)
  · refine .inr ⟨b, off, e, h1, h2, fun k hk => ?_⟩
    rw [List.length_take] at hk
    rw [hc k (by omega)]
    simp only [List.getD]
    rw [List.getElem?_take_of_lt (by omega)]
theorem Seg.dropT {w : World} {lo hi g off : Nat} {xs : List Int} (h : Seg w lo hi (some ⟨g, off, none⟩) xs) (j : Nat) : Seg w lo hi (some ⟨g, off + j, none⟩) (xs.drop j) := by
  rcases h with rfl | ⟨b, off', e, h1, h2, hc⟩
  · exact .inl (by simp)
  · injection e with e; injection e with e1 e2; subst e1 e2
    refine .inr ⟨g, off + j, rfl, h1, h2, fun k hk => ?_⟩
    rw [List.length_drop] at hk
    rw [Nat.add_assoc, hc (j + k) (by omega)]
    simp only [List.getD]
    rw [List.getElem?_drop]

/-- There are things, and these numbers are a stack of them. -/
def bothT (ts : List (Int × Int × Int)) (ks : List Int) : Bool := goodT ts && stackB ts.length ks
theorem bothT_true {ts : List (Int × Int × Int)} {ks : List Int} : bothT ts ks = true ↔ goodT ts = true ∧ stackB ts.length ks = true := by simp [bothT]
theorem bothT_len {ts : List (Int × Int × Int)} {ks : List Int} (h : bothT ts ks = true) : ks.length ≤ 7 := by
  obtain ⟨h1, h2⟩ := bothT_true.1 h
  have := stackB_len h2
  have := (goodT_at h1).2.1
  omega
theorem allB_range {n : Nat} {ks : List Int} : allB ks 0 ((n : Int) - 1) = true ↔ ∀ k ∈ ks, 0 ≤ k ∧ k < (n : Int) := by
  unfold allB
  rw [List.all_eq_true]
  constructor
  · intro h k hk; have := inB_true.1 (h k hk); omega
  · intro h k hk; have := h k hk; exact inB_true.2 (by omega)

/-- A thing of a stack is there. -/
theorem stack_thing {ts : List (Int × Int × Int)} {ks : List Int} (h : stackB ts.length ks = true) {k : Nat} {u : Int} (hu : ks[k]? = some u) : ∃ j : Nat, u = (j : Int) ∧ j < ts.length := by
  have := (stackB_true.1 h).1 u (List.mem_of_getElem? hu)
  exact ⟨u.toNat, by omega, by omega⟩

def RetQ (q : Bool) (w : World) (e : Ending) (w' : World) : Prop := e = .returned (.bool q) ∧ Below w.heap.size w w'

set_option maxRecDepth 100000 in
set_option maxHeartbeats 1000000 in
theorem scStack_any (A A2 : Option Addr) (n c m c2 : Nat) (ts : List (Int × Int × Int)) (ks : List Int) (lo hi lo2 hi2 : Nat) (w : World) (hn : ts.length = n) (hlen : n ≤ 1048576) (hm : ks.length = m) (hlen2 : m ≤ 1048576) (hc2 : m ≤ c2)
    (hs : Seg w lo hi A (flat3 ts)) (hB : hi ≤ w.heap.size) (hs2 : Seg w lo2 hi2 A2 ks) (hB2 : hi2 ≤ w.heap.size) (q : Bool) (hq : bothT ts ks = q) :
    Calls Try.prog 17 #[.slice A n c, .slice A2 m c2] w (RetQ q w) := by
  have HN := Lib.hid hn
  have HM := Lib.hid hm
  have HQ := Lib.hid hq
  by_cases hg : goodT ts = true
  · have HG := Lib.hid hg
    have hnn : IntKind.i64.wrap ((n : Int) - 1) = (n : Int) - 1 := by rw [IntKind.wrap_i64]; omega
    cases ha : allB ks 0 ((n : Int) - 1)
    · obtain rfl : q = false := by
        rw [← hq, Bool.eq_false_iff]
        intro h
        have h1 := (stackB_true.1 (bothT_true.1 h).2).1
        rw [hn] at h1
        rw [allB_range.2 h1] at ha
        cases ha
      have HA := Lib.hid ha
      clear hn hm hq hg ha hnn
      go_enter Try.func17, Try.ntmps17
      go_wp2_with fail
      refine (scGood_any _ _ _ ts lo hi _ HN.out hlen hs hB _ HG.out).mono ?_
      rintro e w1 ⟨rfl, hb1⟩
      go_wp2_with fail
      refine (l1All_any A2 m c2 ks _ _ lo2 hi2 _ HM.out hlen2 (hs2.below hb1 hB2) _ HA.out).mono ?_
      rintro e w' ⟨rfl, rfl⟩
      go_wp2
      go_ret
      exact ⟨rfl, hb1⟩
    · have hr : ∀ k ∈ ks, 0 ≤ k ∧ k < (n : Int) := allB_range.1 ha
      have HR := Lib.hid (show ∀ j u, ks[j]? = some u → u ∈ ks.take j → q = false from fun j u hj hmem => by
        rw [← hq, Bool.eq_false_iff]
        intro h
        exact nodup_take.1 (stackB_true.1 (bothT_true.1 h).2).2 j u hj hmem)
      have HT := Lib.hid (show (∀ j u, ks[j]? = some u → u ∉ ks.take j) → q = true from fun h => by
        rw [← hq]
        exact bothT_true.2 ⟨hg, stackB_true.2 ⟨by rw [hn]; exact hr, nodup_take.2 h⟩⟩)
      have HA := Lib.hid ha
      clear hn hm hq hg ha hnn hr
      go_enter Try.func17, Try.ntmps17
      go_wp2_with fail
      refine (scGood_any _ _ _ ts lo hi _ HN.out hlen hs hB _ HG.out).mono ?_
      rintro e w1 ⟨rfl, hb1⟩
      have HS2 := Lib.hid (hs2.below hb1 hB2)
      go_wp2_with fail
      refine (l1All_any A2 m c2 ks _ _ lo2 hi2 _ HM.out hlen2 HS2.out _ HA.out).mono ?_
      rintro e w' ⟨rfl, rfl⟩
      go_wp2
      go_loop [20] (fun i => ∃ k : Nat, k ≤ m ∧ i = .int .i64 k ∧ ∀ j u, j < k → ks[j]? = some u → u ∉ ks.take j) (fun i => m - (intOf i).toNat)
      case atStart => exact ⟨0, Nat.zero_le _, rfl, fun j u hj => by omega⟩
      case round =>
        obtain ⟨k, hk, rfl, hno⟩ := hrel
        have HO := Lib.hid hno
        clear hno
        by_cases hlt : k < m
        · obtain ⟨b, off, u, rfl, _, _, hx, hc⟩ := HS2.out.at_ (k := k) (by rw [HM.out]; exact hlt)
          have HX := Lib.hid hx
          have HTK := Lib.hid (HS2.out.takeT k)
          have HTL := Lib.hid (show (ks.take k).length = k by rw [List.length_take, HM.out]; omega)
          have hkc : k ≤ c2 := by omega
          clear hx
          cases hd : decide (u ∈ ks.take k)
          · have HD := Lib.hid hd
            clear hd
            go_wp2_with fail
            refine (l1Has_any _ k _ (ks.take k) u lo2 hi2 _ HTL.out (by omega) HTK.out _ HD.out).mono ?_
            rintro e w' ⟨rfl, rfl⟩
            go_wp2
            go_round
            case rel => exact ⟨k + 1, by omega, by go_num, fun j v hj hv => by
              by_cases e : j = k
              · subst e; rw [HX.out] at hv; injection hv with hv; subst hv; exact of_decide_eq_false HD.out
              · exact HO.out j v (by omega) hv⟩
            case measure => simp [intOf]; omega
          · have HD := Lib.hid hd
            clear hd
            go_wp2_with fail
            refine (l1Has_any _ k _ (ks.take k) u lo2 hi2 _ HTL.out (by omega) HTK.out _ HD.out).mono ?_
            rintro e w' ⟨rfl, rfl⟩
            go_wp2
            go_ret
            exact ⟨by rw [HR.out k u HX.out (of_decide_eq_true HD.out)]; rfl, hb1⟩
        · obtain rfl : k = m := by omega
          go_wp2
          go_ret
          exact ⟨by rw [HT.out fun j u hj => HO.out j u (by rw [← HM.out]; exact (List.getElem?_eq_some_iff.1 hj).1) hj]; rfl, hb1⟩
  · obtain rfl : q = false := by rw [← hq]; simp [bothT, hg]
    have HG := Lib.hid (show goodT ts = false by simpa using hg)
    clear hn hm hq hg
    go_enter Try.func17, Try.ntmps17
    go_wp2_with fail
    refine (scGood_any _ _ _ ts lo hi _ HN.out hlen hs hB _ HG.out).mono ?_
    rintro e w1 ⟨rfl, hb1⟩
    go_wp2
    go_ret
    exact ⟨rfl, hb1⟩

set_option maxRecDepth 100000 in
set_option maxHeartbeats 1000000 in
theorem scHigh_any (A A2 : Option Addr) (n c m c2 : Nat) (ts : List (Int × Int × Int)) (ks : List Int) (lo hi lo2 hi2 : Nat) (w : World) (hn : ts.length = n) (hg : goodT ts = true) (hm : ks.length = m) (hst : stackB ts.length ks = true)
    (hs : Seg w lo hi A (flat3 ts)) (hs2 : Seg w lo2 hi2 A2 ks) :
    Calls Try.prog 18 #[.slice A n c, .slice A2 m c2] w fun e w' => e = .returned (.int .i64 (sumF (hT ts) ks)) ∧ w = w' := by
  have HN := Lib.hid hn
  have HM := Lib.hid hm
  have HG := Lib.hid hg
  have HST := Lib.hid hst
  have hm7 : m ≤ 7 := by rw [← hm]; exact bothT_len (bothT_true.2 ⟨hg, hst⟩)
  clear hn hm hg hst
  go_enter Try.func18, Try.ntmps18
  go_wp2
  go_loop [5, 10] (fun s i => ∃ k : Nat, k ≤ m ∧ i = .int .i64 k ∧ s = .int .i64 (sumF (hT ts) (ks.take k))) (fun _ i => m - (intOf i).toNat)
  case atStart => exact ⟨0, Nat.zero_le _, rfl, rfl⟩
  case round =>
    obtain ⟨k, hk, rfl, rfl⟩ := hrel
    by_cases hlt : k < m
    · obtain ⟨b, off, u, rfl, _, _, hx, hc⟩ := hs2.at_ (k := k) (by rw [HM.out]; exact hlt)
      obtain ⟨j, rfl, hj⟩ := stack_thing HST.out hx
      obtain ⟨g, og, x, y, z, rfl, _, _, hxx, hc0, hc1, hc2⟩ := hs.tri (k := j) hj
      have hzb := thg_bd HG.out (j : Int)
      have hz : hT ts (j : Int) = z := by unfold hT; rw [thg_at hxx]
      have hsn := sumF_next (hT ts) hx
      have hsb := sumF_bd (f := hT ts) (fun k => (thg_bd HG.out k).2.2) (ks.take k)
      rw [hz] at hzb hsn
      obtain ⟨s0, hs0⟩ : ∃ s0, sumF (hT ts) (ks.take k) = s0 := ⟨_, rfl⟩
      rw [hs0] at hsb hsn
      rw [hs0]
      have HSN := Lib.hid hsn
      have hs7 : s0 ≤ 7000 := by have := hsb.2; rw [List.length_take] at this; omega
      have hs00 := hsb.1
      have hz1 := hzb.2.2
      have hjn : j < n := by rw [← HN.out]; exact hj
      clear hx hxx hz hsn hsb hs0 hzb
      go_wp2
      go_round
      case rel => exact ⟨k + 1, by omega, by go_num, by rw [HSN.out]⟩
      case measure => simp [intOf]; omega
    · obtain rfl : k = m := by omega
      have HE := Lib.hid (show ks.take k = ks by rw [← HM.out, List.take_length])
      go_wp2
      go_ret
      exact ⟨by rw [HE.out]; rfl, rfl⟩
end Go.Proofs.Ytbgcacgcfldjnaa
