/-
  Both programs' shelf of a book.
  Conditions: the lists have at most 1048576 elements.
-/
import Derived.Test.YtmdeijjlcebmaaaIsShelf
import Derived.Test.YtmdeijjlcebmaaaShelfClone
import Derived.WalkMore
import Derived.Deep.LoopGhost
namespace Go.Proofs.Ytmdeijjlcebmaaa
set_option linter.unusedVariables false
open Go.RowKit

/-- The first shelf that goes beyond a book. -/
def shelfIx (n : Nat) (qs : List Nat) (k : Int) : Nat := ((List.range qs.length).find? fun s => decide (k < (endOf n qs s : Nat))).getD 0

theorem shelfIx_eq {n : Nat} {qs : List Nat} {k : Int} {s : Nat} (hs : s < qs.length) (h1 : k < (endOf n qs s : Nat)) (h2 : ∀ j, j < s → ((endOf n qs j : Nat) : Int) ≤ k) : shelfIx n qs k = s := by
  have : (List.range qs.length).find? (fun s => decide (k < (endOf n qs s : Nat))) = some s := by
    rw [List.find?_range_eq_some]
    refine ⟨by simpa using h1, by simpa using hs, fun j hj => ?_⟩
    have := h2 j hj
    simp
    omega
  unfold shelfIx
  rw [this]
  rfl

/-- Where a shelf begins, or all end. -/
def begOf (n : Nat) (qs : List Nat) (s : Nat) : Nat := if s < qs.length then qs.getD s 0 else n
theorem begOf_next (n : Nat) (qs : List Nat) (s : Nat) : endOf n qs s = begOf n qs (s + 1) := rfl
theorem begOf_at {n : Nat} {qs : List Nat} {s : Nat} (h : s < qs.length) : begOf n qs s = qs.getD s 0 := by unfold begOf; rw [if_pos h]

section
variable (A D : Option Addr) (n c m d : Nat) (bs : List (Int × Int)) (width : Int) (fs : List Int) (kk : Int) (lo hi lo' hi' : Nat) (w : World) (hn : bs.length = n) (hlen : n ≤ 1048576) (hc : n ≤ c) (hm : fs.length = m) (hm2 : m ≤ 1048576)
    (hs : Seg w lo hi A (flat bs)) (hB : hi ≤ w.heap.size) (ho : Seg w lo' hi' D fs) (hB' : hi' ≤ w.heap.size) (p : Bool) (hp : bothB bs width fs = p) (r : Bool) (hr : decide (0 ≤ kk ∧ kk < (n : Int)) = r)
include hn hlen hc hm hm2 hs hB ho hB' hp hr

set_option maxHeartbeats 2000000 in
theorem spec_ShelfOfBook :
    Calls Try.prog 30 #[.slice A n c, .int .i64 width, .slice D m d, .int .i64 kk] w (RetI (numL (p && r) (shelfIx n (natsOf fs) kk : Nat)) (p && r) w) := by
  have HN := Lib.hid hn
  have HM := Lib.hid hm
  have HP := Lib.hid hp
  cases p
  · clear hn hm hp
    go_enter Try.func30, Try.ntmps30
    go_wp2_with fail
    refine (shBoth_any _ _ _ _ _ _ bs width fs lo hi lo' hi' _ HN.out hlen hc HM.out hm2 hs hB ho hB' _ HP.out).mono ?_
    rintro e w1 ⟨rfl, hb1⟩
    go_wp2
    go_ret2
    exact ⟨rfl, hb1⟩
  · cases r
    · have hin : inB kk 0 ((n : Int) - 1) = false := by
        rw [inB_false]
        rw [decide_eq_false_iff_not] at hr
        omega
      clear hn hm hp hr
      go_enter Try.func30, Try.ntmps30
      go_wp2_with fail
      refine (shBoth_any _ _ _ _ _ _ bs width fs lo hi lo' hi' _ HN.out hlen hc HM.out hm2 hs hB ho hB' _ HP.out).mono ?_
      rintro e w1 ⟨rfl, hb1⟩
      go_wp2_with fail
      refine (l1In_any _ _ _ false hin _).mono ?_
      rintro e w2 ⟨rfl, rfl⟩
      go_wp2
      go_ret2
      exact ⟨rfl, hb1⟩
    · have hkk := of_decide_eq_true hr
      have hin : inB kk 0 ((n : Int) - 1) = true := by
        rw [inB_true]
        omega
      obtain ⟨ha, hri, hfu⟩ := bothB_at hp
      rw [hn] at hri
      have HRR := Lib.hid hri
      have HRI := Lib.hid (rise_of hri)
      have h12 : n ≤ 12 := by have := (askedK_at ha).2.1; omega
      have HQL : Hid ((natsOf fs).length = m) := by rw [natsOf_length]; exact hm
      have hm1 : 1 ≤ m := by have := HRI.out.one; rw [HQL.out] at this; exact this
      have hmn : m ≤ n := by have := HRI.out.len; rw [HQL.out] at this; exact this
      clear hn hm hp hr ha hri hfu
      go_enter Try.func30, Try.ntmps30
      go_wp2_with fail
      refine (shBoth_any _ _ _ _ _ _ bs width fs lo hi lo' hi' _ HN.out hlen hc HM.out hm2 hs hB ho hB' _ HP.out).mono ?_
      rintro e w1 ⟨rfl, hb1⟩
      have ho1 := ho.below hb1 hB'
      go_wp2_with fail
      refine (l1In_any _ _ _ true hin _).mono ?_
      rintro e w2 ⟨rfl, rfl⟩
      go_wp2
      go_loop [10] (fun i => ∃ s : Nat, s < m ∧ i = .int .i64 s ∧ ∀ j, j < s → ((endOf n (natsOf fs) j : Nat) : Int) ≤ kk) (fun i => m - (intOf i).toNat)
      case atStart => exact ⟨0, by omega, rfl, fun j hj => by omega⟩
      case round =>
        obtain ⟨s, hsm, rfl, hj⟩ := hrel
        have HJ := Lib.hid hj
        clear hj
        by_cases hl : s + 1 < m
        · obtain ⟨bd, od, u, rfl, _, _, hux, huc⟩ := ho1.at_ (k := s + 1) (by rw [HM.out]; exact hl)
          rw [rise_cell HRR.out (by rw [HM.out]; exact hl)] at hux
          have hee : ((endOf n (natsOf fs) s : Nat) : Int) = u := by
            injection hux with hux
            rw [← hux]
            unfold endOf
            rw [if_pos (by rw [HQL.out]; exact hl)]
          have HE := Lib.hid hee
          clear hux hee
          by_cases huk : u ≤ kk
          · go_wp2
            go_round
            case rel => exact ⟨s + 1, hl, by go_num, fun j hj => by
              by_cases e : j = s
              · subst e; rw [HE.out]; exact huk
              · exact HJ.out j (by omega)⟩
            case measure => simp [intOf]; omega
          · have HIX := Lib.hid (shelfIx_eq (n := n) (qs := natsOf fs) (k := kk) (s := s) (by rw [HQL.out]; exact hsm) (by rw [HE.out]; omega) HJ.out)
            go_wp2
            go_ret2
            exact ⟨by rw [HIX.out]; rfl, hb1⟩
        · have HIX := Lib.hid (shelfIx_eq (n := n) (qs := natsOf fs) (k := kk) (s := s) (by rw [HQL.out]; exact hsm) (by unfold endOf; rw [if_neg (by rw [HQL.out]; exact hl)]; exact hkk.2) HJ.out)
          go_wp2
          go_ret2
          exact ⟨by rw [HIX.out]; rfl, hb1⟩

set_option maxHeartbeats 4000000 in
theorem impl_ShelfOfBook :
    Calls Try.prog 31 #[.slice A n c, .int .i64 width, .slice D m d, .int .i64 kk] w (RetI (numL (p && r) (shelfIx n (natsOf fs) kk : Nat)) (p && r) w) := by
  have HN := Lib.hid hn
  have HM := Lib.hid hm
  have HP := Lib.hid hp
  cases p
  · clear hn hm hp
    go_enter Try.func31, Try.ntmps31
    go_wp2
    go_step3
    go_wp2_with fail
    refine (shelvingOf_any _ _ _ _ _ _ bs width fs lo hi lo' hi' _ HN.out hlen hc HM.out hm2 hs hB ho hB' _ HP.out).mono ?_
    rintro e w1 ⟨v0, v1, v2, v3, v4, v5, v6, v7, v8, v9, v10, v11, v12, rfl, hsl, hb1⟩
    clear hsl
    go_wp2
    rw [Exit.noGoto_ret]
    go_ret2
    exact ⟨rfl, hb1.alloc hb1.size _⟩
  · cases r
    · have hkk := of_decide_eq_false hr
      clear hn hm hp hr
      by_cases hneg : kk < 0
      · clear hkk
        go_enter Try.func31, Try.ntmps31
        go_wp2
        go_step3
        go_wp2_with fail
        refine (shelvingOf_any _ _ _ _ _ _ bs width fs lo hi lo' hi' _ HN.out hlen hc HM.out hm2 hs hB ho hB' _ HP.out).mono ?_
        rintro e w1 ⟨v0, v1, v2, v3, v4, v5, v6, v7, v8, v9, v10, v11, v12, rfl, hsl, hb1⟩
        clear hsl
        go_wp2
        rw [Exit.noGoto_ret]
        go_ret2
        exact ⟨rfl, hb1.alloc hb1.size _⟩
      · have hbig : (n : Int) ≤ kk := by omega
        clear hkk
        go_enter Try.func31, Try.ntmps31
        go_wp2
        go_step3
        go_wp2_with fail
        refine (shelvingOf_any _ _ _ _ _ _ bs width fs lo hi lo' hi' _ HN.out hlen hc HM.out hm2 hs hB ho hB' _ HP.out).mono ?_
        rintro e w1 ⟨v0, v1, v2, v3, v4, v5, v6, v7, v8, v9, v10, v11, v12, rfl, hsl, hb1⟩
        clear hsl
        go_wp2
        rw [Exit.noGoto_ret]
        go_ret2
        exact ⟨rfl, hb1.alloc hb1.size _⟩
    · obtain ⟨hk0, hkn⟩ := of_decide_eq_true hr
      obtain ⟨b, off, _, _, rfl, _⟩ := hs.book (k := 0) (by have := (askedK_at (bothB_at hp).1).1; omega)
      clear hn hm hp hr
      go_enter Try.func31, Try.ntmps31
      go_wp2
      go_step3
      go_wp2_with fail
      refine (shelvingOf_any _ _ _ _ _ _ bs width fs lo hi lo' hi' _ HN.out hlen hc HM.out hm2 hs hB ho hB' _ HP.out).mono ?_
      rintro e w1 ⟨v0, v1, v2, v3, v4, v5, v6, v7, v8, v9, v10, v11, v12, rfl, hsl, hb1⟩
      have HF := Lib.hid (both_facts HN.out HP.out (hsl rfl))
      have hql : (natsOf fs).length = m := by rw [natsOf_length]; exact HM.out
      obtain rfl : v0 = (m : Int) := by
        have := HF.out.1.zero
        rw [hql] at this
        simpa using this
      have h12 := HF.out.2.2.2.2.1
      have hmn : m ≤ n := by have h1 := HF.out.2.1.len; rw [hql] at h1; exact h1
      have hm1 : 1 ≤ m := by have h1 := HF.out.2.1.one; rw [hql] at h1; exact h1
      have HQL := Lib.hid hql
      have hb1' := hb1.alloc hb1.size (.cells #[.int .i64 (m : Int), .int .i64 v1, .int .i64 v2, .int .i64 v3, .int .i64 v4, .int .i64 v5, .int .i64 v6, .int .i64 v7, .int .i64 v8, .int .i64 v9, .int .i64 v10, .int .i64 v11, .int .i64 v12] 51)
      have HBX := Lib.hid (heap_alloc_new w1 (.cells #[.int .i64 (m : Int), .int .i64 v1, .int .i64 v2, .int .i64 v3, .int .i64 v4, .int .i64 v5, .int .i64 v6, .int .i64 v7, .int .i64 v8, .int .i64 v9, .int .i64 v10, .int .i64 v11, .int .i64 v12] 51))
      clear hsl hql
      go_wp2
      go_step3
      go_wp2
      go_loopg [12, 13] m (fun g s12 s13 wx => ∃ s : Nat, s + g = m ∧ s12 = .int .i64 s ∧ s13 = .int .i64 (begOf n (natsOf fs) s : Nat) ∧ Hid (((begOf n (natsOf fs) s : Nat) : Int) ≤ kk ∧ ∀ j, j < s → ((endOf n (natsOf fs) j : Nat) : Int) ≤ kk) ∧ Below w.heap.size w wx ∧
        wx.heap[w1.heap.size]? = some (.cells #[.int .i64 (m : Int), .int .i64 v1, .int .i64 v2, .int .i64 v3, .int .i64 v4, .int .i64 v5, .int .i64 v6, .int .i64 v7, .int .i64 v8, .int .i64 v9, .int .i64 v10, .int .i64 v11, .int .i64 v12] 51 (0, 0)))
      case atStart =>
        refine ⟨0, by omega, rfl, ?_, ⟨?_, fun j hj => by omega⟩, hb1', HBX.out⟩
        · rw [begOf_at (by rw [HQL.out]; omega), HF.out.2.1.zero]; rfl
        · rw [begOf_at (by rw [HQL.out]; omega), HF.out.2.1.zero]; exact hk0
      case round =>
        obtain ⟨s, hsg, rfl, rfl, HJ, hb, hbx⟩ := hrel
        cases gk with
        | zero =>
          exfalso
          have h1 := HJ.out.1
          unfold begOf at h1
          rw [if_neg (by rw [HQL.out]; omega)] at h1
          omega
        | succ g =>
          have hkq : s < (natsOf fs).length := by rw [HQL.out]; omega
          have hrq := HF.out.2.1
          have he := hrq.ends hkq
          have HO := Lib.hid (booksOn_any b off n c (natsOf fs) _ s wr hc HF.out.1 hrq h12 hkq)
          have hbeg : begOf n (natsOf fs) s = (natsOf fs).getD s 0 := begOf_at hkq
          have hnx := begOf_next n (natsOf fs) s
          have hJ1 := HJ.out.1
          have HJ2 := Lib.hid HJ.out.2
          rw [hbeg] at hJ1 ⊢
          obtain ⟨p, hpp⟩ : ∃ p, (natsOf fs).getD s 0 = p := ⟨_, rfl⟩
          obtain ⟨r, hrr⟩ : ∃ r, endOf n (natsOf fs) s = r := ⟨_, rfl⟩
          rw [hpp, hrr] at he HO
          rw [hpp] at hJ1 ⊢
          have HRR := Lib.hid hrr
          rw [hrr] at hnx
          have HNX := Lib.hid hnx
          obtain ⟨q0, q1, q2, q3, q4, q5, q6, q7, q8, q9, q10, q11, q12⟩ := cells_each hbx
          have HB := Lib.hid hbx
          have hslt : (s : Int) < (m : Int) := by omega
          clear hkq hrq hbeg hpp hrr hnx hbx HJ
          go_wp2_with fail
          refine HO.out.mono ?_
          rintro e w2 ⟨rfl, hb2⟩
          have hbb := hb.trans (hb2.mono hb.size)
          have HX2 := Lib.hid ((hb2.block _ (heap_lt HB.out)).trans HB.out)
          clear q0 q1 q2 q3 q4 q5 q6 q7 q8 q9 q10 q11 q12 HB HO
          go_wp2
          go_loopg [13, 44] (r - p) (fun g2 s13 s44 wy => ∃ j : Nat, j + g2 = r - p ∧ s44 = .int .i64 j ∧ s13 = .int .i64 ((p : Int) + (j : Int)) ∧ Hid ((p : Int) + (j : Int) ≤ kk) ∧ wy = w2)
          case atStart => exact ⟨0, by omega, rfl, by simp, by show _ ≤ _; omega, rfl⟩
          case round =>
            obtain ⟨j, hjg, rfl, rfl, HK, rfl⟩ := hrel
            have hkj := HK.out
            cases gk with
            | zero =>
              have hjz : ¬ ((j : Int) < ((r - p : Nat) : Int)) := by omega
              have hjr : (p : Int) + (j : Int) = (r : Int) := by omega
              go_wp2
              go_roundg g
              case measure => omega
              case rel => exact ⟨s + 1, by omega, by go_num, by rw [← HNX.out], ⟨by rw [← HNX.out, ← hjr]; exact HK.out, fun i hi => by
                by_cases e : i = s
                · subst e; rw [HRR.out, ← hjr]; exact HK.out
                · exact HJ2.out i (by omega)⟩, hbb, HX2.out⟩
            | succ g2 =>
              have hjz : (j : Int) < ((r - p : Nat) : Int) := by omega
              by_cases heq : (p : Int) + (j : Int) = kk
              · have HIX := Lib.hid (shelfIx_eq (n := n) (qs := natsOf fs) (k := kk) (s := s) (by rw [HQL.out]; omega) (by rw [HRR.out]; omega) HJ2.out)
                have hbq : ((p : Int) + (j : Int) == kk) = true := by rw [beq_iff_eq]; exact heq
                clear heq
                go_wp2
                rw [Exit.noGoto_ret]
                go_ret2
                exact ⟨by rw [HIX.out]; rfl, hbb⟩
              · have hbq : ((p : Int) + (j : Int) == kk) = false := by rw [beq_eq_false_iff_ne]; exact heq
                go_wp2
                go_roundg g2
                case measure => omega
                case rel => exact ⟨j + 1, by omega, by go_num, by go_num, by show _ ≤ _; omega, rfl⟩
end
end Go.Proofs.Ytmdeijjlcebmaaa
