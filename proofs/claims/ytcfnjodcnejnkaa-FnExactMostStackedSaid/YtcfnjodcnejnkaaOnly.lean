/-
  Both programs' pairs of things of which the second one may be on the first one alone, but not the first one on the second.
  Conditions: the list has at most 1048576 things.
-/
import Derived.Test.YtcfnjodcnejnkaaSafe
import Derived.Test.YtcfnjodcnejnkaaNest
import Derived.Maps.AppendAt
namespace Go.Proofs.Ytcfnjodcnejnkaa
set_option linter.unusedVariables false
open Go.RowKit

/-- Thing 'b' is safe on 'a', 'a' isn't on 'b'. -/
def onlyB (ts : List (Int × Int × Int)) (a b : Nat) : Bool := decide (wT ts (b : Int) ≤ bT ts (a : Int)) && !decide (wT ts (a : Int) ≤ bT ts (b : Int))
theorem onlyB_self (ts : List (Int × Int × Int)) (a : Nat) : onlyB ts a a = false := by unfold onlyB; cases decide (wT ts (a : Int) ≤ bT ts (a : Int)) <;> rfl
theorem safe_two {ts : List (Int × Int × Int)} (hg : goodT ts = true) (a b : Nat) : safeB ts [(a : Int), (b : Int)] = decide (wT ts (b : Int) ≤ bT ts (a : Int)) := by
  have := (thg_bd hg (b : Int)).2.1.1
  simp [safeB, sumF, this]
theorem stack_two {n a b : Nat} (ha : a < n) (hb : b < n) (h : a ≠ b) : stackB n [(a : Int), (b : Int)] = true := by
  refine stackB_true.2 ⟨fun k hk => ?_, by simp; omega⟩
  simp at hk
  omega
theorem seg_two (w : World) (a b : Int) (T : Nat) : Seg (w.alloc (.cells #[.int .i64 a, .int .i64 b] T)) w.heap.size (w.alloc (.cells #[.int .i64 a, .int .i64 b] T)).heap.size (some ⟨w.heap.size, 0, none⟩) [a, b] := by
  refine .inr ⟨w.heap.size, 0, rfl, Nat.le_refl _, by simp, fun k hk => ?_⟩
  rw [cell_of (heap_alloc_new w _)]
  have hk2 : k = 0 ∨ k = 1 := by simp at hk; omega
  rcases hk2 with rfl | rfl <;> rfl

theorem rows_info : (Try.prog.info? 29).map (fun i => (i.zero, i.size, i.bytes)) = some (some (.slice none 0 0), 1, 24) := by kernel_rfl

/-- The pairs whose first box is 'i', the second one among the first 'k'. -/
def rowO (bs : List (Int × Int × Int)) (i : Nat) : Nat → List (List Int)
  | 0 => []
  | k + 1 => rowO bs i k ++ (if onlyB bs i k = true then [[(i : Int), (k : Int)]] else [])
/-- The pairs whose first box is among the first 'i'. -/
def upO (bs : List (Int × Int × Int)) (n : Nat) : Nat → List (List Int)
  | 0 => []
  | i + 1 => upO bs n i ++ rowO bs i n
def pairsO (bs : List (Int × Int × Int)) : List (List Int) := upO bs bs.length bs.length

theorem rowO_length (bs : List (Int × Int × Int)) (i k : Nat) : (rowO bs i k).length ≤ k := by
  induction k with
  | zero => exact Nat.le_refl _
  | succ k ih =>
    rw [rowO, List.length_append]
    split <;> simp <;> omega
theorem upO_length (bs : List (Int × Int × Int)) (n i : Nat) : (upO bs n i).length ≤ i * n := by
  induction i with
  | zero => simp [upO]
  | succ i ih =>
    have := rowO_length bs i n
    rw [upO, List.length_append, Nat.succ_mul]
    omega
theorem rowO_two {bs : List (Int × Int × Int)} {i k : Nat} : ∀ p ∈ rowO bs i k, p.length = 2 := by
  induction k with
  | zero => intro p hp; cases hp
  | succ k ih =>
    intro p hp
    rw [rowO] at hp
    rcases List.mem_append.1 hp with hp | hp
    · exact ih p hp
    · split at hp
      · rw [List.mem_singleton.1 hp]; rfl
      · cases hp
theorem upO_two {bs : List (Int × Int × Int)} {n i : Nat} : ∀ p ∈ upO bs n i, p.length = 2 := by
  induction i with
  | zero => intro p hp; cases hp
  | succ i ih =>
    intro p hp
    rw [upO] at hp
    rcases List.mem_append.1 hp with hp | hp
    · exact ih p hp
    · exact rowO_two p hp
theorem rowO_yes {bs : List (Int × Int × Int)} {i k : Nat} (h : onlyB bs i k = true) : rowO bs i (k + 1) = rowO bs i k ++ [[(i : Int), (k : Int)]] := by rw [rowO, if_pos h]
theorem rowO_no {bs : List (Int × Int × Int)} {i k : Nat} (h : onlyB bs i k = false) : rowO bs i (k + 1) = rowO bs i k := by rw [rowO, if_neg (by simp [h]), List.append_nil]

/-- Pairs in memory, each in a block of its own; the row of them is elsewhere. -/
def Prs (w : World) (base : Nat) (v : Value) (gl : List Nat) (ps : List (List Int)) : Prop :=
  w.ownsRow base 29 1 v ps.length (gl.map fun g => Value.slice (some ⟨g, 0, none⟩) 2 2) ∧ gl.length = ps.length ∧ gl.Nodup ∧ (∀ g ∈ gl, v.ownBlock ≠ some g) ∧
    ∀ (j : Nat) g p, gl[j]? = some g → ps[j]? = some p → base ≤ g ∧ g < w.heap.size ∧ ∃ a b, p = [a, b] ∧ w.heap[g]? = some (.cells #[.int .i64 a, .int .i64 b] 3 (0, 0))

theorem Prs.nil_ (w : World) (base : Nat) : Prs w base (.slice none 0 0) [] [] :=
  ⟨World.ownsRow_nil _ _ _ _, rfl, List.nodup_nil, fun g hg => (by cases hg), fun j g p hg => (by simp at hg)⟩

theorem Prs.below {w w' : World} {base : Nat} {v : Value} {gl : List Nat} {ps : List (List Int)} (h : Prs w base v gl ps) (hb : Below w.heap.size w w') : Prs w' base v gl ps := by
  obtain ⟨h1, h2, h3, h4, h5⟩ := h
  refine ⟨row_below h1 hb, h2, h3, h4, fun j g p hg hp => ?_⟩
  obtain ⟨a1, a2, a, b, e, hh⟩ := h5 j g p hg hp
  exact ⟨a1, Nat.lt_of_lt_of_le a2 hb.size, a, b, e, (hb.block g a2).trans hh⟩

/-- One pair more. -/
theorem Prs.step {w w' : World} {base : Nat} {v v' : Value} {gl : List Nat} {ps : List (List Int)} {a b : Int} (h : Prs w base v gl ps) (hbase : base ≤ w.heap.size)
    (hown : w'.ownsRow base 29 1 v' (ps.length + 1) ((gl.map fun g => Value.slice (some ⟨g, 0, none⟩) 2 2) ++ [.slice (some ⟨w.heap.size, 0, none⟩) 2 2]))
    (hgr : ((w.alloc (.cells #[.int .i64 a, .int .i64 b] 3)).alloc (.cells #[.slice (some ⟨w.heap.size, 0, none⟩) 2 2] 29)).grownBy w' v.ownBlock)
    (hloc : v'.ownBlock = v.ownBlock ∨ v'.ownBlock = some ((w.alloc (.cells #[.int .i64 a, .int .i64 b] 3)).alloc (.cells #[.slice (some ⟨w.heap.size, 0, none⟩) 2 2] 29)).heap.size) :
    Prs w' base v' (gl ++ [w.heap.size]) (ps ++ [[a, b]]) := by
  obtain ⟨h1, h2, h3, h4, h5⟩ := h
  have hlt := h1.lt
  have hsz := hgr.size
  simp at hsz
  have hgl : ∀ g ∈ gl, g < w.heap.size := by
    intro g hg
    obtain ⟨j, hj⟩ := List.getElem?_of_mem hg
    have hjl := (List.getElem?_eq_some_iff.1 hj).1
    exact (h5 j g _ hj (List.getElem?_eq_getElem (by omega))).2.1
  have hkeep : ∀ g, g < w.heap.size → v.ownBlock ≠ some g → w'.heap[g]? = w.heap[g]? := fun g hg hne =>
    (hgr.block g (by simp; omega) (fun e => hne e.symm)).trans ((Below.heap_alloc _ _ _ (by simp; omega)).trans (Below.heap_alloc _ _ _ hg))
  refine ⟨by rw [List.length_append]; simpa using hown, by simp [h2], ?_, ?_, ?_⟩
  · rw [List.nodup_append]
    refine ⟨h3, by simp, fun x hx y hy => ?_⟩
    have := hgl x hx
    rw [List.mem_singleton] at hy
    omega
  · intro g hg e
    rcases List.mem_append.1 hg with hg | hg
    · rcases hloc with hl | hl
      · exact h4 g hg (hl ▸ e)
      · rw [hl] at e
        injection e with e
        have := hgl g hg
        simp at e
        omega
    · rw [List.mem_singleton] at hg
      subst hg
      rcases hloc with hl | hl
      · rw [hl] at e
        have := (hlt _ e).2
        omega
      · rw [hl] at e
        injection e with e
        simp at e
        omega
  · intro j g p hg hp
    by_cases hj : j < gl.length
    · rw [List.getElem?_append_left hj] at hg
      rw [List.getElem?_append_left (by omega)] at hp
      obtain ⟨a1, a2, x, y, e, hh⟩ := h5 j g p hg hp
      exact ⟨a1, by omega, x, y, e, (hkeep g a2 (h4 g (List.mem_of_getElem? hg))).trans hh⟩
    · have hje : j = gl.length := by
        have := (List.getElem?_eq_some_iff.1 hg).1
        simp at this
        omega
      subst hje
      rw [List.getElem?_append_right (Nat.le_refl _), Nat.sub_self] at hg
      rw [h2, List.getElem?_append_right (Nat.le_refl _), Nat.sub_self] at hp
      simp at hg hp
      subst hg hp
      refine ⟨hbase, by omega, a, b, rfl, ?_⟩
      rw [hgr.block _ (by simp; omega) (fun e => by have := (hlt _ e.symm).2; omega), Below.heap_alloc _ _ _ (by simp)]
      exact heap_alloc_new _ _

/-- Such pairs are lists of lists in memory. -/
theorem Prs.nest {w : World} {base : Nat} {v : Value} {gl : List Nat} {ps : List (List Int)} (h : Prs w base v gl ps) : ∃ A c, v = .slice A ps.length c ∧ Nest w base w.heap.size A ps := by
  obtain ⟨h1, h2, h3, h4, h5⟩ := h
  obtain ⟨A, c, rfl⟩ := ownsRow_form h1
  refine ⟨A, c, rfl, ?_⟩
  obtain ⟨hl, h0 | ⟨g, cap, cur, hv, hg, hb, hnc, _, hs, ht⟩⟩ := id h1
  · exact .inl (List.eq_nil_of_length_eq_zero h0.2)
  · injection hv with e1 e2 e3
    subst e1 e3
    have hgb : (Value.slice (some ⟨g, 0, none⟩) ps.length c).ownBlock = some g := rfl
    have hglt := (h1.lt g hgb).2
    refine .inr ⟨g, cur, _, fun j => gl.getD j 0, rfl, hg, hglt, hb, fun k xs hx => ?_, fun i j xs ys hi hj _ _ hij => ?_⟩
    · have hk := (List.getElem?_eq_some_iff.1 hx).1
      obtain ⟨gk, hgk⟩ : ∃ gk, gl[k]? = some gk := ⟨_, List.getElem?_eq_getElem (by omega)⟩
      obtain ⟨a1, a2, x, y, e, hh⟩ := h5 k gk xs hgk hx
      refine ⟨some ⟨gk, 0, none⟩, 2, ?_, ?_, fun _ => ⟨by simp [List.getD, hgk], ?_⟩⟩
      · have ec : cur.toList[k]? = (gl.map fun g => Value.slice (some ⟨g, 0, none⟩) 2 2)[k]? := by
          rw [← ht, List.getElem?_take_of_lt (by omega)]
        rw [← Array.getElem?_toList, ec, List.getElem?_map, hgk, e]
        rfl
      · subst e
        refine .inr ⟨gk, _, _, rfl, a1, a2, hh, fun m hm => ?_⟩
        have hm2 : m = 0 ∨ m = 1 := by simp at hm; omega
        rcases hm2 with rfl | rfl <;> rfl
      · simp only [List.getD, hgk, Option.getD_some]
        intro e
        exact h4 gk (List.mem_of_getElem? hgk) (by rw [hgb, e])
    · have hi' := (List.getElem?_eq_some_iff.1 hi).1
      have hj' := (List.getElem?_eq_some_iff.1 hj).1
      have e1 : gl[i]? = some (gl[i]'(by omega)) := List.getElem?_eq_getElem (by omega)
      have e2 : gl[j]? = some (gl[j]'(by omega)) := List.getElem?_eq_getElem (by omega)
      simp only [List.getD, e1, e2, Option.getD_some]
      intro e
      exact hij ((List.getElem_inj h3).1 e)

theorem far_step {v v' : Value} {g n : Nat} (h : v.ownBlock ≠ some g) (hl : v'.ownBlock = v.ownBlock ∨ v'.ownBlock = some n) (hg : g < n) : v'.ownBlock ≠ some g := by
  rcases hl with hl | hl
  · rw [hl]; exact h
  · rw [hl]
    intro e
    injection e with e
    omega
/-- Lists of lists and a bool are answered. -/
def RetNN (b : Bool) (yss : List (List Int)) (w : World) (e : Ending) (w' : World) : Prop :=
  ∃ A n c, e = .returned (.tuple #[.slice A n c, .bool b]) ∧ yss.length = n ∧ Nest w' w.heap.size w'.heap.size A yss ∧ Below w.heap.size w w'

/-- Lists of lists, if there are. -/
def someNN (q : Bool) (yss : List (List Int)) : List (List Int) := if q = true then yss else []

theorem two_news (w : World) (a b : Int) : ∀ (j : Nat) (u : Value), [Value.slice (some ⟨w.heap.size, 0, none⟩) 2 2][j]? = some u →
    ((w.alloc (.cells #[.int .i64 a, .int .i64 b] 3)).alloc (.cells #[.slice (some ⟨w.heap.size, 0, none⟩) 2 2] 29)).cell? ((⟨w.heap.size + 1, 0, none⟩ : Addr).add j) = some u := by
  intro j u hj
  have := one_new (w.alloc (.cells #[.int .i64 a, .int .i64 b] 3)) (.slice (some ⟨w.heap.size, 0, none⟩) 2 2) 29 j u hj
  simpa using this

theorem only_small {bs : List (Int × Int × Int)} (h : goodT bs = true) : (pairsO bs).length ≤ 49 := by
  have h1 := upO_length bs bs.length bs.length
  have h2 := (goodT_at h).2.1
  have h3 : bs.length * bs.length ≤ 7 * 7 := Nat.mul_le_mul h2 h2
  unfold pairsO
  omega

theorem sums_two (xss : List (List Int)) (h : ∀ p ∈ xss, p.length = 2) (k : Nat) : sums xss k ≤ 2 * xss.length := by
  unfold sums
  have : ∀ l : List (List Int), (∀ p ∈ l, p.length = 2) → (l.map List.length).sum = 2 * l.length := by
    intro l
    induction l with
    | nil => intro _; rfl
    | cons x l ih =>
      intro hl
      simp only [List.map_cons, List.sum_cons, List.length_cons]
      rw [ih (fun p hp => hl p (List.mem_cons_of_mem _ hp)), hl x List.mem_cons_self]
      omega
  rw [this _ (fun p hp => h p (List.mem_of_mem_take hp)), List.length_take]
  omega

set_option maxRecDepth 100000 in
set_option maxHeartbeats 4000000 in
theorem spec_OnlyBelow (A : Option Addr) (n c : Nat) (ts : List (Int × Int × Int)) (lo hi : Nat) (w : World) (hn : ts.length = n) (hlen : n ≤ 1048576) (hs : Seg w lo hi A (flat3 ts)) (hB : hi ≤ w.heap.size) (q : Bool) (hq : goodT ts = q) :
    Calls Try.prog 33 #[.slice A n c] w (RetNN q (someNN q (pairsO ts)) w) := by
  have HN := Lib.hid hn
  have HQ := Lib.hid hq
  cases q
  · clear hn hq
    go_enter Try.func33, Try.ntmps33
    go_wp2_with fail
    refine (scGood_any _ _ _ ts lo hi _ HN.out hlen hs hB _ HQ.out).mono ?_
    rintro e w1 ⟨rfl, hb1⟩
    go_wp2
    go_ret2
    exact ⟨none, 0, 0, rfl, rfl, Nest.nil_, hb1⟩
  · obtain ⟨i0, hi0, hz0, hz1, hz2⟩ := info_parts rows_info
    have hn7 : n ≤ 7 := by rw [← hn]; exact (goodT_at hq).2.1
    have HPL := Lib.hid (show ∀ i k, i ≤ n → k ≤ n → (upO ts n i ++ rowO ts i k).length ≤ 56 from fun i k h1 h2 => by
      have a1 := upO_length ts n i
      have a2 := rowO_length ts i k
      have a3 : i * n ≤ 7 * 7 := Nat.mul_le_mul (by omega) hn7
      rw [List.length_append]
      omega)
    have HPE := Lib.hid (show pairsO ts = upO ts n n by rw [pairsO, hn])
    clear hn hq
    go_enter Try.func33, Try.ntmps33
    go_wp2_with fail
    refine (scGood_any _ _ _ ts lo hi _ HN.out hlen hs hB _ HQ.out).mono ?_
    rintro e w1 ⟨rfl, hb1⟩
    have hz1' := hb1.size
    have HS1 := Lib.hid (hs.below hb1 hB)
    go_wp2
    go_loopw [4, 12] (fun v i wr => ∃ k : Nat, k ≤ n ∧ i = .int .i64 k ∧ Below w1.heap.size w1 wr ∧ ∃ gl ps, upO ts n k = ps ∧ Prs wr w1.heap.size v gl ps) (fun _ i _ => n - (intOf i).toNat)
    case atStart => exact ⟨0, Nat.zero_le _, rfl, Below.refl _ _, [], [], rfl, Prs.nil_ _ _⟩
    case round =>
      obtain ⟨i, hi, rfl, hb, gl, ps, hps, hprs⟩ := hrel
      have hz := hb.size
      have HPS := Lib.hid hps
      have HPR := Lib.hid hprs
      by_cases hlt : i < n
      · have HSTEP := Lib.hid (show upO ts n (i + 1) = ps ++ rowO ts i n by rw [upO, hps])
        have HLEN := Lib.hid (fun k (hk : k ≤ n) => by have := HPL.out i k (by omega) hk; rw [hps] at this; exact this)
        clear hps hprs
        go_wp2
        go_loopw [4, 17] (fun v kk wr => ∃ k : Nat, k ≤ n ∧ kk = .int .i64 k ∧ Below w1.heap.size w1 wr ∧ ∃ gl qs, rowO ts i k = qs ∧ Prs wr w1.heap.size v gl (ps ++ qs)) (fun _ kk _ => n - (intOf kk).toNat)
        case atStart => exact ⟨0, Nat.zero_le _, rfl, hb, gl, [], rfl, by rw [List.append_nil]; exact HPR.out⟩
        case round =>
          obtain ⟨k, hk, rfl, hbk, gk, qs, hqs, hprk⟩ := hrel
          have hzk := hbk.size
          have HQS := Lib.hid hqs
          by_cases hlk : k < n
          · have hql := HLEN.out k (by omega)
            rw [hqs] at hql
            have HPK := Lib.hid hprk
            have HBK := Lib.hid hbk
            by_cases hik : i = k
            · have HNO := Lib.hid (show onlyB ts i k = false by rw [hik]; exact onlyB_self ts k)
              have hne : ((i : Int) != (k : Int)) = false := by rw [hik]; simp
              clear hqs hprk hbk hik
              go_wp2
              go_roundw
              case rel => exact ⟨k + 1, by omega, by go_num, HBK.out, gk, qs, by rw [rowO_no HNO.out, HQS.out], HPK.out⟩
              case measure => simp [intOf]; omega
            · have hne : ((i : Int) != (k : Int)) = true := by simp; omega
              have HST1 := Lib.hid (show stackB ts.length [(i : Int), (k : Int)] = true by rw [HN.out]; exact stack_two hlt hlk hik)
              have HST2 := Lib.hid (show stackB ts.length [(k : Int), (i : Int)] = true by rw [HN.out]; exact stack_two hlk hlt (Ne.symm hik))
              have HSG1 := Lib.hid (seg_two wr (i : Int) (k : Int) 3)
              have hbb := (Below.refl wr.heap.size wr).alloc (Nat.le_refl _) (.cells #[.int .i64 (i : Int), .int .i64 (k : Int)] 3)
              have HBB := Lib.hid hbb
              have HS1R := Lib.hid ((HS1.out.below hbk (by omega)).below hbb (by omega))
              have HP1 := Lib.hid (hprk.below hbb)
              have HB1 := Lib.hid (hbk.trans (hbb.mono hzk))
              obtain ⟨f1, hf1⟩ : ∃ f1, decide (wT ts (k : Int) ≤ bT ts (i : Int)) = f1 := ⟨_, rfl⟩
              obtain ⟨f2, hf2⟩ : ∃ f2, decide (wT ts (i : Int) ≤ bT ts (k : Int)) = f2 := ⟨_, rfl⟩
              have HF1 := Lib.hid (show safeB ts [(i : Int), (k : Int)] = f1 by rw [safe_two HQ.out, hf1])
              have HF2 := Lib.hid (show safeB ts [(k : Int), (i : Int)] = f2 by rw [safe_two HQ.out, hf2])
              have HO := Lib.hid (show onlyB ts i k = (f1 && !f2) by rw [onlyB, hf1, hf2])
              have hsz1 : (wr.alloc (.cells #[.int .i64 (i : Int), .int .i64 (k : Int)] 3)).heap.size = wr.heap.size + 1 := by simp
              have HSZ1 := Lib.hid hsz1
              clear hqs hprk hbk hik hbb hf1 hf2 hsz1
              go_wp2_with fail
              refine (scSafe_any A _ n c 2 _ ts [(i : Int), (k : Int)] lo w1.heap.size _ _ _ HN.out rfl (by omega) (HS1R.out.more (Nat.le_refl _) (by omega)) (by have := HSZ1.out; omega) HSG1.out (Nat.le_refl _) HQ.out HST1.out _ HF1.out).mono ?_
              rintro e w2 ⟨rfl, hb2⟩
              have HPK2 := Lib.hid (HP1.out.below hb2)
              have HB2 := Lib.hid (HB1.out.trans (hb2.mono HB1.out.size))
              have HS2R := Lib.hid (HS1R.out.below hb2 (by have := HSZ1.out; omega))
              have hz2w := hb2.size
              clear hb2
              cases f1
              · go_wp2
                go_roundw
                case rel => exact ⟨k + 1, by omega, by go_num, HB2.out, gk, qs, by rw [rowO_no (by rw [HO.out]; rfl), HQS.out], HPK2.out⟩
                case measure => simp [intOf]; omega
              · have HSG2 := Lib.hid (seg_two w2 (k : Int) (i : Int) 3)
                have hbb := (Below.refl w2.heap.size w2).alloc (Nat.le_refl _) (.cells #[.int .i64 (k : Int), .int .i64 (i : Int)] 3)
                have HS3R := Lib.hid (HS2R.out.below hbb (by have := HSZ1.out; omega))
                have HP3 := Lib.hid (HPK2.out.below hbb)
                have HB3' := Lib.hid (HB2.out.trans (hbb.mono HB2.out.size))
                clear hbb
                go_wp2_with fail
                refine (scSafe_any A _ n c 2 _ ts [(k : Int), (i : Int)] lo w1.heap.size _ _ _ HN.out rfl (by omega) (HS3R.out.more (Nat.le_refl _) (by omega)) (by have := HSZ1.out; simp; omega) HSG2.out (Nat.le_refl _) HQ.out HST2.out _ HF2.out).mono ?_
                rintro e w4 ⟨rfl, hb4⟩
                have HPK4 := Lib.hid (HP3.out.below hb4)
                have HB4 := Lib.hid (HB3'.out.trans (hb4.mono HB3'.out.size))
                clear hb4
                cases f2
                · have HN2 := Lib.hid (two_news w4 (i : Int) (k : Int))
                  have hbb2 := ((Below.refl w4.heap.size w4).alloc (Nat.le_refl _) (.cells #[.int .i64 (i : Int), .int .i64 (k : Int)] 3)).alloc (by simp) (.cells #[.slice (some ⟨w4.heap.size, 0, none⟩) 2 2] 29)
                  have HOW := Lib.hid (row_below HPK4.out.1 hbb2)
                  have HBB2 := Lib.hid hbb2
                  have hzB := HB4.out.size
                  clear hbb2
                  go_wp2_with (at_builtin; refine wpList_append_own_at _ rfl _ _ 44 rfl w1.heap.size 29 i0 (.slice none 0 0) 1 24 Try.underlying44 hi0 hz0 hz1 hz2 rfl (by decide) _ (ps ++ qs).length _ rfl HOW.out ⟨w4.heap.size + 1, 0, none⟩ 1 1 [.slice (some ⟨w4.heap.size, 0, none⟩) 2 2] rfl rfl HN2.out (by intro u hu; simp at hu; subst hu; rfl) (by unfold maxLen; omega) (by omega) (by simp; omega) ?_; intro v3 w3 hown3 hgr3 _ hloc3; have HST := Lib.hid (HPK4.out.step hzB hown3 hgr3 hloc3); have HB3 := Lib.hid ((HB4.out.trans (HBB2.out.mono hzB)).grown hgr3 (by simp; omega) (fun g' hg' => (HPK4.out.1.lt g' hg').1)); clear hown3 hgr3 hloc3)
                  go_roundw
                  case rel => exact ⟨k + 1, by omega, by go_num, HB3.out, _, qs ++ [[(i : Int), (k : Int)]], by rw [rowO_yes (by rw [HO.out]; rfl), HQS.out], by rw [← List.append_assoc]; exact HST.out⟩
                  case measure => simp [intOf]; omega
                · go_wp2
                  go_roundw
                  case rel => exact ⟨k + 1, by omega, by go_num, HB4.out, gk, qs, by rw [rowO_no (by rw [HO.out]; rfl), HQS.out], HPK4.out⟩
                  case measure => simp [intOf]; omega
          · obtain rfl : k = n := by omega
            go_wp2
            go_roundw
            case rel => exact ⟨i + 1, by omega, by go_num, hbk, gk, ps ++ qs, by rw [HSTEP.out, HQS.out], hprk⟩
            case measure => simp [intOf]; omega
      · obtain rfl : i = n := by omega
        obtain ⟨A2, c2, rfl, hnest⟩ := HPR.out.nest
        go_wp2
        go_ret2
        have e : pairsO ts = ps := by rw [HPE.out, HPS.out]
        refine ⟨A2, ps.length, c2, rfl, ?_, ?_, hb1.trans (hb.mono hz1')⟩
        · show (pairsO ts).length = _
          rw [e]
        · show Nest _ _ _ _ (pairsO ts)
          rw [e]
          exact hnest.more hz1' (Nat.le_refl _)


/-- A thing in a block stays where a row grows. -/
theorem ThgAt.grown {w w' : World} {g : Nat} {x y z : Int} {row : Option Nat} (h : ThgAt w g x y z) (hg : w.grownBy w' row) (hr : row ≠ some g) : ThgAt w' g x y z :=
  have hl := cell_lt h.1
  ⟨(World.cell?_of_block (hg.block g hl (fun e => hr e.symm))).trans h.1, (World.cell?_of_block (hg.block g hl (fun e => hr e.symm))).trans h.2.1, (World.cell?_of_block (hg.block g hl (fun e => hr e.symm))).trans h.2.2⟩

theorem canBear_any (x y z x' y' z' : Int) (w : World) (q : Bool) (hq : decide (x' ≤ y) = q) :
    Calls Try.prog 66 #[.agg #[.int .i64 x, .int .i64 y, .int .i64 z], .agg #[.int .i64 x', .int .i64 y', .int .i64 z']] w fun e w' => e = .returned (.bool q) ∧ Below w.heap.size w w' := by
  go_enter Try.func66, Try.ntmps66
  go_wp2
  go_ret
  exact ⟨rfl, ((Below.refl _ _).alloc (Nat.le_refl _) _).alloc (by simp) _⟩

set_option maxRecDepth 100000 in
set_option maxHeartbeats 4000000 in
theorem impl_OnlyBelow (A : Option Addr) (n c : Nat) (ts : List (Int × Int × Int)) (lo hi : Nat) (w : World) (hn : ts.length = n) (hlen : n ≤ 1048576) (hs : Seg w lo hi A (flat3 ts)) (hB : hi ≤ w.heap.size) (q : Bool) (hq : goodT ts = q) :
    Calls Try.prog 34 #[.slice A n c] w (RetNN q (someNN q (pairsO ts)) w) := by
  have HN := Lib.hid hn
  have HQ := Lib.hid hq
  cases q
  · clear hn hq
    go_enter Try.func34, Try.ntmps34
    go_wp2_with fail
    refine (areStackable_any _ _ _ ts lo hi _ HN.out hlen hs hB _ HQ.out).mono ?_
    rintro e w1 ⟨rfl, hb1⟩
    go_wp2
    go_ret2
    exact ⟨none, 0, 0, rfl, rfl, Nest.nil_, hb1⟩
  · obtain ⟨i0, hi0, hz0, hz1, hz2⟩ := info_parts rows_info
    have hn7 : n ≤ 7 := by rw [← hn]; exact (goodT_at hq).2.1
    have HPL := Lib.hid (show ∀ i k, i ≤ n → k ≤ n → (upO ts n i ++ rowO ts i k).length ≤ 56 from fun i k h1 h2 => by
      have a1 := upO_length ts n i
      have a2 := rowO_length ts i k
      have a3 : i * n ≤ 7 * 7 := Nat.mul_le_mul (by omega) hn7
      rw [List.length_append]
      omega)
    have HPE := Lib.hid (show pairsO ts = upO ts n n by rw [pairsO, hn])
    clear hn hq
    go_enter Try.func34, Try.ntmps34
    go_wp2_with fail
    refine (areStackable_any _ _ _ ts lo hi _ HN.out hlen hs hB _ HQ.out).mono ?_
    rintro e w1 ⟨rfl, hb1⟩
    have hz1' := hb1.size
    have HS1 := Lib.hid (hs.below hb1 hB)
    go_wp2
    go_loopw [4, 14] (fun v i wr => ∃ k : Nat, k ≤ n ∧ i = .int .i64 k ∧ Below w1.heap.size w1 wr ∧ ∃ gl ps, upO ts n k = ps ∧ Prs wr w1.heap.size v gl ps) (fun _ i _ => n - (intOf i).toNat)
    case atStart => exact ⟨0, Nat.zero_le _, rfl, Below.refl _ _, [], [], rfl, Prs.nil_ _ _⟩
    case round =>
      obtain ⟨i, hi, rfl, hb, gl, ps, hps, hprs⟩ := hrel
      have hz := hb.size
      have HPS := Lib.hid hps
      have HPR := Lib.hid hprs
      by_cases hlt : i < n
      · obtain ⟨b, off, x, y, z, rfl, _, hbh, hx, hc0, hc1, hc2⟩ := (HS1.out.below hb (by omega)).tri (k := i) (by rw [HN.out]; exact hlt)
        have HXI := Lib.hid hx
        have HB0 := Lib.hid (hb.alloc hz (.cells #[.int .i64 x, .int .i64 y, .int .i64 z] 55))
        have HA0 := Lib.hid (ThgAt.of (new_at wr (.cells #[.int .i64 x, .int .i64 y, .int .i64 z] 55) rfl))
        have HP0 := Lib.hid (hprs.below ((Below.refl wr.heap.size wr).alloc (Nat.le_refl _) (.cells #[.int .i64 x, .int .i64 y, .int .i64 z] 55)))
        have HSTEP := Lib.hid (show upO ts n (i + 1) = ps ++ rowO ts i n by rw [upO, hps])
        have HLEN := Lib.hid (fun k (hk : k ≤ n) => by have := HPL.out i k (by omega) hk; rw [hps] at this; exact this)
        obtain ⟨ga, hga⟩ : ∃ ga, ga = wr.heap.size := ⟨_, rfl⟩
        have HGA := Lib.hid hga
        clear hx hps hprs hga
        go_wp2
        go_loopw [4, 21] (fun v kk wr => ∃ k : Nat, k ≤ n ∧ kk = .int .i64 k ∧ Below w1.heap.size w1 wr ∧ ThgAt wr ga x y z ∧ ∃ gl qs, rowO ts i k = qs ∧ Prs wr w1.heap.size v gl (ps ++ qs) ∧ v.ownBlock ≠ some ga) (fun _ kk _ => n - (intOf kk).toNat)
        case atStart => exact ⟨0, Nat.zero_le _, rfl, HB0.out, by rw [HGA.out]; exact HA0.out, gl, [], rfl, by rw [List.append_nil]; exact HP0.out, by rw [HGA.out]; exact fun e => by have := (HPR.out.1.lt _ e).2; omega⟩
        case round =>
          rw [← HGA.out]
          obtain ⟨k, hk, rfl, hbk, hak, gk, qs, hqs, hprk, hfar⟩ := hrel
          have hzk := hbk.size
          have HQS := Lib.hid hqs
          by_cases hlk : k < n
          · obtain ⟨b2, off2, x', y', z', hA, _, hbh2, hx', hd0, hd1, hd2⟩ := (HS1.out.below hbk (by omega)).tri (k := k) (by rw [HN.out]; exact hlk)
            obtain ⟨rfl, rfl⟩ : b = b2 ∧ off = off2 := by injection hA with hA; injection hA with h1 h2; exact ⟨h1, h2⟩
            obtain ⟨f1, hf1⟩ : ∃ f1, decide (x' ≤ y) = f1 := ⟨_, rfl⟩
            obtain ⟨f2, hf2⟩ : ∃ f2, decide (x ≤ y') = f2 := ⟨_, rfl⟩
            have HF1 := Lib.hid hf1
            have HF2 := Lib.hid hf2
            have HO := Lib.hid (show onlyB ts i k = (f1 && !f2) by unfold onlyB wT bT; rw [thg_at HXI.out, thg_at hx', ← hf1, ← hf2])
            have hbb := (Below.refl wr.heap.size wr).alloc (Nat.le_refl _) (.cells #[.int .i64 x', .int .i64 y', .int .i64 z'] 55)
            obtain ⟨c0, c1, c2⟩ := id (hak.below hbb)
            obtain ⟨e0, e1, e2⟩ := id (ThgAt.of (new_at wr (.cells #[.int .i64 x', .int .i64 y', .int .i64 z'] 55) rfl))
            have HAK := Lib.hid (hak.below hbb)
            have HAE := Lib.hid (ThgAt.of (new_at wr (.cells #[.int .i64 x', .int .i64 y', .int .i64 z'] 55) rfl))
            have HPK := Lib.hid (hprk.below hbb)
            have hql := HLEN.out k (by omega)
            rw [hqs] at hql
            have HBK := Lib.hid (hbk.trans (hbb.mono hzk))
            clear hA hx' hf1 hf2 hqs hprk hak hbb hc0 hc1 hc2
            go_wp2_with fail
            refine (canBear_any _ _ _ _ _ _ _ _ HF1.out).mono ?_
            rintro e w2 ⟨rfl, hb2⟩
            have HAK2 := Lib.hid (HAK.out.below hb2)
            have HAE2 := Lib.hid (HAE.out.below hb2)
            have HPK2 := Lib.hid (HPK.out.below hb2)
            have HB2 := Lib.hid (HBK.out.trans (hb2.mono HBK.out.size))
            clear HAK HPK HBK HAE hb2 c0 c1 c2 e0 e1 e2
            cases f1
            · go_wp2
              go_roundw
              case rel => exact ⟨k + 1, by omega, by go_num, HB2.out, HAK2.out, gk, qs, by rw [rowO_no (by rw [HO.out]; rfl), HQS.out], HPK2.out, hfar⟩
              case measure => simp [intOf]; omega
            · obtain ⟨c0, c1, c2⟩ := id HAK2.out
              obtain ⟨e0, e1, e2⟩ := id HAE2.out
              go_wp2_with fail
              refine (canBear_any _ _ _ _ _ _ _ _ HF2.out).mono ?_
              rintro e w4 ⟨rfl, hb4⟩
              have HAK4 := Lib.hid (HAK2.out.below hb4)
              have HPK4 := Lib.hid (HPK2.out.below hb4)
              have HB4 := Lib.hid (HB2.out.trans (hb4.mono HB2.out.size))
              clear hb4 c0 c1 c2 e0 e1 e2
              cases f2
              · have HGZ := Lib.hid (show ga < w4.heap.size from cell_lt HAK4.out.1)
                have HN2 := Lib.hid (two_news w4 (i : Int) (k : Int))
                have hbb2 := ((Below.refl w4.heap.size w4).alloc (Nat.le_refl _) (.cells #[.int .i64 (i : Int), .int .i64 (k : Int)] 3)).alloc (by simp) (.cells #[.slice (some ⟨w4.heap.size, 0, none⟩) 2 2] 29)
                have HOW := Lib.hid (row_below HPK4.out.1 hbb2)
                have HBB2 := Lib.hid hbb2
                have hzB := HB4.out.size
                clear hbb2
                go_wp2_with (at_builtin; refine wpList_append_own_at _ rfl _ _ 44 rfl w1.heap.size 29 i0 (.slice none 0 0) 1 24 Try.underlying44 hi0 hz0 hz1 hz2 rfl (by decide) _ (ps ++ qs).length _ rfl HOW.out ⟨w4.heap.size + 1, 0, none⟩ 1 1 [.slice (some ⟨w4.heap.size, 0, none⟩) 2 2] rfl rfl HN2.out (by intro u hu; simp at hu; subst hu; rfl) (by unfold maxLen; omega) (by omega) (by simp; omega) ?_; intro v3 w3 hown3 hgr3 _ hloc3; have HST := Lib.hid (HPK4.out.step hzB hown3 hgr3 hloc3); have HB3 := Lib.hid ((HB4.out.trans (HBB2.out.mono hzB)).grown hgr3 (by simp; omega) (fun g' hg' => (HPK4.out.1.lt g' hg').1)); have hfar3 := far_step hfar hloc3 (Nat.lt_of_lt_of_le HGZ.out HBB2.out.size); have HFAR3 := Lib.hid hfar3; have HA3 := Lib.hid (show ThgAt w3 ga x y z from ThgAt.grown (HAK4.out.below HBB2.out) hgr3 hfar); clear hfar3; clear hown3 hgr3 hloc3)
                go_roundw
                case rel => exact ⟨k + 1, by omega, by go_num, HB3.out, HA3.out, _, qs ++ [[(i : Int), (k : Int)]], by rw [rowO_yes (by rw [HO.out]; rfl), HQS.out], by rw [← List.append_assoc]; exact HST.out, HFAR3.out⟩
                case measure => simp [intOf]; omega
              · go_wp2
                go_roundw
                case rel => exact ⟨k + 1, by omega, by go_num, HB4.out, HAK4.out, gk, qs, by rw [rowO_no (by rw [HO.out]; rfl), HQS.out], HPK4.out, hfar⟩
                case measure => simp [intOf]; omega
          · obtain rfl : k = n := by omega
            go_wp2
            go_roundw
            case rel => exact ⟨i + 1, by omega, by go_num, hbk, gk, ps ++ qs, by rw [HSTEP.out, HQS.out], hprk⟩
            case measure => simp [intOf]; omega
      · obtain rfl : i = n := by omega
        obtain ⟨A2, c2, rfl, hnest⟩ := HPR.out.nest
        go_wp2
        go_ret2
        have e : pairsO ts = ps := by rw [HPE.out, HPS.out]
        refine ⟨A2, ps.length, c2, rfl, ?_, ?_, hb1.trans (hb.mono hz1')⟩
        · show (pairsO ts).length = _
          rw [e]
        · show Nest _ _ _ _ (pairsO ts)
          rw [e]
          exact hnest.more hz1' (Nat.le_refl _)

def onlyM (bs : List (Int × Int × Int)) : List (List Int) := someNN (goodT bs) (pairsO bs)
theorem onlyM_facts (bs : List (Int × Int × Int)) : (onlyM bs).length ≤ 49 ∧ (∀ ys ∈ onlyM bs, ys.length ≤ 9) ∧ sums (onlyM bs) (onlyM bs).length ≤ 98 := by
  unfold onlyM
  cases h : goodT bs
  · exact ⟨by simp [someNN], fun ys hy => by simp [someNN] at hy, by simp [someNN, sums]⟩
  · have h1 := only_small h
    have h2 : ∀ p ∈ pairsO bs, p.length = 2 := upO_two
    have h3 := sums_two (pairsO bs) h2 (pairsO bs).length
    simp only [someNN, if_true]
    exact ⟨h1, fun ys hy => by rw [h2 ys hy]; omega, by omega⟩
theorem spec_OnlyM (A : Option Addr) (n c : Nat) (bs : List (Int × Int × Int)) (lo hi : Nat) (w : World) (hn : bs.length = n) (hlen : n ≤ 1048576) (hs : Seg w lo hi A (flat3 bs)) (hB : hi ≤ w.heap.size) (q : Bool) (hq : goodT bs = q) :
    Calls Try.prog 33 #[.slice A n c] w (RetNN q (onlyM bs) w) := by
  unfold onlyM
  rw [hq]
  exact spec_OnlyBelow A n c bs lo hi w hn hlen hs hB q hq
theorem impl_OnlyM (A : Option Addr) (n c : Nat) (bs : List (Int × Int × Int)) (lo hi : Nat) (w : World) (hn : bs.length = n) (hlen : n ≤ 1048576) (hs : Seg w lo hi A (flat3 bs)) (hB : hi ≤ w.heap.size) (q : Bool) (hq : goodT bs = q) :
    Calls Try.prog 34 #[.slice A n c] w (RetNN q (onlyM bs) w) := by
  unfold onlyM
  rw [hq]
  exact impl_OnlyBelow A n c bs lo hi w hn hlen hs hB q hq
end Go.Proofs.Ytcfnjodcnejnkaa
