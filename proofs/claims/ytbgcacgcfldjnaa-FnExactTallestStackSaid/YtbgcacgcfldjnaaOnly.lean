/-
  Both programs' pairs of things of which the second one may be on the first one alone, but not the first one on the second.
  Conditions: the list has at most 1048576 things.
-/
import Derived.Test.YtbgcacgcfldjnaaSafe
import Derived.Test.YtbgcacgcfldjnaaNest
import Derived.Maps.AppendAt
namespace Go.Proofs.Ytbgcacgcfldjnaa
set_option linter.unusedVariables false
open Go.RowKit

/-- Thing 'b' is safe on 'a', 'a' isn't on 'b'. -/
def onlyB (ts : List (Int × Int × Int)) (a b : Nat) : Bool := decide (wT ts (b : Int) ≤ bT ts (a : Int)) && !decide (wT ts (a : Int) ≤ bT ts (b : Int))
theorem onlyB_self (ts : List (Int × Int × Int)) (a : Nat) : onlyB ts a a = false := by unfold onlyB; cases decide (wT ts (a : Int) ≤ bT ts (a : Int)) <;> rfl
theorem safe_two {ts : List (Int × Int × Int)} (hg : goodT ts = true) (a b : Nat) : safeB ts [(a : Int), (b : Int)] = decide (wT ts (b : Int) ≤ bT ts (a : Int)) := by
  have := (thg_bd hg (b : Int)).2.1.1
  simp [safeB, sumF, this]
theorem stack_two {n a b : Nat} (ha : a < n) (hb : b < n) (h : a ≠ b) : stackB n [(a : Int), (b : Int)] = true := by
  refine stackB_true.2 ⟨fun k hk => ?_, by simp; omega⟩
  simp at hk
  omega
theorem seg_two (w : World) (a b : Int) (T : Nat) : Seg (w.alloc (.cells #[.int .i64 a, .int .i64 b] T)) w.heap.size (w.alloc (.cells #[.int .i64 a, .int .i64 b] T)).heap.size (some ⟨w.heap.size, 0, none⟩) [a, b] := by
  refine .inr ⟨w.heap.size, 0, rfl, Nat.le_refl _, by simp, fun k hk => ?_⟩
  rw [cell_of (heap_alloc_new w _)]
  have hk2 : k = 0 ∨ k = 1 := by simp at hk; omega
  rcases hk2 with rfl | rfl <;> rfl

theorem rows_info : (Try.prog.info? 23).map (fun i => (i.zero, i.size, i.bytes)) = some (some (.slice none 0 0), 1, 24) := by kernel_rfl

/-- The pairs whose first box is 'i', the second one among the first 'k'. -/
def rowO (bs : List (Int × Int × Int)) (i : Nat) : Nat → List (List Int)
  | 0 => []
  | k + 1 => rowO bs i k ++ (if onlyB bs i k = true then [[(i : Int), (k : Int)]] else [])
/-- The pairs whose first box is among the first 'i'. -/
def upO (bs : List (Int × Int × Int)) (n : Nat) : Nat → List (List Int)
  | 0 => []
  | i + 1 => upO bs n i ++ rowO bs i n
def pairsO (bs : List (Int × Int × Int)) : List (List Int) := upO bs bs.length bs.length

theorem rowO_length (bs : List (Int × Int × Int)) (i k : Nat) : (rowO bs i k).length ≤ k := by
  induction k with
  | zero => exact Nat.le_refl _
  | succ k ih =>
    rw [rowO, List.length_append]
    split <;> simp <;> omega
theorem upO_length (bs : List (Int × Int × Int)) (n i : Nat) : (upO bs n i).length ≤ i * n := by
  induction i with
  | zero => simp [upO]
  | succ i ih =>
    have := rowO_length bs i n
    rw [upO, List.length_append, Nat.succ_mul]
    omega
theorem rowO_two {bs : List (Int × Int × Int)} {i k : Nat} : ∀ p ∈ rowO bs i k, p.length = 2 := by
  induction k with
  | zero => intro p hp; cases hp
  | succ k ih =>
    intro p hp
    rw [rowO] at hp
    rcases List.mem_append.1 hp with hp | hp
    · exact ih p hp
    · split at hp
      · rw [List.mem_singleton.1 hp]; rfl
      · cases hp
theorem upO_two {bs : List (Int × Int × Int)} {n i : Nat} : ∀ p ∈ upO bs n i, p.length = 2 := by
  induction i with
  | zero => intro p hp; cases hp
  | succ i ih =>
    intro p hp
    rw [upO] at hp
    rcases List.mem_append.1 hp with hp | hp
    · exact ih p hp
    · exact rowO_two p hp
theorem rowO_yes {bs : List (Int × Int × Int)} {i k : Nat} (h : onlyB bs i k = true) : rowO bs i (k + 1) = rowO bs i k ++ [[(i : Int), (k : Int)]] := by rw [rowO, if_pos h]
theorem rowO_no {bs : List (Int × Int × Int)} {i k : Nat} (h : onlyB bs i k = false) : rowO bs i (k + 1) = rowO bs i k := by rw [rowO, if_neg (by simp [h]), List.append_nil]

/-- Pairs in memory, each in a block of its own; the row of them is elsewhere. -/
def Prs (w : World) (base : Nat) (v : Value) (gl : List Nat) (ps : List (List Int)) : Prop :=
  w.ownsRow base 23 1 v ps.length (gl.map fun g => Value.slice (some ⟨g, 0, none⟩) 2 2) ∧ gl.length = ps.length ∧ gl.Nodup ∧ (∀ g ∈ gl, v.ownBlock ≠ some g) ∧
    ∀ (j : Nat) g p, gl[j]? = some g → ps[j]? = some p → base ≤ g ∧ g < w.heap.size ∧ ∃ a b, p = [a, b] ∧ w.heap[g]? = some (.cells #[.int .i64 a, .int .i64 b] 3 (0, 0))

theorem Prs.nil_ (w : World) (base : Nat) : Prs w base (.slice none 0 0) [] [] :=
  ⟨World.ownsRow_nil _ _ _ _, rfl, List.nodup_nil, fun g hg => (by cases hg), fun j g p hg => (by simp at hg)⟩

theorem Prs.below {w w' : World} {base : Nat} {v : Value} {gl : List Nat} {ps : List (List Int)} (h : Prs w base v gl ps) (hb : Below w.heap.size w w') : Prs w' base v gl ps := by
  obtain ⟨h1, h2, h3, h4, h5⟩ := h
  refine ⟨row_below h1 hb, h2, h3, h4, fun j g p hg hp => ?_⟩
  obtain ⟨a1, a2, a, b, e, hh⟩ := h5 j g p hg hp
  exact ⟨a1, Nat.lt_of_lt_of_le a2 hb.size, a, b, e, (hb.block g a2).trans hh⟩

/-- One pair more. -/
theorem Prs.step {w w' : World} {base : Nat} {v v' : Value} {gl : List Nat} {ps : List (List Int)} {a b : Int} (h : Prs w base v gl ps) (hbase : base ≤ w.heap.size)
    (hown : w'.ownsRow base 23 1 v' (ps.length + 1) ((gl.map fun g => Value.slice (some ⟨g, 0, none⟩) 2 2) ++ [.slice (some ⟨w.heap.size, 0, none⟩) 2 2]))
    (hgr : ((w.alloc (.cells #[.int .i64 a, .int .i64 b] 3)).alloc (.cells #[.slice (some ⟨w.heap.size, 0, none⟩) 2 2] 23)).grownBy w' v.ownBlock)
    (hloc : v'.ownBlock = v.ownBlock ∨ v'.ownBlock = some ((w.alloc (.cells #[.int .i64 a, .int .i64 b] 3)).alloc (.cells #[.slice (some ⟨w.heap.size, 0, none⟩) 2 2] 23)).heap.size) :
    Prs w' base v' (gl ++ [w.heap.size]) (ps ++ [[a, b]]) := by
  obtain ⟨h1, h2, h3, h4, h5⟩ := h
  have hlt := h1.lt
  have hsz := hgr.size
  simp at hsz
  have hgl : ∀ g ∈ gl, g < w.heap.size := by
    intro g hg
    obtain ⟨j, hj⟩ := List.getElem?_of_mem hg
    have hjl := (List.getElem?_eq_some_iff.1 hj).1
    exact (h5 j g _ hj (List.getElem?_eq_getElem (by omega))).2.1
  have hkeep : ∀ g, g < w.heap.size → v.ownBlock ≠ some g → w'.heap[g]? = w.heap[g]? := fun g hg hne =>
    (hgr.block g (by simp; omega) (fun e => hne e.symm)).trans ((Below.heap_alloc _ _ _ (by simp; omega)).trans (Below.heap_alloc _ _ _ hg))
  refine ⟨by rw [List.length_append]; simpa using hown, by simp [h2], ?_, ?_, ?_⟩
  · rw [List.nodup_append]
    refine ⟨h3, by simp, fun x hx y hy => ?_⟩
    have := hgl x hx
    rw [List.mem_singleton] at hy
    omega
  · intro g hg e
    rcases List.mem_append.1 hg with hg | hg
    · rcases hloc with hl | hl
      · exact h4 g hg (hl ▸ e)
      · rw [hl] at e
        injection e with e
        have := hgl g hg
        simp at e
        omega
    · rw [List.mem_singleton] at hg
      subst hg
      rcases hloc with hl | hl
      · rw [hl] at e
        have := (hlt _ e).2
        omega
      · rw [hl] at e
        injection e with e
        simp at e
        omega
  · intro j g p hg hp
    by_cases hj : j < gl.length
    · rw [List.getElem?_append_left hj] at hg
      rw [List.getElem?_append_left (by omega)] at hp
      obtain ⟨a1, a2, x, y, e, hh⟩ := h5 j g p hg hp
      exact ⟨a1, by omega, x, y, e, (hkeep g a2 (h4 g (List.mem_of_getElem? hg))).trans hh⟩
    · have hje : j = gl.length := by
        have := (List.getElem?_eq_some_iff.1 hg).1
        simp at this
        omega
      subst hje
      rw [List.getElem?_append_right (Nat.le_refl _), Nat.sub_self] at hg
      rw [h2, List.getElem?_append_right (Nat.le_refl _), Nat.sub_self] at hp
      simp at hg hp
      subst hg hp
      refine ⟨hbase, by omega, a, b, rfl, ?_⟩
      rw [hgr.block _ (by simp; omega) (fun e => by have := (hlt _ e.symm).2; omega), Below.heap_alloc _ _ _ (by simp)]
      exact heap_alloc_new _ _

/-- Such pairs are lists of lists in memory. -/
theorem Prs.nest {w : World} {base : Nat} {v : Value} {gl : List Nat} {ps : List (List Int)} (h : Prs w base v gl ps) : ∃ A c, v = .slice A ps.length c ∧ Nest w base w.heap.size A ps := by
  obtain ⟨h1, h2, h3, h4, h5⟩ := h
  obtain ⟨A, c, rfl⟩ := ownsRow_form h1
  refine ⟨A, c, rfl, ?_⟩
  obtain ⟨hl, h0 | ⟨g, cap, cur, hv, hg, hb, hnc, _, hs, ht⟩⟩ := id h1
  · exact .inl (List.eq_nil_of_length_eq_zero h0.2)
  · injection hv with e1 e2 e3
    subst e1 e3
    have hgb : (Value.slice (some ⟨g, 0, none⟩) ps.length c).ownBlock = some g := rfl
    have hglt := (h1.lt g hgb).2
    refine .inr ⟨g, cur, _, fun j => gl.getD j 0, rfl, hg, hglt, hb, fun k xs hx => ?_, fun i j xs ys hi hj _ _ hij => ?_⟩
    · have hk := (List.getElem?_eq_some_iff.1 hx).1
      obtain ⟨gk, hgk⟩ : ∃ gk, gl[k]? = some gk := ⟨_, List.getElem?_eq_getElem (by omega)⟩
      obtain ⟨a1, a2, x, y, e, hh⟩ := h5 k gk xs hgk hx
      refine ⟨some ⟨gk, 0, none⟩, 2, ?_, ?_, fun _ => ⟨by simp [List.getD, hgk], ?_⟩⟩
      · have ec : cur.toList[k]? = (gl.map fun g => Value.slice (some ⟨g, 0, none⟩) 2 2)[k]? := by
          rw [← ht, List.getElem?_take_of_lt (by omega)]
        rw [← Array.getElem?_toList, ec, List.getElem?_map, hgk, e]
        rfl
      · subst e
        refine .inr ⟨gk, _, _, rfl, a1, a2, hh, fun m hm => ?_⟩
        have hm2 : m = 0 ∨ m = 1 := by simp at hm; omega
        rcases hm2 with rfl | rfl <;> rfl
      · simp only [List.getD, hgk, Option.getD_some]
        intro e
        exact h4 gk (List.mem_of_getElem? hgk) (by rw [hgb, e])
    · have hi' := (List.getElem?_eq_some_iff.1 hi).1
      have hj' := (List.getElem?_eq_some_iff.1 hj).1
      have e1 : gl[i]? = some (gl[i]'(by omega)) := List.getElem?_eq_getElem (by omega)
      have e2 : gl[j]? = some (gl[j]'(by omega)) := List.getElem?_eq_getElem (by omega)
      simp only [List.getD, e1, e2, Option.getD_some]
      intro e
      exact hij ((List.getElem_inj h3).1 e)

theorem far_step {v v' : Value} {g n : Nat} (h : v.ownBlock ≠ some g) (hl : v'.ownBlock = v.ownBlock ∨ v'.ownBlock = some n) (hg : g < n) : v'.ownBlock ≠ some g := by
  rcases hl with hl | hl
  · rw [hl]; exact h
  · rw [hl]
    intro e
    injection e with e
    omega
/-- Lists of lists and a bool are answered. -/
def RetNN (b : Bool) (yss : List (List Int)) (w : World) (e : Ending) (w' : World) : Prop :=
  ∃ A n c, e = .returned (.tuple #[.slice A n c, .bool b]) ∧ yss.length = n ∧ Nest w' w.heap.size w'.heap.size A yss ∧ Below w.heap.size w w'

/-- Lists of lists, if there are. -/
def someNN (q : Bool) (yss : List (List Int)) : List (List Int) := if q = true then yss else []

theorem two_news (w : World) (a b : Int) : ∀ (j : Nat) (u : Value), [Value.slice (some ⟨w.heap.size, 0, none⟩) 2 2][j]? = some u →
    ((w.alloc (.cells #[.int .i64 a, .int .i64 b] 3)).alloc (.cells #[.slice (some ⟨w.heap.size, 0, none⟩) 2 2] 23)).cell? ((⟨w.heap.size + 1, 0, none⟩ : Addr).add j) = some u := by
  intro j u hj
  have := one_new (w.alloc (.cells #[.int .i64 a, .int .i64 b] 3)) (.slice (some ⟨w.heap.size, 0, none⟩) 2 2) 23 j u hj
  simpa using this

theorem only_small {bs : List (Int × Int × Int)} (h : goodT bs = true) : (pairsO bs).length ≤ 49 := by
  have h1 := upO_length bs bs.length bs.length
  have h2 := (goodT_at h).2.1
  have h3 : bs.length * bs.length ≤ 7 * 7 := Nat.mul_le_mul h2 h2
  unfold pairsO
  omega

theorem sums_two (xss : List (List Int)) (h : ∀ p ∈ xss, p.length = 2) (k : Nat) : sums xss k ≤ 2 * xss.length := by
  unfold sums
  have : ∀ l : List (List Int), (∀ p ∈ l, p.length = 2) → (l.map List.length).sum = 2 * l.length := by
    intro l
    induction l with
    | nil => intro _; rfl
    | cons x l ih =>
      intro hl
      simp only [List.map_cons, List.sum_cons, List.length_cons]
      rw [ih (fun p hp => hl p (List.mem_cons_of_mem _ hp)), hl x List.mem_cons_self]
      omega
  rw [this _ (fun p hp => h p (List.mem_of_mem_take hp)), List.length_take]
  omega


/-- A thing in a block stays where a row grows. -/
theorem ThgAt.grown {w w' : World} {g : Nat} {x y z : Int} {row : Option Nat} (h : ThgAt w g x y z) (hg : w.grownBy w' row) (hr : row ≠ some g) : ThgAt w' g x y z :=
  have hl := cell_lt h.1
  ⟨(World.cell?_of_block (hg.block g hl (fun e => hr e.symm))).trans h.1, (World.cell?_of_block (hg.block g hl (fun e => hr e.symm))).trans h.2.1, (World.cell?_of_block (hg.block g hl (fun e => hr e.symm))).trans h.2.2⟩

end Go.Proofs.Ytbgcacgcfldjnaa
