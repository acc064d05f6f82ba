/-
  The written program's boxes while they are filled, as they lie in memory; its looks at them.
  Conditions: at most nine things, each from 1 to 100; the room at most 1000.
-/
import Derived.Test.YtjnfaikcimlkdabArr
import Derived.Test.YtjnfaikcimlkdabAsked
namespace Go.Proofs.Ytjnfaikcimlkdab
set_option linter.unusedVariables false
open Go.RowKit

/-- Of what was there only blocks of 'S' may have turned. -/
structure Only (S : Nat → Prop) (w w' : World) : Prop where
  os : w'.os = w.os
  tape : w'.tape = w.tape
  output : w'.output = w.output
  size : w.heap.size ≤ w'.heap.size
  block : ∀ k, k < w.heap.size → ¬ S k → w'.heap[k]? = w.heap[k]?

section
variable {S : Nat → Prop} {w w' w2 : World}
theorem Only.refl (S : Nat → Prop) (w : World) : Only S w w := ⟨rfl, rfl, rfl, Nat.le_refl _, fun _ _ _ => rfl⟩
theorem Only.trans (h : Only S w w') (k : Only S w' w2) : Only S w w2 :=
  ⟨k.os.trans h.os, k.tape.trans h.tape, k.output.trans h.output, Nat.le_trans h.size k.size, fun i hi hs => (k.block i (Nat.lt_of_lt_of_le hi h.size) hs).trans (h.block i hi hs)⟩
theorem Only.drew (h : Only S w w') : Only S w w'.drew := ⟨h.os, h.tape, h.output, h.size, h.block⟩
theorem Only.drewN (h : Only S w w') (n : Nat) : Only S w (w'.drewN n) := ⟨h.os, h.tape, h.output, h.size, h.block⟩
theorem Only.alloc (h : Only S w w') (o : Obj) : Only S w (w'.alloc o) :=
  h.trans ⟨rfl, rfl, rfl, by simp, fun k hk _ => Below.heap_alloc _ _ _ hk⟩
theorem Only.setCell (h : Only S w w') {p : Addr} (hp : S p.block) (u : Value) : Only S w (w'.setCell p u) :=
  h.trans ⟨rfl, rfl, rfl, by simp [World.setCell], fun k _ hs => Below.heap_setCell _ _ _ _ (fun e => hs (e ▸ hp))⟩
theorem Only.of_below {B : Nat} (h : Below B w w') (hB : w.heap.size ≤ B) : Only S w w' := ⟨h.os, h.tape, h.output, h.size, fun k hk _ => h.block k (by omega)⟩
theorem Only.below (h : Only S w w') {B : Nat} (hB : B ≤ w.heap.size) (hS : ∀ k, S k → B ≤ k) : Below B w w' := ⟨h.os, h.tape, h.output, h.size, fun k hk => h.block k (by omega) (fun hs => by have := hS k hs; omega)⟩
theorem Only.mono {S' : Nat → Prop} (h : Only S w w') (hS : ∀ k, S k → S' k) : Only S' w w' := ⟨h.os, h.tape, h.output, h.size, fun k hk hs => h.block k hk (fun h' => hs (hS k h'))⟩
end

theorem Seg.only {S : Nat → Prop} {w w' : World} {lo hi : Nat} {A : Option Addr} {xs : List Int} (h : Seg w lo hi A xs) (ho : Only S w w') (hB : hi ≤ w.heap.size) (hr : ∀ g, S g → g < lo ∨ hi ≤ g) : Seg w' lo hi A xs :=
  h.keep fun p h1 h2 => World.cell?_of_block (ho.block p.block (by omega) (fun e => by have := hr _ e; omega))
theorem Own.only {S : Nat → Prop} {w w' : World} {lo hi : Nat} {A : Option Addr} {xs : List Int} (h : Own w lo hi A xs) (ho : Only S w w') (hB : hi ≤ w.heap.size) (hr : ∀ g, S g → g < lo ∨ hi ≤ g) : Own w' lo hi A xs :=
  h.keep fun b h1 h2 => ho.block b (by omega) (fun e => by have := hr _ e; omega)

/-- Block 'Bo' holds the boxes 0, 1, .. with the loads 'ls', and has room for 'cap' boxes. -/
def Boxes (w : World) (Bo cap : Nat) (ls : List Int) : Prop :=
  ∃ cs : Array Value, w.heap[Bo]? = some (.cells cs 38 (0, 0)) ∧ cs.size = cap * 2 ∧ ∀ (i : Nat) (l : Int), ls[i]? = some l → cs[i * 2]? = some (.int .i64 (i : Int)) ∧ cs[i * 2 + 1]? = some (.int .i64 l)

/-- Block 'Bp' holds the numbers 'pl', and has room for 'cap'. -/
def Plan (w : World) (Bp cap : Nat) (pl : List Int) : Prop :=
  ∃ cs : Array Value, w.heap[Bp]? = some (.cells cs 3 (0, 0)) ∧ cs.size = cap ∧ ∀ (i : Nat) (b : Int), pl[i]? = some b → cs[i]? = some (.int .i64 b)

def five (Bo Bp cap : Nat) (room : Int) (ls pl : List Int) : List Value :=
  [.int .i64 (ls.length : Int), .int .i64 0, .int .i64 room, .slice (some ⟨Bo, 0, none⟩) ls.length cap, .slice (some ⟨Bp, 0, none⟩) pl.length cap]

/-- A packing at block 'P' (with cells 'rest' behind its own). -/
structure Pk (w : World) (P T Bo Bp cap : Nat) (room : Int) (ls pl : List Int) (rest : List Value) : Prop where
  self : w.heap[P]? = some (.cells ((five Bo Bp cap room ls pl ++ rest).toArray) T (0, 0))
  boxes : Boxes w Bo cap ls
  plan : Plan w Bp cap pl
  ne1 : P ≠ Bo
  ne2 : P ≠ Bp
  ne3 : Bo ≠ Bp
  len1 : ls.length ≤ cap
  len2 : pl.length ≤ cap
  cap9 : cap ≤ 9

theorem ops_at {l : List Oper} {i : Nat} {o : Oper} (h : l[i]? = some o) : l.toArray[i]? = some o := by simpa using h

theorem heap_lt {w : World} {g : Nat} {o : Obj} (h : w.heap[g]? = some o) : g < w.heap.size := by
  rcases Nat.lt_or_ge g w.heap.size with hlt | hge
  · exact hlt
  · rw [Array.getElem?_eq_none hge] at h; cases h

section
variable {w w' : World} {P T Bo Bp cap : Nat} {room : Int} {ls pl : List Int} {rest : List Value}

theorem Boxes.lt (h : Boxes w Bo cap ls) : Bo < w.heap.size := by obtain ⟨cs, hb, _⟩ := h; exact heap_lt hb
theorem Plan.lt (h : Plan w Bp cap pl) : Bp < w.heap.size := by obtain ⟨cs, hb, _⟩ := h; exact heap_lt hb
theorem Boxes.keep (h : Boxes w Bo cap ls) (e : w'.heap[Bo]? = w.heap[Bo]?) : Boxes w' Bo cap ls := by obtain ⟨cs, hb, h2⟩ := h; exact ⟨cs, e.trans hb, h2⟩
theorem Plan.keep (h : Plan w Bp cap pl) (e : w'.heap[Bp]? = w.heap[Bp]?) : Plan w' Bp cap pl := by obtain ⟨cs, hb, h2⟩ := h; exact ⟨cs, e.trans hb, h2⟩

theorem Pk.keep (h : Pk w P T Bo Bp cap room ls pl rest) (e : ∀ b, b = P ∨ b = Bo ∨ b = Bp → w'.heap[b]? = w.heap[b]?) : Pk w' P T Bo Bp cap room ls pl rest :=
  ⟨(e P (.inl rfl)).trans h.self, h.boxes.keep (e Bo (.inr (.inl rfl))), h.plan.keep (e Bp (.inr (.inr rfl))), h.ne1, h.ne2, h.ne3, h.len1, h.len2, h.cap9⟩

theorem Pk.lt (h : Pk w P T Bo Bp cap room ls pl rest) : P < w.heap.size ∧ Bo < w.heap.size ∧ Bp < w.heap.size := ⟨heap_lt h.self, h.boxes.lt, h.plan.lt⟩

theorem Pk.below {B : Nat} (h : Pk w P T Bo Bp cap room ls pl rest) (hb : Below B w w') (h1 : P < B) (h2 : Bo < B) (h3 : Bp < B) : Pk w' P T Bo Bp cap room ls pl rest :=
  h.keep fun b hb' => hb.block b (by omega)

theorem Pk.belowAll (h : Pk w P T Bo Bp cap room ls pl rest) (hb : Below w.heap.size w w') : Pk w' P T Bo Bp cap room ls pl rest :=
  h.below hb h.lt.1 h.lt.2.1 h.lt.2.2

theorem Pk.cell (h : Pk w P T Bo Bp cap room ls pl rest) (i : Nat) :
    w.cell? ⟨P, i, none⟩ = (five Bo Bp cap room ls pl ++ rest)[i]? := by
  rw [cell_of_row w P i _ T (0, 0) h.self]
  simp

theorem Pk.frozen (h : Pk w P T Bo Bp cap room ls pl rest) (i : Nat) : w.frozen? ⟨P, i, none⟩ = false := by
  have hs := h.self
  simp [World.frozen?, hs]

theorem Pk.facts (h : Pk w P T Bo Bp cap room ls pl rest) :
    w.cell? ⟨P, 0, none⟩ = some (.int .i64 (ls.length : Int)) ∧ w.cell? ⟨P, 1, none⟩ = some (.int .i64 0) ∧ w.cell? ⟨P, 2, none⟩ = some (.int .i64 room) ∧
      w.cell? ⟨P, 3, none⟩ = some (.slice (some ⟨Bo, 0, none⟩) ls.length cap) ∧ w.cell? ⟨P, 4, none⟩ = some (.slice (some ⟨Bp, 0, none⟩) pl.length cap) :=
  ⟨h.cell 0, h.cell 1, h.cell 2, h.cell 3, h.cell 4⟩

theorem Boxes.at2 (h : Boxes w Bo cap ls) {i : Nat} {l : Int} (hi : ls[i]? = some l) : w.cell? ⟨Bo, i * 2, none⟩ = some (.int .i64 (i : Int)) ∧ w.cell? ⟨Bo, i * 2 + 1, none⟩ = some (.int .i64 l) := by
  obtain ⟨cs, hb, hs, hc⟩ := h
  rw [cell_of_row w Bo _ _ _ (0, 0) hb, cell_of_row w Bo _ _ _ (0, 0) hb]
  exact hc i l hi

theorem Pk.box (h : Pk w P T Bo Bp cap room ls pl rest) {i : Nat} {l : Int} (hi : ls[i]? = some l) : w.cell? ⟨Bo, i * 2, none⟩ = some (.int .i64 (i : Int)) ∧ w.cell? ⟨Bo, i * 2 + 1, none⟩ = some (.int .i64 l) := by
  obtain ⟨cs, hb, hs, hc⟩ := h.boxes
  rw [cell_of_row w Bo _ _ _ (0, 0) hb, cell_of_row w Bo _ _ _ (0, 0) hb]
  exact hc i l hi
end

/-- A block that the call has made, behind whatever came since. -/
theorem new_cells {w w1 : World} {cs : Array Value} {T : Nat} (hb : Below (w.alloc (.cells cs T)).heap.size (w.alloc (.cells cs T)) w1) : w1.heap[w.heap.size]? = some (.cells cs T (0, 0)) := by
  rw [hb.block w.heap.size (by simp)]
  exact heap_alloc_new w _

theorem cell_of {w : World} {g : Nat} {cs : Array Value} {T : Nat} (h : w.heap[g]? = some (.cells cs T (0, 0))) (i : Nat) : w.cell? ⟨g, i, none⟩ = cs[i]? := cell_of_row w g i cs T (0, 0) h
theorem frozen_of {w : World} {g : Nat} {cs : Array Value} {T : Nat} (h : w.heap[g]? = some (.cells cs T (0, 0))) (i : Nat) : w.frozen? ⟨g, i, none⟩ = false := by simp [World.frozen?, h]

/-- Behind a call in a round that first made a block: what was there, the block of the result, the new block. -/
theorem after_call {w wr w1 : World} {o : Obj} {cs : Array Value} {T : Nat} (hb : Below w.heap.size w wr) (hn : wr.heap[w.heap.size]? = some o)
    (hb1 : Below (wr.alloc (.cells cs T)).heap.size (wr.alloc (.cells cs T)) w1) :
    Below w.heap.size w w1 ∧ w1.heap[w.heap.size]? = some o ∧ w1.heap[wr.heap.size]? = some (.cells cs T (0, 0)) ∧ wr.heap.size < w1.heap.size := by
  have hlt := heap_lt hn
  have hs := hb1.size
  simp at hs
  refine ⟨(hb.alloc (by omega) _).trans (hb1.mono (by simp; omega)), ?_, new_cells hb1, by omega⟩
  rw [hb1.block w.heap.size (by simp; omega), Below.heap_alloc _ _ _ hlt]
  exact hn

theorem undrew {B : Nat} {w w1 : World} (h : Below B w.drew w1) : Below B w w1 := ⟨h.os, h.tape, h.output, h.size, h.block⟩

theorem after_call2 {w wr w1 : World} {o o2 : Obj} {cs : Array Value} {T : Nat} (hb : Below w.heap.size w wr) (hn : wr.heap[w.heap.size]? = some o) (hn2 : wr.heap[w.heap.size + 1]? = some o2)
    (hb1 : Below (wr.alloc (.cells cs T)).heap.size (wr.alloc (.cells cs T)) w1) :
    Below w.heap.size w w1 ∧ w1.heap[w.heap.size]? = some o ∧ w1.heap[w.heap.size + 1]? = some o2 ∧ w1.heap[wr.heap.size]? = some (.cells cs T (0, 0)) ∧ wr.heap.size < w1.heap.size := by
  obtain ⟨a, b, c, d⟩ := after_call hb hn hb1
  have hlt := heap_lt hn2
  refine ⟨a, b, ?_, c, d⟩
  rw [hb1.block _ (by simp; omega), Below.heap_alloc _ _ _ hlt]
  exact hn2

theorem new_at (w : World) (o : Obj) {g : Nat} (h : g = w.heap.size) : (w.alloc o).heap[g]? = some o := by
  subst h
  exact heap_alloc_new w o
theorem alloc_old (w : World) {g : Nat} (h : g < w.heap.size) (o : Obj) : (w.alloc o).heap[g]? = w.heap[g]? := Below.heap_alloc w o g h

theorem set_self {w : World} {g : Nat} {cs : Array Value} {T : Nat} (h : w.heap[g]? = some (.cells cs T (0, 0))) (i : Nat) (u : Value) : (w.setCell ⟨g, i, none⟩ u).heap[g]? = some (.cells (cs.setIfInBounds i u) T (0, 0)) := by
  simp [World.setCell, Array.getElem?_modify, h]
theorem set_far (w : World) {g : Nat} {p : Addr} (hp : g ≠ p.block) (u : Value) : (w.setCell p u).heap[g]? = w.heap[g]? := Below.heap_setCell w p u g hp

/-- Box 'b', which may be the next one. -/
def cart (ls : List Int) (b : Nat) : Value := .agg #[.int .i64 (b : Int), .int .i64 (ls.getD b 0)]

theorem cart_at {ls : List Int} {b : Nat} {l : Int} (h : ls[b]? = some l) : cart ls b = .agg #[.int .i64 (b : Int), .int .i64 l] := by simp [cart, List.getD, h]
theorem cart_new (ls : List Int) : cart ls ls.length = .agg #[.int .i64 (ls.length : Int), .int .i64 0] := by simp [cart, List.getD]

/-- It names box 'b', and nothing that was there is written. -/
def Named (ls : List Int) (b : Nat) (w : World) (e : Ending) (w' : World) : Prop := e = .returned (cart ls b) ∧ Below w.heap.size w w'

set_option maxHeartbeats 400000 in
theorem fits_any (P T Bo Bp cap : Nat) (room : Int) (ls pl : List Int) (rest : List Value) (num load size : Int) (w : World) (h : Pk w P T Bo Bp cap room ls pl rest)
    (hl : 0 ≤ load ∧ load ≤ 1000) (hs : 0 ≤ size ∧ size ≤ 100) (b : Bool) (hb : decide (load + size ≤ room) = b) :
    Calls Try.prog 50 #[.pointer (some ⟨P, 0, none⟩), .agg #[.int .i64 num, .int .i64 load], .int .i64 size] w fun e w' => e = .returned (.bool b) ∧ Below w.heap.size w w' := by
  obtain ⟨f0, f1, f2, f3, f4⟩ := h.facts
  have hP := h.lt.1
  cases b
  all_goals
    go_enter Try.func50, Try.ntmps50
    go_wp2
    go_quiet (fail)
    go_outline
    go_wp2
    go_ret
    exact ⟨rfl, below_drewN ((Below.refl _ _).alloc (Nat.le_refl _) _) _⟩
end Go.Proofs.Ytjnfaikcimlkdab
