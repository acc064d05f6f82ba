/-
  The written program's boxes while they are filled, as they lie in memory; its looks at them.
  Conditions: at most nine things, each from 1 to 100; the room at most 1000.
-/
import Derived.Test.YtoheoojpmndhoaaMem
import Derived.Test.YtoheoojpmndhoaaAsked
namespace Go.Proofs.Ytoheoojpmndhoaa
set_option linter.unusedVariables false
open Go.RowKit

/-- Block 'Bo' holds the boxes 0, 1, .. with the loads 'ls', and has room for 'cap' boxes. -/
def Boxes (w : World) (Bo cap : Nat) (ls : List Int) : Prop :=
  ∃ cs : Array Value, w.heap[Bo]? = some (.cells cs 105 (0, 0)) ∧ cs.size = cap * 2 ∧ ∀ (i : Nat) (l : Int), ls[i]? = some l → cs[i * 2]? = some (.int .i64 (i : Int)) ∧ cs[i * 2 + 1]? = some (.int .i64 l)

/-- Block 'Bp' holds the numbers 'pl', and has room for 'cap'. -/
def Plan (w : World) (Bp cap : Nat) (pl : List Int) : Prop :=
  ∃ cs : Array Value, w.heap[Bp]? = some (.cells cs 3 (0, 0)) ∧ cs.size = cap ∧ ∀ (i : Nat) (b : Int), pl[i]? = some b → cs[i]? = some (.int .i64 b)

def five (Bo Bp cap : Nat) (room : Int) (ls pl : List Int) : List Value :=
  [.int .i64 (ls.length : Int), .int .i64 0, .int .i64 room, .slice (some ⟨Bo, 0, none⟩) ls.length cap, .slice (some ⟨Bp, 0, none⟩) pl.length cap]

/-- A packing at block 'P' (with cells 'rest' behind its own). -/
structure Pk (w : World) (P T Bo Bp cap : Nat) (room : Int) (ls pl : List Int) (rest : List Value) : Prop where
  self : w.heap[P]? = some (.cells ((five Bo Bp cap room ls pl ++ rest).toArray) T (0, 0))
  boxes : Boxes w Bo cap ls
  plan : Plan w Bp cap pl
  ne1 : P ≠ Bo
  ne2 : P ≠ Bp
  ne3 : Bo ≠ Bp
  len1 : ls.length ≤ cap
  len2 : pl.length ≤ cap
  cap9 : cap ≤ 9

section
variable {w w' : World} {P T Bo Bp cap : Nat} {room : Int} {ls pl : List Int} {rest : List Value}

theorem Boxes.lt (h : Boxes w Bo cap ls) : Bo < w.heap.size := by obtain ⟨cs, hb, _⟩ := h; exact heap_lt hb
theorem Plan.lt (h : Plan w Bp cap pl) : Bp < w.heap.size := by obtain ⟨cs, hb, _⟩ := h; exact heap_lt hb
theorem Boxes.keep (h : Boxes w Bo cap ls) (e : w'.heap[Bo]? = w.heap[Bo]?) : Boxes w' Bo cap ls := by obtain ⟨cs, hb, h2⟩ := h; exact ⟨cs, e.trans hb, h2⟩
theorem Plan.keep (h : Plan w Bp cap pl) (e : w'.heap[Bp]? = w.heap[Bp]?) : Plan w' Bp cap pl := by obtain ⟨cs, hb, h2⟩ := h; exact ⟨cs, e.trans hb, h2⟩

theorem Pk.keep (h : Pk w P T Bo Bp cap room ls pl rest) (e : ∀ b, b = P ∨ b = Bo ∨ b = Bp → w'.heap[b]? = w.heap[b]?) : Pk w' P T Bo Bp cap room ls pl rest :=
  ⟨(e P (.inl rfl)).trans h.self, h.boxes.keep (e Bo (.inr (.inl rfl))), h.plan.keep (e Bp (.inr (.inr rfl))), h.ne1, h.ne2, h.ne3, h.len1, h.len2, h.cap9⟩

theorem Pk.lt (h : Pk w P T Bo Bp cap room ls pl rest) : P < w.heap.size ∧ Bo < w.heap.size ∧ Bp < w.heap.size := ⟨heap_lt h.self, h.boxes.lt, h.plan.lt⟩

theorem Pk.below {B : Nat} (h : Pk w P T Bo Bp cap room ls pl rest) (hb : Below B w w') (h1 : P < B) (h2 : Bo < B) (h3 : Bp < B) : Pk w' P T Bo Bp cap room ls pl rest :=
  h.keep fun b hb' => hb.block b (by omega)

theorem Pk.belowAll (h : Pk w P T Bo Bp cap room ls pl rest) (hb : Below w.heap.size w w') : Pk w' P T Bo Bp cap room ls pl rest :=
  h.below hb h.lt.1 h.lt.2.1 h.lt.2.2

theorem Pk.cell (h : Pk w P T Bo Bp cap room ls pl rest) (i : Nat) :
    w.cell? ⟨P, i, none⟩ = (five Bo Bp cap room ls pl ++ rest)[i]? := by
  rw [cell_of_row w P i _ T (0, 0) h.self]
  simp

theorem Pk.frozen (h : Pk w P T Bo Bp cap room ls pl rest) (i : Nat) : w.frozen? ⟨P, i, none⟩ = false := by
  have hs := h.self
  simp [World.frozen?, hs]

theorem Pk.facts (h : Pk w P T Bo Bp cap room ls pl rest) :
    w.cell? ⟨P, 0, none⟩ = some (.int .i64 (ls.length : Int)) ∧ w.cell? ⟨P, 1, none⟩ = some (.int .i64 0) ∧ w.cell? ⟨P, 2, none⟩ = some (.int .i64 room) ∧
      w.cell? ⟨P, 3, none⟩ = some (.slice (some ⟨Bo, 0, none⟩) ls.length cap) ∧ w.cell? ⟨P, 4, none⟩ = some (.slice (some ⟨Bp, 0, none⟩) pl.length cap) :=
  ⟨h.cell 0, h.cell 1, h.cell 2, h.cell 3, h.cell 4⟩

theorem Boxes.at2 (h : Boxes w Bo cap ls) {i : Nat} {l : Int} (hi : ls[i]? = some l) : w.cell? ⟨Bo, i * 2, none⟩ = some (.int .i64 (i : Int)) ∧ w.cell? ⟨Bo, i * 2 + 1, none⟩ = some (.int .i64 l) := by
  obtain ⟨cs, hb, hs, hc⟩ := h
  rw [cell_of_row w Bo _ _ _ (0, 0) hb, cell_of_row w Bo _ _ _ (0, 0) hb]
  exact hc i l hi

theorem Pk.box (h : Pk w P T Bo Bp cap room ls pl rest) {i : Nat} {l : Int} (hi : ls[i]? = some l) : w.cell? ⟨Bo, i * 2, none⟩ = some (.int .i64 (i : Int)) ∧ w.cell? ⟨Bo, i * 2 + 1, none⟩ = some (.int .i64 l) := by
  obtain ⟨cs, hb, hs, hc⟩ := h.boxes
  rw [cell_of_row w Bo _ _ _ (0, 0) hb, cell_of_row w Bo _ _ _ (0, 0) hb]
  exact hc i l hi
end

/-- Box 'b', which may be the next one. -/
def cart (ls : List Int) (b : Nat) : Value := .agg #[.int .i64 (b : Int), .int .i64 (ls.getD b 0)]

theorem cart_at {ls : List Int} {b : Nat} {l : Int} (h : ls[b]? = some l) : cart ls b = .agg #[.int .i64 (b : Int), .int .i64 l] := by simp [cart, List.getD, h]
theorem cart_new (ls : List Int) : cart ls ls.length = .agg #[.int .i64 (ls.length : Int), .int .i64 0] := by simp [cart, List.getD]

/-- It names box 'b', and nothing that was there is written. -/
def Named (ls : List Int) (b : Nat) (w : World) (e : Ending) (w' : World) : Prop := e = .returned (cart ls b) ∧ Below w.heap.size w w'

set_option maxHeartbeats 400000 in
theorem fits_any (P T Bo Bp cap : Nat) (room : Int) (ls pl : List Int) (rest : List Value) (num load size : Int) (w : World) (h : Pk w P T Bo Bp cap room ls pl rest)
    (hl : 0 ≤ load ∧ load ≤ 1000) (hs : 0 ≤ size ∧ size ≤ 100) (b : Bool) (hb : decide (load + size ≤ room) = b) :
    Calls Try.prog 130 #[.pointer (some ⟨P, 0, none⟩), .agg #[.int .i64 num, .int .i64 load], .int .i64 size] w fun e w' => e = .returned (.bool b) ∧ Below w.heap.size w w' := by
  obtain ⟨f0, f1, f2, f3, f4⟩ := h.facts
  have hP := h.lt.1
  cases b
  all_goals
    go_enter Try.func130, Try.ntmps130
    go_wp2
    go_quiet (fail)
    go_outline
    go_wp2
    go_ret
    exact ⟨rfl, below_drewN ((Below.refl _ _).alloc (Nat.le_refl _) _) _⟩
end Go.Proofs.Ytoheoojpmndhoaa
