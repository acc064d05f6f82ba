/-
  A van on a tour in memory: a box loaded, a box unloaded, a letter followed.
  Conditions: at most sixteen letters.
-/
import Derived.Test.YtgcljhgpihpfgabTrC
import Derived.OneCell
namespace Go.Proofs.Ytgcljhgpihpfgab
set_option linter.unusedVariables false
open Go.RowKit

/-- What a step keeps of the blocks that were there. -/
structure Keep (S : Nat → Prop) (n : Nat) (w w' : World) : Prop where
  os : w'.os = w.os
  tape : w'.tape = w.tape
  output : w'.output = w.output
  size : w.heap.size ≤ w'.heap.size
  block : ∀ k, k < n → ¬ S k → w'.heap[k]? = w.heap[k]?
theorem Only.trans_of {S : Nat → Prop} {w w' w2 : World} (h : Only S w w') (k : Keep S w.heap.size w' w2) : Only S w w2 :=
  ⟨k.os.trans h.os, k.tape.trans h.tape, k.output.trans h.output, Nat.le_trans h.size k.size, fun i hi hs => (k.block i hi hs).trans (h.block i hi hs)⟩
theorem Only.setNew {S : Nat → Prop} {w w' : World} (h : Only S w w') {p : Addr} (hp : S p.block ∨ w.heap.size ≤ p.block) (u : Value) : Only S w (w'.setCell p u) :=
  h.trans_of ⟨rfl, rfl, rfl, by simp [World.setCell], fun k hk hs => Below.heap_setCell _ _ _ _ (fun e => by rcases hp with hp | hp; exact hs (e ▸ hp); omega)⟩
theorem Only.grew {S : Nat → Prop} {w w' w2 : World} (h : Only S w w') {row : Option Nat} (hg : w'.grownBy w2 row) (hr : ∀ g, row = some g → S g ∨ w.heap.size ≤ g) : Only S w w2 :=
  h.trans_of ⟨hg.os, hg.tape, hg.output, hg.size, fun k hk hs => hg.block k (by have := h.size; omega) (fun e => by rcases hr k e.symm with h | h; exact hs h; omega)⟩
theorem OwnU.block {w : World} {base : Nat} {A : Option Addr} {n c : Nat} {xs : List Int} (h : OwnU w base A n c xs) {g : Nat} (hg : (Value.slice A n c).ownBlock = some g) : A = some ⟨g, 0, none⟩ := by
  rcases id h.2 with ⟨h', hn⟩ | ⟨g', cap, cur, h', hb, hg', hnc, _⟩
  · injection h' with h1; subst h1; cases hg
  · injection h' with h1; subst h1; injection hg with hg; have hg : g' = g := hg; rw [hg]

/-- The van's struct and its two rows, each in memory of its own. -/
structure TripW (w : World) (P base : Nat) (t : Trip) (A : Option Addr) (n c : Nat) (B : Option Addr) (m d : Nat) : Prop where
  self : w.heap[P]? = some (.cells #[.slice A n c, .slice B m d, .int .i64 t.full, .bool t.blk] 37 (0, 0))
  ld : OwnU w base A n c t.ld
  op : OwnU w base B m d t.op
  ap1 : ∀ g, A = some ⟨g, 0, none⟩ → g ≠ P
  ap2 : ∀ g, B = some ⟨g, 0, none⟩ → g ≠ P
  ap : ∀ g, A = some ⟨g, 0, none⟩ → B ≠ some ⟨g, 0, none⟩
/-- The blocks that may turn. -/
def TripS (P : Nat) (A B : Option Addr) (b : Nat) : Prop := b = P ∨ A = some ⟨b, 0, none⟩ ∨ B = some ⟨b, 0, none⟩
/-- A row lies where it lay, or in new memory. -/
def Lay_ (w : World) (A A' : Option Addr) : Prop := A' = A ∨ ∃ g, A' = some ⟨g, 0, none⟩ ∧ w.heap.size ≤ g

section
variable {w w3 : World} {P base n c m d c3 d3 : Nat} {t : Trip} {A B A3 B3 : Option Addr}
theorem TripW.lt (h : TripW w P base t A n c B m d) : P < w.heap.size := heap_lt h.self
theorem OwnU.lt_ {w : World} {base : Nat} {A : Option Addr} {n c : Nat} {xs : List Int} (h : OwnU w base A n c xs) {g : Nat} (hA : A = some ⟨g, 0, none⟩) : base ≤ g ∧ g < w.heap.size := World.ownsRow.lt h g (by rw [hA]; rfl)

/-- A box more is told as loaded. -/
theorem TripW.told (h : TripW w P base t A n c B m d) (x : Int) (hown3 : w3.ownsRow base 5 1 (.slice A3 (n + 1) c3) (n + 1) (t.ld.map (Value.int .u8) ++ [.int .u8 x]))
    (hgr3 : (w.alloc (.cells #[.int .u8 x] 5)).grownBy w3 (Value.slice A n c).ownBlock)
    (hor3 : (Value.slice A3 (n + 1) c3).ownBlock = (Value.slice A n c).ownBlock ∨ (Value.slice A3 (n + 1) c3).ownBlock = some (w.alloc (.cells #[.int .u8 x] 5)).heap.size) :
    TripW (w3.setCell ⟨P, 0, none⟩ (.slice A3 (n + 1) c3)) P base ⟨t.ld ++ [x], t.op, t.full, t.blk⟩ A3 (n + 1) c3 B m d ∧
      Only (TripS P A B) w (w3.setCell ⟨P, 0, none⟩ (.slice A3 (n + 1) c3)) ∧ Lay_ w A A3 := by
  have hP := h.lt
  have hl := h.ld.len
  have hown : OwnU w3 base A3 (n + 1) c3 (t.ld ++ [x]) := by unfold OwnU; rw [List.map_append]; exact hown3
  obtain ⟨g3, rfl, hbg, hlt, _⟩ := hown.at_ (j := n) (u := x) (by rw [List.getElem?_append_right (by omega), hl, Nat.sub_self]; rfl)
  have hne : some P ≠ (Value.slice A n c).ownBlock := fun e => h.ap1 P (h.ld.block e.symm) rfl
  have hg3 : A = some ⟨g3, 0, none⟩ ∨ w.heap.size ≤ g3 := by
    rcases hor3 with e | e
    · exact .inl (h.ld.block e.symm)
    · injection e with e
      have e : g3 = _ := e
      simp at e
      right; omega
  have hgP : g3 ≠ P := by
    rcases hg3 with e | e
    · exact h.ap1 _ e
    · omega
  have hself : w3.heap[P]? = some (.cells #[.slice A n c, .slice B m d, .int .i64 t.full, .bool t.blk] 37 (0, 0)) := (hgr3.block P (by simp; omega) hne).trans ((alloc_old w hP _).trans h.self)
  have hop : OwnU w3 base B m d t.op := by
    refine World.ownsRow.kept (h.op.alloc _) hgr3 ?_
    rcases hB : (Value.slice B m d).ownBlock with _ | g
    · exact .inl rfl
    · exact .inr fun e => h.ap g (h.ld.block e.symm) (h.op.block hB)
  refine ⟨⟨?_, ?_, ?_, ?_, h.ap2, ?_⟩, ?_, ?_⟩
  · rw [set_self hself]; rfl
  · exact ownsRow_setCell_other hown (fun e => hgP (by injection e)) _
  · exact ownsRow_setCell_other hop (fun e => h.ap2 P (h.op.block e) rfl) _
  · intro g e; injection e with e; injection e with e; rw [← e]; exact hgP
  · intro g e e2
    injection e with e; injection e with e
    subst e
    rcases hg3 with e3 | e3
    · exact h.ap _ e3 e2
    · have := (h.op.lt_ e2).2; omega
  · refine Only.setCell ?_ (.inl rfl) _
    exact Only.grew ((Only.refl _ _).alloc _) hgr3 fun g e => .inl (.inr (.inl (h.ld.block e)))
  · rcases hg3 with e | e
    · exact .inl e.symm
    · exact .inr ⟨g3, rfl, e⟩
/-- A box more is in the van. -/
theorem TripW.opened (h : TripW w P base t A n c B m d) (x : Int) (hown3 : w3.ownsRow base 5 1 (.slice B3 (m + 1) d3) (m + 1) (t.op.map (Value.int .u8) ++ [.int .u8 x]))
    (hgr3 : (w.alloc (.cells #[.int .u8 x] 5)).grownBy w3 (Value.slice B m d).ownBlock)
    (hor3 : (Value.slice B3 (m + 1) d3).ownBlock = (Value.slice B m d).ownBlock ∨ (Value.slice B3 (m + 1) d3).ownBlock = some (w.alloc (.cells #[.int .u8 x] 5)).heap.size) :
    TripW (w3.setCell ⟨P, 1, none⟩ (.slice B3 (m + 1) d3)) P base ⟨t.ld, t.op ++ [x], t.full, t.blk⟩ A n c B3 (m + 1) d3 ∧
      Only (TripS P A B) w (w3.setCell ⟨P, 1, none⟩ (.slice B3 (m + 1) d3)) ∧ Lay_ w B B3 := by
  have hP := h.lt
  have hl := h.op.len
  have hown : OwnU w3 base B3 (m + 1) d3 (t.op ++ [x]) := by unfold OwnU; rw [List.map_append]; exact hown3
  obtain ⟨g3, rfl, hbg, hlt, _⟩ := hown.at_ (j := m) (u := x) (by rw [List.getElem?_append_right (by omega), hl, Nat.sub_self]; rfl)
  have hne : some P ≠ (Value.slice B m d).ownBlock := fun e => h.ap2 P (h.op.block e.symm) rfl
  have hg3 : B = some ⟨g3, 0, none⟩ ∨ w.heap.size ≤ g3 := by
    rcases hor3 with e | e
    · exact .inl (h.op.block e.symm)
    · injection e with e
      have e : g3 = _ := e
      simp at e
      right; omega
  have hgP : g3 ≠ P := by
    rcases hg3 with e | e
    · exact h.ap2 _ e
    · omega
  have hself : w3.heap[P]? = some (.cells #[.slice A n c, .slice B m d, .int .i64 t.full, .bool t.blk] 37 (0, 0)) := (hgr3.block P (by simp; omega) hne).trans ((alloc_old w hP _).trans h.self)
  have hld : OwnU w3 base A n c t.ld := by
    refine World.ownsRow.kept (h.ld.alloc _) hgr3 ?_
    rcases hA : (Value.slice A n c).ownBlock with _ | g
    · exact .inl rfl
    · exact .inr fun e => h.ap g (h.ld.block hA) (h.op.block e.symm)
  refine ⟨⟨?_, ?_, ?_, h.ap1, ?_, ?_⟩, ?_, ?_⟩
  · rw [set_self hself]; rfl
  · exact ownsRow_setCell_other hld (fun e => h.ap1 P (h.ld.block e) rfl) _
  · exact ownsRow_setCell_other hown (fun e => hgP (by injection e)) _
  · intro g e; injection e with e; injection e with e; rw [← e]; exact hgP
  · intro g e e2
    injection e2 with e2; injection e2 with e2
    subst e2
    rcases hg3 with e3 | e3
    · exact h.ap _ e e3
    · have := (h.ld.lt_ e).2; omega
  · refine Only.setCell ?_ (.inl rfl) _
    exact Only.grew ((Only.refl _ _).alloc _) hgr3 fun g e => .inl (.inr (.inr (h.op.block e)))
  · rcases hg3 with e | e
    · exact .inl e.symm
    · exact .inr ⟨g3, rfl, e⟩
theorem TripW.filled (h : TripW w P base t A n c B m d) (f : Int) : TripW (w.setCell ⟨P, 2, none⟩ (.int .i64 f)) P base ⟨t.ld, t.op, f, t.blk⟩ A n c B m d :=
  ⟨by rw [set_self h.self]; rfl, ownsRow_setCell_other h.ld (fun e => h.ap1 P (h.ld.block e) rfl) _, ownsRow_setCell_other h.op (fun e => h.ap2 P (h.op.block e) rfl) _, h.ap1, h.ap2, h.ap⟩
theorem TripW.blocked (h : TripW w P base t A n c B m d) : TripW (w.setCell ⟨P, 3, none⟩ (.bool true)) P base ⟨t.ld, t.op, t.full, true⟩ A n c B m d :=
  ⟨by rw [set_self h.self]; rfl, ownsRow_setCell_other h.ld (fun e => h.ap1 P (h.ld.block e) rfl) _, ownsRow_setCell_other h.op (fun e => h.ap2 P (h.op.block e) rfl) _, h.ap1, h.ap2, h.ap⟩
theorem TripW.drew (h : TripW w P base t A n c B m d) : TripW w.drew P base t A n c B m d := ⟨h.self, h.ld, h.op, h.ap1, h.ap2, h.ap⟩
theorem TripW.cells (h : TripW w P base t A n c B m d) : w.cell? ⟨P, 0, none⟩ = some (.slice A n c) ∧ w.cell? ⟨P, 1, none⟩ = some (.slice B m d) ∧ w.cell? ⟨P, 2, none⟩ = some (.int .i64 t.full) ∧ w.cell? ⟨P, 3, none⟩ = some (.bool t.blk) := by
  refine ⟨?_, ?_, ?_, ?_⟩ <;> rw [cell_of h.self] <;> rfl
theorem TripW.free (h : TripW w P base t A n c B m d) (i : Nat) : w.frozen? ⟨P, i, none⟩ = false := frozen_of h.self i
/-- A box is taken out. -/
theorem TripW.out (h : TripW w P base t A n c (some ⟨d3, 0, none⟩) m d) (i : Nat) (hr : OwnU w3 base (some ⟨d3, 0, none⟩) (m - 1) d (t.op.eraseIdx i)) (ho : Only (fun b => b = d3) w w3) :
    TripW (w3.setCell ⟨P, 1, none⟩ (.slice (some ⟨d3, 0, none⟩) (m - 1) d)) P base ⟨t.ld, t.op.eraseIdx i, t.full, t.blk⟩ A n c (some ⟨d3, 0, none⟩) (m - 1) d ∧
      Only (TripS P A (some ⟨d3, 0, none⟩)) w (w3.setCell ⟨P, 1, none⟩ (.slice (some ⟨d3, 0, none⟩) (m - 1) d)) := by
  have hP := h.lt
  have hdP : d3 ≠ P := h.ap2 _ rfl
  have hself : w3.heap[P]? = some (.cells #[.slice A n c, .slice (some ⟨d3, 0, none⟩) m d, .int .i64 t.full, .bool t.blk] 37 (0, 0)) := (ho.block P hP (fun e => hdP e.symm)).trans h.self
  have hld := h.ld.only ho fun g e e2 => h.ap g e (by rw [e2])
  refine ⟨⟨?_, ?_, ?_, h.ap1, h.ap2, h.ap⟩, ?_⟩
  · rw [set_self hself]; rfl
  · exact ownsRow_setCell_other hld (fun e => h.ap1 P (h.ld.block e) rfl) _
  · exact ownsRow_setCell_other hr (fun e => hdP (by injection e)) _
  · exact Only.setCell (ho.mono fun k hk => .inr (.inr (by rw [hk]))) (.inl rfl) _
end
end Go.Proofs.Ytgcljhgpihpfgab
