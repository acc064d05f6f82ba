/-
  Two rows of one call, numbers and bytes, that are written on; where a box comes.
  Conditions: none.
-/
import Derived.Test.YtgcljhgpihpfgaaLdM
import Derived.Test.YtgcljhgpihpfgaaAppU
import Derived.Test.YtgcljhgpihpfgaaAppendB
import Derived.Test.YtgcljhgpihpfgaaLdI
namespace Go.Proofs.Ytgcljhgpihpfgaa
set_option linter.unusedVariables false
open Go.RowKit

/-- The places so far and the boxes on top, each in a row of its own. -/
structure PlSt (w0 w : World) (ps : List Int) (A : Option Addr) (k c : Nat) (tops : List Int) (B : Option Addr) (m d : Nat) : Prop where
  below : Below w0.heap.size w0 w
  out : w.ownsRow w0.heap.size 3 1 (.slice A k c) k (ps.map (Value.int .i64))
  row : OwnU w w0.heap.size B m d tops
  apart : ∀ g, (Value.slice A k c).ownBlock = some g → (Value.slice B m d).ownBlock ≠ some g

section
variable {w0 w w3 : World} {ps tops : List Int} {A B A3 B3 : Option Addr} {k c m d c3 d3 : Nat}
theorem PlSt.drew (h : PlSt w0 w ps A k c tops B m d) : PlSt w0 w.drew ps A k c tops B m d := ⟨h.below.drew, h.out.drew, h.row.drew, h.apart⟩
theorem PlSt.alloc (h : PlSt w0 w ps A k c tops B m d) (o : Obj) : PlSt w0 (w.alloc o) ps A k c tops B m d := ⟨h.below.alloc h.below.size o, h.out.alloc o, h.row.alloc o, h.apart⟩
theorem PlSt.store {g : Nat} (h : PlSt w0 w ps A k c tops (some ⟨g, 0, none⟩) m d) (hb : w0.heap.size ≤ g) (j : Nat) (u : Int) : PlSt w0 (w.setCell ⟨g, j, none⟩ (.int .u8 u)) ps A k c (tops.set j u) (some ⟨g, 0, none⟩) m d :=
  ⟨h.below.setCell hb _, ownsRow_setCell_other h.out (fun e => h.apart g e rfl) _, h.row.set j u, h.apart⟩
theorem PlSt.place (h : PlSt w0 w ps A k c tops B m d) (x : Int) (ho : w3.ownsRow w0.heap.size 3 1 (.slice A3 (k + 1) c3) (k + 1) (ps.map (Value.int .i64) ++ [.int .i64 x]))
    (hg : w.grownBy w3 (Value.slice A k c).ownBlock) (hor : (Value.slice A3 (k + 1) c3).ownBlock = (Value.slice A k c).ownBlock ∨ (Value.slice A3 (k + 1) c3).ownBlock = some w.heap.size) :
    PlSt w0 w3 (ps ++ [x]) A3 (k + 1) c3 tops B m d := by
  refine ⟨h.below.grown hg h.below.size (fun g e => (h.out.lt g e).1), by rw [List.map_append]; exact ho, h.row.kept hg ?_, fun g e e2 => ?_⟩
  · rcases hB : (Value.slice B m d).ownBlock with _ | g
    · exact .inl rfl
    · exact .inr fun e => h.apart g e.symm hB
  · rcases hor with e3 | e3
    · exact h.apart g (e3.symm.trans e) e2
    · rw [e3] at e; injection e with e
      have := (h.row.lt g e2).2
      omega
theorem PlSt.top (h : PlSt w0 w ps A k c tops B m d) (x : Int) (ho : w3.ownsRow w0.heap.size 5 1 (.slice B3 (m + 1) d3) (m + 1) (tops.map (Value.int .u8) ++ [.int .u8 x]))
    (hg : w.grownBy w3 (Value.slice B m d).ownBlock) (hor : (Value.slice B3 (m + 1) d3).ownBlock = (Value.slice B m d).ownBlock ∨ (Value.slice B3 (m + 1) d3).ownBlock = some w.heap.size) :
    PlSt w0 w3 ps A k c (tops ++ [x]) B3 (m + 1) d3 := by
  refine ⟨h.below.grown hg h.below.size (fun g e => (h.row.lt g e).1), h.out.kept hg ?_, by unfold OwnU; rw [List.map_append]; exact ho, fun g e e2 => ?_⟩
  · rcases hA : (Value.slice A k c).ownBlock with _ | g
    · exact .inl rfl
    · exact .inr fun e => h.apart g hA e.symm
  · rcases hor with e3 | e3
    · exact h.apart g e (e3.symm.trans e2)
    · rw [e3] at e2; injection e2 with e2
      have := (h.out.lt g e).2
      omega
end

theorem fitP_lt {tops : List Int} {c : Int} {j : Nat} {u : Int} (hj : j < fitP tops c) (hu : tops[j]? = some u) : u < c := by
  have h := List.not_of_lt_findIdx hj
  obtain ⟨hl, he⟩ := List.getElem?_eq_some_iff.1 hu
  rw [he] at h
  simpa using h
theorem fitP_at {tops : List Int} {c : Int} {u : Int} (hu : tops[fitP tops c]? = some u) : c ≤ u := by
  obtain ⟨hl, he⟩ := List.getElem?_eq_some_iff.1 hu
  have h := List.findIdx_getElem (w := hl)
  unfold fitP at he
  rw [he] at h
  simpa using h
theorem plc_take {l : List Int} {k : Nat} {c : Int} (h : l[k]? = some c) : plcS (l.take (k + 1)) = (putP (plcS (l.take k)).1 (fitP (plcS (l.take k)).1 c) c, (plcS (l.take k)).2 ++ [((fitP (plcS (l.take k)).1 c : Nat) : Int)]) := by
  rw [List.take_add_one, h]
  exact plcS_snoc _ _
theorem put_same {tops : List Int} {k : Nat} (c x : Int) (h : tops.length = k) : (tops ++ [x]).set k c = tops ++ [c] := by
  apply List.ext_getElem?
  intro j
  by_cases e : j = k
  · subst e; rw [List.getElem?_set_self (by simp; omega), List.getElem?_append_right (by omega), h, Nat.sub_self]; rfl
  · rw [List.getElem?_set_ne (by omega)]
    rcases Nat.lt_or_ge j k with hlt | hge
    · rw [List.getElem?_append_left (by omega), List.getElem?_append_left (by omega)]
    · rw [List.getElem?_eq_none (by simp; omega), List.getElem?_eq_none (by simp; omega)]
end Go.Proofs.Ytgcljhgpihpfgaa
