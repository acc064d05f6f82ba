/-
  What is answered of the best exchange; no program is spoken of here.
  Conditions: lists of at most 1048576 items and numbers.
-/
import Derived.Test.YtjpejhpilfjheabSuQ
namespace Go.Proofs.Ytjpejhpilfjheab
set_option linter.unusedVariables false
open Go.RowKit

theorem chI_inc {ts : List (Int × Int × Int)} {W B : Int} {ks : List Int} (h : chI ts W B ks = true) : incI ts.length ks = true := by
  simp only [chI, Bool.and_eq_true] at h
  exact h.1

/-- What is answered: the item, the other one, and whether anything is gained. -/
def exA (ts : List (Int × Int × Int)) (W B : Int) (ks : List Int) : Bool := askI ts W B && chI ts W B ks
def exQ (ts : List (Int × Int × Int)) (W B : Int) (ks : List Int) : Bool := exA ts W B ks && decide (0 < (exOut ts W B ks ks.length).2.2)
def exU (ts : List (Int × Int × Int)) (W B : Int) (ks : List Int) : Int := if exA ts W B ks = true then (exOut ts W B ks ks.length).1 else 0
def exW (ts : List (Int × Int × Int)) (W B : Int) (ks : List Int) : Int := if exA ts W B ks = true then (exOut ts W B ks ks.length).2.1 else 0
theorem ex_no {ts : List (Int × Int × Int)} {W B : Int} {ks : List Int} (h : exA ts W B ks = false) : exQ ts W B ks = false ∧ exU ts W B ks = 0 ∧ exW ts W B ks = 0 := by
  simp [exQ, exU, exW, h]
theorem ex_yes {ts : List (Int × Int × Int)} {W B : Int} {ks : List Int} (h : exA ts W B ks = true) : exQ ts W B ks = decide (0 < (exOut ts W B ks ks.length).2.2) ∧ exU ts W B ks = (exOut ts W B ks ks.length).1 ∧ exW ts W B ks = (exOut ts W B ks ks.length).2.1 := by
  simp [exQ, exU, exW, h]
def RetX (u v : Int) (q : Bool) (w : World) (e : Ending) (w' : World) : Prop := e = .returned (.tuple #[.int .i64 u, .int .i64 v, .bool q]) ∧ Below w.heap.size w w'

end Go.Proofs.Ytjpejhpilfjheab
