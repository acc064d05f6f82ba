/-
  A rule over an order of indices is the rule over the sizes in that order, its boxes put back by the order; no program is spoken of here.
  Conditions: none.
-/
import Derived.Test.YtkconbcmbpmghabFollM
namespace Go.Proofs.Ytkconbcmbpmghab
set_option linter.unusedVariables false

/-- Boxes put where an order says. -/
def putL : List Nat → List Int → List Int → List Int
  | i :: is, b :: bs, pl => putL is bs (pl.set i b)
  | _, _, pl => pl

/-- The sizes in an order. -/
def sizesL (xs : List Int) (is : List Nat) : List Int := is.map fun i => xs.getD i 0

theorem run_shift (rule room : Int) (ys : List Int) : ∀ (ls pl : List Int), run rule room ys (ls, pl) = ((run rule room ys (ls, [])).1, pl ++ (run rule room ys (ls, [])).2) := by
  induction ys with
  | nil => intro ls pl; simp [run]
  | cons y ys ih =>
    intro ls pl
    simp only [run]
    rw [ih _ (pl ++ _), ih _ ([] ++ _)]
    simp

theorem runOrd_put (rule room : Int) (xs : List Int) (is : List Nat) : ∀ (ls pl : List Int),
    runOrd rule room xs is (ls, pl) = ((run rule room (sizesL xs is) (ls, [])).1, putL is (run rule room (sizesL xs is) (ls, [])).2 pl) := by
  induction is with
  | nil => intro ls pl; rfl
  | cons i is ih =>
    intro ls pl
    have e : sizesL xs (i :: is) = xs.getD i 0 :: sizesL xs is := rfl
    rw [e]
    simp only [run, runOrd]
    rw [ih, run_shift rule room (sizesL xs is) _ ([] ++ _)]
    rfl

theorem putL_length (is : List Nat) : ∀ (bs pl : List Int), (putL is bs pl).length = pl.length := by
  induction is with
  | nil => intro bs pl; cases bs <;> rfl
  | cons i is ih =>
    intro bs pl
    cases bs with
    | nil => rfl
    | cons b bs => rw [putL, ih, List.length_set]

/-- One more is put. -/
theorem putL_snoc (is : List Nat) : ∀ (bs pl : List Int) (i : Nat) (b : Int), is.length = bs.length → putL (is ++ [i]) (bs ++ [b]) pl = (putL is bs pl).set i b := by
  induction is with
  | nil =>
    intro bs pl i b h
    cases bs with
    | nil => rfl
    | cons b bs => simp at h
  | cons k is ih =>
    intro bs pl i b h
    cases bs with
    | nil => simp at h
    | cons c bs =>
      rw [List.cons_append, List.cons_append, putL, putL]
      exact ih bs _ i b (by simpa using h)

theorem putL_step {is : List Nat} {bs pl : List Int} {k i : Nat} {b : Int} (hi : is[k]? = some i) (hb : bs[k]? = some b) : putL (is.take (k + 1)) (bs.take (k + 1)) pl = (putL (is.take k) (bs.take k) pl).set i b := by
  have h1 := (List.getElem?_eq_some_iff.1 hi).1
  have h2 := (List.getElem?_eq_some_iff.1 hb).1
  rw [take_snoc hb, show is.take (k + 1) = is.take k ++ [i] by rw [List.take_add_one, hi]; rfl]
  exact putL_snoc _ _ _ _ _ (by rw [List.length_take, List.length_take]; omega)
end Go.Proofs.Ytkconbcmbpmghab
