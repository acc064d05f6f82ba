/-
  Boxes told as 0, 1, .. in the order of their first things, as functions on lists; no program is spoken of here.
  Conditions: none.
-/
import Derived.Test.YtkconbcmbpmghabFollM
namespace Go.Proofs.Ytkconbcmbpmghab
set_option linter.unusedVariables false

/-- The names met so far, each once. -/
def namesAdd (ns : List Int) (b : Int) : List Int := if b ∈ ns then ns else ns ++ [b]
def namesL (bs : List Int) : List Int := bs.foldl namesAdd []
/-- Each box by the place of its name. -/
def namedL (bs : List Int) : List Int := bs.map fun b => ((namesL bs).idxOf b : Int)

theorem namesAdd_nodup {ns : List Int} (h : ns.Nodup) (b : Int) : (namesAdd ns b).Nodup := by
  unfold namesAdd
  split
  · exact h
  · rename_i hb
    rw [List.nodup_append]
    refine ⟨h, by simp, fun a ha c hc => ?_⟩
    obtain rfl := List.mem_singleton.1 hc
    rintro rfl
    exact hb ha

theorem names_snoc (bs : List Int) (b : Int) : namesL (bs ++ [b]) = namesAdd (namesL bs) b := by
  unfold namesL
  rw [List.foldl_append]
  rfl

theorem names_nodup_aux (bs : List Int) : ∀ ns : List Int, ns.Nodup → (bs.foldl namesAdd ns).Nodup := by
  induction bs with
  | nil => exact fun ns h => h
  | cons b bs ih => exact fun ns h => ih _ (namesAdd_nodup h b)

theorem names_nodup (bs : List Int) : (namesL bs).Nodup := names_nodup_aux bs [] List.nodup_nil

theorem namesAdd_length (ns : List Int) (b : Int) : (namesAdd ns b).length ≤ ns.length + 1 := by
  unfold namesAdd
  split <;> simp

theorem names_length_aux (bs : List Int) : ∀ ns : List Int, (bs.foldl namesAdd ns).length ≤ ns.length + bs.length := by
  induction bs with
  | nil => exact fun ns => Nat.le_refl _
  | cons b bs ih =>
    intro ns
    have h1 := ih (namesAdd ns b)
    have h2 := namesAdd_length ns b
    rw [List.foldl_cons, List.length_cons]
    omega

theorem names_length (bs : List Int) : (namesL bs).length ≤ bs.length := by
  have := names_length_aux bs []
  unfold namesL
  simpa using this

theorem namesAdd_ext (ns : List Int) (b : Int) : ∃ t, namesAdd ns b = ns ++ t := by
  unfold namesAdd
  split
  · exact ⟨[], by simp⟩
  · exact ⟨[b], rfl⟩

theorem names_ext_aux (bs : List Int) : ∀ ns : List Int, ∃ t, bs.foldl namesAdd ns = ns ++ t := by
  induction bs with
  | nil => exact fun ns => ⟨[], by simp⟩
  | cons b bs ih =>
    intro ns
    obtain ⟨t, ht⟩ := namesAdd_ext ns b
    obtain ⟨u, hu⟩ := ih (namesAdd ns b)
    exact ⟨t ++ u, by rw [List.foldl_cons, hu, ht, List.append_assoc]⟩

theorem mem_namesAdd (ns : List Int) (b : Int) : b ∈ namesAdd ns b := by
  unfold namesAdd
  split
  · assumption
  · simp

/-- A name's place is settled when it is met. -/
theorem idx_take {bs : List Int} {k : Nat} {b : Int} (h : bs[k]? = some b) : (namesL bs).idxOf b = (namesL (bs.take (k + 1))).idxOf b := by
  have e : bs = bs.take (k + 1) ++ bs.drop (k + 1) := (List.take_append_drop _ _).symm
  have hx : namesL bs = (bs.drop (k + 1)).foldl namesAdd (namesL (bs.take (k + 1))) := by
    conv => lhs; rw [e]
    unfold namesL
    rw [List.foldl_append]
  obtain ⟨t, ht⟩ := names_ext_aux (bs.drop (k + 1)) (namesL (bs.take (k + 1)))
  have hm : b ∈ namesL (bs.take (k + 1)) := by
    rw [take_snoc h, names_snoc]
    exact mem_namesAdd _ _
  rw [hx, ht, List.idxOf_append, if_pos hm]

theorem named_at {bs : List Int} {k : Nat} {b : Int} (h : bs[k]? = some b) : (namedL bs)[k]? = some (((namesAdd (namesL (bs.take k)) b).idxOf b : Nat) : Int) := by
  unfold namedL
  rw [List.getElem?_map, h, Option.map_some, idx_take h, take_snoc h, names_snoc]

theorem named_length (bs : List Int) : (namedL bs).length = bs.length := by
  unfold namedL
  simp

/-- In a list without repeats a place is the only one. -/
theorem idx_only {ns : List Int} (h : ns.Nodup) {k : Nat} {b : Int} (hk : ns[k]? = some b) : ns.idxOf b = k := by
  obtain ⟨hl, he⟩ := List.getElem?_eq_some_iff.1 hk
  subst he
  exact h.idxOf_getElem k hl
end Go.Proofs.Ytkconbcmbpmghab
