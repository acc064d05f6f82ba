/-
  Words joined with a sign between them: in steps, and by the library.
  Conditions: none.
-/
import Derived.Test.YtoheoojpmndhoabDoorTxJoin
namespace Go.Proofs.YtoheoojpmndhoabDoor
set_option linter.unusedVariables false
open Go.RowKit

/-- Words with a sign between them. -/
def joinB (sep : UInt8) : List ByteArray → ByteArray
  | [] => ⟨#[]⟩
  | x :: xs => xs.foldl (fun s y => s ++ (⟨#[sep]⟩ ++ y)) x

theorem takeB_snoc {ss : List ByteArray} {k : Nat} {u : ByteArray} (h : ss[k]? = some u) : ss.take (k + 1) = ss.take k ++ [u] := by
  rw [List.take_add_one, h]; rfl

theorem joinB_first (sep : UInt8) {ss : List ByteArray} {u : ByteArray} (h : ss[0]? = some u) : joinB sep (ss.take 1) = joinB sep (ss.take 0) ++ u := by
  rw [takeB_snoc h]
  simp [joinB, append_nilB]

theorem joinB_next (sep : UInt8) {ss : List ByteArray} {k : Nat} {u : ByteArray} (hk : k ≠ 0) (h : ss[k]? = some u) : joinB sep (ss.take (k + 1)) = joinB sep (ss.take k) ++ ⟨#[sep]⟩ ++ u := by
  rw [takeB_snoc h]
  match k, ss, hk, h with
  | k + 1, x :: r, _, h => simp [joinB, List.foldl_append, append_assocB]

theorem joinB_size (sep : UInt8) (ss : List ByteArray) (m : Nat) (h : ∀ s ∈ ss, s.size ≤ m) : (joinB sep ss).size ≤ (m + 1) * ss.length := by
  match ss with
  | [] => simp [joinB, ByteArray.size]
  | x :: xs =>
    have hgen : ∀ (l : List ByteArray) (s : ByteArray), (∀ x ∈ l, x.size ≤ m) → (l.foldl (fun s y => s ++ (⟨#[sep]⟩ ++ y)) s).size ≤ s.size + (m + 1) * l.length := by
      intro l
      induction l with
      | nil => intro s _; simp
      | cons y l ih =>
        intro s hl
        have h1 := ih (s ++ (⟨#[sep]⟩ ++ y)) (fun z hz => hl z (List.mem_cons_of_mem _ hz))
        have h2 := hl y (List.mem_cons_self ..)
        rw [ByteArray.size_append, ByteArray.size_append] at h1
        have h4 : (⟨#[sep]⟩ : ByteArray).size = 1 := rfl
        have h5 : (m + 1) * (l.length + 1) = (m + 1) * l.length + (m + 1) := Nat.mul_succ _ _
        simp only [List.foldl_cons, List.length_cons]
        omega
    have h1 := hgen xs x (fun z hz => h z (List.mem_cons_of_mem _ hz))
    have h2 := h x (List.mem_cons_self ..)
    have h5 : (m + 1) * (xs.length + 1) = (m + 1) * xs.length + (m + 1) := Nat.mul_succ _ _
    simp only [joinB, List.length_cons]
    omega

theorem joinB_text (sep : UInt8) (ss : List ByteArray) : Lib.join (ss.map (·.data.toList)) [sep] = (joinB sep ss).data.toList := by
  match ss with
  | [] => rfl
  | x :: xs =>
    rw [List.map_cons, Lib.join_cons]
    have hgen : ∀ (l : List ByteArray) (s : ByteArray), (l.foldl (fun s y => s ++ (⟨#[sep]⟩ ++ y)) s).data.toList = s.data.toList ++ Lib.joinTail [sep] (l.map (·.data.toList)) := by
      intro l
      induction l with
      | nil => intro s; simp [Lib.joinTail]
      | cons y l ih =>
        intro s
        rw [List.foldl_cons, ih]
        simp [Lib.joinTail, ByteArray.data_append]
    rw [joinB, hgen]

/-- A block of strings of which the first k are a list's words. -/
def WordRow (w : World) (g T n k : Nat) (ss : List ByteArray) : Prop :=
  ∃ cs : Array Value, w.heap[g]? = some (.cells cs T (0, 0)) ∧ cs.size = n ∧ ∀ j u, j < k → ss[j]? = some u → cs[j]? = some (.string u)

section
variable {w w' : World} {g T n k : Nat} {ss : List ByteArray}
theorem WordRow.lt (h : WordRow w g T n k ss) : g < w.heap.size := by
  obtain ⟨cs, h1, _⟩ := h
  exact heap_lt h1
theorem WordRow.below {B : Nat} (h : WordRow w g T n k ss) (hb : Below B w w') (hB : g < B) : WordRow w' g T n k ss := by
  obtain ⟨cs, h1, h2⟩ := h
  exact ⟨cs, (hb.block g hB).trans h1, h2⟩
theorem WordRow.cell (h : WordRow w g T n k ss) {j : Nat} (hj : j < n) : ∃ v, w.cell? ⟨g, j, none⟩ = some v := by
  obtain ⟨cs, h1, h2, _⟩ := h
  exact ⟨cs[j]'(by omega), by rw [cell_of h1]; exact Array.getElem?_eq_getElem (by omega)⟩
theorem WordRow.frozen (h : WordRow w g T n k ss) (j : Nat) : w.frozen? ⟨g, j, none⟩ = false := by
  obtain ⟨cs, h1, _⟩ := h
  exact frozen_of h1 j
theorem WordRow.set (h : WordRow w g T n k ss) {u : ByteArray} (hu : ss[k]? = some u) (hk : k < n) : WordRow (w.setCell ⟨g, k, none⟩ (.string u)) g T n (k + 1) ss := by
  obtain ⟨cs, h1, h2, h3⟩ := h
  refine ⟨_, set_self h1 k _, by simp [h2], fun j v hj hv => ?_⟩
  by_cases e : j = k
  · subst e
    rw [hu] at hv
    injection hv with hv
    subst hv
    rw [Array.getElem?_setIfInBounds_self_of_lt (by omega)]
  · rw [Array.getElem?_setIfInBounds_ne (by omega)]
    exact h3 j v (by omega) hv
end

theorem word_new (w : World) (T n : Nat) (z : Value) (ss : List ByteArray) : WordRow (w.alloc (.cells (madeCells #[z] n) T)) w.heap.size T n 0 ss :=
  ⟨_, new_at w _ rfl, by simp [madeCells], fun j u hj => by omega⟩

theorem joinW_any (sep : UInt8) (g T n m : Nat) (ss : List ByteArray) (w : World) (hn : ss.length = n) (hlen : n ≤ 1048576) (hm : m ≤ 1000) (hx : ∀ x ∈ ss, x.size ≤ m) (h : WordRow w g T n n ss) :
    Calls Tryd.prog 36 #[.slice (some ⟨g, 0, none⟩) n n, .string ⟨#[sep]⟩] w fun e w' => e = .returned (.string (joinB sep ss)) ∧ Below w.heap.size w w' := by
  subst hn
  have hs := joinB_size sep ss m hx
  have hj := joinB_text sep ss
  have hmul : (m + 1) * ss.length ≤ 1001 * 1048576 := Nat.mul_le_mul (by omega) hlen
  have hr := Any.strings_Join laysJoin joinExtra g 0 ss.length ss ⟨#[sep]⟩ w (fun j x hj => by
    obtain ⟨cs, h1, h2, h3⟩ := h
    rw [Nat.zero_add, cell_of h1]
    exact h3 j x (List.getElem?_eq_some_iff.1 hj).1 hj) h.lt (by omega) (by omega) (by
      show (Lib.join (ss.map (·.data.toList)) [sep]).length ≤ _
      rw [hj]
      have : (joinB sep ss).data.toList.length = (joinB sep ss).size := by rw [Array.length_toList]; rfl
      omega)
  refine hr.mono ?_
  rintro e w' ⟨rfl, hb⟩
  refine ⟨?_, hb⟩
  have e2 : Lib.join (ss.map (·.data.toList)) (⟨#[sep]⟩ : ByteArray).data.toList = (joinB sep ss).data.toList := hj
  rw [e2]
end Go.Proofs.YtoheoojpmndhoabDoor
