/-
  The written program's text of a list of numbers, by the library's numerals and its joining of strings.
  Conditions: at most 1048576 numbers, each from 0 to 1000000; the library's table of powers of ten reads as it is written.
-/
import Derived.Test.YtoheoojpmndhoabDoorTxTwo
import Derived.Lib.LaidTab
import Derived.Lib.AppendIntMem
namespace Go.Proofs.YtoheoojpmndhoabDoor
set_option linter.unusedVariables false
open Go.RowKit

/-- The library's table of powers of ten reads as written. -/
def Tab (w : World) : Prop := Lib.TabIs Tryd.prog w "internal/strconv.uint64pow10" .u64 Lib.pow10Tab

theorem Tab.below {w w' : World} {B : Nat} (h : Tab w) (hb : Below B w w') (hB : w.heap.size ≤ B) : Tab w' := by
  unfold Tab Lib.TabIs World.var? at h ⊢
  cases hg : Tryd.prog.globalNamed "internal/strconv.uint64pow10" with
  | none => simp [hg] at h
  | some g =>
    simp only [hg, Option.bind_some] at h ⊢
    have hlt : g < w.heap.size := by
      rcases Nat.lt_or_ge g w.heap.size with h' | h'
      · exact h'
      · simp [Array.getElem?_eq_none h'] at h
    rw [hb.block g (by omega)]
    exact h

theorem itoa_any (n : Int) (w : World) (h0 : 0 ≤ n) (h1 : n ≤ 1000000) (hT : Tab w) :
    Calls Tryd.prog 19 #[.int .i64 n] w fun e w' => e = .returned (.string (numS n)) ∧ Below w.heap.size w w' := by
  refine (Any.strconv_Itoa laysItoa n (by omega) (by omega) w hT).mono ?_
  rintro e w' ⟨rfl, k, os, rfl⟩
  exact ⟨by rw [numS_itoa h0], Go.Lib.below_grow _ _ (Nat.le_refl _) _ _⟩

theorem join_text (sep : UInt8) (xs : List Int) : Lib.join ((xs.map numS).map (·.data.toList)) [sep] = (textS sep xs).data.toList := by
  match xs with
  | [] => rfl
  | x :: xs =>
    rw [List.map_cons, List.map_cons, Lib.join_cons]
    have hgen : ∀ (l : List Int) (s : ByteArray), (l.foldl (fun s y => s ++ (⟨#[sep]⟩ ++ numS y)) s).data.toList = s.data.toList ++ Lib.joinTail [sep] ((l.map numS).map (·.data.toList)) := by
      intro l
      induction l with
      | nil => intro s; simp [Lib.joinTail]
      | cons y l ih =>
        intro s
        rw [List.foldl_cons, ih]
        simp [Lib.joinTail, ByteArray.data_append]
    rw [textS, hgen]

/-- A block of strings of which the first k are the numerals of a list's numbers. -/
def StrRow (w : World) (g T n k : Nat) (xs : List Int) : Prop :=
  ∃ cs : Array Value, w.heap[g]? = some (.cells cs T (0, 0)) ∧ cs.size = n ∧ ∀ j u, j < k → xs[j]? = some u → cs[j]? = some (.string (numS u))

section
variable {w w' : World} {g T n k : Nat} {xs : List Int}
theorem StrRow.lt (h : StrRow w g T n k xs) : g < w.heap.size := by
  obtain ⟨cs, h1, _⟩ := h
  exact heap_lt h1
theorem StrRow.below {B : Nat} (h : StrRow w g T n k xs) (hb : Below B w w') (hB : g < B) : StrRow w' g T n k xs := by
  obtain ⟨cs, h1, h2⟩ := h
  exact ⟨cs, (hb.block g hB).trans h1, h2⟩
theorem StrRow.cell (h : StrRow w g T n k xs) {j : Nat} (hj : j < n) : ∃ v, w.cell? ⟨g, j, none⟩ = some v := by
  obtain ⟨cs, h1, h2, _⟩ := h
  exact ⟨cs[j]'(by omega), by rw [cell_of h1]; exact Array.getElem?_eq_getElem (by omega)⟩
theorem StrRow.frozen (h : StrRow w g T n k xs) (j : Nat) : w.frozen? ⟨g, j, none⟩ = false := by
  obtain ⟨cs, h1, _⟩ := h
  exact frozen_of h1 j
theorem StrRow.set (h : StrRow w g T n k xs) {u : Int} (hu : xs[k]? = some u) (hk : k < n) : StrRow (w.setCell ⟨g, k, none⟩ (.string (numS u))) g T n (k + 1) xs := by
  obtain ⟨cs, h1, h2, h3⟩ := h
  refine ⟨_, set_self h1 k _, by simp [h2], fun j v hj hv => ?_⟩
  by_cases e : j = k
  · subst e
    rw [hu] at hv
    injection hv with hv
    subst hv
    rw [Array.getElem?_setIfInBounds_self_of_lt (by omega)]
  · rw [Array.getElem?_setIfInBounds_ne (by omega)]
    exact h3 j v (by omega) hv
end

theorem str_new (w : World) (T n : Nat) (z : Value) (xs : List Int) : StrRow (w.alloc (.cells (madeCells #[z] n) T)) w.heap.size T n 0 xs :=
  ⟨_, new_at w _ rfl, by simp [madeCells], fun j u hj => by omega⟩

theorem join_any (sep : UInt8) (g T n : Nat) (xs : List Int) (w : World) (hn : xs.length = n) (hlen : n ≤ 1048576) (hx : ∀ x ∈ xs, 0 ≤ x ∧ x ≤ 1000000) (h : StrRow w g T n n xs) :
    Calls Tryd.prog 36 #[.slice (some ⟨g, 0, none⟩) n n, .string ⟨#[sep]⟩] w fun e w' => e = .returned (.string (textS sep xs)) ∧ Below w.heap.size w w' := by
  have hl : (xs.map numS).length = n := by rw [List.length_map]; exact hn
  have hs := textS_size sep xs hx
  have hj := join_text sep xs
  have hr := Any.strings_Join laysJoin joinExtra g 0 n (xs.map numS) ⟨#[sep]⟩ w (fun j x hj => by
    obtain ⟨u, hu, rfl⟩ := by simpa using hj
    obtain ⟨cs, h1, h2, h3⟩ := h
    rw [Nat.zero_add, cell_of h1]
    exact h3 j u (by have := (List.getElem?_eq_some_iff.1 hu).1; omega) hu) h.lt (by omega) (by omega) (by
      show (Lib.join ((xs.map numS).map (·.data.toList)) [sep]).length ≤ _
      rw [hj]
      have : (textS sep xs).data.toList.length = (textS sep xs).size := by rw [Array.length_toList]; rfl
      omega)
  rw [hl] at hr
  refine hr.mono ?_
  rintro e w' ⟨rfl, hb⟩
  refine ⟨?_, hb⟩
  have e2 : Lib.join ((xs.map numS).map (·.data.toList)) (⟨#[sep]⟩ : ByteArray).data.toList = (textS sep xs).data.toList := hj
  rw [e2]

theorem str_info : (Tryd.prog.info? 9).map (fun i => (i.zero, i.size, i.bytes)) = some (some (.string ⟨#[]⟩), 1, 16) := by kernel_rfl

set_option maxRecDepth 100000 in
set_option maxHeartbeats 400000 in
theorem joinNumbers_any (sep : UInt8) (A : Option Addr) (n c : Nat) (xs : List Int) (lo hi : Nat) (w : World) (hn : xs.length = n) (hlen : n ≤ 1048576) (hx : ∀ x ∈ xs, 0 ≤ x ∧ x ≤ 1000000) (hs : Seg w lo hi A xs) (hB : hi ≤ w.heap.size) (hT : Tab w) :
    Calls Tryd.prog 35 #[.slice A n c, .string ⟨#[sep]⟩] w fun e w' => e = .returned (.string (textS sep xs)) ∧ Below w.heap.size w w' := by
  have HN := Lib.hid hn
  have HX := Lib.hid hx
  have HT := Lib.hid hT
  have hmk := fun W : World => run_make_row' 62 9 (.string ⟨#[]⟩) 16 Tryd.underlying62 str_info rfl .i64 .i64 n (by omega) (by omega) W
  have HS0 := Lib.hid (str_new w 9 n (.string ⟨#[]⟩) xs)
  have HB0 := Lib.hid ((Below.refl w.heap.size w).alloc (Nat.le_refl _) (.cells (madeCells #[.string ⟨#[]⟩] n) 9))
  clear hn hx hT
  go_enter Tryd.func35, Tryd.ntmps35
  go_wp2
  go_loopw [13] (fun i wr => ∃ k : Nat, k ≤ n ∧ i = .int .i64 k ∧ Below w.heap.size w wr ∧ StrRow wr w.heap.size 9 n k xs) (fun i _ => n - (intOf i).toNat)
  case atStart => exact ⟨0, Nat.zero_le _, rfl, HB0.out, HS0.out⟩
  case round =>
    obtain ⟨k, hk, rfl, hb, hrow⟩ := hrel
    have HR := Lib.hid hrow
    clear hrow
    by_cases hlt : k < n
    · obtain ⟨b, off, u, rfl, _, hbh, hu, hc⟩ := (hs.below hb hB).at_ (k := k) (by rw [HN.out]; exact hlt)
      have hub := HX.out u (List.mem_of_getElem? hu)
      have HU := Lib.hid hu
      have hz := hb.size
      clear hu
      go_wp2_with fail
      refine (itoa_any u _ hub.1 hub.2 (HT.out.below hb (Nat.le_refl _))).mono ?_
      rintro e w1 ⟨rfl, hb1⟩
      have HR1 := Lib.hid (HR.out.below hb1 HR.out.lt)
      obtain ⟨v, hv⟩ := HR1.out.cell hlt
      have hfz := HR1.out.frozen k
      go_wp2
      go_roundw
      case rel => exact ⟨k + 1, by omega, by go_num, (hb.trans (hb1.mono hz)).setCell (Nat.le_refl _) _, HR1.out.set HU.out hlt⟩
      case measure => simp [intOf]; omega
    · obtain rfl : k = n := by omega
      have hz := hb.size
      go_wp2_with fail
      refine (join_any sep _ _ _ xs _ HN.out hlen HX.out HR.out).mono ?_
      rintro e w1 ⟨rfl, hb1⟩
      go_wp2
      go_ret
      exact ⟨rfl, hb.trans (hb1.mono hz)⟩
end Go.Proofs.YtoheoojpmndhoabDoor
