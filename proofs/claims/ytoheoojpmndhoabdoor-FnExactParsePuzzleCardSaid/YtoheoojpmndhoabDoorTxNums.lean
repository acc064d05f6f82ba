/-
  The written program's numbers of a text, by the library's cutting and its numbers of words.
  Conditions: the text has at most 1048576 bytes; the library's two errors are there, and the bound of its search is a number.
-/
import Derived.Test.YtoheoojpmndhoabDoorTxCut
import Derived.Test.YtoheoojpmndhoabDoorShelf2
import Derived.Lib.AtoiErrMem
namespace Go.Proofs.YtoheoojpmndhoabDoor
set_option linter.unusedVariables false
open Go.RowKit

/-- The library's variables that cutting and numbers look at. -/
def Vars (w : World) : Prop :=
  (∃ t p, w.cell? ⟨1, 0, none⟩ = some (.iface t p)) ∧ (∃ t p, w.cell? ⟨2, 0, none⟩ = some (.iface t p)) ∧ ∃ m, w.cell? ⟨0, 0, none⟩ = some (.int .i64 m)

theorem Vars.below {w w' : World} {B : Nat} (h : Vars w) (hb : Below B w w') (hB : w.heap.size ≤ B) : Vars w' := by
  obtain ⟨⟨t, p, h1⟩, ⟨t2, p2, h2⟩, m, h3⟩ := h
  exact ⟨⟨t, p, (hb.cell (Nat.lt_of_lt_of_le (cell_lt h1) hB)).trans h1⟩, ⟨t2, p2, (hb.cell (Nat.lt_of_lt_of_le (cell_lt h2) hB)).trans h2⟩, m, (hb.cell (Nat.lt_of_lt_of_le (cell_lt h3) hB)).trans h3⟩

/-- The library's number of a word, if it has one. -/
def atoiO (x : ByteArray) : Option Int := match Lib.atoiAll x.data.toList with
  | .ok v => some v
  | _ => none

/-- A number and no error, or an error. -/
def RetA (x : ByteArray) (w : World) (e : Ending) (w' : World) : Prop :=
  Below w.heap.size w w' ∧ ((∃ v, atoiO x = some v ∧ e = .returned (.tuple #[.int .i64 v, .nilIface])) ∨ atoiO x = none ∧ ∃ v t p, e = .returned (.tuple #[.int .i64 v, .iface t p]))

theorem atoi_any (x : ByteArray) (w : World) (hmax : x.size ≤ 1048576) (hv : Vars w) :
    Calls Tryd.prog 24 #[.string x] w (RetA x w) := by
  obtain ⟨⟨t, p, h1⟩, ⟨t2, p2, h2⟩, m, h3⟩ := hv
  rcases h : Lib.atoiAll x.data.toList with v | _ | _
  · refine (Any.strconv_Atoi_ok laysAtoi x (by omega) v h w).mono ?_
    rintro e w' ⟨rfl, rfl | ⟨t, rfl⟩⟩
    · exact ⟨Below.refl _ _, .inl ⟨v, by rw [atoiO, h], rfl⟩⟩
    · exact ⟨Lib.bytesWorld_below _ _ _, .inl ⟨v, by rw [atoiO, h], rfl⟩⟩
  · refine (Any.strconv_Atoi_syntax laysAtoi x (by omega) h (.iface t p) w h1 (.inr ⟨_, _, rfl⟩)).mono ?_
    rintro e w' ⟨N, rfl, _, _, hb⟩
    exact ⟨hb, .inr ⟨by rw [atoiO, h], _, _, _, rfl⟩⟩
  · refine (Any.strconv_Atoi_range laysAtoi x (by omega) h (.iface t2 p2) w h2 (.inr ⟨_, _, rfl⟩)).mono ?_
    rintro e w' ⟨N, rfl, _, _, hb⟩
    exact ⟨hb, .inr ⟨by rw [atoiO, h], _, _, _, rfl⟩⟩

/-- The library's words of a text: at most so many. -/
def cutN (b : UInt8) (m : Nat) (s : ByteArray) : List ByteArray := Lib.splitB ⟨#[b]⟩ 0 (min m (s.size + 1) - 1) s

theorem splitN_any (b : UInt8) (m : Nat) (s : ByteArray) (w : World) (hmax : s.size ≤ 1048576) (h1 : 1 ≤ m) (h2 : m ≤ 1000) (hv : Vars w) :
    Calls Tryd.prog 43 #[.string s, .string ⟨#[b]⟩, .int .i64 (m : Int)] w fun e w' => ∃ c, e = .returned (.slice (some ⟨w.heap.size, 0, none⟩) (cutN b m s).length c) ∧
      (∀ (j : Nat) x, (cutN b m s)[j]? = some x → w'.cell? ⟨w.heap.size, j, none⟩ = some (.string x)) ∧ w.heap.size < w'.heap.size ∧ Below w.heap.size w w' := by
  obtain ⟨_, _, k, h3⟩ := hv
  refine (Any.strings_SplitN laysSplitN (by kernel_rfl) s ⟨#[b]⟩ m k w (by omega) h3 (by show 1 ≤ 1; omega) h1 (by omega)).mono ?_
  rintro e w' ⟨rfl, rfl⟩
  refine ⟨_, rfl, fun j x hj => ?_, by simp, (Below.refl _ _).alloc (Nat.le_refl _) _⟩
  have hj' : (Lib.splitB ⟨#[b]⟩ 0 (min m (s.size + 1) - 1) s)[j]? = some x := hj
  have hlt := (List.getElem?_eq_some_iff.1 hj').1
  rw [cell_of (new_at w _ rfl)]
  unfold Lib.cellsOf
  rw [List.getElem?_toArray, List.getElem?_append_left (by rw [List.length_map]; exact hlt), List.getElem?_map, hj']
  rfl

/-- All of them are numbers. -/
def allNum (ws : List ByteArray) : Bool := ws.all fun x => (atoiO x).isSome
def numsA (ws : List ByteArray) : List Int := ws.map fun x => (atoiO x).getD 0

set_option maxRecDepth 100000 in
set_option maxHeartbeats 2000000 in
theorem splitNumbers_any (b : UInt8) (m : Nat) (s : ByteArray) (w : World) (hmax : s.size ≤ 1048576) (h1 : 1 ≤ m) (h2 : m ≤ 1000) (hv : Vars w) (hsz : ∀ x ∈ cutN b m s, x.size ≤ 1048576) (hcl : (cutN b m s).length ≤ 1000) (q : Bool) (hq : allNum (cutN b m s) = q) :
    Calls Tryd.prog 44 #[.string s, .string ⟨#[b]⟩, .int .i64 (m : Int)] w (RetL q (someL q (numsA (cutN b m s))) w) := by
  have HV := Lib.hid hv
  have HQ := Lib.hid hq
  have HZ := Lib.hid hsz
  clear hv hq hsz
  go_enter Tryd.func44, Tryd.ntmps44
  go_wp2_with fail
  refine (splitN_any b m s _ hmax h1 h2 HV.out).mono ?_
  rintro e w1 ⟨c, rfl, hcell, hlt1, hb1⟩
  have hz1 := hb1.size
  have HV1 := Lib.hid (HV.out.below hb1 (Nat.le_refl _))
  generalize hW : cutN b m s = ws at *
  obtain ⟨n, hn⟩ : ∃ n, ws.length = n := ⟨_, rfl⟩
  rw [hn] at hcl ⊢
  have HN := Lib.hid hn
  have HC := Lib.hid hcell
  have hmk := fun W : World => run_make_row' 45 3 (.int .i64 0) 8 Tryd.underlying45 int_info rfl .i64 .i64 n (by omega) (by omega) W
  have HP0 := Lib.hid (part_new w1 3 n (.int .i64 0) (numsA ws))
  have HB0 := Lib.hid ((Below.refl w1.heap.size w1).alloc (Nat.le_refl _) (.cells (madeCells #[.int .i64 0] n) 3))
  clear hcell hW hn
  go_wp2
  go_loopw [23] (fun i wr => ∃ k : Nat, k ≤ n ∧ i = .int .i64 k ∧ Below w1.heap.size w1 wr ∧ Part wr w1.heap.size 3 n k (numsA ws) ∧ ∀ (j : Nat) x, j < k → ws[j]? = some x → (atoiO x).isSome = true) (fun i _ => n - (intOf i).toNat)
  case atStart => exact ⟨0, Nat.zero_le _, rfl, HB0.out, HP0.out, fun j x hj => by omega⟩
  case round =>
    obtain ⟨k, hk, rfl, hb, hp, hall⟩ := hrel
    have hz := hb.size
    have HA := Lib.hid hall
    have HP := Lib.hid hp
    clear hall hp
    by_cases hlt : k < n
    · obtain ⟨x, hx⟩ : ∃ x, ws[k]? = some x := ⟨_, List.getElem?_eq_getElem (by rw [HN.out]; exact hlt)⟩
      have hc : wr.cell? ⟨w.heap.size, k, none⟩ = some (.string x) := (hb.cell hlt1).trans (HC.out k x hx)
      have HX := Lib.hid hx
      clear hx
      go_wp2_with fail
      refine (atoi_any x _ (HZ.out x (List.mem_of_getElem? HX.out)) (HV1.out.below hb (Nat.le_refl _))).mono ?_
      rintro e w2 ⟨hb2, ⟨v, hat, rfl⟩ | ⟨hat, v, t, p, rfl⟩⟩
      · have HAT := Lib.hid hat
        have HP2 := Lib.hid (show Part w2 w1.heap.size 3 n k (numsA ws) from HP.out.keep (hb2.block _ HP.out.lt))
        obtain ⟨v0, hv0⟩ := HP2.out.cell k hlt
        have hfz := HP2.out.frozen k
        have HU := Lib.hid (show (numsA ws)[k]? = some v by rw [numsA, List.getElem?_map, HX.out]; simp [HAT.out])
        clear hat
        go_wp2
        go_roundw
        case rel =>
          refine ⟨k + 1, by omega, by go_num, (hb.trans (hb2.mono hz)).setCell (Nat.le_refl _) _, HP2.out.step hlt HU.out, fun j y hj hy => ?_⟩
          by_cases e : j = k
          · subst e; rw [HX.out] at hy; injection hy with hy; subst hy; rw [HAT.out]; rfl
          · exact HA.out j y (by omega) hy
        case measure => simp [intOf]; omega
      · have hqf : q = false := by
          rw [← HQ.out, allNum]
          exact List.all_eq_false.2 ⟨x, List.mem_of_getElem? HX.out, by simp [hat]⟩
        subst hqf
        clear hat
        go_wp2
        go_ret2
        exact ⟨none, 0, 0, rfl, rfl, Own.nil_, hb1.trans ((hb.trans (hb2.mono hz)).mono hz1)⟩
    · obtain rfl : k = n := by omega
      have hqt : q = true := by
        rw [← HQ.out, allNum]
        refine List.all_eq_true.2 fun x hx => ?_
        obtain ⟨j, hj⟩ := List.getElem?_of_mem hx
        exact HA.out j x (by have := (List.getElem?_eq_some_iff.1 hj).1; have := HN.out; omega) hj
      subst hqt
      have hnl : (numsA ws).length = k := by rw [numsA, List.length_map]; exact HN.out
      have HOWN := Lib.hid (show Own wr w.heap.size wr.heap.size (some ⟨w1.heap.size, 0, none⟩) (numsA ws) from (show Part wr w1.heap.size 3 k (numsA ws).length (numsA ws) by rw [hnl]; exact HP.out).own hz1 HP.out.lt)
      have HNL := Lib.hid hnl
      clear hnl
      go_wp2
      go_ret2
      exact ⟨_, k, k, rfl, HNL.out, HOWN.out, hb1.trans (hb.mono hz1)⟩
end Go.Proofs.YtoheoojpmndhoabDoor
