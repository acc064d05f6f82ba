/-
  Rows of numbers in memory; the written program's text of them, and its rows of a text.
  Conditions: at most 1000 rows of at most four numbers from 0 to 1000000; the library's variables read as the program's text writes them.
-/
import Derived.Test.YtoheoojpmndhoabDoorTxRowsP
import Derived.Test.YtoheoojpmndhoabDoorTxTakes
import Derived.Test.YtoheoojpmndhoabDoorTxSame
namespace Go.Proofs.YtoheoojpmndhoabDoor
set_option linter.unusedVariables false
open Go.RowKit

/-- The rows of a text, and that they all are. -/
def rowA (sep : UInt8) (m : Nat) (x : ByteArray) : List Int := numsA (cutN sep m x)
def rowB (sep : UInt8) (m : Nat) (x : ByteArray) : Bool := allNum (cutN sep m x) && decide ((cutN sep m x).length = m)
theorem rowA_length {sep : UInt8} {m : Nat} {x : ByteArray} (h : rowB sep m x = true) : (rowA sep m x).length = m := by
  obtain ⟨_, h2⟩ := Bool.and_eq_true_iff.1 h
  rw [rowA, numsA, List.length_map]
  exact of_decide_eq_true h2

/-- Rows, if there are. -/
def RetRows (p : Bool) (n : Nat) (rows : List (List Int)) (w : World) (e : Ending) (w' : World) : Prop :=
  ∃ v, e = .returned (.tuple #[v, .bool p]) ∧ Below w.heap.size w w' ∧ (p = false → v = .slice none 0 0) ∧
    (p = true → ∃ g, w.heap.size ≤ g ∧ v = .slice (some ⟨g, 0, none⟩) n n ∧ RowsAt w' g 45 n n (g + 1) w'.heap.size rows)

theorem size_set (w : World) (p : Addr) (v : Value) : (w.setCell p v).heap.size = w.heap.size := by simp [World.setCell]

theorem all_no {ws : List ByteArray} {f : ByteArray → Bool} {x : ByteArray} (hx : x ∈ ws) (h : f x = false) : ws.all f = false := List.all_eq_false.2 ⟨x, hx, by simp [h]⟩

set_option maxRecDepth 100000 in
set_option maxHeartbeats 4000000 in
theorem splitRows_any (sep : UInt8) (most m : Nat) (s : ByteArray) (w : World) (hmax : s.size ≤ 1048576) (hv : Vars w) (hm1 : 1 ≤ most ∧ most ≤ 1000) (hm2 : 1 ≤ m ∧ m ≤ 4) (hcl : (cutN 44 most s).length ≤ most) (hcl2 : ∀ x, (cutN sep m x).length ≤ m) (p : Bool) (hp : (cutN 44 most s).all (rowB sep m) = p) :
    Calls Tryd.prog 25 #[.string s, .string ⟨#[sep]⟩, .int .i64 (most : Int), .int .i64 (m : Int)] w (RetRows p (cutN 44 most s).length ((cutN 44 most s).map (rowA sep m)) w) := by
  have hsz : ∀ x ∈ cutN 44 most s, x.size ≤ 1048576 ∧ (∀ y ∈ cutN sep m x, y.size ≤ 1048576) := by
    intro x hx
    have h1 := Nat.le_trans (piece_size _ _ _ x hx) hmax
    exact ⟨h1, fun y hy => Nat.le_trans (piece_size _ _ _ y hy) h1⟩
  have HV := Lib.hid hv
  have HZ := Lib.hid hsz
  have HP := Lib.hid hp
  have HC2 := Lib.hid hcl2
  clear hv hsz hp hcl2
  go_enter Tryd.func25, Tryd.ntmps25
  go_wp2_with fail
  refine (splitN_any 44 most s _ hmax hm1.1 hm1.2 HV.out).mono ?_
  rintro e w1 ⟨c, rfl, hcell, hlt1, hb1⟩
  have hz1 := hb1.size
  have HV1 := Lib.hid (HV.out.below hb1 (Nat.le_refl _))
  generalize hW : cutN 44 most s = ws at *
  obtain ⟨n, hn⟩ : ∃ n, ws.length = n := ⟨_, rfl⟩
  rw [hn] at hcl ⊢
  have HN := Lib.hid hn
  have HC := Lib.hid hcell
  obtain ⟨rows, hrows⟩ : ∃ rows, ws.map (rowA sep m) = rows := ⟨_, rfl⟩
  have HRW := Lib.hid hrows
  rw [hrows]
  have hmk := fun W : World => run_make_row' 42 45 (.slice none 0 0) 24 Tryd.underlying42 rows_info rfl .i64 .i64 n (by omega) (by omega) W
  have HP0 := Lib.hid (rows_new w1 45 n (w1.heap.size + 1) (w1.heap.size + 1) (.slice none 0 0) rows)
  have HB0 := Lib.hid ((Below.refl w1.heap.size w1).alloc (Nat.le_refl _) (.cells (madeCells #[.slice none 0 0] n) 45))
  clear hcell hW hn hrows
  go_wp2
  clear hmk
  go_loopw [24] (fun i wr => ∃ k : Nat, k ≤ n ∧ i = .int .i64 k ∧ Below w1.heap.size w1 wr ∧ w1.heap.size < wr.heap.size ∧ RowsAt wr w1.heap.size 45 n k (w1.heap.size + 1) wr.heap.size rows ∧ ∀ (j : Nat) x, j < k → ws[j]? = some x → rowB sep m x = true) (fun i _ => n - (intOf i).toNat)
  case atStart => exact ⟨0, Nat.zero_le _, rfl, HB0.out, by simp, HP0.out.more (by simp), fun j x hj => by omega⟩
  case round =>
    obtain ⟨k, hk, rfl, hb, hgz, hra, hall⟩ := hrel
    have hz := hb.size
    have HA := Lib.hid hall
    have HRA := Lib.hid hra
    clear hall hra
    by_cases hlt : k < n
    · obtain ⟨x, hx⟩ : ∃ x, ws[k]? = some x := ⟨_, List.getElem?_eq_getElem (by rw [HN.out]; exact hlt)⟩
      have hc : wr.cell? ⟨w.heap.size, k, none⟩ = some (.string x) := (hb.cell hlt1).trans (HC.out k x hx)
      have HX := Lib.hid hx
      obtain ⟨hx1, hx2⟩ := HZ.out x (List.mem_of_getElem? hx)
      have HRK := Lib.hid (show rows[k]? = some (rowA sep m x) by rw [← HRW.out, List.getElem?_map, hx]; rfl)
      obtain ⟨ns, hns⟩ : ∃ ns, numsA (cutN sep m x) = ns := ⟨_, rfl⟩
      obtain ⟨p', hp'⟩ : ∃ p, allNum (cutN sep m x) = p := ⟨_, rfl⟩
      have HNS := Lib.hid hns
      have HPP := Lib.hid hp'
      have hx3 := HC2.out x
      have hnl : ns.length = (cutN sep m x).length := by rw [← hns, numsA, List.length_map]
      have HNL := Lib.hid hnl
      have hns3 : ns.length ≤ 4 := by omega
      clear hx hns hp' hnl hx3
      go_wp2_with fail
      refine (splitNumbers_any sep m x _ hx1 hm2.1 (by omega) (HV1.out.below hb (Nat.le_refl _)) hx2 (by have := HC2.out x; omega) p' HPP.out).mono ?_
      rw [HNS.out]
      rintro e w2 ⟨A2, n2, c2, rfl, hn2, hown2, hb2⟩
      have hz2 := hb2.size
      have HB2 := Lib.hid (hb.trans (hb2.mono hz))
      have HRA2 := Lib.hid ((HRA.out.below hb2 hgz (Nat.le_refl _)).more hz2)
      have no : rowB sep m x = false → p = false := fun h => by rw [← HP.out]; exact all_no (List.mem_of_getElem? HX.out) h
      have HNOX := Lib.hid no
      clear no
      cases p'
      · obtain rfl : p = false := HNOX.out (by rw [rowB, HPP.out, Bool.false_and])
        clear hn2 hown2
        go_wp2
        go_ret2
        exact ⟨.slice none 0 0, rfl, hb1.trans (HB2.out.mono hz1), fun _ => rfl, fun h => by cases h⟩
      · rw [someL_yes] at hn2 hown2
        by_cases h2 : n2 = m
        · subst h2
          have HT2 := Lib.hid (show rowB sep n2 x = true by rw [rowB, HPP.out, ← HNL.out, hn2]; simp)
          have HRK2 := Lib.hid (show rows[k]? = some ns by rw [HRK.out, rowA, HNS.out])
          obtain ⟨v0, hv0⟩ := HRA2.out.cell hlt
          have hf0 := HRA2.out.frozen k
          have HSG := Lib.hid (hown2.seg.more (lo' := w1.heap.size + 1) (by omega) (Nat.le_refl _))
          have HSET := Lib.hid (HRA2.out.set HRK2.out hlt (by omega) (c := c2) HSG.out)
          have HN2 := Lib.hid hn2
          clear hn2 hown2
          go_wp2
          go_roundw
          case rel =>
            refine ⟨k + 1, by omega, by go_num, HB2.out.setCell (Nat.le_refl _) _, by rw [size_set]; omega, ?_, fun j y hj hy => ?_⟩
            · have h := HSET.out
              rw [HN2.out] at h
              rw [size_set]
              exact h
            · by_cases e : j = k
              · subst e; rw [HX.out] at hy; injection hy with hy; subst hy; exact HT2.out
              · exact HA.out j y (by omega) hy
          case measure => simp [intOf]; omega
        · have h2' : ¬ ((n2 : Int) = (m : Int)) := by omega
          obtain rfl : p = false := HNOX.out (by rw [rowB, ← HNL.out, hn2, decide_eq_false h2, Bool.and_false])
          clear hown2 hn2
          go_wp2
          go_ret2
          exact ⟨.slice none 0 0, rfl, hb1.trans (HB2.out.mono hz1), fun _ => rfl, fun h => by cases h⟩
    · obtain rfl : k = n := by omega
      obtain rfl : p = true := by
        rw [← HP.out, List.all_eq_true]
        intro x hx
        obtain ⟨j, hj⟩ := List.getElem?_of_mem hx
        exact HA.out j x (by have := (List.getElem?_eq_some_iff.1 hj).1; have := HN.out; omega) hj
      go_wp2
      go_ret2
      have h1 : true = false → Value.slice (some ⟨w1.heap.size, 0, none⟩) k k = .slice none 0 0 := fun h => by cases h
      exact ⟨.slice (some ⟨w1.heap.size, 0, none⟩) k k, rfl, hb1.trans (hb.mono hz1), h1, fun _ => ⟨w1.heap.size, hz1, by rw [HN.out], by rw [HN.out, HRW.out]; exact HRA.out⟩⟩
end Go.Proofs.YtoheoojpmndhoabDoor
