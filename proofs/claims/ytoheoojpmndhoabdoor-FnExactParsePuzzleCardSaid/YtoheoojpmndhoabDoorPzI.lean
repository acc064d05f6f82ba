/-
  The written program's test for a clue: the door to which what is none comes.
  Conditions: none.
-/
import Derived.Test.YtoheoojpmndhoabDoorPzO
import Derived.Tactics
import Derived.Tactics2
import Derived.Laws.Pointers
namespace Go.Proofs.YtoheoojpmndhoabDoor
set_option linter.unusedVariables false
set_option linter.unusedSimpArgs false
open Go.RowKit

theorem assert_yes (k a b c : Int) (w : World) : (Instr.typeAssert (.iface 76 (clV (k, a, b, c))) 20 76 true).run Tryd.prog w = .ok (.tuple #[clV (k, a, b, c), .bool true]) w := by kernel_rfl
theorem assert_no (w : World) : (Instr.typeAssert .nilIface 20 76 true).run Tryd.prog w = .ok (.tuple #[clV (0, 0, 0, 0), .bool false]) w := by kernel_rfl

set_option maxRecDepth 100000 in
theorem door_panicking (p : Addr) (q : Bool) (k a b c : Int) (older : List PanicEntry) (w : World) (hc : w.cell? p = some (.bool q)) (hz : w.frozen? p = false) :
    CallsD Tryd.prog 47 #[.pointer (some p)] (.panicking ({ v := .iface 76 (clV (k, a, b, c)), recovered := false } :: older)) w fun e u' w' =>
      e = .returned (.tuple #[]) ∧ u' = .panicking ({ v := .iface 76 (clV (k, a, b, c)), recovered := true } :: older) ∧ w' = w.setCell p (.bool true) := by
  have hta := assert_yes k a b c w
  refine callsD_of_wpS Tryd.func47 rfl fun c₀ cs hu => ?_
  apply wpS_region
  simp [wpOpsS, go_sem, recoverD, hu, Tryd.ntmps47, Exit.thenS, hta, hc, hz, bodyPostS, results, Tryd.results47]

set_option maxRecDepth 100000 in
theorem door_idle (p : Addr) (q : Bool) (w : World) (hc : w.cell? p = some (.bool q)) (hz : w.frozen? p = false) :
    CallsD Tryd.prog 47 #[.pointer (some p)] .returning w fun e u' w' => e = .returned (.tuple #[]) ∧ u' = .returning ∧ w' = w.setCell p (.bool false) := by
  have hta := assert_no w
  refine callsD_of_wpS Tryd.func47 rfl fun c₀ cs hu => ?_
  apply wpS_region
  simp [wpOpsS, go_sem, recoverD, hu, Tryd.ntmps47, Exit.thenS, hta, hc, hz, bodyPostS, results, Tryd.results47]
  rw [← hu]

set_option maxHeartbeats 1000000 in
theorem isNoneOf_all (n k a b c : Int) (w : World) :
    Calls Tryd.prog 33 #[clV (k, a, b, c), .int .i64 n] w fun e w' => e = .returned (.bool (!clN k n a b c)) ∧ Below w.heap.size w w' := by
  have hmf : ∀ (fn : Fn) (first cap : Array Value) (w : World), (Instr.makeFunc fn first cap).run Tryd.prog w = .ok (.func fn first cap) w := fun _ _ _ _ => rfl
  have hBl : Below w.heap.size w ((w.alloc (.cells #[.int .i64 k, .int .i64 a, .int .i64 b, .int .i64 c] 44)).alloc (.cells #[.bool false] 4)) := ((Below.refl _ _).alloc (Nat.le_refl _) _).alloc (by simp) _
  go_enter_defers Tryd.func33, Tryd.ntmps33
  go_wp2_with fail
  refine (mustBeOf_any n k a b c _).mono ?_
  rintro e w1 ⟨he, hb⟩
  have hc : w1.cell? ⟨w.heap.size + 1, 0, none⟩ = some (.bool false) := (hb.cell (by simp)).trans (by simp [go_sem])
  have hz : w1.frozen? ⟨w.heap.size + 1, 0, none⟩ = false := (hb.frozen (by simp)).trans (by simp [go_sem])
  have hB1 := hBl.trans (hb.mono hBl.size)
  have HB := Lib.hid hb
  clear hb
  rcases he with ⟨hq, rfl⟩ | ⟨hq, rfl⟩
  · have HQ := Lib.hid hq
    clear hq
    go_wp2
    refine leaves_cons (f := 47) (args := #[.pointer (some ⟨w.heap.size + 1, 0, none⟩)]) (by simp) (by simp [go_sem]) ?_
    refine (door_idle ⟨w.heap.size + 1, 0, none⟩ false _ ?_ ?_).mono ?_
    · first | exact hc | (simp [hc]; done) | exact World.cell?_setCell_same' _ _ _ (by rw [hc]; rfl)
    · rw [World.frozen?_setCell]; exact hz
    rintro e u' w'' ⟨rfl, rfl, rfl⟩
    simp [Leaves, settle, results, Tryd.results33, go_sem, hc, HQ.out]
    exact (hB1.setCell (by simp) _).setCell (by simp) _
  · have HQ := Lib.hid hq
    clear hq
    go_wp2
    refine leaves_cons (f := 47) (args := #[.pointer (some ⟨w.heap.size + 1, 0, none⟩)]) (by simp) (by simp [go_sem]) ?_
    refine (door_panicking ⟨w.heap.size + 1, 0, none⟩ false k a b c [] _ ?_ ?_).mono ?_
    · first | exact hc | (simp [hc]; done) | exact World.cell?_setCell_same' _ _ _ (by rw [hc]; rfl)
    · exact hz
    rintro e u' w'' ⟨rfl, rfl, rfl⟩
    simp [Leaves, settle, results, Tryd.results33, go_sem, hc, HQ.out]
    exact hB1.setCell (by simp) _
theorem isNoneOf_any (n k a b c : Int) (hn : 2 ≤ n ∧ n ≤ 4) (w : World) :
    Calls Tryd.prog 33 #[clV (k, a, b, c), .int .i64 n] w fun e w' => e = .returned (.bool (!clK k n a b c)) ∧ Below w.heap.size w w' := by
  have h := isNoneOf_all n k a b c w
  rw [clN, inB_true.2 hn, Bool.true_and] at h
  exact h
end Go.Proofs.YtoheoojpmndhoabDoor
