/-
  Both programs' FitsIn and VolumeOf.
  Conditions: none.
-/
import Derived.Test.YtbaofgbkcolmmabBoxGood
namespace Go.Proofs.Ytbaofgbkcolmmab
set_option linter.unusedVariables false
open Go.RowKit

def insideB (a b : Int × Int × Int) : Bool := decide (a.1 < b.1 ∧ a.2.1 < b.2.1 ∧ a.2.2 < b.2.2)
def volT (b : Int × Int × Int) : Int := b.1 * b.2.1 * b.2.2
def iff0 (q : Bool) (n : Int) : Int := if q = true then n else 0

theorem fitsAs_any (x y z x' y' z' : Int) (w : World) (p : Bool) (hp : insideB (x, y, z) (x', y', z') = p) :
    Calls Try.prog 149 #[.agg #[.int .i64 x, .int .i64 y, .int .i64 z], .agg #[.int .i64 x', .int .i64 y', .int .i64 z']] w fun e w' => e = .returned (.bool p) ∧ Below w.heap.size w w' := by
  have HP := Lib.hid hp
  clear hp
  by_cases h1 : x < x'
  · by_cases h2 : y < y'
    · obtain ⟨r, hr⟩ : ∃ r, decide (z < z') = r := ⟨_, rfl⟩
      obtain rfl : r = p := by rw [← HP.out, ← hr]; simp [insideB, h1, h2]
      clear HP
      go_enter Try.func149, Try.ntmps149
      go_wp2
      go_ret
      exact ⟨rfl, ((Below.refl _ _).alloc (Nat.le_refl _) _).alloc (by simp) _⟩
    · have h2' : decide (y < y') = false := by simpa using h2
      obtain rfl : p = false := by rw [← HP.out]; simp [insideB, h2]
      clear HP h2
      go_enter Try.func149, Try.ntmps149
      go_wp2
      go_ret
      exact ⟨rfl, ((Below.refl _ _).alloc (Nat.le_refl _) _).alloc (by simp) _⟩
  · have h1' : decide (x < x') = false := by simpa using h1
    obtain rfl : p = false := by rw [← HP.out]; simp [insideB, h1]
    clear HP h1
    go_enter Try.func149, Try.ntmps149
    go_wp2
    go_ret
    exact ⟨rfl, ((Below.refl _ _).alloc (Nat.le_refl _) _).alloc (by simp) _⟩

/-- A box in memory. -/
def BoxAt (w : World) (g : Nat) (x y z : Int) : Prop := w.cell? ⟨g, 0, none⟩ = some (.int .i64 x) ∧ w.cell? ⟨g, 1, none⟩ = some (.int .i64 y) ∧ w.cell? ⟨g, 2, none⟩ = some (.int .i64 z)
theorem BoxAt.of {w : World} {g : Nat} {x y z : Int} {T : Nat} (h : w.heap[g]? = some (.cells #[.int .i64 x, .int .i64 y, .int .i64 z] T (0, 0))) : BoxAt w g x y z := ⟨cell_of h 0, cell_of h 1, cell_of h 2⟩
theorem BoxAt.below {w w' : World} {g : Nat} {x y z : Int} (h : BoxAt w g x y z) (hb : Below w.heap.size w w') : BoxAt w' g x y z :=
  ⟨(hb.cell (by have := cell_lt h.1; exact this)).trans h.1, (hb.cell (by have := cell_lt h.2.1; exact this)).trans h.2.1, (hb.cell (by have := cell_lt h.2.2; exact this)).trans h.2.2⟩
theorem par2 (w : World) (A B : Obj) : ((w.alloc A).alloc B).heap[w.heap.size]? = some A ∧ ((w.alloc A).alloc B).heap[w.heap.size + 1]? = some B :=
  ⟨by rw [alloc_old _ (by simp)]; exact new_at w A rfl, new_at _ B (by simp)⟩

theorem vol_bds {x y z : Int} (h : boxB (x, y, z) = true) : (1 ≤ x * y ∧ x * y ≤ 2500) ∧ 1 ≤ x * y * z ∧ x * y * z ≤ 125000 := by
  rw [boxB_true] at h
  obtain ⟨⟨a1, a2⟩, ⟨b1, b2⟩, c1, c2⟩ := h
  simp only at a1 a2 b1 b2 c1 c2
  have h1 : 1 * 1 ≤ x * y := Int.mul_le_mul a1 b1 (by omega) (by omega)
  have h2 : x * y ≤ 50 * 50 := Int.mul_le_mul a2 b2 (by omega) (by omega)
  have h3 : 1 * 1 ≤ x * y * z := Int.mul_le_mul (by omega) c1 (by omega) (by omega)
  have h4 : x * y * z ≤ 2500 * 50 := Int.mul_le_mul (by omega) c2 (by omega) (by omega)
  omega

theorem neVolume_any (x y z : Int) (w : World) (h : boxB (x, y, z) = true) :
    Calls Try.prog 52 #[.agg #[.int .i64 x, .int .i64 y, .int .i64 z]] w fun e w' => e = .returned (.int .i64 (volT (x, y, z))) ∧ Below w.heap.size w w' := by
  obtain ⟨⟨h1, h2⟩, h3, h4⟩ := vol_bds h
  have HV : Hid (x * y * z = volT (x, y, z)) := rfl
  obtain ⟨p, hp⟩ : ∃ p, x * y = p := ⟨_, rfl⟩
  rw [hp] at h1 h2 h3 h4 HV
  obtain ⟨r, hr⟩ : ∃ r, p * z = r := ⟨_, rfl⟩
  rw [hr] at h3 h4 HV
  clear h
  go_enter Try.func52, Try.ntmps52
  go_wp2
  go_ret
  exact ⟨by rw [← HV.out]; first | rfl | (congr 1; omega), (Below.refl _ _).alloc (Nat.le_refl _) _⟩

theorem volume_any (x y z : Int) (w : World) (h : boxB (x, y, z) = true) :
    Calls Try.prog 54 #[.agg #[.int .i64 x, .int .i64 y, .int .i64 z]] w fun e w' => e = .returned (.int .i64 (volT (x, y, z))) ∧ Below w.heap.size w w' := by
  obtain ⟨⟨h1, h2⟩, h3, h4⟩ := vol_bds h
  have HV : Hid (x * y * z = volT (x, y, z)) := rfl
  obtain ⟨p, hp⟩ : ∃ p, x * y = p := ⟨_, rfl⟩
  rw [hp] at h1 h2 h3 h4 HV
  obtain ⟨r, hr⟩ : ∃ r, p * z = r := ⟨_, rfl⟩
  rw [hr] at h3 h4 HV
  clear h
  go_enter Try.func54, Try.ntmps54
  go_wp2
  go_ret
  exact ⟨by rw [← HV.out]; first | rfl | (congr 1; omega), (Below.refl _ _).alloc (Nat.le_refl _) _⟩

end Go.Proofs.Ytbaofgbkcolmmab
