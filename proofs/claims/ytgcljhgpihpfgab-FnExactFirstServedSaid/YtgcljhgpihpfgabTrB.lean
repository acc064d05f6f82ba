/-
  The library's functions on bytes that the tours call: one deleted, one looked for.
  Conditions: lists of at most sixteen bytes.
-/
import Derived.Test.YtgcljhgpihpfgabShelfDelB
import Derived.Test.YtgcljhgpihpfgabAppU
import Derived.Test.YtgcljhgpihpfgabLdT
import Derived.Lib.OwnBridge
import Derived.Lib.Bytealg
import Derived.Lib.BytesEntry
import Derived.Laws.Externs
namespace Go.Proofs.Ytgcljhgpihpfgab
set_option linter.unusedVariables false
open Go.RowKit Go.Sort

theorem byte_at (s : ByteArray) {k : Nat} {c : UInt8} (h : s.data.toList[k]? = some c) : ∀ hk : k < s.size, s[k]'hk = c := by
  intro hk
  obtain ⟨hlt, he⟩ := List.getElem?_eq_some_iff.1 h
  rw [← he]
  simp [ByteArray.getElem_eq_getElem_data]
theorem byte_len (s : ByteArray) : s.data.toList.length = s.size := by rw [Array.length_toList]; rfl
theorem byte_get (s : ByteArray) {k : Nat} (h : k < s.size) : ∃ c, s.data.toList[k]? = some c := ⟨_, List.getElem?_eq_getElem (by rw [byte_len]; exact h)⟩
theorem byte_take {s : ByteArray} {k : Nat} {c : UInt8} (h : s.data.toList[k]? = some c) : s.data.toList.take (k + 1) = s.data.toList.take k ++ [c] := by rw [List.take_add_one, h]; rfl
theorem size_mk (l : List UInt8) : (ByteArray.mk l.toArray).size = l.length := by simp [ByteArray.size]
theorem iter_below (w : World) (s : ByteArray) (p : Nat) : Below w.heap.size w (w.iter s p) := (Below.refl _ _).alloc (Nat.le_refl _) _

theorem only_putRowB (w : World) (g q : Nat) (d : Array Int) : Only (fun b => b = g) w (putRow (Value.int .u8) (Sort.ahead w q) g 0 d) :=
  ⟨rfl, rfl, rfl, by simp [putRow, mapBlock, Sort.ahead], fun k _ hk => by simp [putRow, mapBlock, Sort.ahead, Array.getElem?_modify, show g ≠ k from fun e => hk e.symm]⟩

theorem deleteB_any (g n c base i : Nat) (xs : List Int) (w : World) (hown : OwnU w base (some ⟨g, 0, none⟩) n c xs) (hi : i < n) :
    Calls Try.prog 76 #[.slice (some ⟨g, 0, none⟩) n c, .int .i64 (i : Int), .int .i64 ((i : Int) + 1)] w fun e w' => e = .returned (.slice (some ⟨g, 0, none⟩) (n - 1) c) ∧
      OwnU w' base (some ⟨g, 0, none⟩) (n - 1) c (xs.eraseIdx i) ∧ Only (fun b => b = g) w w' := by
  obtain ⟨g', cap, e0, hg, hlt, hnc, hmx, hl, hH⟩ := Lib.holds_of_ownsRow (enc := Value.int .u8) hown (by intro e; cases e)
  obtain ⟨rfl, rfl⟩ : g = g' ∧ c = cap := by injection e0 with a _ b; injection a with a; injection a with a; exact ⟨a, b⟩
  have hm : maxLen ≤ 9223372036854775807 := by decide
  obtain ⟨i0, hi0, hz0, hz1, hz2⟩ := info_parts u8_info
  have h := AnyE.slices_Delete laysDelB (Value.int .u8) (fun _ => rfl) 0 Try.zeroValue5 i0 hi0 hz1 g 0 c i (i + 1) xs.toArray w hH (by simpa using (by omega : xs.length ≤ c)) (by omega) (by omega) (by simpa using (by omega : i + 1 ≤ xs.length))
  have hxs : xs.toArray.size = n := by simpa using hl
  rw [hxs, show n - (i + 1 - i) = n - 1 by omega, show i + 1 - i = 1 by omega, Int.natCast_add] at h
  refine Calls.mono (show Calls Try.prog 76 #[.slice (some ⟨g, 0, none⟩) n c, .int .i64 (i : Int), .int .i64 ((i : Int) + 1)] w _ from h) ?_
  rintro e w' ⟨rfl, q, rfl⟩
  have hr := Lib.ownsRow_putRow (q := q) (k := n - 1) (ys := xs.take i ++ xs.drop (i + 1) ++ List.replicate 1 0) hown (by simp; omega) (by omega)
  have ht : (xs.take i ++ xs.drop (i + 1) ++ List.replicate 1 0).take (n - 1) = xs.eraseIdx i := by
    rw [List.take_append_of_le_length (by simp; omega), List.take_of_length_le (by simp; omega), List.eraseIdx_eq_take_drop_succ]
  rw [ht] at hr
  exact ⟨rfl, hr, only_putRowB _ _ _ _⟩

/-- Where a byte stands, as the library tells it. -/
def ixT (xs : List Int) (c : Int) : Int := if atT xs c = xs.length then -1 else (atT xs c : Int)

set_option maxHeartbeats 1000000 in
theorem indexB_any (A : Option Addr) (n d base : Nat) (xs : List Int) (c : Int) (w : World) (h : OwnU w base A n d xs) (hn : n ≤ 1000) :
    Calls Try.prog 109 #[.slice A n d, .int .u8 c] w fun e w' => e = .returned (.int .i64 (ixT xs c)) ∧ w = w' := by
  have hl := h.len
  go_enter Try.func109, Try.ntmps109
  go_wp2
  go_loopw [8] (fun i wr => ∃ k : Nat, k ≤ atT xs c ∧ i = .int .i64 (k : Int) ∧ wr = w) (fun i _ => n - (intOf i).toNat)
  case atStart => exact ⟨0, Nat.zero_le _, rfl, rfl⟩
  case round =>
    obtain ⟨k, hk, rfl, rfl⟩ := hrel
    have hle := atT_le xs c
    by_cases hlt : k < n
    · obtain ⟨u, hu⟩ : ∃ u, xs[k]? = some u := ⟨_, List.getElem?_eq_getElem (by omega)⟩
      obtain ⟨g, rfl, _, hg, hnc, hkn, q1, f1⟩ := h.at_ hu
      obtain ⟨hul, hue⟩ := List.getElem?_eq_some_iff.1 hu
      have hki : (k : Int) < (n : Int) := by omega
      by_cases hka : k < atT xs c
      · have hne : ¬ u = c := by
          have := List.not_of_lt_findIdx hka
          rw [hue] at this
          simpa using this
        have d1 : (c == u) = false := beq_eq_false_iff_ne.2 fun e => hne e.symm
        have HK := Lib.hid hka
        clear hu hue hne hka
        go_wp2
        go_roundw
        case rel => exact ⟨k + 1, by have := HK.out; omega, by go_num, by first | rfl | trivial⟩
        case measure => simp [intOf]; omega
      · have hka : k = atT xs c := by omega
        have hee : u = c := by
          have hw : atT xs c < xs.length := by omega
          have := List.findIdx_getElem (p := fun x => decide (x = c)) (w := hw)
          have h2 : xs[atT xs c]'hw = u := by
            have h3 : xs[atT xs c]? = some u := by rw [← hka]; exact hu
            exact (List.getElem?_eq_some_iff.1 h3).2
          rw [show xs[List.findIdx (fun x => decide (x = c)) xs]'hw = u from h2] at this
          simpa using this
        have d1 : (c == u) = true := beq_iff_eq.2 hee.symm
        have hix : ixT xs c = (k : Int) := by rw [ixT, if_neg (by omega), ← hka]
        have HI := Lib.hid hix
        clear hu hue hee hka hix
        go_wp2
        go_ret
        exact ⟨by rw [HI.out]; rfl, rfl⟩
    · have hkn : k = n := by omega
      subst hkn
      have hix : ixT xs c = -1 := by rw [ixT, if_pos (by omega)]
      have HI := Lib.hid hix
      clear hix
      go_wp2
      go_ret
      exact ⟨by rw [HI.out]; rfl, rfl⟩

theorem containsB_any (A : Option Addr) (n d base : Nat) (xs : List Int) (c : Int) (w : World) (h : OwnU w base A n d xs) (hn : n ≤ 1000) :
    Calls Try.prog 75 #[.slice A n d, .int .u8 c] w fun e w' => e = .returned (.bool (decide (atT xs c < xs.length))) ∧ w = w' := by
  have HC := Lib.hid (indexB_any A n d base xs c w h hn)
  have hle := atT_le xs c
  have hd : decide (ixT xs c ≥ 0) = decide (atT xs c < xs.length) := by
    unfold ixT
    by_cases e : atT xs c = xs.length
    · rw [if_pos e, decide_eq_false (by omega), decide_eq_false (by omega)]
    · rw [if_neg e, decide_eq_true (by omega), decide_eq_true (by omega)]
  generalize decide (atT xs c < xs.length) = q at *
  generalize ixT xs c = ix at *
  clear h hle
  go_enter Try.func75, Try.ntmps75
  go_wp2_with fail
  refine HC.out.mono ?_
  rintro e w1 ⟨rfl, rfl⟩
  go_wp2
  go_ret
  exact ⟨by rw [← hd]; first | rfl | simp, rfl⟩
theorem contains_at (xs : List Int) (c : Int) : xs.contains c = decide (atT xs c < xs.length) := by
  have h : (atT xs c < xs.length) ↔ ∃ x ∈ xs, x = c := by
    unfold atT
    rw [List.findIdx_lt_length]
    simp
  by_cases hc : c ∈ xs
  · rw [decide_eq_true (h.2 ⟨c, hc, rfl⟩)]; simpa using hc
  · rw [decide_eq_false (fun e => by obtain ⟨x, hx, rfl⟩ := h.1 e; exact hc hx)]; simpa using hc

/-- The library's place of a byte in a list of them. -/
theorem indexByte_at (xs : List Int) (c : UInt8) (hx : ∀ x ∈ xs, 0 ≤ x ∧ x ≤ 255) : Lib.indexByte (Lib.bytesOf xs) c = ixT xs (c.toNat : Int) := by
  induction xs with
  | nil => rfl
  | cons x xs ih =>
    have h1 := ih fun y hy => hx y (List.mem_cons_of_mem _ hy)
    have hx0 := hx x List.mem_cons_self
    show Lib.indexByte (_ :: Lib.bytesOf xs) c = _
    rw [Lib.indexByte, h1]
    have hle := atT_le xs (c.toNat : Int)
    have hb : (UInt8.ofNat x.toNat == c) = decide (x = (c.toNat : Int)) := by
      have hc := c.toNat_lt
      by_cases e : x = (c.toNat : Int)
      · rw [decide_eq_true e, beq_iff_eq]
        apply UInt8.toNat_inj.1
        rw [UInt8.toNat_ofNat']
        omega
      · rw [decide_eq_false e, beq_eq_false_iff_ne]
        intro h
        apply e
        have h2 := congrArg UInt8.toNat h
        rw [UInt8.toNat_ofNat'] at h2
        omega
    have hcons : atT (x :: xs) (c.toNat : Int) = if x = (c.toNat : Int) then 0 else atT xs (c.toNat : Int) + 1 := by
      unfold atT
      rw [List.findIdx_cons]
      by_cases e : x = (c.toNat : Int) <;> simp [e]
    rw [hb]
    unfold ixT
    rw [hcons, List.length_cons]
    by_cases e : x = (c.toNat : Int)
    · simp only [e, decide_true, if_true]
      rw [if_neg (by omega)]; rfl
    · simp only [e, decide_false, if_false, Bool.false_eq_true]
      by_cases e2 : atT xs (c.toNat : Int) = xs.length
      · rw [if_pos e2, if_pos (show atT xs (c.toNat : Int) + 1 = xs.length + 1 by omega)]; rfl
      · have h3 : ((atT xs (c.toNat : Int) : Int) == -1) = false := beq_eq_false_iff_ne.2 (by omega)
        rw [if_neg e2, if_neg (show ¬ atT xs (c.toNat : Int) + 1 = xs.length + 1 by omega), h3]
        simp only [Bool.false_eq_true, if_false]
        push_cast; rfl

set_option maxRecDepth 100000 in
theorem bytesIndexByte_any (A : Option Addr) (n d base : Nat) (xs : List Int) (c : UInt8) (w : World) (h : OwnU w base A n d xs) (hx : ∀ x ∈ xs, 0 ≤ x ∧ x ≤ 255) :
    Calls Try.prog 66 #[.slice A n d, .int .u8 (c.toNat : Int)] w fun e w' => e = .returned (.int .i64 (ixT xs (c.toNat : Int))) ∧ w = w' := by
  have hl := h.len
  have hcc : ((c.toNat : Int).toNat.toUInt8) = c := by simp
  have hrun : (Extern.BytealgIndexByte.indexByte #[.slice A n d, .int .u8 (c.toNat : Int)]).run Try.prog w = .ok (.int .i64 (ixT xs (c.toNat : Int))) w := by
    rcases id h.2 with ⟨h', hn⟩ | ⟨g, cap, cur, h', hb, hg, hnc, _⟩
    · injection h' with h1 h2 h3
      subst h1 h2 h3
      obtain rfl : xs = [] := List.length_eq_zero_iff.1 hl
      exact Lib.run_indexByteNil w 0 0 (c.toNat : Int)
    · injection h' with h1 h2 h3
      subst h1 h3
      have hcell : ∀ i, i < n → w.cell? ⟨g, 0 + i, none⟩ = some (.int .u8 (xs.getD i 0)) := by
        intro i hi
        obtain ⟨u, hu⟩ : ∃ u, xs[i]? = some u := ⟨_, List.getElem?_eq_getElem (by omega)⟩
        rw [Nat.zero_add, h.cellAt i (by omega), List.getElem?_map, hu, List.getD, hu]; rfl
      rw [Lib.run_indexByteSlice w g 0 n d xs hl hcell (c.toNat : Int), hcc, indexByte_at xs c hx]
  generalize ixT xs (c.toNat : Int) = ix at *
  have HR := Lib.hid hrun
  clear h hl hrun hx
  go_enter Try.func66, Try.ntmps66
  go_wp2
  rw [run_callFunc_extern Try.func79 (by kernel_rfl) (by kernel_rfl) (by kernel_rfl) (e := Extern.BytealgIndexByte.indexByte) (by kernel_rfl), HR.out]
  simp only [Result.andThen]
  rw [Oper.upon_value]
  go_wp2
  go_ret
  exact ⟨rfl, rfl⟩
end Go.Proofs.Ytgcljhgpihpfgab
