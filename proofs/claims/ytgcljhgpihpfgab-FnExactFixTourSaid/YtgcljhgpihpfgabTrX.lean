/-
  Both programs unload each box at once.
  Conditions: none.
-/
import Derived.Test.YtgcljhgpihpfgabTrA
import Derived.Test.YtgcljhgpihpfgabShelfB
namespace Go.Proofs.Ytgcljhgpihpfgab
set_option linter.unusedVariables false
open Go.RowKit

/-- Each box unloaded at once. -/
def onceL (L : List Int) : List Int := L.flatMap fun r => [r, r - 32]
theorem onceL_append (A B : List Int) : onceL (A ++ B) = onceL A ++ onceL B := by unfold onceL; rw [List.flatMap_append]
theorem onceL_one (r : Int) : onceL [r] = [r, r - 32] := by simp [onceL]
theorem onceL_next {L : List Int} {k : Nat} {r : Int} (h : L[k]? = some r) : onceL (L.take (k + 1)) = onceL (L.take k) ++ [r, r - 32] := by
  rw [List.take_add_one, h, onceL_append]; rfl
theorem onceL_len (L : List Int) : (onceL L).length = 2 * L.length := by
  induction L with
  | nil => rfl
  | cons a t ih => rw [← List.singleton_append, onceL_append, List.length_append, ih, onceL_one]; simp; omega
theorem onceL_bd {L : List Int} (h : ∀ c ∈ L, isLoad c = true) : ∀ x ∈ onceL L, 0 ≤ x ∧ x ≤ 255 := by
  intro x hx
  unfold onceL at hx
  rw [List.mem_flatMap] at hx
  obtain ⟨c, hc, hx⟩ := hx
  have := isLoad_true.1 (h c hc)
  simp only [List.mem_cons, List.not_mem_nil, or_false] at hx
  omega

/-- A row of bytes as cells. -/
def cellsU (xs : List Int) : List Value := xs.map (Value.int .u8)
theorem cellsU_append (a b : List Int) : cellsU (a ++ b) = cellsU a ++ cellsU b := by unfold cellsU; rw [List.map_append]
theorem cellsU_len (a : List Int) : (cellsU a).length = a.length := by simp [cellsU]
theorem cellsU_bytes {xs : List Int} (h : ∀ x ∈ xs, 0 ≤ x ∧ x ≤ 255) : Lib.byteCells (ofI xs) = cellsU xs := by
  unfold Lib.byteCells ofI cellsU
  rw [List.map_map]
  refine List.map_congr_left fun x hx => ?_
  have := h x hx
  show Value.int .u8 ((UInt8.ofNat x.toNat).toNat : Int) = _
  rw [UInt8.toNat_ofNat']
  congr 1; omega

set_option maxRecDepth 100000 in
set_option maxHeartbeats 2000000 in
theorem atOnce_any (s : ByteArray) (hs : s.size ≤ 100) (hall : ∀ c ∈ lettersT s, isLoad c = true) (v : ByteArray) (hv : strU (onceL (lettersT s)) = v) (w : World) :
    Calls Try.prog 40 #[.string s] w fun e w' => e = .returned (.string v) ∧ Below w.heap.size w w' := by
  obtain ⟨L, hL⟩ : ∃ L, lettersT s = L := ⟨_, rfl⟩
  have hLl : L.length = s.size := by rw [← hL, letters_len]
  rw [hL] at hv hall
  have HL := Lib.hid hL
  have HV := Lib.hid hv
  have HALL := Lib.hid hall
  clear hL hv hall
  have hI0 : Lib.IsBuilderF 60 5 w.heap.size w.heap.size (cellsU (onceL (L.take 0))) ((w.alloc (.cells #[.pointer none, .slice none 0 0] 60)).iter s 0) := (Lib.IsBuilderF.of (Lib.fresh_isBuilder 60 5 w)).alloc _
  have hit0 : ((w.alloc (.cells #[.pointer none, .slice none 0 0] 60)).iter s 0).heap[w.heap.size + 1]? = some (.stringIter s 0) := by
    have := World.iter_heap (w.alloc (.cells #[.pointer none, .slice none 0 0] 60)) s 0
    simpa using this
  have hb0 : Below w.heap.size w ((w.alloc (.cells #[.pointer none, .slice none 0 0] 60)).iter s 0) := ((Below.refl _ w).alloc (Nat.le_refl _) _).alloc (by simp) _
  have HI0 := Lib.hid hI0
  have HT0 := Lib.hid hit0
  have HB0 := Lib.hid hb0
  clear hI0 hit0 hb0
  go_enter Try.func40, Try.ntmps40
  go_wp2
  go_loopw [] (fun wr => ∃ k : Nat, k ≤ s.size ∧ Lib.IsBuilderF 60 5 w.heap.size w.heap.size (cellsU (onceL (L.take k))) wr ∧ wr.heap[w.heap.size + 1]? = some (.stringIter s k) ∧ Below w.heap.size w wr) (fun wr => s.size - wr.iterPos (w.heap.size + 1))
  case atStart => exact ⟨0, by omega, HI0.out, HT0.out, HB0.out⟩
  case round =>
    obtain ⟨k, hk, hI, hit, hb⟩ := hrel
    have hlen := onceL_len (L.take k)
    rw [List.length_take] at hlen
    by_cases hlt : k < s.size
    · obtain ⟨ch, hch⟩ := byte_get s hlt
      have hik := byte_at s hch hlt
      have hcL : L[k]? = some (ch.toNat : Int) := by rw [← HL.out]; exact u8_at hch
      have hbr := isLoad_true.1 (HALL.out _ (List.mem_of_getElem? hcL))
      obtain ⟨r, hr⟩ : ∃ r : Int, (ch.toNat : Int) = r := ⟨_, rfl⟩
      rw [hr] at hcL hbr
      have hd := decode_ascii s k hlt (by rw [hik]; omega)
      rw [hik] at hd
      have hnx := fun ty => Lib.run_next_any_at (P := Try.prog) wr (w.heap.size + 1) s k ty hit hlt
      rw [hd] at hnx
      simp only [hr] at hnx
      have hnext := onceL_next hcL
      have hM := iterTo_pos hit
      have hI2 := hI.iterAt hit (k + 1)
      have hit2 := Lib.iterAt_heap wr (w.heap.size + 1) s k (k + 1) hit
      have hb2 := Lib.below_iterAt hb (k := w.heap.size + 1) (by omega) s (k + 1)
      obtain ⟨W, hW⟩ : ∃ W, wr.iterAt (w.heap.size + 1) s (k + 1) = W := ⟨_, rfl⟩
      rw [hW] at hnx hI2 hit2 hb2
      have hsz2 : w.heap.size ≤ W.heap.size := hb2.size
      have hcr : Lib.runeCells r = [.int .u8 r] := by unfold Lib.runeCells; rw [Lib.encodeRuneZ_one (by omega) (by omega)]; rfl
      have hF1 := Any.Builder_WriteRune_k laysWR laysWRX w.heap.size w.heap.size (cellsU (onceL (L.take k))) r (by omega) (by omega) W hI2 (by rw [cellsU_len]; omega) hsz2
      rw [hcr] at hF1
      have hEX := fun W => exchanged_down r W hbr
      have hwr : IntKind.u8.wrap r = r := by rw [IntKind.wrap_u8]; omega
      have HF1 := Lib.hid hF1
      have HEX := Lib.hid hEX
      have HIT2 := Lib.hid hit2
      have HB2 := Lib.hid hb2
      have HM := Lib.hid hM
      have HN := Lib.hid hnext
      clear hch hik hcL hr hd hI hit hb hI2 hit2 hb2 hW hF1 hcr hEX hM hnext
      go_wp2_with fail
      refine HF1.out.mono ?_
      rintro e w3 ⟨rfl, h3, b3, k3⟩
      have hs3 := b3.size
      have HB3 := Lib.hid (HB2.out.trans b3)
      have HIT3 := Lib.hid (k3.iter HIT2.out (by omega))
      have hI3 : Lib.IsBuilderF 60 5 w.heap.size w.heap.size (cellsU (onceL (L.take k)) ++ [Value.int .u8 r]) w3 := Or.inr h3
      have hF2 := Any.Builder_WriteByte_k laysWB laysWBX w.heap.size w.heap.size (cellsU (onceL (L.take k)) ++ [Value.int .u8 r]) (r - 32) w3 hI3 (by rw [List.length_append, cellsU_len]; simp; omega) (by omega)
      have HF2 := Lib.hid hF2
      clear h3 b3 k3 hI3 hF2
      go_wp2_with fail
      refine (HEX.out _).mono ?_
      rintro e w4 ⟨rfl, rfl⟩
      go_wp2_with fail
      refine HF2.out.mono ?_
      rintro e w5 ⟨rfl, h5, b5, k5⟩
      have HB5 := Lib.hid (HB3.out.trans b5)
      have HIT5 := Lib.hid (k5.iter HIT3.out (by omega))
      have hI5 : Lib.IsBuilderF 60 5 w.heap.size w.heap.size ((cellsU (onceL (L.take k)) ++ [Value.int .u8 r]) ++ [Value.int .u8 (r - 32)]) w5 := Or.inr h5
      rw [show (cellsU (onceL (L.take k)) ++ [Value.int .u8 r]) ++ [Value.int .u8 (r - 32)] = cellsU (onceL (L.take (k + 1))) by rw [HN.out, cellsU_append, List.append_assoc]; rfl] at hI5
      have HI5 := Lib.hid hI5
      clear h5 b5 k5 hI5
      go_wp2
      go_roundw
      case rel => exact ⟨k + 1, by omega, HI5.out, HIT5.out, HB5.out⟩
      case measure => rw [HM.out, iterTo_pos HIT5.out]; omega
    · obtain rfl : k = s.size := by omega
      have hnx := fun ty => Lib.run_next_end_at (P := Try.prog) wr (w.heap.size + 1) s s.size ty hit hlt
      rw [List.take_of_length_le (by omega), ← cellsU_bytes (onceL_bd HALL.out)] at hI
      have hF := Any.Builder_String_any_k laysST laysSTX w.heap.size w.heap.size (ofI (onceL L)) wr hI hb.size
      have hvv : (⟨(ofI (onceL L)).toArray⟩ : ByteArray) = v := HV.out
      rw [hvv] at hF
      have HF := Lib.hid hF
      have HB := Lib.hid hb
      clear hI hit hb hF hvv
      go_wp2_with fail
      refine HF.out.mono ?_
      rintro e w3 ⟨rfl, _, b3, _⟩
      go_wp2
      go_ret
      exact ⟨rfl, HB.out.trans b3⟩

/-- A tour that loads the same boxes and unloads each at once. -/
def fixS (s : ByteArray) : ByteArray := strU (onceL ((lettersT s).filter isLoad))

set_option maxRecDepth 100000 in
set_option maxHeartbeats 2000000 in
theorem impl_FixTour (s : ByteArray) (q : Bool) (w : World) (hq : isTB s = q) (v : ByteArray) (hv : fixS s = v) :
    Calls Try.prog 24 #[.string s] w fun e w' => e = .returned (.tuple #[.string (if q then v else ⟨#[]⟩), .bool q]) ∧ Below w.heap.size w w' := by
  cases q with
  | false =>
    have HC := Lib.hid (trip_no s w hq)
    clear hq hv
    go_enter Try.func24, Try.ntmps24
    go_wp2_with fail
    refine HC.out.mono ?_
    rintro e w1 ⟨rfl, hb⟩
    have hb2 := hb.alloc hb.size (.cells #[.slice none 0 0, .slice none 0 0, .int .i64 0, .bool false] 37)
    go_wp2
    go_ret2
    exact ⟨rfl, hb2⟩
  | true =>
    obtain ⟨t, ht⟩ := Option.isSome_iff_exists.1 hq
    have HC := Lib.hid (trip_yes s t w ht)
    obtain ⟨hsz, hall⟩ := tourT_letters hq
    have hrun : runT (lettersT s) = some t := (tourT_some ht).2
    have hld := (runT_keeps hrun).1
    have hll : t.ld.length ≤ 16 := by have := (runT_small hrun).2; rw [letters_len] at this; omega
    have hal : ∀ c ∈ t.ld, isLoad c = true := fun c hc => by rw [hld] at hc; exact (List.mem_filter.1 hc).2
    have hbd : ∀ c ∈ t.ld, 0 ≤ c ∧ c ≤ 255 := fun c hc => by have := isLoad_true.1 (hal c hc); omega
    have hlt := strU_letters hbd
    have hO := fun W => atOnce_any (strU t.ld) (by rw [strU_size]; omega) (by rw [hlt]; exact hal) v (by rw [hlt, ← hv, fixS, hld]) W
    have HO := Lib.hid hO
    have HBD := Lib.hid hbd
    clear hq hv ht hall hrun hld hal hbd hlt hO
    go_enter Try.func24, Try.ntmps24
    go_wp2_with fail
    refine HC.out.mono ?_
    rintro e w1 ⟨A, n, c, B, m, d, rfl, hb, hA, hB⟩
    have hbb := hb.alloc hb.size (.cells #[.slice A n c, .slice B m d, .int .i64 t.full, .bool t.blk] 37)
    have htx := row_text (hA.alloc (.cells #[.slice A n c, .slice B m d, .int .i64 t.full, .bool t.blk] 37)) HBD.out
    have HBB := Lib.hid hbb
    have hs1 := hbb.size
    clear hA hB hb hbb
    go_wp2_with fail
    refine (HO.out _).mono ?_
    rintro e w3 ⟨rfl, hb3⟩
    have HB3 := Lib.hid (HBB.out.trans (hb3.mono hs1))
    clear hb3
    go_wp2
    go_ret2
    exact ⟨rfl, HB3.out⟩
theorem isNumber_any (a : Int) (q : Bool) (hq : inB a 0 8 = q) (w : World) :
    Calls Try.prog 41 #[.int .i64 a] w fun e w' => e = .returned (.bool q) ∧ w = w' := by
  cases q
  · rw [inB_false] at hq
    by_cases h1 : 0 ≤ a
    · have d1 : decide (a ≥ 0) = true := by simp; omega
      have d2 : decide (a ≤ 8) = false := by simp; omega
      clear hq
      go_enter Try.func41, Try.ntmps41
      go_wp2
      go_ret
      exact ⟨rfl, rfl⟩
    · have d1 : decide (a ≥ 0) = false := by simp; omega
      clear hq
      go_enter Try.func41, Try.ntmps41
      go_wp2
      go_ret
      exact ⟨rfl, rfl⟩
  · rw [inB_true] at hq
    have d1 : decide (a ≥ 0) = true := by simp; omega
    have d2 : decide (a ≤ 8) = true := by simp; omega
    clear hq
    go_enter Try.func41, Try.ntmps41
    go_wp2
    go_ret
    exact ⟨rfl, rfl⟩

/-- The first boxes. -/
def firstL (n : Nat) : List Int := (List.range n).map fun i : Nat => (97 : Int) + (i : Int)
def firstS (a : Int) : ByteArray := strU (onceL (firstL a.toNat))
theorem firstL_len (n : Nat) : (firstL n).length = n := by simp [firstL]
theorem firstL_succ (n : Nat) : firstL (n + 1) = firstL n ++ [97 + (n : Int)] := by simp [firstL, List.range_succ]
theorem firstL_load {n : Nat} (h : n ≤ 8) : ∀ c ∈ firstL n, isLoad c = true := by
  intro c hc
  unfold firstL at hc
  rw [List.mem_map] at hc
  obtain ⟨i, hi, rfl⟩ := hc
  rw [List.mem_range] at hi
  exact isLoad_true.2 (by omega)
end Go.Proofs.Ytgcljhgpihpfgab
