/-
  The given program's van on a tour.
  Conditions: at most sixteen letters.
-/
import Derived.Test.YtgcljhgpihpfgabTrO
import Derived.Deep.RegionHeld3
namespace Go.Proofs.Ytgcljhgpihpfgab
set_option linter.unusedVariables false
open Go.RowKit

def ofI (xs : List Int) : List UInt8 := xs.map fun x => UInt8.ofNat x.toNat
/-- Letters as a text. -/
def strU (xs : List Int) : ByteArray := ⟨(ofI xs).toArray⟩
theorem ofI_len (xs : List Int) : (ofI xs).length = xs.length := by simp [ofI]
theorem ofI_append (a b : List Int) : ofI (a ++ b) = ofI a ++ ofI b := by simp [ofI]
theorem ofI_one (c : UInt8) : ofI [(c.toNat : Int)] = [c] := by simp [ofI]
theorem strU_size (xs : List Int) : (strU xs).size = xs.length := by rw [strU, size_mk, ofI_len]
theorem strU_letters {xs : List Int} (h : ∀ x ∈ xs, 0 ≤ x ∧ x ≤ 255) : lettersT (strU xs) = xs := by
  show u8 (ofI xs) = xs
  unfold u8 ofI
  rw [List.map_map]
  refine (List.map_congr_left fun x hx => ?_).trans (List.map_id xs)
  have := h x hx
  show ((UInt8.ofNat x.toNat).toNat : Int) = x
  rw [UInt8.toNat_ofNat']
  omega
theorem u8_ofI (l : List UInt8) : ofI (u8 l) = l := by
  unfold u8 ofI
  rw [List.map_map]
  exact (List.map_congr_left fun x hx => by simp).trans (List.map_id l)
theorem letters_at {s : ByteArray} {k : Nat} {c : UInt8} (h : s.data.toList[k]? = some c) : (lettersT s)[k]? = some (c.toNat : Int) := u8_at h
theorem letters_len (s : ByteArray) : (lettersT s).length = s.size := by unfold lettersT; rw [u8_len, byte_len]

set_option maxHeartbeats 1000000 in
theorem ldAt_any (s : ByteArray) (c : Int) (w : World) (hs : s.size ≤ 1000) :
    Calls Try.prog 51 #[.string s, .int .u8 c] w fun e w' => e = .returned (.int .i64 (ixT (lettersT s) c)) ∧ w = w' := by
  obtain ⟨xs, hxs⟩ : ∃ xs, lettersT s = xs := ⟨_, rfl⟩
  have hl : xs.length = s.size := by rw [← hxs, letters_len]
  rw [hxs]
  have HX := Lib.hid hxs
  clear hxs
  go_enter Try.func51, Try.ntmps51
  go_wp2
  go_loopw [5] (fun i wr => ∃ k : Nat, k ≤ atT xs c ∧ i = .int .i64 (k : Int) ∧ wr = w) (fun i _ => s.size - (intOf i).toNat)
  case atStart => exact ⟨0, Nat.zero_le _, rfl, rfl⟩
  case round =>
    obtain ⟨k, hk, rfl, rfl⟩ := hrel
    have hle := atT_le xs c
    by_cases hlt : k < s.size
    · obtain ⟨b, hb⟩ := byte_get s hlt
      have hik := byte_at s hb
      have hu := letters_at hb
      rw [HX.out] at hu
      obtain ⟨u, huu⟩ : ∃ u : Int, (b.toNat : Int) = u := ⟨_, rfl⟩
      rw [huu] at hu
      have hik2 : ∀ hk : k < s.size, ((s[k]'hk).toNat : Int) = u := fun hk => by rw [hik hk]; exact huu
      obtain ⟨hul, hue⟩ := List.getElem?_eq_some_iff.1 hu
      by_cases hka : k < atT xs c
      · have hne : ¬ u = c := by
          have := List.not_of_lt_findIdx hka
          rw [hue] at this
          simpa using this
        have d1 : (u == c) = false := beq_eq_false_iff_ne.2 hne
        have HK := Lib.hid hka
        clear hu hue hne hka hb hik huu
        go_wp2
        go_roundw
        case rel => exact ⟨k + 1, by have := HK.out; omega, by go_num, by first | rfl | trivial⟩
        case measure => simp [intOf]; omega
      · have hka : k = atT xs c := by omega
        have hee : u = c := by
          have hw : atT xs c < xs.length := by omega
          have := List.findIdx_getElem (p := fun x => decide (x = c)) (w := hw)
          have h2 : xs[atT xs c]'hw = u := by
            have h3 : xs[atT xs c]? = some u := by rw [← hka]; exact hu
            exact (List.getElem?_eq_some_iff.1 h3).2
          rw [show xs[List.findIdx (fun x => decide (x = c)) xs]'hw = u from h2] at this
          simpa using this
        have d1 : (u == c) = true := beq_iff_eq.2 hee
        have hix : ixT xs c = (k : Int) := by rw [ixT, if_neg (by omega), ← hka]
        have HI := Lib.hid hix
        clear hu hue hee hka hix hb hik huu
        go_wp2
        go_ret
        exact ⟨by rw [HI.out]; rfl, rfl⟩
    · have hkn : k = s.size := by omega
      subst hkn
      have hix : ixT xs c = -1 := by rw [ixT, if_pos (by omega)]
      have HI := Lib.hid hix
      clear hix
      go_wp2
      go_ret
      exact ⟨by rw [HI.out]; rfl, rfl⟩

theorem ldSmall_any (r : Int) (w : World) (h : 0 ≤ r ∧ r ≤ 255) :
    Calls Try.prog 38 #[.int .u8 r] w fun e w' => e = .returned (.int .u8 (smallT r)) ∧ w = w' := by
  by_cases h1 : isLoad r = true
  · have hb := isLoad_true.1 h1
    have hv : smallT r = r := by unfold smallT; rw [if_pos h1]
    rw [hv]
    have d1 : decide (r ≥ 97) = true := decide_eq_true hb.1
    have d2 : decide (r ≤ 104) = true := decide_eq_true hb.2
    clear h1 hv
    go_enter Try.func38, Try.ntmps38
    go_wp2
    go_ret
    exact ⟨rfl, rfl⟩
  have h1' : isLoad r = false := by simpa using h1
  have hnl : ¬ (97 ≤ r ∧ r ≤ 104) := fun e => h1 (isLoad_true.2 e)
  by_cases h2 : isUnload r = true
  · have hb := isUnload_true.1 h2
    have hv : smallT r = r + 32 := by unfold smallT; rw [h1', if_neg (by simp), if_pos h2]
    rw [hv]
    have d1 : decide (r ≥ 97) = false := decide_eq_false (by omega)
    have d2 : decide (r ≥ 65) = true := decide_eq_true hb.1
    have d3 : decide (r ≤ 72) = true := decide_eq_true hb.2
    clear h1 h1' h2 hv hnl
    go_enter Try.func38, Try.ntmps38
    go_wp2
    go_ret
    exact ⟨by first | rfl | (simp; omega), rfl⟩
  have h2' : isUnload r = false := by simpa using h2
  have hnu : ¬ (65 ≤ r ∧ r ≤ 72) := fun e => h2 (isUnload_true.2 e)
  have hv : smallT r = 32 := by unfold smallT; rw [h1', h2']; rfl
  rw [hv]
  clear h1 h1' h2 h2' hv
  by_cases h3 : 97 ≤ r
  · have d1 : decide (r ≥ 97) = true := decide_eq_true h3
    have d2 : decide (r ≤ 104) = false := decide_eq_false (by omega)
    have d3 : decide (r ≥ 65) = true := decide_eq_true (by omega)
    have d4 : decide (r ≤ 72) = false := decide_eq_false (by omega)
    go_enter Try.func38, Try.ntmps38
    go_wp2
    go_ret
    exact ⟨rfl, rfl⟩
  · have d1 : decide (r ≥ 97) = false := decide_eq_false (by omega)
    by_cases h4 : 65 ≤ r
    · have d3 : decide (r ≥ 65) = true := decide_eq_true h4
      have d4 : decide (r ≤ 72) = false := decide_eq_false (by omega)
      go_enter Try.func38, Try.ntmps38
      go_wp2
      go_ret
      exact ⟨rfl, rfl⟩
    · have d3 : decide (r ≥ 65) = false := decide_eq_false (by omega)
      go_enter Try.func38, Try.ntmps38
      go_wp2
      go_ret
      exact ⟨rfl, rfl⟩

theorem encode_one (c : UInt8) (h : c.toNat < 128) : Utf8.encode (c.toNat : Int) = ⟨[c].toArray⟩ := by
  have hv : Utf8.valid (c.toNat : Int) = true := by unfold Utf8.valid; simp; omega
  unfold Utf8.encode
  simp only [hv, if_true, Int.toNat_natCast]
  rw [if_pos (by omega)]
  simp

/-- How the given program tells a van. -/
def OpenRet (L : List Int) (w : World) (e : Ending) (w' : World) : Prop :=
  Below w.heap.size w w' ∧ match runT L with
  | none => e = .returned (.tuple #[.string ⟨#[]⟩, .bool false, .bool false])
  | some t => e = .returned (.tuple #[.string (strU t.op), .bool true, .bool (!t.blk)])

set_option maxRecDepth 100000 in
set_option maxHeartbeats 4000000 in
theorem ldOpen_any (s : ByteArray) (w : World) (hs : s.size ≤ 16) (hall : ∀ c ∈ lettersT s, isLoad c = true ∨ isUnload c = true) :
    Calls Try.prog 35 #[.string s] w (OpenRet (lettersT s) w) := by
  obtain ⟨L, hL⟩ : ∃ L, lettersT s = L := ⟨_, rfl⟩
  have hLl : L.length = s.size := by rw [← hL, letters_len]
  rw [hL] at hall ⊢
  have HALL := Lib.hid hall
  have HL := Lib.hid hL
  clear hL hall
  go_enter Try.func35, Try.ntmps35
  go_wp2
  go_loopw [5, 6, 7, 8] (fun o z f i wr => ∃ (k : Nat) (t : Trip), k ≤ s.size ∧ i = .int .i64 (k : Int) ∧ o = .string (strU t.op) ∧ z = .string (strU t.ld) ∧ f = .bool (!t.blk) ∧ Hid (runT (L.take k) = some t) ∧ Below w.heap.size w wr) (fun _ _ _ i _ => s.size - (intOf i).toNat)
  case atStart => exact ⟨0, trip0, by omega, rfl, rfl, rfl, rfl, rfl, Below.refl _ _⟩
  case round =>
    obtain ⟨k, t, hk, rfl, rfl, rfl, rfl, HRUN, hb⟩ := hrel
    have HB := Lib.hid hb
    clear hb
    by_cases hlt : k < s.size
    · obtain ⟨c, hc⟩ := byte_get s hlt
      have hik := byte_at s hc
      have hcL : L[k]? = some (c.toNat : Int) := by rw [← HL.out]; exact letters_at hc
      have hnext := runT_take hcL
      rw [HRUN.out] at hnext
      have hnext2 : runT (L.take (k + 1)) = stepT t (c.toNat : Int) := hnext
      have hsm := runT_small HRUN.out
      have hkp := runT_keeps HRUN.out
      rw [List.length_take] at hsm
      have hlu := HALL.out _ (List.mem_of_getElem? hcL)
      have hldr : ∀ x ∈ t.ld, 0 ≤ x ∧ x ≤ 255 := fun x hx => by rw [hkp.1] at hx; have := isLoad_true.1 (List.mem_filter.1 hx).2; omega
      have hopr : ∀ x ∈ t.op, 0 ≤ x ∧ x ≤ 255 := fun x hx => by have := isLoad_true.1 (hkp.2.2.2.1 x hx); omega
      have hl16 : t.ld.length ≤ 16 := by omega
      have ho16 : t.op.length ≤ 16 := by omega
      obtain ⟨r, hr⟩ : ∃ r : Int, (c.toNat : Int) = r := ⟨_, rfl⟩
      rw [hr] at hnext2 hlu
      have hik2 : ∀ hk : k < s.size, ((s[k]'hk).toNat : Int) = r := fun hk => by rw [hik hk]; exact hr
      have hr255 : 0 ≤ r ∧ r ≤ 255 := by have := c.toNat_lt; omega
      have hsmall := fun W => ldSmall_any r W hr255
      by_cases h1 : isLoad r = true
      · have hbr := isLoad_true.1 h1
        have hs1 : smallT r = r := by unfold smallT; rw [if_pos h1]
        rw [hs1] at hsmall
        have hat := fun W => ldAt_any (strU t.ld) r W (by rw [strU_size]; omega)
        rw [strU_letters hldr] at hat
        have d1 : (r == r) = true := beq_self_eq_true r
        rw [stepT_load h1, contains_at] at hnext2
        have hle := atT_le t.ld r
        by_cases hq : atT t.ld r < t.ld.length
        · rw [decide_eq_true hq, if_pos rfl] at hnext2
          have hnone : runT L = none := runT_none (k + 1) hnext2
          have hge : decide (ixT t.ld r ≥ 0) = true := by rw [ixT, if_neg (by omega)]; exact decide_eq_true (by omega)
          generalize ixT t.ld r = ix at *
          have HS := Lib.hid hsmall
          have HA := Lib.hid hat
          have HN := Lib.hid hnone
          clear hc hik hcL hnext hnext2 hsm hkp hlu hldr hopr hs1 hq hle hnone hsmall hat h1 hr
          go_wp2_with fail
          refine (HS.out _).mono ?_
          rintro e w2 ⟨rfl, rfl⟩
          go_wp2_with fail
          refine (HA.out _).mono ?_
          rintro e w3 ⟨rfl, rfl⟩
          go_wp2
          go_ret3
          exact ⟨HB.out, by rw [HN.out]; rfl⟩
        · have heq : atT t.ld r = t.ld.length := by omega
          rw [decide_eq_false hq, if_neg (by simp)] at hnext2
          have hge : decide (ixT t.ld r ≥ 0) = false := by rw [ixT, if_pos heq]; rfl
          generalize ixT t.ld r = ix at *
          have henc := encode_one c (by omega)
          rw [hr] at henc
          have ha1 := fun W => run_string_add_lists (P := Try.prog) W (ofI t.op) [c] (by rw [ofI_len]; omega) (by simp)
          have ha2 := fun W => run_string_add_lists (P := Try.prog) W (ofI t.ld) [c] (by rw [ofI_len]; omega) (by simp)
          have he1 : (⟨(ofI t.op ++ [c]).toArray⟩ : ByteArray) = strU (t.op ++ [r]) := by rw [strU, ofI_append, ← hr, ofI_one]
          have he2 : (⟨(ofI t.ld ++ [c]).toArray⟩ : ByteArray) = strU (t.ld ++ [r]) := by rw [strU, ofI_append, ← hr, ofI_one]
          rw [he1] at ha1
          rw [he2] at ha2
          change ∀ W, (Op.stringOp .add (strU t.op) _).run _ W = _ at ha1
          change ∀ W, (Op.stringOp .add (strU t.ld) _).run _ W = _ at ha2
          obtain ⟨cb, hcb⟩ : ∃ cb : ByteArray, (⟨[c].toArray⟩ : ByteArray) = cb := ⟨_, rfl⟩
          rw [hcb] at henc ha1 ha2
          have HS := Lib.hid hsmall
          have HA := Lib.hid hat
          have HN := Lib.hid hnext2
          have hwr : IntKind.i32.wrap r = r := by rw [IntKind.wrap_i32]; omega
          clear hc hik hcL hnext hnext2 hsm hkp hlu hldr hopr hs1 hq hle hsmall hat h1 hr he1 he2 hcb heq
          go_wp2_with fail
          refine (HS.out _).mono ?_
          rintro e w2 ⟨rfl, rfl⟩
          go_wp2_with fail
          refine (HA.out _).mono ?_
          rintro e w3 ⟨rfl, rfl⟩
          go_wp2
          go_roundw
          case rel => exact ⟨k + 1, ⟨t.ld ++ [r], t.op ++ [r], max t.full ((t.op.length : Int) + 1), t.blk⟩, by omega, by go_num, rfl, rfl, rfl, HN, HB.out⟩
          case measure => simp [intOf]; omega
      · have h1' : isLoad r = false := by simpa using h1
        have h2 : isUnload r = true := by rcases hlu with e | e; rw [h1'] at e; cases e; exact e
        have hbr := isUnload_true.1 h2
        have hs1 : smallT r = r + 32 := by unfold smallT; rw [h1', if_neg (by simp), if_pos h2]
        rw [hs1] at hsmall
        have hat := fun W => ldAt_any (strU t.op) (r + 32) W (by rw [strU_size]; omega)
        rw [strU_letters hopr] at hat
        have d1 : (r == r + 32) = false := beq_eq_false_iff_ne.2 (by omega)
        rw [stepT_unload h1' h2] at hnext2
        have hle := atT_le t.op (r + 32)
        by_cases hq : atT t.op (r + 32) = t.op.length
        · rw [if_pos hq] at hnext2
          have hnone : runT L = none := runT_none (k + 1) hnext2
          rw [ixT, if_pos hq] at hat
          have HS := Lib.hid hsmall
          have HA := Lib.hid hat
          have HN := Lib.hid hnone
          clear hc hik hcL hnext hnext2 hsm hkp hlu hldr hopr hs1 hq hle hnone hsmall hat h1 h1' h2 hr
          go_wp2_with fail
          refine (HS.out _).mono ?_
          rintro e w2 ⟨rfl, rfl⟩
          go_wp2_with fail
          refine (HA.out _).mono ?_
          rintro e w3 ⟨rfl, rfl⟩
          go_wp2
          go_ret3
          exact ⟨HB.out, by rw [HN.out]; rfl⟩
        · rw [if_neg hq] at hnext2
          rw [ixT, if_neg hq] at hat
          obtain ⟨j, hj⟩ : ∃ j, atT t.op (r + 32) = j := ⟨_, rfl⟩
          rw [hj] at hat hnext2 hle hq
          have hsz := strU_size t.op
          obtain ⟨n, hn⟩ : ∃ n, t.op.length = n := ⟨_, rfl⟩
          rw [hn] at hsz hle hq ho16 hnext2
          have hx1 : (strU t.op).extract 0 j = ⟨(ofI (t.op.take j)).toArray⟩ := by
            rw [strU, ByteArray.extract_mk]
            simp [ofI, List.map_take]
          have hx2 : (strU t.op).extract (j + 1) n = ⟨(ofI (t.op.drop (j + 1))).toArray⟩ := by
            rw [strU, ByteArray.extract_mk]
            congr 1
            unfold ofI
            rw [← List.map_drop, List.take_of_length_le (by simp; omega)]
          have hsl1 := fun W => run_slice_string_to_if (P := Try.prog) W 9 (strU t.op) .i64 (j : Int) Try.underlying9
          have hc1 : 0 ≤ (j : Int) ∧ (j : Int) ≤ ((strU t.op).size : Int) := by omega
          simp only [hc1, and_self, if_true, Int.toNat_natCast, hx1] at hsl1
          have hsl2 := fun W => run_slice_string_from_if (P := Try.prog) W 9 (strU t.op) .i64 ((j : Int) + 1) Try.underlying9
          have hc2 : 0 ≤ (j : Int) + 1 ∧ (j : Int) + 1 ≤ ((strU t.op).size : Int) := by omega
          simp only [hc2, show ((j : Int) + 1).toNat = j + 1 by omega, hsz, hx2] at hsl2
          have hadd := fun W => run_string_add_lists (P := Try.prog) W (ofI (t.op.take j)) (ofI (t.op.drop (j + 1))) (by rw [ofI_len, List.length_take]; omega) (by rw [ofI_len, List.length_drop]; omega)
          rw [← ofI_append, ← List.eraseIdx_eq_take_drop_succ] at hadd
          have he3 : (⟨(ofI (t.op.eraseIdx j)).toArray⟩ : ByteArray) = strU (t.op.eraseIdx j) := rfl
          rw [he3] at hadd
          obtain ⟨o1, ho1⟩ : ∃ o1 : ByteArray, (⟨(ofI (t.op.take j)).toArray⟩ : ByteArray) = o1 := ⟨_, rfl⟩
          obtain ⟨o2, ho2⟩ : ∃ o2 : ByteArray, (⟨(ofI (t.op.drop (j + 1))).toArray⟩ : ByteArray) = o2 := ⟨_, rfl⟩
          rw [ho1] at hsl1 hadd
          rw [ho2] at hsl2 hadd
          have dj : decide ((j : Int) < 0) = false := decide_eq_false (by omega)
          have hw1 : wrap64 ((n : Int) - 1) = (n : Int) - 1 := by unfold wrap64; omega
          have hq1 : ((j : Int) == (n : Int) - 1) = !decide (j + 1 < n) := by
            by_cases e : j + 1 < n
            · rw [decide_eq_true e]; exact beq_eq_false_iff_ne.2 (by omega)
            · rw [decide_eq_false e]; exact beq_iff_eq.2 (by omega)
          have hwr : IntKind.i64.wrap ((j : Int) + 1) = (j : Int) + 1 := by rw [IntKind.wrap_i64]; omega
          have hj1 : (j : Int) + 1 ≤ (n : Int) := by omega
          have hj2 : (j : Int) ≤ (n : Int) := by omega
          have HS := Lib.hid hsmall
          have HA := Lib.hid hat
          have HN := Lib.hid hnext2
          obtain ⟨bk, hbk⟩ : ∃ bk, t.blk = bk := ⟨_, rfl⟩
          rw [hbk] at HN ⊢
          obtain ⟨qd, hqd⟩ : ∃ qd, decide (j + 1 < n) = qd := ⟨_, rfl⟩
          rw [hqd] at HN hq1
          clear hc hik hcL hnext hnext2 hsm hkp hlu hldr hopr hs1 hq hsmall hat h1 h1' h2 hr hj hn hx1 hx2 hc1 hc2 ho1 ho2 hbk hqd
          cases bk
          · go_wp2_with fail
            refine (HS.out _).mono ?_
            rintro e w2 ⟨rfl, rfl⟩
            go_wp2_with fail
            refine (HA.out _).mono ?_
            rintro e w3 ⟨rfl, rfl⟩
            go_wp2_with fail
            refine wp_region_held_drew (S := (fun _ => True)) (by kernel_rfl) trivial (fun hH0 => ?_)
            refine wpAnyH_take (i := 0) (v := ?_) (ops_at rfl) (by kernel_rfl) (by kernel_rfl) (by kernel_rfl) (fun _ _ _ h => h) (Or.inl ⟨by rfl, ?ya0⟩) (by assumption) ?na0
            case ya0 => (intro wS hSw; (try dsimp only at hSw); go_simp; try rfl)
            try simp only [Act.put, List.setIfInBounds_toArray, List.set_cons_zero, List.set_cons_succ]
            refine wpAnyH_take (i := 1) (v := ?_) (ops_at rfl) (by kernel_rfl) (by kernel_rfl) (by kernel_rfl) (fun _ _ _ h => h) (Or.inl ⟨by rfl, ?ya1⟩) (by assumption) ?na1
            case ya1 => (intro wS hSw; (try dsimp only at hSw); go_simp; try rfl)
            try simp only [Act.put, List.setIfInBounds_toArray, List.set_cons_zero, List.set_cons_succ]
            refine wpAnyH_take (i := 2) (v := ?_) (ops_at rfl) (by kernel_rfl) (by kernel_rfl) (by kernel_rfl) (fun _ _ _ h => h) (Or.inl ⟨by rfl, ?ya2⟩) (by assumption) ?na2
            case ya2 => (intro wS hSw; (try dsimp only at hSw); go_simp; try rfl)
            try simp only [Act.put, List.setIfInBounds_toArray, List.set_cons_zero, List.set_cons_succ]
            refine wpAnyH_take (i := 3) (v := ?_) (ops_at rfl) (by kernel_rfl) (by kernel_rfl) (by kernel_rfl) (fun _ _ _ h => h) (Or.inl ⟨by rfl, ?ya3⟩) (by assumption) ?na3
            case ya3 => (intro wS hSw; (try dsimp only at hSw); go_simp; try rfl)
            try simp only [Act.put, List.setIfInBounds_toArray, List.set_cons_zero, List.set_cons_succ]
            refine wpAnyH_take (i := 4) (v := ?_) (ops_at rfl) (by kernel_rfl) (by kernel_rfl) (by kernel_rfl) (fun _ _ _ h => h) (Or.inl ⟨by rfl, ?ya4⟩) (by assumption) ?na4
            case ya4 => (intro wS hSw; (try dsimp only at hSw); go_simp; try rfl)
            try simp only [Act.put, List.setIfInBounds_toArray, List.set_cons_zero, List.set_cons_succ]
            refine wpAnyH_take (i := 5) (v := ?_) (ops_at rfl) (by kernel_rfl) (by kernel_rfl) (by kernel_rfl) (fun _ _ _ h => h) (Or.inl ⟨by rfl, ?ya5⟩) (by assumption) ?na5
            case ya5 => (intro wS hSw; (try dsimp only at hSw); go_simp; try rfl)
            try simp only [Act.put, List.setIfInBounds_toArray, List.set_cons_zero, List.set_cons_succ]
            refine wpAnyH_take (i := 6) (v := ?_) (ops_at rfl) (by kernel_rfl) (by kernel_rfl) (by kernel_rfl) (fun _ _ _ h => h) (Or.inl ⟨by rfl, ?ya6⟩) (by assumption) ?na6
            case ya6 => (intro wS hSw; (try dsimp only at hSw); go_simp; try rfl)
            try simp only [Act.put, List.setIfInBounds_toArray, List.set_cons_zero, List.set_cons_succ]
            refine wpAnyH_take (i := 7) (v := ?_) (ops_at rfl) (by kernel_rfl) (by kernel_rfl) (by kernel_rfl) (fun _ _ _ h => h) (Or.inl ⟨by rfl, ?ya7⟩) (by assumption) ?na7
            case ya7 => (intro wS hSw; (try dsimp only at hSw); go_simp; try rfl)
            try simp only [Act.put, List.setIfInBounds_toArray, List.set_cons_zero, List.set_cons_succ]
            refine wpAnyH_take (i := 8) (v := ?_) (ops_at rfl) (by kernel_rfl) (by kernel_rfl) (by kernel_rfl) (fun _ _ _ h => h) (Or.inl ⟨by rfl, ?ya8⟩) (by assumption) ?na8
            case ya8 => (intro wS hSw; (try dsimp only at hSw); go_simp; try rfl)
            try simp only [Act.put, List.setIfInBounds_toArray, List.set_cons_zero, List.set_cons_succ]
            refine wpAnyH_done (by kernel_rfl) ?_ _
            go_wp2
            go_roundw
            case rel => exact ⟨k + 1, ⟨t.ld, t.op.eraseIdx j, t.full, false || qd⟩, by omega, by go_num, rfl, rfl, by simp, HN, HB.out.drew⟩
            case measure => simp [intOf]; omega
          · go_wp2_with fail
            refine (HS.out _).mono ?_
            rintro e w2 ⟨rfl, rfl⟩
            go_wp2_with fail
            refine (HA.out _).mono ?_
            rintro e w3 ⟨rfl, rfl⟩
            go_wp2_with fail
            refine wp_region_held_drew (S := (fun _ => True)) (by kernel_rfl) trivial (fun hH0 => ?_)
            refine wpAnyH_take (i := 0) (v := ?_) (ops_at rfl) (by kernel_rfl) (by kernel_rfl) (by kernel_rfl) (fun _ _ _ h => h) (Or.inl ⟨by rfl, ?yb0⟩) (by assumption) ?nb0
            case yb0 => (intro wS hSw; (try dsimp only at hSw); go_simp; try rfl)
            try simp only [Act.put, List.setIfInBounds_toArray, List.set_cons_zero, List.set_cons_succ]
            refine wpAnyH_take (i := 1) (v := ?_) (ops_at rfl) (by kernel_rfl) (by kernel_rfl) (by kernel_rfl) (fun _ _ _ h => h) (Or.inl ⟨by rfl, ?yb1⟩) (by assumption) ?nb1
            case yb1 => (intro wS hSw; (try dsimp only at hSw); go_simp; try rfl)
            try simp only [Act.put, List.setIfInBounds_toArray, List.set_cons_zero, List.set_cons_succ]
            refine wpAnyH_take (i := 2) (v := ?_) (ops_at rfl) (by kernel_rfl) (by kernel_rfl) (by kernel_rfl) (fun _ _ _ h => h) (Or.inl ⟨by rfl, ?yb2⟩) (by assumption) ?nb2
            case yb2 => (intro wS hSw; (try dsimp only at hSw); go_simp; try rfl)
            try simp only [Act.put, List.setIfInBounds_toArray, List.set_cons_zero, List.set_cons_succ]
            refine wpAnyH_take (i := 3) (v := ?_) (ops_at rfl) (by kernel_rfl) (by kernel_rfl) (by kernel_rfl) (fun _ _ _ h => h) (Or.inl ⟨by rfl, ?yb3⟩) (by assumption) ?nb3
            case yb3 => (intro wS hSw; (try dsimp only at hSw); go_simp; try rfl)
            try simp only [Act.put, List.setIfInBounds_toArray, List.set_cons_zero, List.set_cons_succ]
            refine wpAnyH_take (i := 4) (v := ?_) (ops_at rfl) (by kernel_rfl) (by kernel_rfl) (by kernel_rfl) (fun _ _ _ h => h) (Or.inl ⟨by rfl, ?yb4⟩) (by assumption) ?nb4
            case yb4 => (intro wS hSw; (try dsimp only at hSw); go_simp; try rfl)
            try simp only [Act.put, List.setIfInBounds_toArray, List.set_cons_zero, List.set_cons_succ]
            refine wpAnyH_take (i := 5) (v := ?_) (ops_at rfl) (by kernel_rfl) (by kernel_rfl) (by kernel_rfl) (fun _ _ _ h => h) (Or.inl ⟨by rfl, ?yb5⟩) (by assumption) ?nb5
            case yb5 => (intro wS hSw; (try dsimp only at hSw); go_simp; try rfl)
            try simp only [Act.put, List.setIfInBounds_toArray, List.set_cons_zero, List.set_cons_succ]
            refine wpAnyH_take (i := 6) (v := ?_) (ops_at rfl) (by kernel_rfl) (by kernel_rfl) (by kernel_rfl) (fun _ _ _ h => h) (Or.inl ⟨by rfl, ?yb6⟩) (by assumption) ?nb6
            case yb6 => (intro wS hSw; (try dsimp only at hSw); go_simp; try rfl)
            try simp only [Act.put, List.setIfInBounds_toArray, List.set_cons_zero, List.set_cons_succ]
            refine wpAnyH_take (i := 7) (v := ?_) (ops_at rfl) (by kernel_rfl) (by kernel_rfl) (by kernel_rfl) (fun _ _ _ h => h) (Or.inl ⟨by rfl, ?yb7⟩) (by assumption) ?nb7
            case yb7 => (intro wS hSw; (try dsimp only at hSw); go_simp; try rfl)
            try simp only [Act.put, List.setIfInBounds_toArray, List.set_cons_zero, List.set_cons_succ]
            refine wpAnyH_take (i := 8) (v := ?_) (ops_at rfl) (by kernel_rfl) (by kernel_rfl) (by kernel_rfl) (fun _ _ _ h => h) (Or.inl ⟨by rfl, ?yb8⟩) (by assumption) ?nb8
            case yb8 => (intro wS hSw; (try dsimp only at hSw); go_simp; try rfl)
            try simp only [Act.put, List.setIfInBounds_toArray, List.set_cons_zero, List.set_cons_succ]
            refine wpAnyH_done (by kernel_rfl) ?_ _
            go_wp2
            go_roundw
            case rel => exact ⟨k + 1, ⟨t.ld, t.op.eraseIdx j, t.full, true || qd⟩, by omega, by go_num, rfl, rfl, by simp, HN, HB.out.drew⟩
            case measure => simp [intOf]; omega
    · obtain rfl : k = s.size := by omega
      have hrun := HRUN.out
      rw [List.take_of_length_le (by omega)] at hrun
      have HRN := Lib.hid hrun
      clear hrun
      go_wp2
      go_ret3
      exact ⟨HB.out, by rw [HRN.out]; rfl⟩
end Go.Proofs.Ytgcljhgpihpfgab
