/-
  Both programs' stops of a loading, and how many loadings there are with the same boxes.
  Conditions: none.
-/
import Derived.Test.YtgcljhgpihpfgaaLdC
import Derived.Test.YtgcljhgpihpfgaaLdS
import Derived.Test.YtgcljhgpihpfgaaPlR
import Derived.Test.YtgcljhgpihpfgaaSomeN
import Derived.Laws.Externs
namespace Go.Proofs.Ytgcljhgpihpfgaa
set_option linter.unusedVariables false
open Go.RowKit

theorem sliteIndexByte_any (s : ByteArray) (c : Int) (w : World) :
    Calls Try.prog 51 #[.string s, .int .u8 c] w fun e w' => e = .returned (.int .i64 (Lib.indexByte s.data.toList c.toNat.toUInt8)) ∧ w = w' := by
  go_enter Try.func51, Try.ntmps51
  go_wp2
  rw [run_callFunc_extern Try.func57 (by kernel_rfl) (by kernel_rfl) (by kernel_rfl) (e := Extern.BytealgIndexByte.indexByte) (by kernel_rfl), Lib.run_indexByteString]
  simp only [Result.andThen]
  rw [Oper.upon_value]
  go_wp2
  go_ret
  exact ⟨rfl, rfl⟩

theorem stringsIndexByte_any (s : ByteArray) (c : Int) (w : World) :
    Calls Try.prog 46 #[.string s, .int .u8 c] w fun e w' => e = .returned (.int .i64 (Lib.indexByte s.data.toList c.toNat.toUInt8)) ∧ w = w' := by
  go_enter Try.func46, Try.ntmps46
  go_wp2_with fail
  refine (sliteIndexByte_any _ _ _).mono ?_
  rintro e w1 ⟨rfl, rfl⟩
  go_wp2
  go_ret
  exact ⟨rfl, rfl⟩

theorem boxFor_any (a : Int) (h : 0 ≤ a ∧ a ≤ 9) (w : World) :
    Calls Try.prog 47 #[.int .i64 a] w fun e w' => e = .returned (.int .u8 (48 + a)) ∧ w = w' := by
  have h1 : wrap64 (48 + a) = 48 + a := by unfold wrap64; omega
  have h2 : IntKind.u8.wrap (48 + a) = 48 + a := by rw [IntKind.wrap_u8]; omega
  go_enter Try.func47, Try.ntmps47
  go_wp2
  go_ret
  exact ⟨rfl, rfl⟩

theorem stringsCount_any (s : ByteArray) (c : UInt8) (w : World) :
    Calls Try.prog 48 #[.string s, .string ⟨#[c]⟩] w fun e w' => e = .returned (.int .i64 (Lib.countByte s.data.toList c)) ∧ w = w' := by
  go_enter Try.func48, Try.ntmps48
  go_wp2
  rw [run_callFunc_extern Try.func53 (by kernel_rfl) (by kernel_rfl) (by kernel_rfl) (e := Extern.BytealgCount.count) (by kernel_rfl), Lib.run_countString]
  simp only [Result.andThen]
  rw [Oper.upon_value]
  go_wp2
  go_ret
  exact ⟨rfl, rfl⟩

theorem hasS_no {l : List UInt8} {k : Nat} (h : ∀ c ∈ l, ¬ c.toNat = 48 + k) : hasS l k = false := by
  unfold hasS
  exact List.any_eq_false.2 fun c hc => by simpa using h c hc
theorem hasS_yes {l : List UInt8} {j k : Nat} {c : UInt8} (hc : l[j]? = some c) (h : c.toNat = 48 + k) : hasS l k = true := by
  unfold hasS
  exact List.any_eq_true.2 ⟨c, List.mem_of_getElem? hc, by simpa using h⟩
theorem stop_byte (m : Nat) (h : m ≤ 9) : ((48 + (m : Int)).toNat.toUInt8).toNat = 48 + m := by
  rw [show (48 + (m : Int)).toNat = 48 + m by omega, UInt8.toNat_ofNat']
  omega
theorem hasS_index (l : List UInt8) (m : Nat) (h : m ≤ 9) : decide (Lib.indexByte l ((48 + (m : Int)).toNat.toUInt8) ≥ 0) = hasS l m := by
  have := indexByte_has l ((48 + (m : Int)).toNat.toUInt8)
  rw [stop_byte m h] at this
  exact this

set_option maxHeartbeats 2000000 in
theorem spec_StopsOf (s : ByteArray) (q : Bool) (w : World) (hq : ldB s.data.toList = q) :
    Calls Try.prog 27 #[.string s] w (RetL q (someN q (stopL s.data.toList 9)) w) := by
  obtain ⟨i0, hi0, hz0, hz1, hz2⟩ := info_parts int_info
  have HQ := Lib.hid hq
  clear hq
  cases q
  · go_enter Try.func27, Try.ntmps27
    go_wp2_with fail
    refine (ldGood_any s _ HQ.out _).mono ?_
    rintro e w1 ⟨rfl, rfl⟩
    go_wp2
    go_ret2
    exact ⟨none, 0, 0, rfl, rfl, Own.nil_, Below.refl _ _⟩
  · have HD := Lib.hid (ldB_true.1 HQ.out).2
    have hsz : s.size ≤ 12 := by have := (ldB_true.1 HQ.out).1; rw [byte_len] at this; exact this
    obtain ⟨l, hl⟩ : ∃ l, s.data.toList = l := ⟨_, rfl⟩
    have hll : l.length = s.size := by rw [← hl, byte_len]
    rw [hl] at HD ⊢
    have HL := Lib.hid hl
    clear hl
    go_enter Try.func27, Try.ntmps27
    go_wp2_with fail
    refine (ldGood_any s _ HQ.out _).mono ?_
    rintro e w1 ⟨rfl, rfl⟩
    clear HQ
    go_wp2
    go_loopw [4, 5] (fun o i wr => ∃ (m : Nat) (A : Option Addr) (n c : Nat) (xs : List Int), m ≤ 9 ∧ i = .int .i64 ((m : Int) + 1) ∧ o = .slice A n c ∧ n ≤ 9 ∧ Hid (xs = stopL l m) ∧ wr.ownsRow w.heap.size 3 1 (.slice A n c) n (xs.map (Value.int .i64)) ∧ Below w.heap.size w wr) (fun _ i _ => 10 - (intOf i).toNat)
    case atStart => exact ⟨0, none, 0, 0, [], by omega, rfl, rfl, by omega, rfl, World.ownsRow_nil _ _ _ _, Below.refl _ _⟩
    case round =>
      obtain ⟨m, A, n, c, xs, hm, rfl, rfl, hn9, HX, hown, hb⟩ := hrel
      have hxn : xs.length = n := by have := hown.1; simpa using this
      by_cases hlt : m < 9
      · have d0 : ((m : Int) + 1 ≤ 9) := by omega
        have hn8 : n ≤ m := by rw [← hxn, HX.out]; exact stopL_len l m
        have HST := Lib.hid (show stopL l (m + 1) = xs ++ (if hasS l (m + 1) = true then [((m : Int) + 1)] else []) by rw [stopL, HX.out])
        have HOW0 := Lib.hid hown
        have HB0 := Lib.hid hb
        clear hown hb hxn
        go_wp2
        go_loopw [4, 6] (fun o i wr2 => ∃ k : Nat, k ≤ s.size ∧ i = .int .i64 (k : Int) ∧ o = .slice A n c ∧ wr2 = wr ∧ Hid (∀ j, j < k → ∀ b, l[j]? = some b → ¬ b.toNat = 48 + (m + 1))) (fun _ i _ => s.size - (intOf i).toNat)
        case atStart => exact ⟨0, by omega, rfl, rfl, rfl, fun j hj => by omega⟩
        case round =>
          obtain ⟨k, hk, rfl, rfl, rfl, HNO⟩ := hrel
          by_cases hkl : k < s.size
          · obtain ⟨b, hbb⟩ : ∃ b, l[k]? = some b := ⟨_, List.getElem?_eq_getElem (by omega)⟩
            have hik := byte_at s (k := k) (c := b) (by rw [HL.out]; exact hbb)
            have hdig := HD.out b (List.mem_of_getElem? hbb)
            have HBB := Lib.hid hbb
            clear hbb
            by_cases he : b.toNat = 48 + (m + 1)
            · have d1 : ((b.toNat : Int) - 48 == (m : Int) + 1) = true := beq_iff_eq.2 (by omega)
              have HOW := Lib.hid (HOW0.out.alloc (.cells #[.int .i64 ((m : Int) + 1)] 3))
              have HB := Lib.hid (HB0.out.alloc HB0.out.size (.cells #[.int .i64 ((m : Int) + 1)] 3))
              have HLT := Lib.hid HOW0.out.lt
              have HY := Lib.hid (hasS_yes HBB.out he)
              have hdi : 49 ≤ (b.toNat : Int) ∧ (b.toNat : Int) ≤ 57 := by omega
              clear he hdig
              go_wp2_with (at_builtin; refine wpList_append_ownB _ rfl _ _ 26 rfl w.heap.size 3 i0 Try.underlying26 hi0 hz0 hz1 hz2 _ n _ rfl HOW.out _ 1 (.int .i64 ((m : Int) + 1)) rfl (cell_of (new_at _ _ (by first | rfl | simp)) 0) rfl (by omega) HB.out.size ?_; intro v3 w3 hown3 hgr3 hor3; obtain ⟨A3, c3, rfl⟩ := slice_form hown3; have HO3 := Lib.hid (show w3.ownsRow w.heap.size 3 1 (.slice A3 (n + 1) c3) (n + 1) ((xs ++ [((m : Int) + 1)]).map (Value.int .i64)) by rw [List.map_append]; exact hown3); have HB3 := Lib.hid (HB.out.grown hgr3 HB.out.size (fun g' hg' => (HLT.out g' hg').1)); clear hown3 hgr3 hor3)
              go_wp2
              go_roundw
              case rel => exact ⟨m + 1, A3, n + 1, c3, xs ++ [((m : Int) + 1)], by omega, by first | rfl | go_num, rfl, by omega, Lib.hid (by rw [HST.out, HY.out]; rfl), HO3.out, HB3.out⟩
              case measure => simp [intOf]; omega
            · have d1 : ((b.toNat : Int) - 48 == (m : Int) + 1) = false := beq_eq_false_iff_ne.2 (by omega)
              have hdi : 49 ≤ (b.toNat : Int) ∧ (b.toNat : Int) ≤ 57 := by omega
              have HE := Lib.hid he
              clear he hdig
              go_wp2
              go_roundw
              case rel =>
                refine ⟨k + 1, by omega, by go_num, rfl, by first | rfl | trivial, fun j hj b' hb' => ?_⟩
                by_cases e : j = k
                · subst e; rw [HBB.out] at hb'; injection hb' with hb'; rw [← hb']; exact HE.out
                · exact HNO.out j (by omega) b' hb'
              case measure => simp [intOf]; omega
          · obtain rfl : k = s.size := by omega
            have hno : hasS l (m + 1) = false := hasS_no fun c hc => by
              obtain ⟨j, hj⟩ := List.getElem?_of_mem hc
              exact HNO.out j (by have := (List.getElem?_eq_some_iff.1 hj).1; omega) c hj
            have HN := Lib.hid hno
            clear hno
            go_wp2
            go_roundw
            case rel => exact ⟨m + 1, A, n, c, xs, by omega, by first | rfl | go_num, rfl, by omega, Lib.hid (by rw [HST.out, HN.out]; simp), HOW0.out, HB0.out⟩
            case measure => simp [intOf]; omega
      · obtain rfl : m = 9 := by omega
        have ho := ownsRow_own (ys := xs) (by rw [hxn]; exact hown)
        have HO := Lib.hid ho.2
        have HB := Lib.hid hb
        have HXN := Lib.hid hxn
        clear hown ho hb hxn
        go_wp2
        go_ret2
        exact ⟨A, n, c, rfl, by rw [someN, if_pos rfl, ← HX.out]; exact HXN.out, by rw [someN, if_pos rfl, ← HX.out]; exact HO.out, HB.out⟩

set_option maxHeartbeats 2000000 in
theorem impl_StopsOf (s : ByteArray) (q : Bool) (w : World) (hq : ldB s.data.toList = q) :
    Calls Try.prog 28 #[.string s] w (RetL q (someN q (stopL s.data.toList 9)) w) := by
  obtain ⟨i0, hi0, hz0, hz1, hz2⟩ := info_parts int_info
  have HQ := Lib.hid hq
  clear hq
  cases q
  · go_enter Try.func28, Try.ntmps28
    go_wp2_with fail
    refine (impl_IsLoading s _ _ HQ.out).mono ?_
    rintro e w1 ⟨rfl, hb1⟩
    go_wp2
    go_ret2
    exact ⟨none, 0, 0, rfl, rfl, Own.nil_, hb1⟩
  · go_enter Try.func28, Try.ntmps28
    go_wp2_with fail
    refine (impl_IsLoading s _ _ HQ.out).mono ?_
    rintro e w1 ⟨rfl, hb1⟩
    have HB1 := Lib.hid hb1
    clear hb1 HQ
    go_wp2
    go_loopw [4, 5] (fun o i wr => ∃ (m : Nat) (A : Option Addr) (n c : Nat) (xs : List Int), m ≤ 9 ∧ i = .int .i64 ((m : Int) + 1) ∧ o = .slice A n c ∧ n ≤ 9 ∧ Hid (xs = stopL s.data.toList m) ∧ wr.ownsRow w.heap.size 3 1 (.slice A n c) n (xs.map (Value.int .i64)) ∧ Below w.heap.size w wr) (fun _ i _ => 10 - (intOf i).toNat)
    case atStart => exact ⟨0, none, 0, 0, [], by omega, rfl, rfl, by omega, rfl, World.ownsRow_nil _ _ _ _, HB1.out⟩
    case round =>
      obtain ⟨m, A, n, c, xs, hm, rfl, rfl, hn9, HX, hown, hb⟩ := hrel
      have hxn : xs.length = n := by have := hown.1; simpa using this
      by_cases hlt : m < 9
      · have d0 : ((m : Int) + 1 ≤ 9) := by omega
        have hn8 : n ≤ m := by rw [← hxn, HX.out]; exact stopL_len s.data.toList m
        have HST := Lib.hid (show stopL s.data.toList (m + 1) = xs ++ (if hasS s.data.toList (m + 1) = true then [((m : Int) + 1)] else []) by rw [stopL, HX.out])
        have HOW := Lib.hid (hown.alloc (.cells #[.int .i64 ((m : Int) + 1)] 3))
        have HB := Lib.hid (hb.alloc hb.size (.cells #[.int .i64 ((m : Int) + 1)] 3))
        have HLT := Lib.hid hown.lt
        have HOW0 := Lib.hid hown
        have HB0 := Lib.hid hb
        have hbf := boxFor_any ((m : Int) + 1) (by omega) wr
        rw [show 48 + ((m : Int) + 1) = 48 + ((m + 1 : Nat) : Int) by push_cast; rfl] at hbf
        have hix := hasS_index s.data.toList (m + 1) (by omega)
        have hcall := stringsIndexByte_any s (48 + ((m + 1 : Nat) : Int)) wr
        generalize (48 + ((m + 1 : Nat) : Int)) = by_ at *
        generalize hxx : Lib.indexByte s.data.toList by_.toNat.toUInt8 = ix at *
        have HBF := Lib.hid hbf
        have HCALL := Lib.hid hcall
        obtain ⟨hv, hhv⟩ : ∃ hv, hasS s.data.toList (m + 1) = hv := ⟨_, rfl⟩
        rw [hhv] at hix HST
        clear hown hb hxn hbf hcall hhv hxx
        cases hv
        · go_wp2_with fail
          refine HBF.out.mono ?_
          rintro e w2 ⟨rfl, rfl⟩
          go_wp2_with fail
          refine HCALL.out.mono ?_
          rintro e w3 ⟨rfl, rfl⟩
          go_wp2
          go_roundw
          case rel => exact ⟨m + 1, A, n, c, xs, by omega, by first | rfl | go_num, rfl, by omega, Lib.hid (by rw [HST.out]; simp), HOW0.out, HB0.out⟩
          case measure => simp [intOf]; omega
        · go_wp2_with fail
          refine HBF.out.mono ?_
          rintro e w2 ⟨rfl, rfl⟩
          go_wp2_with fail
          refine HCALL.out.mono ?_
          rintro e w3 ⟨rfl, rfl⟩
          go_wp2_with (at_builtin; refine wpList_append_ownB _ rfl _ _ 26 rfl w.heap.size 3 i0 Try.underlying26 hi0 hz0 hz1 hz2 _ n _ rfl HOW.out _ 1 (.int .i64 ((m : Int) + 1)) rfl (cell_of (new_at _ _ (by first | rfl | simp)) 0) rfl (by omega) HB.out.size ?_; intro v3 w3 hown3 hgr3 hor3; obtain ⟨A3, c3, rfl⟩ := slice_form hown3; have HO3 := Lib.hid (show w3.ownsRow w.heap.size 3 1 (.slice A3 (n + 1) c3) (n + 1) ((xs ++ [((m : Int) + 1)]).map (Value.int .i64)) by rw [List.map_append]; exact hown3); have HB3 := Lib.hid (HB.out.grown hgr3 HB.out.size (fun g' hg' => (HLT.out g' hg').1)); clear hown3 hgr3 hor3)
          go_wp2
          go_roundw
          case rel => exact ⟨m + 1, A3, n + 1, c3, xs ++ [((m : Int) + 1)], by omega, by first | rfl | go_num, rfl, by omega, Lib.hid (by rw [HST.out]; rfl), HO3.out, HB3.out⟩
          case measure => simp [intOf]; omega
      · obtain rfl : m = 9 := by omega
        have ho := ownsRow_own (ys := xs) (by rw [hxn]; exact hown)
        have HO := Lib.hid ho.2
        have HB := Lib.hid hb
        have HXN := Lib.hid hxn
        clear hown ho hb hxn
        go_wp2
        go_ret2
        exact ⟨A, n, c, rfl, by rw [someN, if_pos rfl, ← HX.out]; exact HXN.out, by rw [someN, if_pos rfl, ← HX.out]; exact HO.out, HB.out⟩
end Go.Proofs.Ytgcljhgpihpfgaa
