/-
  The library's test for a letter in a text of eight small ones.
  Conditions: the text is of eight bytes below 128.
-/
import Derived.Test.YtgcljhgpihpfgabTrB
import Derived.Laws.RangeAny
import Derived.Laws.Runes
import Derived.Laws.Strings3
import Derived.Deep.RegionHeld3
import Derived.Deep.LoopGhost
namespace Go.Proofs.Ytgcljhgpihpfgab
set_option linter.unusedVariables false
open Go.RowKit

set_option maxRecDepth 100000 in
theorem sliteIB_any (s : ByteArray) (c : Int) (w : World) :
    Calls Try.prog 126 #[.string s, .int .u8 c] w fun e w' => e = .returned (.int .i64 (Lib.indexByte s.data.toList c.toNat.toUInt8)) ∧ w = w' := by
  go_enter Try.func126, Try.ntmps126
  go_wp2
  rw [run_callFunc_extern Try.func131 (by kernel_rfl) (by kernel_rfl) (by kernel_rfl) (e := Extern.BytealgIndexByte.indexByte) (by kernel_rfl), Lib.run_indexByteString]
  simp only [Result.andThen]
  rw [Oper.upon_value]
  go_wp2
  go_ret
  exact ⟨rfl, rfl⟩
theorem sIB_any (s : ByteArray) (c : Int) (w : World) :
    Calls Try.prog 105 #[.string s, .int .u8 c] w fun e w' => e = .returned (.int .i64 (Lib.indexByte s.data.toList c.toNat.toUInt8)) ∧ w = w' := by
  go_enter Try.func105, Try.ntmps105
  go_wp2_with fail
  refine (sliteIB_any _ _ _).mono ?_
  rintro e w1 ⟨rfl, rfl⟩
  go_wp2
  go_ret
  exact ⟨rfl, rfl⟩
theorem indexByte_none {l : List UInt8} {c : UInt8} (h : ∀ x ∈ l, ¬ x = c) : Lib.indexByte l c = -1 := by
  induction l with
  | nil => rfl
  | cons x l ih =>
    rw [Lib.indexByte, ih fun y hy => h y (List.mem_cons_of_mem _ hy)]
    have : (x == c) = false := beq_eq_false_iff_ne.2 (h x List.mem_cons_self)
    rw [this]; rfl

theorem indexByte_has (l : List UInt8) (c : UInt8) : decide (0 ≤ Lib.indexByte l c) = l.any fun x => decide (x.toNat = c.toNat) := by
  induction l with
  | nil => rfl
  | cons x l ih =>
    rw [Lib.indexByte]
    have hge := Lib.indexByte_ge l c
    by_cases h : x = c
    · subst h; simp
    · have hn : ¬ x.toNat = c.toNat := fun e => h (UInt8.toNat_inj.1 e)
      simp only [List.any_cons, decide_eq_false hn, Bool.false_or, ← ih]
      split
      · rename_i h2; exact absurd (by simpa using h2) h
      · split
        · rename_i h3; simp at h3; rw [h3] <;> rfl
        · rename_i h3
          simp at h3
          by_cases h4 : 0 ≤ Lib.indexByte l c
          · rw [decide_eq_true h4, decide_eq_true (by omega)]
          · omega

theorem validRune_any (r : Int) (h : 128 ≤ r) (w : World) :
    Calls Try.prog 106 #[.int .i32 r] w fun e w' => e = .returned (.bool (Utf8.valid r)) ∧ w = w' := by
  have h0 : decide ((0 : Int) ≤ r) = true := decide_eq_true (by omega)
  by_cases h1 : r < 55296
  · have d1 : decide (r < 55296) = true := decide_eq_true h1
    have hv : Utf8.valid r = true := by unfold Utf8.valid; simp; omega
    rw [hv]
    clear hv
    go_enter Try.func106, Try.ntmps106
    go_wp2
    go_ret
    exact ⟨rfl, rfl⟩
  have d1 : decide (r < 55296) = false := decide_eq_false h1
  by_cases h2 : 57343 < r
  · have d2 : decide ((57343 : Int) < r) = true := decide_eq_true h2
    by_cases h3 : r ≤ 1114111
    · have d3 : decide (r ≤ 1114111) = true := decide_eq_true h3
      have hv : Utf8.valid r = true := by unfold Utf8.valid; simp; omega
      rw [hv]
      clear hv
      go_enter Try.func106, Try.ntmps106
      go_wp2
      go_ret
      exact ⟨rfl, rfl⟩
    · have d3 : decide (r ≤ 1114111) = false := decide_eq_false h3
      have hv : Utf8.valid r = false := by unfold Utf8.valid; simp; omega
      rw [hv]
      clear hv
      go_enter Try.func106, Try.ntmps106
      go_wp2
      go_ret
      exact ⟨rfl, rfl⟩
  · have d2 : decide ((57343 : Int) < r) = false := decide_eq_false h2
    have hv : Utf8.valid r = false := by unfold Utf8.valid; simp; omega
    rw [hv]
    clear hv
    go_enter Try.func106, Try.ntmps106
    go_wp2
    go_ret
    exact ⟨rfl, rfl⟩

set_option maxRecDepth 100000 in
set_option maxHeartbeats 4000000 in
theorem indexRune_high (s : ByteArray) (r : Int) (w : World) (h : 128 ≤ r) (hs : s.size = 8) (ha : ∀ c ∈ s.data.toList, c.toNat < 128) :
    Calls Try.prog 74 #[.string s, .int .i32 r] w fun e w' => e = .returned (.int .i64 (-1)) ∧ Below w.heap.size w w' := by
  have h0 : decide ((0 : Int) ≤ r) = true := decide_eq_true (by omega)
  have d0 : decide (r < 128) = false := decide_eq_false (by omega)
  by_cases h1 : r = 65533
  · have d1 : (r == 65533) = true := beq_iff_eq.2 h1
    have HA := Lib.hid ha
    clear ha h1
    go_enter Try.func74, Try.ntmps74
    go_wp2
    go_loopw [] (fun wr => ∃ k : Nat, k ≤ 8 ∧ wr = w.iter s k) (fun wr => 8 - wr.iterPos w.heap.size)
    case atStart => exact ⟨0, by omega, rfl⟩
    case round =>
      obtain ⟨k, hk, rfl⟩ := hrel
      by_cases hlt : k < 8
      · obtain ⟨c, hc⟩ := byte_get s (k := k) (by omega)
        have hik := byte_at s hc (by omega)
        have hc128 := HA.out c (List.mem_of_getElem? hc)
        have hnx : ∀ ty, (Instr.next (.pointer (some ⟨w.heap.size, 0, none⟩)) true ty).run Try.prog (w.iter s k) = _ := fun ty => run_next_ascii w s k ty (by omega) (by rw [hik]; exact hc128)
        simp only [hik] at hnx
        have d2 : ((c.toNat : Int) == 65533) = false := beq_eq_false_iff_ne.2 (by omega)
        clear hc hik
        go_wp2
        go_roundw
        case rel => exact ⟨k + 1, by omega, by first | rfl | trivial⟩
        case measure => simp; omega
      · obtain rfl : k = 8 := by omega
        have hnx : ∀ ty, (Instr.next (.pointer (some ⟨w.heap.size, 0, none⟩)) true ty).run Try.prog (w.iter s 8) = _ := fun ty => run_next_end w s 8 ty (by omega)
        go_wp2
        go_ret
        exact ⟨rfl, iter_below _ _ _⟩
  have d1 : (r == 65533) = false := beq_eq_false_iff_ne.2 h1
  have HVR := Lib.hid (validRune_any r h w)
  by_cases h2 : Utf8.valid r = true
  case neg =>
    have h2' : Utf8.valid r = false := by simpa using h2
    rw [h2'] at HVR
    clear ha
    go_enter Try.func74, Try.ntmps74
    go_wp2_with fail
    refine HVR.out.mono ?_
    rintro e w1 ⟨rfl, rfl⟩
    go_wp2
    go_ret
    exact ⟨rfl, Below.refl _ _⟩
  rw [h2] at HVR
  obtain ⟨e1, e2, e3⟩ := encode_facts r h2 h
  obtain ⟨rs, hrs⟩ : ∃ rs, Utf8.encode r = rs := ⟨_, rfl⟩
  rw [hrs] at e1 e2 e3
  have hcv := fun W => run_convert_int_string (P := Try.prog) W 21 9 .i32 r (by kernel_rfl) Try.underlying9
  rw [hrs] at hcv
  obtain ⟨lb, hlb⟩ : ∃ lb : UInt8, rs.data.toList[rs.size - 1]? = some lb := ⟨_, List.getElem?_eq_getElem (by rw [byte_len]; omega)⟩
  have hlb2 := byte_at rs hlb
  have hlb3 : 128 ≤ lb.toNat := by have := e3 (by omega); rwa [hlb2 (by omega)] at this
  obtain ⟨n, hn⟩ : ∃ n, rs.size = n + 1 := ⟨rs.size - 1, by omega⟩
  have hn13 : 1 ≤ n ∧ n ≤ 3 := by omega
  obtain ⟨c0, hc0⟩ := byte_get s (k := n) (by omega)
  have hi0 := byte_at s hc0
  have hlt0 := ha c0 (List.mem_of_getElem? hc0)
  have hnn := byte_at rs (k := n) (c := lb) (by rw [show n = rs.size - 1 by omega]; exact hlb)
  have d3 : ((c0.toNat : Int) == (lb.toNat : Int)) = false := beq_eq_false_iff_ne.2 (by omega)
  have hsl := fun W => run_slice_string_from_if (P := Try.prog) W 9 s .i64 ((n : Int) + 1) Try.underlying9
  have hcc : 0 ≤ (n : Int) + 1 ∧ (n : Int) + 1 ≤ (s.size : Int) := by omega
  simp only [hcc, and_self, if_true, show ((n : Int) + 1).toNat = n + 1 by omega] at hsl
  have hnone : Lib.indexByte (s.extract (n + 1) s.size).data.toList lb = -1 := indexByte_none fun x hx => by
    rw [ByteArray.data_extract, Array.toList_extract, List.extract_eq_take_drop] at hx
    have := ha x (List.mem_of_mem_drop (List.mem_of_mem_take hx))
    intro e
    rw [e] at this
    omega
  obtain ⟨s2, hs2⟩ : ∃ s2, s.extract (n + 1) s.size = s2 := ⟨_, rfl⟩
  rw [hs2] at hnone hsl
  have hib := sIB_any s2 (lb.toNat : Int)
  have hlc : ((lb.toNat : Int).toNat.toUInt8) = lb := by simp
  rw [hlc, hnone] at hib
  have HIB := Lib.hid hib
  have hrsn : (rs.size : Int) = (n : Int) + 1 := by omega
  have hni : (n : Int) < (rs.size : Int) := by omega
  have hn8 : (n : Int) < (s.size : Int) := by omega
  have hlt1 : (n : Int) < (n : Int) + 1 := by omega
  have hwr : IntKind.i64.wrap ((n : Int) + 1) = (n : Int) + 1 := by rw [IntKind.wrap_i64]; omega
  have hto : ((n : Int) + 1).toNat = n + 1 := by omega
  have hn18 : (n : Int) + 1 ≤ 8 := by omega
  have h0n : 0 ≤ (n : Int) + 1 := by omega
  have hex8 : s.extract (n + 1) 8 = s2 := by rw [← hs2, hs]
  clear ha e1 e2 e3 hrs hlb hlb2 hlc hnone hs2 hib hc0 h2
  go_enter Try.func74, Try.ntmps74
  go_wp2_with fail
  refine HVR.out.mono ?_
  rintro e w1 ⟨rfl, rfl⟩
  go_wp2
  go_step3
  go_wp2
  go_loopg [9, 10] 1 (fun g i f wx => i = .int .i64 (n : Int) ∧ f = .int .i64 0 ∧ wx = w)
  case atStart => exact ⟨rfl, rfl, rfl⟩
  case round =>
    obtain ⟨rfl, rfl, rfl⟩ := hrel
    go_wp2_with fail
    (try go_step3)
    go_wp2_with fail
    refine wp_region_held_drew (S := (fun _ => True)) (by kernel_rfl) trivial (fun hH0 => ?_)
    refine wpAnyH_take (i := 0) (v := ?_) (ops_at rfl) (by kernel_rfl) (by kernel_rfl) (by kernel_rfl) (fun _ _ _ h => h) (Or.inl ⟨by rfl, ?ya0⟩) (by assumption) ?na0
    case ya0 => (intro wS hSw; (try dsimp only at hSw); go_simp; try rfl)
    try simp only [Act.put, List.setIfInBounds_toArray, List.set_cons_zero, List.set_cons_succ]
    refine wpAnyH_take (i := 1) (v := ?_) (ops_at rfl) (by kernel_rfl) (by kernel_rfl) (by kernel_rfl) (fun _ _ _ h => h) (Or.inl ⟨by rfl, ?ya1⟩) (by assumption) ?na1
    case ya1 => (intro wS hSw; (try dsimp only at hSw); go_simp; try rfl)
    try simp only [Act.put, List.setIfInBounds_toArray, List.set_cons_zero, List.set_cons_succ]
    refine wpAnyH_take (i := 2) (v := ?_) (ops_at rfl) (by kernel_rfl) (by kernel_rfl) (by kernel_rfl) (fun _ _ _ h => h) (Or.inl ⟨by rfl, ?ya2⟩) (by assumption) ?na2
    case ya2 => (intro wS hSw; (try dsimp only at hSw); go_simp; try rfl)
    try simp only [Act.put, List.setIfInBounds_toArray, List.set_cons_zero, List.set_cons_succ]
    refine wpAnyH_take (i := 3) (v := ?_) (ops_at rfl) (by kernel_rfl) (by kernel_rfl) (by kernel_rfl) (fun _ _ _ h => h) (Or.inl ⟨by rfl, ?ya3⟩) (by assumption) ?na3
    case ya3 => (intro wS hSw; (try dsimp only at hSw); go_simp; try rfl)
    try simp only [Act.put, List.setIfInBounds_toArray, List.set_cons_zero, List.set_cons_succ]
    refine wpAnyH_take (i := 4) (v := ?_) (ops_at rfl) (by kernel_rfl) (by kernel_rfl) (by kernel_rfl) (fun _ _ _ h => h) (Or.inl ⟨by rfl, ?ya4⟩) (by assumption) ?na4
    case ya4 => (intro wS hSw; (try dsimp only at hSw); go_simp; try rfl)
    try simp only [Act.put, List.setIfInBounds_toArray, List.set_cons_zero, List.set_cons_succ]
    refine wpAnyH_take (i := 5) (v := ?_) (ops_at rfl) (by kernel_rfl) (by kernel_rfl) (by kernel_rfl) (fun _ _ _ h => h) (Or.inl ⟨by rfl, ?ya5⟩) (by assumption) ?na5
    case ya5 => (intro wS hSw; (try dsimp only at hSw); go_simp; try rfl)
    try simp only [Act.put, List.setIfInBounds_toArray, List.set_cons_zero, List.set_cons_succ]
    refine wpAnyH_take (i := 6) (v := ?_) (ops_at rfl) (by kernel_rfl) (by kernel_rfl) (by kernel_rfl) (fun _ _ _ h => h) (Or.inl ⟨by rfl, ?ya6⟩) (by assumption) ?na6
    case ya6 => (intro wS hSw; (try dsimp only at hSw); go_simp; try rfl)
    try simp only [Act.put, List.setIfInBounds_toArray, List.set_cons_zero, List.set_cons_succ]
    refine wpAnyH_done (by kernel_rfl) ?_ _
    go_wp2_with fail
    refine wp_region_held_drew (S := (fun _ => True)) (by kernel_rfl) trivial (fun hH0 => ?_)
    refine wpAnyH_take (i := 0) (v := ?_) (ops_at rfl) (by kernel_rfl) (by kernel_rfl) (by kernel_rfl) (fun _ _ _ h => h) (Or.inl ⟨by rfl, ?yb0⟩) (by assumption) ?nb0
    case yb0 => (intro wS hSw; (try dsimp only at hSw); go_simp; try rfl)
    try simp only [Act.put, List.setIfInBounds_toArray, List.set_cons_zero, List.set_cons_succ]
    refine wpAnyH_take (i := 1) (v := ?_) (ops_at rfl) (by kernel_rfl) (by kernel_rfl) (by kernel_rfl) (fun _ _ _ h => h) (Or.inl ⟨by rfl, ?yb1⟩) (by assumption) ?nb1
    case yb1 => (intro wS hSw; (try dsimp only at hSw); go_simp; try rfl)
    try simp only [Act.put, List.setIfInBounds_toArray, List.set_cons_zero, List.set_cons_succ]
    refine wpAnyH_take (i := 2) (v := ?_) (ops_at rfl) (by kernel_rfl) (by kernel_rfl) (by kernel_rfl) (fun _ _ _ h => h) (Or.inl ⟨by rfl, ?yb2⟩) (by assumption) ?nb2
    case yb2 => (intro wS hSw; (try dsimp only at hSw); go_simp; try rfl)
    try simp only [Act.put, List.setIfInBounds_toArray, List.set_cons_zero, List.set_cons_succ]
    refine wpAnyH_take (i := 3) (v := ?_) (ops_at rfl) (by kernel_rfl) (by kernel_rfl) (by kernel_rfl) (fun _ _ _ h => h) (Or.inl ⟨by rfl, ?yb3⟩) (by assumption) ?nb3
    case yb3 => (intro wS hSw; (try dsimp only at hSw); go_simp; try rfl)
    try simp only [Act.put, List.setIfInBounds_toArray, List.set_cons_zero, List.set_cons_succ]
    refine wpAnyH_take (i := 4) (v := ?_) (ops_at rfl) (by kernel_rfl) (by kernel_rfl) (by kernel_rfl) (fun _ _ _ h => h) (Or.inl ⟨by rfl, ?yb4⟩) (by assumption) ?nb4
    case yb4 => (intro wS hSw; (try dsimp only at hSw); go_simp; try rfl)
    try simp only [Act.put, List.setIfInBounds_toArray, List.set_cons_zero, List.set_cons_succ]
    refine wpAnyH_take (i := 5) (v := ?_) (ops_at rfl) (by kernel_rfl) (by kernel_rfl) (by kernel_rfl) (fun _ _ _ h => h) (Or.inl ⟨by rfl, ?yb5⟩) (by assumption) ?nb5
    case yb5 => (intro wS hSw; (try dsimp only at hSw); go_simp; try rfl)
    try simp only [Act.put, List.setIfInBounds_toArray, List.set_cons_zero, List.set_cons_succ]
    refine wpAnyH_take (i := 6) (v := ?_) (ops_at rfl) (by kernel_rfl) (by kernel_rfl) (by kernel_rfl) (fun _ _ _ h => h) (Or.inl ⟨by rfl, ?yb6⟩) (by assumption) ?nb6
    case yb6 => (intro wS hSw; (try dsimp only at hSw); go_simp; try rfl)
    try simp only [Act.put, List.setIfInBounds_toArray, List.set_cons_zero, List.set_cons_succ]
    refine wpAnyH_ready (rs := [7]) (by kernel_rfl) (by simp) ?_
    refine AllReadyH.cons (ops_at rfl) (fun K hK => ?_) AllReadyH.nil
    go_simp
    refine (HIB.out _).mono ?_
    rintro e w2 ⟨rfl, rfl⟩
    refine hK.out _ _ trivial (fun hHb7 => ?_)
    clear hK K
    refine wpAnyH_take (i := 8) (v := ?_) (ops_at rfl) (by kernel_rfl) (by kernel_rfl) (by kernel_rfl) (fun _ _ _ h => h) (Or.inl ⟨by rfl, ?yb8⟩) (by assumption) ?nb8
    case yb8 => (intro wS hSw; (try dsimp only at hSw); go_simp; try rfl)
    try simp only [Act.put, List.setIfInBounds_toArray, List.set_cons_zero, List.set_cons_succ]
    refine wpAnyH_done (by kernel_rfl) ?_ _
    go_wp2
    simp only [Exit.noGoto_ret, Exit.inBlock, Exit.then]
    go_ret
    exact ⟨rfl, (Below.refl _ _).drew.drew⟩

/-- Is a letter one of eight, told by their numbers? -/
def inT (lo r : Int) : Bool := decide (lo ≤ r) && decide (r ≤ lo + 7)
theorem inT_load (r : Int) : inT 97 r = isLoad r := rfl
theorem inT_unload (r : Int) : inT 65 r = isUnload r := rfl

set_option maxRecDepth 100000 in
set_option maxHeartbeats 1000000 in
theorem contains_any (s : ByteArray) (lo r : Int) (w : World) (h0 : 0 ≤ r) (hs : s.size = 8) (ha : ∀ c ∈ s.data.toList, c.toNat < 128) (hlo : 0 ≤ lo ∧ lo ≤ 120) (hin : ∀ c : UInt8, c ∈ s.data.toList ↔ lo ≤ (c.toNat : Int) ∧ (c.toNat : Int) ≤ lo + 7) :
    Calls Try.prog 61 #[.string s, .int .i32 r] w fun e w' => e = .returned (.bool (inT lo r)) ∧ Below w.heap.size w w' := by
  by_cases hr : 128 ≤ r
  · have hno : inT lo r = false := by
      unfold inT
      rw [decide_eq_false (show ¬ r ≤ lo + 7 by omega), Bool.and_false]
    rw [hno]
    have HC := Lib.hid (indexRune_high s r w hr hs ha)
    clear ha hin hno
    go_enter Try.func61, Try.ntmps61
    go_wp2_with fail
    refine HC.out.mono ?_
    rintro e w1 ⟨rfl, hb⟩
    go_wp2
    go_ret
    exact ⟨rfl, hb⟩
  obtain ⟨c, hc⟩ : ∃ c : UInt8, (c.toNat : Int) = r := ⟨r.toNat.toUInt8, by simp; omega⟩
  have hix := indexByte_has s.data.toList c
  have hany : (s.data.toList.any fun x => decide (x.toNat = c.toNat)) = inT lo r := by
    unfold inT
    by_cases hm : c ∈ s.data.toList
    · have h1 := (hin c).1 hm
      rw [List.any_eq_true.2 ⟨c, hm, by simp⟩, decide_eq_true (by omega), decide_eq_true (by omega)]; rfl
    · have h1 : ¬ (lo ≤ (c.toNat : Int) ∧ (c.toNat : Int) ≤ lo + 7) := fun e => hm ((hin c).2 e)
      rw [List.any_eq_false.2 fun x hx => by
        have hne : ¬ x.toNat = c.toNat := fun e => hm (by rw [← UInt8.toNat_inj.1 e]; exact hx)
        simpa using hne]
      by_cases h2 : lo ≤ r
      · rw [decide_eq_false (show ¬ r ≤ lo + 7 by omega), Bool.and_false]
      · rw [decide_eq_false h2]; rfl
  rw [hany] at hix
  have hcc : (r.toNat.toUInt8) = c := by rw [← hc]; simp
  have hib := sIB_any s r w
  rw [hcc] at hib
  have d0 : decide ((0 : Int) ≤ r) = true := decide_eq_true h0
  have d1 : decide (r < 128) = true := decide_eq_true (by omega)
  have hwu : IntKind.u8.wrap r = r := by rw [IntKind.wrap_u8]; omega
  generalize Lib.indexByte s.data.toList c = ix at *
  have HIB := Lib.hid hib
  have hri : Calls Try.prog 74 #[.string s, .int .i32 r] w fun e w' => e = .returned (.int .i64 ix) ∧ w = w' := by
    clear hix hany hin ha hib hcc hc
    go_enter Try.func74, Try.ntmps74
    go_wp2_with fail
    refine HIB.out.mono ?_
    rintro e w1 ⟨rfl, rfl⟩
    go_wp2
    go_ret
    exact ⟨rfl, rfl⟩
  have HRI := Lib.hid hri
  clear hany hin ha hib hcc hc hri
  go_enter Try.func61, Try.ntmps61
  go_wp2_with fail
  refine HRI.out.mono ?_
  rintro e w1 ⟨rfl, rfl⟩
  have hge : decide (ix ≥ 0) = inT lo r := hix
  go_wp2
  go_ret
  exact ⟨by simp, Below.refl _ _⟩

theorem containsLoad_any (r : Int) (w : World) (h0 : 0 ≤ r) :
    Calls Try.prog 61 #[.string ⟨#[97, 98, 99, 100, 101, 102, 103, 104]⟩, .int .i32 r] w fun e w' => e = .returned (.bool (isLoad r)) ∧ Below w.heap.size w w' := by
  refine contains_any _ 97 r w h0 rfl (by decide) (by omega) fun c => ?_
  constructor
  · intro h
    simp only [List.mem_cons, List.not_mem_nil, or_false] at h
    rcases h with rfl | rfl | rfl | rfl | rfl | rfl | rfl | rfl <;> decide
  · rintro ⟨h1, h2⟩
    have h3 : c.toNat = 97 ∨ c.toNat = 98 ∨ c.toNat = 99 ∨ c.toNat = 100 ∨ c.toNat = 101 ∨ c.toNat = 102 ∨ c.toNat = 103 ∨ c.toNat = 104 := by omega
    simp only [List.mem_cons, List.not_mem_nil, or_false]
    rcases h3 with h | h | h | h | h | h | h | h
    · exact .inl (UInt8.toNat_inj.1 h)
    · exact .inr (.inl (UInt8.toNat_inj.1 h))
    · exact .inr (.inr (.inl (UInt8.toNat_inj.1 h)))
    · exact .inr (.inr (.inr (.inl (UInt8.toNat_inj.1 h))))
    · exact .inr (.inr (.inr (.inr (.inl (UInt8.toNat_inj.1 h)))))
    · exact .inr (.inr (.inr (.inr (.inr (.inl (UInt8.toNat_inj.1 h))))))
    · exact .inr (.inr (.inr (.inr (.inr (.inr (.inl (UInt8.toNat_inj.1 h)))))))
    · exact .inr (.inr (.inr (.inr (.inr (.inr (.inr (UInt8.toNat_inj.1 h)))))))
theorem containsUnload_any (r : Int) (w : World) (h0 : 0 ≤ r) :
    Calls Try.prog 61 #[.string ⟨#[65, 66, 67, 68, 69, 70, 71, 72]⟩, .int .i32 r] w fun e w' => e = .returned (.bool (isUnload r)) ∧ Below w.heap.size w w' := by
  refine contains_any _ 65 r w h0 rfl (by decide) (by omega) fun c => ?_
  constructor
  · intro h
    simp only [List.mem_cons, List.not_mem_nil, or_false] at h
    rcases h with rfl | rfl | rfl | rfl | rfl | rfl | rfl | rfl <;> decide
  · rintro ⟨h1, h2⟩
    have h3 : c.toNat = 65 ∨ c.toNat = 66 ∨ c.toNat = 67 ∨ c.toNat = 68 ∨ c.toNat = 69 ∨ c.toNat = 70 ∨ c.toNat = 71 ∨ c.toNat = 72 := by omega
    simp only [List.mem_cons, List.not_mem_nil, or_false]
    rcases h3 with h | h | h | h | h | h | h | h
    · exact .inl (UInt8.toNat_inj.1 h)
    · exact .inr (.inl (UInt8.toNat_inj.1 h))
    · exact .inr (.inr (.inl (UInt8.toNat_inj.1 h)))
    · exact .inr (.inr (.inr (.inl (UInt8.toNat_inj.1 h))))
    · exact .inr (.inr (.inr (.inr (.inl (UInt8.toNat_inj.1 h)))))
    · exact .inr (.inr (.inr (.inr (.inr (.inl (UInt8.toNat_inj.1 h))))))
    · exact .inr (.inr (.inr (.inr (.inr (.inr (.inl (UInt8.toNat_inj.1 h)))))))
    · exact .inr (.inr (.inr (.inr (.inr (.inr (.inr (UInt8.toNat_inj.1 h)))))))
end Go.Proofs.Ytgcljhgpihpfgab
