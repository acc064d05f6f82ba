/-
  Whether a board can be cut just into pieces, by both programs.
  Conditions: none.
-/
import Derived.Test.YtjpejhpilfjheaaBdW
import Derived.Test.YtjpejhpilfjheaaAppendFlat3
namespace Go.Proofs.Ytjpejhpilfjheaa
set_option linter.unusedVariables false
open Go.RowKit

/-- Pieces that are worth their area. -/
def worthL (ps : List (Int × Int × Int)) : List (Int × Int × Int) := ps.map fun p => (p.1, p.2.1, p.1 * p.2.1)
theorem worthL_length (ps : List (Int × Int × Int)) : (worthL ps).length = ps.length := by simp [worthL]
theorem worthL_at {ps : List (Int × Int × Int)} {k : Nat} {x y z : Int} (h : ps[k]? = some (x, y, z)) : (worthL ps)[k]? = some (x, y, x * y) := by simp [worthL, h]
theorem worthL_next {ps : List (Int × Int × Int)} {k : Nat} {x y z : Int} (h : ps[k]? = some (x, y, z)) : worthL (ps.take (k + 1)) = worthL (ps.take k) ++ [(x, y, x * y)] := by
  obtain ⟨hk, e⟩ := List.getElem?_eq_some_iff.1 h
  rw [List.take_succ_eq_append_getElem hk, e, worthL, worthL, List.map_append]
  rfl
theorem side_mul {x y : Int} (hx : 1 ≤ x ∧ x ≤ 24) (hy : 1 ≤ y ∧ y ≤ 24) : 1 ≤ x * y ∧ x * y ≤ 576 := by
  obtain ⟨a, rfl⟩ : ∃ a : Nat, x = (a : Int) := ⟨x.toNat, by omega⟩
  obtain ⟨b, rfl⟩ : ∃ b : Nat, y = (b : Int) := ⟨y.toNat, by omega⟩
  have h1 : a * b ≤ 24 * 24 := Nat.mul_le_mul (by omega) (by omega)
  have h2 : 1 ≤ a * b := Nat.mul_pos (by omega) (by omega)
  have h3 : (a : Int) * (b : Int) = ((a * b : Nat) : Int) := by push_cast; rfl
  rw [h3]
  omega
theorem goodPc_worth {ps : List (Int × Int × Int)} (h : goodPc ps = true) : goodPc (worthL ps) = true := by
  obtain ⟨h1, h2, h3⟩ := goodPc_at h
  rw [goodPc, Bool.and_eq_true, inB_true, List.all_eq_true, worthL_length]
  refine ⟨by omega, fun p hp => ?_⟩
  obtain ⟨r, hr, rfl⟩ := List.mem_map.1 hp
  have h4 := pcB_true.1 (h3 r hr)
  have h5 := side_mul h4.1.1 h4.1.2
  exact pcB_true.2 ⟨h4.1, by show 0 ≤ r.1 * r.2.1; omega, by show r.1 * r.2.1 ≤ 1000; omega⟩
/-- Whether a board can be cut just into pieces. -/
def canB (ps : List (Int × Int × Int)) (tu : Bool) (x y : Int) : Bool := askP x y ps && (valB (worthL ps) tu x.toNat y.toNat == ((x.toNat * y.toNat : Nat) : Int))
theorem canB_no {ps : List (Int × Int × Int)} {tu : Bool} {x y : Int} (h : askP x y ps = false) : canB ps tu x y = false := by rw [canB, h]; rfl
theorem canB_yes {ps : List (Int × Int × Int)} {tu : Bool} {a b : Nat} (h : askP (a : Int) (b : Int) ps = true) : canB ps tu (a : Int) (b : Int) = (valB (worthL ps) tu a b == ((a * b : Nat) : Int)) := by rw [canB, h]; rfl

set_option maxRecDepth 100000 in
set_option maxHeartbeats 1000000 in
theorem bdWorth_any (A : Option Addr) (n c : Nat) (bs : List (Int × Int × Int)) (lo hi : Nat) (w : World) (hn : bs.length = n) (hg : goodPc bs = true) (hs : Seg w lo hi A (flat3 bs)) (hB : hi ≤ w.heap.size) :
    Calls Try.prog 55 #[.slice A n c] w fun e w' => ∃ A' c', e = .returned (.slice A' n c') ∧ Own w' w.heap.size w'.heap.size A' (flat3 (worthL bs)) ∧ Below w.heap.size w w' := by
  have HN := Lib.hid hn
  have HG := Lib.hid hg
  have HS1 := Lib.hid hs
  have hn4 : n ≤ 4 := by rw [← hn]; exact (goodPc_at hg).2.1
  have hbld : ∀ (W : World) (x y z : Int), (Instr.build 26 #[(0, .int .i64 x), (1, .int .i64 y), (2, .int .i64 z)]).run Try.prog W = .ok (.agg #[.int .i64 x, .int .i64 y, .int .i64 z]) W := fun W x y z => run_build W 26 _ _ (by kernel_rfl)
  obtain ⟨i0, hi0, hz0, hz1, hz2⟩ := info_parts piece_info
  clear hn hg hs
  go_enter Try.func55, Try.ntmps55
  go_wp2
  go_loopw [3, 5, 8] (fun v _ i wr => ∃ k : Nat, k ≤ n ∧ i = .int .i64 k ∧ Below w.heap.size w wr ∧ wr.ownsRow w.heap.size 26 3 v (worthL (bs.take k)).length (vals3 (worthL (bs.take k)))) (fun _ _ i _ => n - (intOf i).toNat)
  case atStart => exact ⟨0, Nat.zero_le _, rfl, Below.refl _ _, World.ownsRow_nil _ _ _ _⟩
  case round =>
    obtain ⟨k, hk, rfl, hb, hown⟩ := hrel
    have hsz := hb.size
    have HB := Lib.hid hb
    obtain ⟨Bv, dv, rfl, hlv, hdv, _⟩ := seg_of_row3 hown
    obtain ⟨nv, hnv⟩ : ∃ nv, (worthL (bs.take k)).length = nv := ⟨_, rfl⟩
    rw [hnv] at hown ⊢
    have hnvk : nv ≤ 4 := by rw [← hnv, worthL_length, List.length_take]; omega
    have HNV := Lib.hid hnv
    have HOW := Lib.hid hown
    clear hnv hown hdv hlv
    by_cases hlt : k < n
    · obtain ⟨b, off, x, y, z, rfl, _, _, hx, hc0, hc1, hc2⟩ := (HS1.out.below hb (by omega)).tri (k := k) (by rw [HN.out]; exact hlt)
      have HNX := Lib.hid (worthL_next hx)
      have hpc := pcB_true.1 ((goodPc_at HG.out).2.2 _ (List.mem_of_getElem? hx))
      have hmb : 1 ≤ x * y ∧ x * y ≤ 576 := side_mul hpc.1.1 hpc.1.2
      obtain ⟨p, hp⟩ : ∃ p, x * y = p := ⟨_, rfl⟩
      rw [hp] at HNX hmb
      have hwp : IntKind.i64.wrap p = p := by rw [IntKind.wrap_i64]; omega
      have HOW1 := Lib.hid (HOW.out.alloc (.cells #[.int .i64 x, .int .i64 y, .int .i64 z] 26))
      have HOW2 := Lib.hid (HOW1.out.alloc (.cells #[.int .i64 x, .int .i64 y, .int .i64 p] 26))
      have HSB := Lib.hid (seg_box (wr.alloc (.cells #[.int .i64 x, .int .i64 y, .int .i64 z] 26)) x y p 26)
      have HLT := Lib.hid HOW.out.lt
      clear hx hpc hmb
      go_wp2_with (at_builtin; refine wpList_append_flat3 _ rfl _ _ 34 rfl w.heap.size 26 i0 Try.underlying34 hi0 hz0 hz1 hz2 _ nv _ rfl HOW2.out _ 1 1 [(x, y, p)] _ _ rfl rfl (by simpa using HSB.out) (by omega) (by simp; omega) ?_; intro v3 w3 hown3 hgr3; obtain ⟨A3, c3, rfl, _, _, _⟩ := seg_of_row3 (bs := worthL (bs.take k) ++ [(x, y, p)]) (by rw [vals3_append]; exact hown3); have HO3 := Lib.hid hown3; have HB3 := Lib.hid (show Below w.heap.size w w3 from ((HB.out.alloc hsz _).alloc (by simp; omega) _).grown hgr3 (by simp; omega) (fun g' hg' => (HLT.out g' hg').1)); clear hown3 hgr3)
      go_roundw
      case rel => exact ⟨k + 1, by omega, by go_num, HB3.out, by rw [HNX.out, List.length_append, HNV.out, vals3_append]; exact HO3.out⟩
      case measure => simp [intOf]; omega
    · obtain rfl : k = n := by omega
      obtain ⟨Bf, df, hvf, hlf, _, hof⟩ := seg_of_row3 HOW.out
      injection hvf with e1 e2 e3
      subst e1 e3
      have HE := Lib.hid (show worthL (bs.take k) = worthL bs by rw [← HN.out, List.take_length])
      have hnk : nv = k := by rw [← HNV.out, HE.out, worthL_length, HN.out]
      subst hnk
      go_wp2
      go_ret
      refine ⟨Bv, ⟨dv, rfl⟩, ?_, hb⟩
      have h := hof
      rw [HE.out] at h
      exact h

set_option maxRecDepth 100000 in
set_option maxHeartbeats 1000000 in
theorem spec_CanCutAll (x y : Int) (C0 : Option Addr) (np cp0 : Nat) (ps : List (Int × Int × Int)) (lo hi : Nat) (tu : Bool) (w : World) (hn : ps.length = np) (hlen : np ≤ 1048576) (hs : Seg w lo hi C0 (flat3 ps)) (hB : hi ≤ w.heap.size) (q : Bool) (hq : askP x y ps = q) (v : Bool) (hv : canB ps tu x y = v) :
    Calls Try.prog 28 #[.int .i64 x, .int .i64 y, .slice C0 np cp0, .bool tu] w (RetBB v q w) := by
  have HA := Lib.hid (bdAsked_any x y C0 np cp0 ps lo hi w hn hlen hs hB q hq)
  cases q
  · obtain rfl : v = false := by rw [← hv]; exact canB_no hq
    clear hv hn hs hq
    go_enter Try.func28, Try.ntmps28
    go_wp2_with fail
    refine HA.out.mono ?_
    rintro e w1 ⟨rfl, hb1⟩
    go_wp2
    go_ret2
    exact ⟨rfl, hb1⟩
  · obtain ⟨h1, h2⟩ := askP_true.1 hq
    obtain ⟨a, b, rfl, rfl, ⟨a1, a2⟩, b1, b2⟩ := bdB_nat h1
    obtain ⟨u, hu⟩ : ∃ u, valB (worthL ps) tu a b = u := ⟨_, rfl⟩
    obtain ⟨ar, har⟩ : ∃ ar : Nat, a * b = ar := ⟨_, rfl⟩
    have hab : a * b ≤ 24 * 24 := Nat.mul_le_mul a2 b2
    have hmul : (a : Int) * (b : Int) = (ar : Int) := by rw [← har]; push_cast; rfl
    rw [har] at hab
    have hwm : IntKind.i64.wrap (ar : Int) = (ar : Int) := by rw [IntKind.wrap_i64]; omega
    have hva : (u == (ar : Int)) = v := by rw [← hv, canB_yes hq, hu, har]
    have hn4 := (goodPc_at h2).2.1
    have HN := Lib.hid hn
    have HS := Lib.hid hs
    have HU := Lib.hid hu
    have HG := Lib.hid h2
    clear hq hv hn hs h1 h2 hu har
    go_enter Try.func28, Try.ntmps28
    go_wp2_with fail
    refine HA.out.mono ?_
    rintro e w1 ⟨rfl, hb1⟩
    have HB1 := Lib.hid hb1
    have hz1 := hb1.size
    clear hb1
    go_wp2_with fail
    refine (bdWorth_any C0 np cp0 ps lo hi w1 HN.out HG.out (HS.out.below HB1.out hB) (by omega)).mono ?_
    rintro e w2 ⟨A', c', rfl, hown, hb2⟩
    have HO2 := Lib.hid hown.seg
    have HB2 := Lib.hid (HB1.out.trans (hb2.mono hz1))
    have hz2 := HB2.out.size
    clear hown hb2
    go_wp2_with fail
    refine (bdValues_any a b A' np c' (worthL ps) w1.heap.size w2.heap.size tu w2 a1 a2 b1 b2 (Lib.hid (by rw [worthL_length]; exact HN.out)) (by rw [← HN.out]; exact hn4) (Lib.hid (goodPc_vals (goodPc_worth HG.out))) HO2 (Nat.le_refl _)).mono ?_
    rintro e w3 ⟨F, rfl, ht, hb⟩
    obtain ⟨g, e1, e2⟩ := ht.read (a := a) (b := b) a1 (Nat.le_refl _) b1 (Nat.le_refl _) (.inr (Nat.le_refl _))
    rw [HU.out] at e2
    clear ht
    go_wp2
    go_ret2
    exact ⟨rfl, HB2.out.trans (hb.mono hz2)⟩

set_option maxHeartbeats 400000 in
theorem withValue_any (x y z v : Int) (w : World) :
    Calls Try.prog 35 #[.agg #[.int .i64 x, .int .i64 y, .int .i64 z], .int .i64 v] w fun e w' => e = .returned (.agg #[.int .i64 x, .int .i64 y, .int .i64 v]) ∧ Below w.heap.size w w' := by
  go_enter Try.func35, Try.ntmps35
  go_wp2
  refine bodyPost_ret (v := .agg #[.int .i64 x, .int .i64 y, .int .i64 v]) (by simp [results, Try.results35, go_sem]) rfl ⟨rfl, ?_⟩
  exact ((Below.refl _ _).alloc (Nat.le_refl _) _).alloc (by simp) _

set_option maxHeartbeats 400000 in
theorem cloneP_any (a : Addr) (n c : Nat) (bs : List (Int × Int × Int)) (lo hi : Nat) (w : World) (hn : bs.length = n) (hlen : n ≤ 1048576) (hs : Seg w lo hi (some a) (flat3 bs)) (hB : hi ≤ w.heap.size) :
    Calls Try.prog 57 #[.slice (some a) n c] w fun e w' => ∃ v, e = .returned v ∧ w'.ownsRow w.heap.size 26 3 v n (vals3 bs) ∧ Below w.heap.size w w' := by
  obtain ⟨i0, hi0, hz0, hz1, hz2⟩ := info_parts piece_info
  have HN := Lib.hid hn
  have hlit := World.ownsRow_lit (base := w.heap.size) (e := 26) (size := 3) w #[] 0 (Nat.le_refl _) (Nat.zero_le _) rfl
  have hs1 := hs.below ((Below.refl w.heap.size w).alloc (Nat.le_refl _) (.cells #[] 26)) hB
  have hnil : ∀ (w : World) (a : Option Addr) (n c n' c' : Nat), (binOp .eql 34 (.slice a n c) (.slice none n' c')).run Try.prog w = .ok (.bool a.isNone) w := fun w a n c n' c' => Lib.run_eql_slice_nil w _ _ a n c n' c' Try.underlying34
  have HLIT := Lib.hid hlit
  have HSEG := Lib.hid hs1
  clear hn hlit hs1
  go_enter Try.func57, Try.ntmps57
  go_wp2_with (at_builtin; refine wpList_append_flat3 _ rfl _ _ 34 rfl w.heap.size 26 i0 Try.underlying34 hi0 hz0 hz1 hz2 _ 0 _ rfl HLIT.out (some a) n c bs lo hi rfl HN.out HSEG.out (by omega) (by simp) ?_; intro v' w2 hown2 hgrow2; have hown3 : w2.ownsRow w.heap.size 26 3 v' n (vals3 bs) := (by simpa using hown2); clear hown2; obtain ⟨A2, c2, rfl, _, _, _⟩ := seg_of_row3 hown3)
  go_ret
  exact ⟨_, rfl, hown3, ((Below.refl w.heap.size w).alloc (Nat.le_refl _) _).grown hgrow2 (by simp) (fun g hg => (HLIT.out.lt g hg).1)⟩

set_option maxRecDepth 100000 in
set_option maxHeartbeats 4000000 in
theorem impl_CanCutAll (x y : Int) (C0 : Option Addr) (np cp0 : Nat) (ps : List (Int × Int × Int)) (lo hi : Nat) (tu : Bool) (w : World) (hn : ps.length = np) (hlen : np ≤ 1048576) (hs : Seg w lo hi C0 (flat3 ps)) (hB : hi ≤ w.heap.size) (q : Bool) (hq : askP x y ps = q) (v : Bool) (hv : canB ps tu x y = v) :
    Calls Try.prog 29 #[.int .i64 x, .int .i64 y, .slice C0 np cp0, .bool tu] w (RetBB v q w) := by
  cases hg : goodPc ps
  · obtain rfl : q = false := by rw [← hq, askP, hg, Bool.and_false]
    obtain rfl : v = false := by rw [← hv]; exact canB_no hq
    have HA := Lib.hid (arePieces_any C0 np cp0 ps lo hi w hn hlen hs hB false hg)
    clear hv hn hs hq
    go_enter Try.func29, Try.ntmps29
    go_wp2_with fail
    refine HA.out.mono ?_
    rintro e w1 ⟨rfl, hb1⟩
    go_wp2
    go_ret2
    exact ⟨rfl, hb1⟩
  · obtain ⟨hl1, hl4, hall⟩ := goodPc_at hg
    obtain ⟨b0, o0, x0, y0, z0, rfl, _, _, _, _, _, _⟩ := hs.tri (k := 0) (by omega)
    have hnp : 1 ≤ np ∧ np ≤ 4 := by omega
    have HA := Lib.hid (arePieces_any _ np cp0 ps lo hi w hn hlen hs hB true hg)
    have HG := Lib.hid hg
    have HALL := Lib.hid hall
    have HN := Lib.hid hn
    have HS := Lib.hid hs
    have HL := Lib.hid (show (worthL ps).length = np by rw [worthL_length]; exact hn)
    have hqb : askP x y (worthL ps) = q := by rw [← hq, askP, askP, hg, goodPc_worth hg]
    have HQ := Lib.hid hq
    have HV := Lib.hid hv
    clear hall hn hs hv hg hq hl1 hl4
    go_enter Try.func29, Try.ntmps29
    go_wp2_with fail
    refine HA.out.mono ?_
    rintro e w1 ⟨rfl, hb1⟩
    have HB1 := Lib.hid hb1
    have hz1 := hb1.size
    have HS1 := Lib.hid (HS.out.below hb1 hB)
    clear hb1
    go_wp2_with fail
    refine (cloneP_any _ np cp0 ps lo hi w1 HN.out hlen HS1.out (by omega)).mono ?_
    rintro e w2 ⟨u, rfl, hown, hb2⟩
    obtain ⟨_, h0 | ⟨g, cap, cur, rfl, hbg, hbk, hnc, hcm, hcs, htk⟩⟩ := hown
    · obtain ⟨_, h0⟩ := h0; omega
    have HP0 := Lib.hid (show Part w2 g 26 (cap * 3) (0 * 3) (flat3 (worthL ps)) from ⟨cur, hbk, hcs, fun j hj => by omega⟩)
    have HB2 := Lib.hid hb2
    clear hbk hcs htk hb2
    go_wp2
    go_loopw [11, 12, 22] (fun _ _ i wr => ∃ k : Nat, k ≤ np ∧ i = .int .i64 k ∧ Below w1.heap.size w1 wr ∧ Part wr g 26 (cap * 3) (k * 3) (flat3 (worthL ps))) (fun _ _ i _ => np - (intOf i).toNat)
    case atStart => exact ⟨0, Nat.zero_le _, rfl, HB2.out, HP0.out⟩
    case round =>
      obtain ⟨k, hk, rfl, hb, hp⟩ := hrel
      have HB := Lib.hid hb
      have HP := Lib.hid hp
      have hsz := hb.size
      by_cases hlt : k < np
      · obtain ⟨b, off, x1, y1, z1, hAe, _, _, hx, hc0, hc1, hc2⟩ := (HS1.out.below hb (by omega)).tri (k := k) (by rw [HN.out]; exact hlt)
        injection hAe with hAe
        injection hAe with e1 e2
        subst e1 e2
        have hpc := pcB_true.1 (HALL.out _ (List.mem_of_getElem? hx))
        obtain ⟨a, b', hxa, hyb, ⟨a1, a2⟩, b1, b2⟩ : ∃ a b' : Nat, x1 = (a : Int) ∧ y1 = (b' : Int) ∧ (1 ≤ a ∧ a ≤ 24) ∧ 1 ≤ b' ∧ b' ≤ 24 := by
          have h1 : 1 ≤ x1 ∧ x1 ≤ 24 := hpc.1.1
          have h2 : 1 ≤ y1 ∧ y1 ≤ 24 := hpc.1.2
          exact ⟨x1.toNat, y1.toNat, by omega, by omega, by omega, by omega, by omega⟩
        subst hxa hyb
        have HX := Lib.hid (worthL_at hx)
        have hl := hp.lt
        have hpn := new_at wr (.cells #[.int .i64 (a : Int), .int .i64 (b' : Int), .int .i64 z1] 26) rfl
        obtain ⟨cs, p1, p2, p3⟩ := HP.out.keep (alloc_old wr hl (.cells #[.int .i64 (a : Int), .int .i64 (b' : Int), .int .i64 z1] 26))
        have HPN := Lib.hid hpn
        have HP1 := Lib.hid p1
        have HP2 := Lib.hid p2
        have HP3 := Lib.hid p3
        obtain ⟨u0, hu0⟩ : ∃ u, cs[k * 3]? = some u := ⟨_, Array.getElem?_eq_getElem (by omega)⟩
        obtain ⟨u1, hu1⟩ : ∃ u, cs[k * 3 + 1]? = some u := ⟨_, Array.getElem?_eq_getElem (by omega)⟩
        obtain ⟨u2, hu2⟩ : ∃ u, cs[k * 3 + 2]? = some u := ⟨_, Array.getElem?_eq_getElem (by omega)⟩
        have HU := Lib.hid (And.intro hu0 (And.intro hu1 hu2))
        have hk1 : (k : Int) < (np : Int) := by omega
        clear hx hpc hp hpn p1 p2 p3 hu0 hu1 hu2
        go_wp2_with fail
        refine region_E (S := fun wq => wq.heap[wr.heap.size]? = some (.cells #[.int .i64 (a : Int), .int .i64 (b' : Int), .int .i64 z1] 26 (0, 0)) ∧ wq.heap[g]? = some (.cells cs 26 (0, 0))) 8 (by kernel_rfl) ⟨HPN.out, HP1.out⟩ (fun hH0 => ?_)
        refine AnyE.take (i := 0) (v := ?_) (ops_at rfl) (by kernel_rfl) (by kernel_rfl) (by kernel_rfl) (by kernel_rfl) (fun _ _ _ h => h) (Or.inl ⟨by rfl, ?ya0⟩) (by assumption) ?na0
        case ya0 => (intro wS hSw; (try dsimp only at hSw);  go_simp; try rfl)
        try simp only [Act.put, List.setIfInBounds_toArray, List.set_cons_zero, List.set_cons_succ]
        refine AnyE.take (i := 1) (v := ?_) (ops_at rfl) (by kernel_rfl) (by kernel_rfl) (by kernel_rfl) (by kernel_rfl) (fun _ _ _ h => h) (Or.inl ⟨by rfl, ?ya1⟩) (by assumption) ?na1
        case ya1 => (intro wS hSw; (try dsimp only at hSw);  go_simp; try rfl)
        try simp only [Act.put, List.setIfInBounds_toArray, List.set_cons_zero, List.set_cons_succ]
        refine AnyE.take (i := 2) (v := ?_) (ops_at rfl) (by kernel_rfl) (by kernel_rfl) (by kernel_rfl) (by kernel_rfl) (fun _ _ _ h => h) (Or.inl ⟨by rfl, ?ya2⟩) (by assumption) ?na2
        case ya2 => (intro wS hSw; (try dsimp only at hSw); (have k0 := cell_of hSw.1 0); (have k1 := cell_of hSw.1 1); (have k2 := cell_of hSw.1 2); go_simp; try rfl)
        try simp only [Act.put, List.setIfInBounds_toArray, List.set_cons_zero, List.set_cons_succ]
        refine AnyE.take (i := 3) (v := ?_) (ops_at rfl) (by kernel_rfl) (by kernel_rfl) (by kernel_rfl) (by kernel_rfl) (fun _ _ _ h => h) (Or.inl ⟨by rfl, ?ya3⟩) (by assumption) ?na3
        case ya3 => (intro wS hSw; (try dsimp only at hSw); (have k0 := cell_of hSw.1 0); (have k1 := cell_of hSw.1 1); (have k2 := cell_of hSw.1 2); go_simp; try rfl)
        try simp only [Act.put, List.setIfInBounds_toArray, List.set_cons_zero, List.set_cons_succ]
        have hS0 := hH0
        refine AnyE.of_ready (rs := [4]) (by kernel_rfl) (by simp) ?_
        refine ReadyE.cons (ops_at rfl) (fun K hK => ?_) ReadyE.nil
        go_simp
        refine (boardOf_any (a : Int) (b' : Int) z1 _).mono ?_
        rintro e w4 ⟨rfl, hb4⟩
        have h4 := undrew hb4
        have hB4 := (HB.out.alloc hsz (.cells #[.int .i64 (a : Int), .int .i64 (b' : Int), .int .i64 z1] 26)).trans (h4.mono (by simp; omega))
        refine hK.out _ _ (fun _ => ⟨(h4.block _ (heap_lt hS0.1)).trans hS0.1, (h4.block _ (heap_lt hS0.2)).trans hS0.2⟩) (fun hH4 => ?_)
        clear hK K
        have hS4 := hH4 (by omega)
        refine AnyE.of_ready (rs := [5]) (by kernel_rfl) (by simp) ?_
        refine ReadyE.cons (ops_at rfl) (fun K hK => ?_) ReadyE.nil
        go_simp
        refine (area_any a b' a2 b2 _).mono ?_
        rintro e w5 ⟨rfl, hb5⟩
        have h5 := hb5
        have hB5 := hB4.trans (h5.mono hB4.size)
        refine hK.out _ _ (fun _ => ⟨(h5.block _ (heap_lt hS4.1)).trans hS4.1, (h5.block _ (heap_lt hS4.2)).trans hS4.2⟩) (fun hH5 => ?_)
        clear hK K
        have hS5 := hH5 (by omega)
        obtain ⟨pa, hpa⟩ : ∃ pa : Int, ((a * b' : Nat) : Int) = pa := ⟨_, rfl⟩
        rw [hpa]
        have HPA := Lib.hid hpa
        clear hpa
        refine AnyE.of_ready (rs := [6]) (by kernel_rfl) (by simp) ?_
        refine ReadyE.cons (ops_at rfl) (fun K hK => ?_) ReadyE.nil
        go_simp
        refine (withValue_any (a : Int) (b' : Int) z1 pa _).mono ?_
        rintro e w6 ⟨rfl, hb6⟩
        have h6 := hb6
        have HB6 := Lib.hid (hB5.trans (h6.mono hB5.size))
        refine hK.out _ _ (fun _ => ⟨(h6.block _ (heap_lt hS5.1)).trans hS5.1, (h6.block _ (heap_lt hS5.2)).trans hS5.2⟩) (fun hH6 => ?_)
        clear hK K
        have hS6 := hH6 (by omega)
        refine AnyE.take (i := 7) (v := ?_) (ops_at rfl) (by kernel_rfl) (by kernel_rfl) (by kernel_rfl) (by kernel_rfl) (fun _ _ _ h => h) (Or.inl ⟨by rfl, ?ya7⟩) (by assumption) ?na7
        case ya7 => (intro wS hSw; (try dsimp only at hSw);  go_simp; try rfl)
        try simp only [Act.put, List.setIfInBounds_toArray, List.set_cons_zero, List.set_cons_succ]
        have hcr0 := (cell_of hS6.2 (k * 3)).trans HU.out.1
        have hcr1 := (cell_of hS6.2 (k * 3 + 1)).trans HU.out.2.1
        have hcr2 := (cell_of hS6.2 (k * 3 + 2)).trans HU.out.2.2
        have hfr0 := frozen_of hS6.2 (k * 3)
        have hfr1 := frozen_of hS6.2 (k * 3 + 1)
        have hfr2 := frozen_of hS6.2 (k * 3 + 2)
        refine AnyE.of_ready (rs := [8]) (by kernel_rfl) (by simp) ?_
        refine ReadyE.cons (ops_at rfl) (fun K hK => ?_) ReadyE.nil
        go_simp
        refine hK.out _ _ (fun h => absurd rfl h) (fun _ => ?_)
        clear hK K
        refine AnyE.end_ (by kernel_rfl) ?_ _
        have HPT := Lib.hid (show Part w6 g 26 (cap * 3) (k * 3) (flat3 (worthL ps)) from ⟨cs, hS6.2, HP2.out, HP3.out⟩)
        have HXA := Lib.hid (show (worthL ps)[k]? = some ((a : Int), (b' : Int), pa) by rw [HX.out, ← HPA.out]; push_cast; rfl)
        clear hcr0 hcr1 hcr2 hfr0 hfr1 hfr2 hb4 hb5 hb6 h4 h5 h6 hB4 hB5 hS0 hS4 hS5 hS6 hH0 hH4 hH5 hH6
        go_wp2
        go_roundw
        case rel => exact ⟨k + 1, by omega, by go_num, ((HB6.out.setCell (p := ⟨g, k * 3, none⟩) hbg _).setCell (p := ⟨g, k * 3 + 1, none⟩) hbg _).setCell (p := ⟨g, k * 3 + 2, none⟩) hbg _, HPT.out.tri (by omega) HXA.out⟩
        case measure => simp [intOf]; omega
      · obtain rfl : k = np := by omega
        have hp' : Part wr g 26 (cap * 3) (flat3 (worthL ps)).length (flat3 (worthL ps)) := by rw [flat3_length, HL.out]; exact hp
        have HO := Lib.hid (hp'.own (lo := w1.heap.size) (hi := wr.heap.size) hbg hp.lt).seg
        have HBW := Lib.hid (HB1.out.trans (hb.mono hz1))
        have hzw := HBW.out.size
        clear hb hp hp'
        go_wp2_with fail
        refine (sheetOf_any x y (some ⟨g, 0, none⟩) k cap (worthL ps) w1.heap.size wr.heap.size tu wr HL.out hlen HO.out (Nat.le_refl _) q hqb).mono ?_
        rintro e w5 ⟨hb5, u, rfl, hu, hu'⟩
        have HB5 := Lib.hid (HBW.out.trans (hb5.mono hzw))
        clear hb5
        cases q
        · obtain rfl := hu' rfl
          obtain rfl : v = false := by rw [← HV.out]; exact canB_no HQ.out
          clear hu hu'
          go_wp2
          go_ret2
          exact ⟨rfl, HB5.out.alloc HB5.out.size _⟩
        · obtain ⟨h1, h2⟩ := askP_true.1 HQ.out
          obtain ⟨a, b, rfl, rfl, ⟨a1, a2⟩, b1, b2⟩ := bdB_nat h1
          obtain ⟨X, rfl, hW⟩ := hu rfl
          obtain ⟨uv, huv⟩ : ∃ uv, valB (worthL ps) tu a b = uv := ⟨_, rfl⟩
          obtain ⟨ar, har⟩ : ∃ ar : Int, ((a * b : Nat) : Int) = ar := ⟨_, rfl⟩
          have hva : (uv == ar) = v := by rw [← HV.out, canB_yes HQ.out, huv, har]
          have hbd := valB_bd4 (goodPc_vals (goodPc_worth HG.out)) tu a b a1 a2 b1 b2
          have HW := Lib.hid hW
          have HUV := Lib.hid huv
          have HAR := Lib.hid har
          have hsh := new_at w5 (.cells #[.int .i64 (a : Int), .int .i64 (b : Int), .slice (some ⟨g, 0, none⟩) k cap, .bool tu, (.func (.func 75) #[] #[.pointer (some ⟨X, 0, none⟩)])] 59) rfl
          have HSH := Lib.hid hsh
          clear hW huv har hsh hu hu' h1 h2
          go_wp2_with fail
          refine wp_region_held_drew (S := (fun wq => wq.heap[w5.heap.size]? = some (.cells #[.int .i64 (a : Int), .int .i64 (b : Int), .slice (some ⟨g, 0, none⟩) k cap, .bool tu, (.func (.func 75) #[] #[.pointer (some ⟨X, 0, none⟩)])] 59 (0, 0)))) (by kernel_rfl) HSH.out (fun hH0 => ?_)
          refine wpAnyH_take (i := 0) (v := ?_) (ops_at rfl) (by kernel_rfl) (by kernel_rfl) (by kernel_rfl) (fun _ _ _ h => h) (Or.inl ⟨by rfl, ?yp0⟩) (by assumption) ?np0
          case yp0 => (intro wS hSw; (have k0 := cell_of hSw 0); (have k1 := cell_of hSw 1); (have k2 := cell_of hSw 2); (have k3 := cell_of hSw 3); (have k4 := cell_of hSw 4); go_simp; try rfl)
          try simp only [Act.put, List.setIfInBounds_toArray, List.set_cons_zero, List.set_cons_succ]
          refine wpAnyH_take (i := 2) (v := ?_) (ops_at rfl) (by kernel_rfl) (by kernel_rfl) (by kernel_rfl) (fun _ _ _ h => h) (Or.inl ⟨by rfl, ?yp2⟩) (by assumption) ?np2
          case yp2 => (intro wS hSw; (have k0 := cell_of hSw 0); (have k1 := cell_of hSw 1); (have k2 := cell_of hSw 2); (have k3 := cell_of hSw 3); (have k4 := cell_of hSw 4); go_simp; try rfl)
          try simp only [Act.put, List.setIfInBounds_toArray, List.set_cons_zero, List.set_cons_succ]
          refine wpAnyH_take (i := 3) (v := ?_) (ops_at rfl) (by kernel_rfl) (by kernel_rfl) (by kernel_rfl) (fun _ _ _ h => h) (Or.inl ⟨by rfl, ?yp3⟩) (by assumption) ?np3
          case yp3 => (intro wS hSw; (have k0 := cell_of hSw 0); (have k1 := cell_of hSw 1); (have k2 := cell_of hSw 2); (have k3 := cell_of hSw 3); (have k4 := cell_of hSw 4); go_simp; try rfl)
          try simp only [Act.put, List.setIfInBounds_toArray, List.set_cons_zero, List.set_cons_succ]
          refine wpAnyH_ready (rs := [1]) (by kernel_rfl) (by simp) ?_
          refine AllReadyH.cons (ops_at rfl) (fun K hK => ?_) AllReadyH.nil
          go_simp
          refine (sheetValue_any a b X (some ⟨g, 0, none⟩) k cap tu (valB (worthL ps)  tu) _ a1 b1 ((((HW.out.below ((Below.refl w5.heap.size w5).alloc (Nat.le_refl _) (.cells #[.int .i64 (a : Int), .int .i64 (b : Int), .slice (some ⟨g, 0, none⟩) k cap, .bool tu, (.func (.func 75) #[] #[.pointer (some ⟨X, 0, none⟩)])] 59)) (Nat.le_refl _)).below (drewB (Below.refl _ _)) (by first | exact Nat.le_refl _ | exact Nat.le_succ _ | (simp; done) | (simp; omega))).mono (by first | exact Nat.le_refl _ | exact Nat.le_succ _ | (simp; done) | (simp; omega)) (fun a' b' h => ⟨h, rfl⟩))) (by omega) uv HUV.out).mono ?_
          rintro e w6 ⟨rfl, hb6⟩
          have h6 := undrew hb6
          have hB6 := (HB5.out.alloc HB5.out.size (.cells #[.int .i64 (a : Int), .int .i64 (b : Int), .slice (some ⟨g, 0, none⟩) k cap, .bool tu, (.func (.func 75) #[] #[.pointer (some ⟨X, 0, none⟩)])] 59)).trans (h6.mono (by have := HB5.out.size; simp; omega))
          refine hK.out _ _ ((h6.block _ (heap_lt hH0)).trans hH0) (fun hH6 => ?_)
          clear hK K
          refine wpAnyH_ready (rs := [4]) (by kernel_rfl) (by simp) ?_
          refine AllReadyH.cons (ops_at rfl) (fun K hK => ?_) AllReadyH.nil
          go_simp
          refine (area_any a b a2 b2 _).mono ?_
          rintro e w7 ⟨rfl, hb7⟩
          have h7 := id hb7
          have hB7 := hB6.trans (h7.mono hB6.size)
          rw [HAR.out]
          refine hK.out _ _ ((h7.block _ (heap_lt hH6)).trans hH6) (fun hH7 => ?_)
          clear hK K
          refine wpAnyH_take (i := 5) (v := ?_) (ops_at rfl) (by kernel_rfl) (by kernel_rfl) (by kernel_rfl) (fun _ _ _ h => h) (Or.inl ⟨by rfl, ?yr5⟩) (by assumption) ?nr5
          case yr5 => (intro wS hSw; (have k0 := cell_of hSw 0); (have k1 := cell_of hSw 1); (have k2 := cell_of hSw 2); (have k3 := cell_of hSw 3); (have k4 := cell_of hSw 4); go_simp; try rfl)
          try simp only [Act.put, List.setIfInBounds_toArray, List.set_cons_zero, List.set_cons_succ]
          refine wpAnyH_take (i := 6) (v := ?_) (ops_at rfl) (by kernel_rfl) (by kernel_rfl) (by kernel_rfl) (fun _ _ _ h => h) (Or.inl ⟨by rfl, ?yr6⟩) (by assumption) ?nr6
          case yr6 => (intro wS hSw; (have k0 := cell_of hSw 0); (have k1 := cell_of hSw 1); (have k2 := cell_of hSw 2); (have k3 := cell_of hSw 3); (have k4 := cell_of hSw 4); go_simp; try rfl)
          try simp only [Act.put, List.setIfInBounds_toArray, List.set_cons_zero, List.set_cons_succ]
          refine wpAnyH_take (i := 7) (v := ?_) (ops_at rfl) (by kernel_rfl) (by kernel_rfl) (by kernel_rfl) (fun _ _ _ h => h) (Or.inl ⟨by rfl, ?yr7⟩) (by assumption) ?nr7
          case yr7 => (intro wS hSw; (have k0 := cell_of hSw 0); (have k1 := cell_of hSw 1); (have k2 := cell_of hSw 2); (have k3 := cell_of hSw 3); (have k4 := cell_of hSw 4); go_simp; try rfl)
          try simp only [Act.put, List.setIfInBounds_toArray, List.set_cons_zero, List.set_cons_succ]
          refine wpAnyH_done (by kernel_rfl) ?_ _
          go_wp2
          go_ret2
          exact ⟨rfl, hB7⟩
end Go.Proofs.Ytjpejhpilfjheaa
