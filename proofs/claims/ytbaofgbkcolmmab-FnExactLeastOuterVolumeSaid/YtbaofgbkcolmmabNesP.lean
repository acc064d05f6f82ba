/-
  What the given program answers of the nestings with the fewest outer boxes, and of the least volume of outer boxes.
  Conditions: the list has at most 1048576 boxes.
-/
import Derived.Test.YtbaofgbkcolmmabNesB
import Derived.Test.YtbaofgbkcolmmabNesI
import Derived.Test.YtbaofgbkcolmmabBoxGood
import Derived.Test.YtbaofgbkcolmmabSomeN
namespace Go.Proofs.Ytbaofgbkcolmmab
set_option linter.unusedVariables false
open Go.RowKit

set_option maxRecDepth 100000 in
set_option maxHeartbeats 4000000 in
theorem spec_FewestOuter (A : Option Addr) (n c : Nat) (bs : List (Int × Int × Int)) (lo hi : Nat) (w : World) (hn : bs.length = n) (hlen : n ≤ 1048576) (hs : Seg w lo hi A (flat3 bs)) (hB : hi ≤ w.heap.size) (q : Bool) (hq : goodN bs = q) :
    Calls Try.prog 12 #[.slice A n c] w (RetI (if q = true then leastC outC (bestN bs) else 0) q w) := by
  have HN := Lib.hid hn
  have HG := Lib.hid hq
  cases q
  · clear hn hq
    go_enter Try.func12, Try.ntmps12
    go_wp2_with fail
    refine (neAll_any _ _ _ bs lo hi _ HN.out hlen hs hB _ HG.out).mono ?_
    rintro e w1 ⟨rfl, hb1⟩
    go_wp2
    go_ret2
    exact ⟨rfl, hb1⟩
  · have hn7 : n ≤ 7 := by rw [← hn]; exact (goodN_at hq).2.1
    clear hn hq
    go_enter Try.func12, Try.ntmps12
    go_wp2_with fail
    refine (neAll_any _ _ _ bs lo hi _ HN.out hlen hs hB _ HG.out).mono ?_
    rintro e w1 ⟨rfl, hb1⟩
    have hz1 := hb1.size
    have HB1 := Lib.hid hb1
    clear hb1
    go_wp2_with fail
    refine (neBest_any A n c bs lo hi _ HN.out HG.out (hs.below HB1.out hB) (by omega)).mono ?_
    rintro e w2 ⟨A2, n2, c2, vs, rfl, hl2, hr2, hb2⟩
    have hz2 := hb2.size
    have HB2 := Lib.hid (HB1.out.trans (hb2.mono hz1))
    obtain ⟨b, r, hbr⟩ := bestN_cons bs
    have HBR := Lib.hid hbr
    obtain ⟨g, B, d, rfl, _, hgl, hcx, hox⟩ := hr2.at_ (show (bestN bs)[0]? = some b by rw [hbr]; rfl)
    have h2 : 1 ≤ n2 := by rw [← hl2, hbr]; simp
    obtain ⟨hbi, hbl⟩ := bestN_in (show b ∈ bestN bs by rw [hbr]; exact List.mem_cons_self)
    have HL2 := Lib.hid hl2
    obtain ⟨m, hm⟩ : ∃ m, b.length = m := ⟨_, rfl⟩
    have hm7 : m ≤ 7 := by rw [← hm, hbl, HN.out]; exact hn7
    rw [hm] at hcx
    have HM := Lib.hid hm
    have HO := Lib.hid hox
    have HGE := Lib.hid (show ∀ u ∈ b, -1 ≤ u from fun u hu => (hbi u hu).1)
    clear hl2 hr2 hb2 hbr hox hbi hbl hm
    go_wp2_with fail
    refine (neOuter_any B m d b _ _ _ HM.out (by omega) HO.out.seg (Nat.le_refl _) HGE.out).mono ?_
    rintro e w3 ⟨A3, n3, c3, rfl, hl3, _, hb3⟩
    have HL3 := Lib.hid hl3
    clear hl3
    go_wp2
    go_ret2
    exact ⟨by rw [HBR.out, ← HL3.out]; rfl, HB2.out.trans (hb3.mono (by omega))⟩
set_option maxRecDepth 100000 in
set_option maxHeartbeats 4000000 in
theorem spec_CountNestings (A : Option Addr) (n c : Nat) (bs : List (Int × Int × Int)) (lo hi : Nat) (w : World) (hn : bs.length = n) (hlen : n ≤ 1048576) (hs : Seg w lo hi A (flat3 bs)) (hB : hi ≤ w.heap.size) (q : Bool) (hq : goodN bs = q) :
    Calls Try.prog 22 #[.slice A n c] w (RetI (if q = true then ((bestN bs).length : Nat) else 0) q w) := by
  have HN := Lib.hid hn
  have HG := Lib.hid hq
  cases q
  · clear hn hq
    go_enter Try.func22, Try.ntmps22
    go_wp2_with fail
    refine (neAll_any _ _ _ bs lo hi _ HN.out hlen hs hB _ HG.out).mono ?_
    rintro e w1 ⟨rfl, hb1⟩
    go_wp2
    go_ret2
    exact ⟨rfl, hb1⟩
  · have hn7 : n ≤ 7 := by rw [← hn]; exact (goodN_at hq).2.1
    clear hn hq
    go_enter Try.func22, Try.ntmps22
    go_wp2_with fail
    refine (neAll_any _ _ _ bs lo hi _ HN.out hlen hs hB _ HG.out).mono ?_
    rintro e w1 ⟨rfl, hb1⟩
    have hz1 := hb1.size
    have HB1 := Lib.hid hb1
    clear hb1
    go_wp2_with fail
    refine (neBest_any A n c bs lo hi _ HN.out HG.out (hs.below HB1.out hB) (by omega)).mono ?_
    rintro e w2 ⟨A2, n2, c2, vs, rfl, hl2, hr2, hb2⟩
    have hz2 := hb2.size
    have HB2 := Lib.hid (HB1.out.trans (hb2.mono hz1))
    obtain ⟨b, r, hbr⟩ := bestN_cons bs
    have HBR := Lib.hid hbr
    obtain ⟨g, B, d, rfl, _, hgl, hcx, hox⟩ := hr2.at_ (show (bestN bs)[0]? = some b by rw [hbr]; rfl)
    have h2 : 1 ≤ n2 := by rw [← hl2, hbr]; simp
    obtain ⟨hbi, hbl⟩ := bestN_in (show b ∈ bestN bs by rw [hbr]; exact List.mem_cons_self)
    have HL2 := Lib.hid hl2
    obtain ⟨m, hm⟩ : ∃ m, b.length = m := ⟨_, rfl⟩
    have hm7 : m ≤ 7 := by rw [← hm, hbl, HN.out]; exact hn7
    rw [hm] at hcx
    have HM := Lib.hid hm
    have HO := Lib.hid hox
    have HGE := Lib.hid (show ∀ u ∈ b, -1 ≤ u from fun u hu => (hbi u hu).1)
    clear hl2 hr2 hb2 hbr hox hbi hbl hm
    go_wp2
    go_ret2
    exact ⟨by rw [← HL2.out]; rfl, HB2.out⟩
set_option maxRecDepth 100000 in
set_option maxHeartbeats 4000000 in
theorem spec_FirstNesting (A : Option Addr) (n c : Nat) (bs : List (Int × Int × Int)) (lo hi : Nat) (w : World) (hn : bs.length = n) (hlen : n ≤ 1048576) (hs : Seg w lo hi A (flat3 bs)) (hB : hi ≤ w.heap.size) (q : Bool) (hq : goodN bs = q) :
    Calls Try.prog 16 #[.slice A n c] w (RetL q (someN q (firstC (bestN bs))) w) := by
  have HN := Lib.hid hn
  have HG := Lib.hid hq
  cases q
  · clear hn hq
    go_enter Try.func16, Try.ntmps16
    go_wp2_with fail
    refine (neAll_any _ _ _ bs lo hi _ HN.out hlen hs hB _ HG.out).mono ?_
    rintro e w1 ⟨rfl, hb1⟩
    go_wp2
    go_ret2
    exact ⟨none, 0, 0, rfl, rfl, Own.nil_, hb1⟩
  · have hn7 : n ≤ 7 := by rw [← hn]; exact (goodN_at hq).2.1
    clear hn hq
    go_enter Try.func16, Try.ntmps16
    go_wp2_with fail
    refine (neAll_any _ _ _ bs lo hi _ HN.out hlen hs hB _ HG.out).mono ?_
    rintro e w1 ⟨rfl, hb1⟩
    have hz1 := hb1.size
    have HB1 := Lib.hid hb1
    clear hb1
    go_wp2_with fail
    refine (neBest_any A n c bs lo hi _ HN.out HG.out (hs.below HB1.out hB) (by omega)).mono ?_
    rintro e w2 ⟨A2, n2, c2, vs, rfl, hl2, hr2, hb2⟩
    have hz2 := hb2.size
    have HB2 := Lib.hid (HB1.out.trans (hb2.mono hz1))
    obtain ⟨b, r, hbr⟩ := bestN_cons bs
    have HBR := Lib.hid hbr
    obtain ⟨g, B, d, rfl, _, hgl, hcx, hox⟩ := hr2.at_ (show (bestN bs)[0]? = some b by rw [hbr]; rfl)
    have h2 : 1 ≤ n2 := by rw [← hl2, hbr]; simp
    obtain ⟨hbi, hbl⟩ := bestN_in (show b ∈ bestN bs by rw [hbr]; exact List.mem_cons_self)
    have HL2 := Lib.hid hl2
    obtain ⟨m, hm⟩ : ∃ m, b.length = m := ⟨_, rfl⟩
    have hm7 : m ≤ 7 := by rw [← hm, hbl, HN.out]; exact hn7
    rw [hm] at hcx
    have HM := Lib.hid hm
    have HO := Lib.hid hox
    have HGE := Lib.hid (show ∀ u ∈ b, -1 ≤ u from fun u hu => (hbi u hu).1)
    clear hl2 hr2 hb2 hbr hox hbi hbl hm
    go_wp2_with fail
    refine (l1Own_any B m d b _ _ _ HM.out (by omega) HO.out.seg (Nat.le_refl _)).mono ?_
    rintro e w3 ⟨A4, c4, rfl, hown3, hb3⟩
    have HO3 := Lib.hid (ownsRow_own (w := w3) (ys := b) (by rw [HM.out]; exact hown3)).2
    have HF := Lib.hid (show someN true (firstC (bestN bs)) = b by rw [HBR.out]; rfl)
    clear hown3
    go_wp2
    go_ret2
    exact ⟨A4, m, c4, rfl, by rw [HF.out]; exact HM.out, by rw [HF.out]; exact HO3.out.more (by omega) (Nat.le_refl _), HB2.out.trans (hb3.mono (by omega))⟩
/-- The least cost so far, or -1. -/
def lvC (g : List Int → Int) (L : List (List Int)) : Int :=
  match nesB g L with
  | [] => -1
  | b :: _ => g b
theorem lvC_nil (g : List Int → Int) : lvC g [] = -1 := rfl
theorem lvC_snoc {g : List Int → Int} {L : List (List Int)} {xs : List Int} (h : ∀ ys ∈ L, 0 ≤ g ys) : lvC g (L ++ [xs]) = if lvC g L < 0 then g xs else if g xs < lvC g L then g xs else lvC g L := by
  unfold lvC
  rw [nesB_snoc]
  cases hB : nesB g L with
  | nil => simp [stepB]
  | cons b r =>
    have hb : 0 ≤ g b := nesB_mem (P := fun ys => 0 ≤ g ys) h b (by rw [hB]; exact List.mem_cons_self)
    have hb' : ¬ g b < 0 := by omega
    simp only [hb', if_false]
    by_cases h1 : g xs < g b
    · rw [stepB_less h1, if_pos h1]
    · rw [if_neg h1]
      by_cases h2 : g xs = g b
      · rw [stepB_same h2]; rfl
      · rw [stepB_more (by omega)]
theorem lvC_least {g : List Int → Int} {L : List (List Int)} (h : L ≠ []) : lvC g L = leastC g (nesB g L) := by
  obtain ⟨b, r, e⟩ := nesB_cons (g := g) h
  unfold lvC
  rw [e]
  rfl
theorem cost_bd {κ : Nat → Int} {n : Nat} (hκ : ∀ k, k < n → 0 ≤ κ k ∧ κ k ≤ 1000000) {xs : List Int} (h : ∀ u ∈ outerL xs, 0 ≤ u ∧ u < (n : Int)) : 0 ≤ costC κ xs := by
  have := sumC_bd hκ (outerL xs).length (outerL xs) h
  rw [List.take_of_length_le (Nat.le_refl _)] at this
  exact this.1

set_option maxRecDepth 100000 in
set_option maxHeartbeats 4000000 in
theorem spec_LeastOuterVolume (A : Option Addr) (n c : Nat) (bs : List (Int × Int × Int)) (lo hi : Nat) (w : World) (hn : bs.length = n) (hlen : n ≤ 1048576) (hs : Seg w lo hi A (flat3 bs)) (hB : hi ≤ w.heap.size) (q : Bool) (hq : goodN bs = q) :
    Calls Try.prog 24 #[.slice A n c] w (RetI (if q = true then leastC (costC (volK bs)) (nesB (costC (volK bs)) (nesAll bs)) else 0) q w) := by
  have HN := Lib.hid hn
  have HG := Lib.hid hq
  cases q
  · clear hn hq
    go_enter Try.func24, Try.ntmps24
    go_wp2_with fail
    refine (neAll_any _ _ _ bs lo hi _ HN.out hlen hs hB _ HG.out).mono ?_
    rintro e w1 ⟨rfl, hb1⟩
    go_wp2
    go_ret2
    exact ⟨rfl, hb1⟩
  · have hn7 : n ≤ 7 := by rw [← hn]; exact (goodN_at hq).2.1
    clear hn hq
    go_enter Try.func24, Try.ntmps24
    go_wp2_with fail
    refine (neAll_any _ _ _ bs lo hi _ HN.out hlen hs hB _ HG.out).mono ?_
    rintro e w1 ⟨rfl, hb1⟩
    have hz1 := hb1.size
    have HB1 := Lib.hid hb1
    clear hb1
    go_wp2_with fail
    refine (nePlans_any A n c bs lo hi HN.out HG.out n [] 0 0 none 0 0 _ (Nat.add_zero n) rfl (hs.below HB1.out hB) (by omega) Seg.nil_ (Nat.zero_le _)).mono ?_
    rw [show nesF bs n [] = nesAll bs by rw [nesAll, HN.out]]
    rintro e w2 ⟨A2, n2, c2, vs, rfl, hl2, hr2, hb2⟩
    have hz2 := hb2.size
    have HR2 := Lib.hid hr2
    have HL2 := Lib.hid hl2
    have hn2b : n2 ≤ 2097152 := by rw [← hl2]; exact nesAll_len HG.out
    have HB2 := Lib.hid (HB1.out.trans (hb2.mono hz1))
    have HS2 := Lib.hid (hs.below HB2.out hB)
    have HKK := Lib.hid (show ∀ k, k < n → 0 ≤ volK bs k ∧ volK bs k ≤ 1000000 from fun k hk => volK_bd HG.out (by rw [HN.out]; exact hk))
    have HOI := Lib.hid (show ∀ xs ∈ nesAll bs, ∀ u ∈ outerL xs, 0 ≤ u ∧ u < (n : Int) from fun xs hx u hu => by have := outer_in xs xs.length (Nat.le_refl _) u hu; rw [(nesAll_in hx).2, HN.out] at this; exact this)
    have HPOS := Lib.hid (show ∀ xs ∈ nesAll bs, 0 ≤ costC (volK bs) xs from fun xs hx => cost_bd HKK.out (HOI.out xs hx))
    clear hl2 hr2 hb2 hs
    go_wp2
    go_loopw [4, 16] (fun l i wr => ∃ k : Nat, k ≤ n2 ∧ i = .int .i64 k ∧ l = .int .i64 (lvC (costC (volK bs)) ((nesAll bs).take k)) ∧ Below w2.heap.size w2 wr) (fun _ i _ => n2 - (intOf i).toNat)
    case atStart => exact ⟨0, Nat.zero_le _, rfl, rfl, Below.refl _ _⟩
    case round =>
      obtain ⟨k, hk, rfl, rfl, hb⟩ := hrel
      have hzr := hb.size
      obtain ⟨l, hl⟩ : ∃ l, lvC (costC (volK bs)) ((nesAll bs).take k) = l := ⟨_, rfl⟩
      rw [hl]
      have HBR := Lib.hid hb
      by_cases hlt : k < n2
      · obtain ⟨xs, hxs⟩ : ∃ xs, (nesAll bs)[k]? = some xs := ⟨_, List.getElem?_eq_getElem (by rw [HL2.out]; exact hlt)⟩
        obtain ⟨g, B, d, rfl, _, hgl, hcx0, hox0⟩ := HR2.out.at_ hxs
        have hcx := (hb.cell (p := ⟨g, k, none⟩) hgl).trans hcx0
        have hox := hox0.below hb (Nat.le_refl _)
        have hmem := List.mem_of_getElem? hxs
        obtain ⟨hxi, hxl⟩ := nesAll_in hmem
        obtain ⟨m, hm⟩ : ∃ m, xs.length = m := ⟨_, rfl⟩
        have hm7 : m ≤ 7 := by rw [← hm, hxl, HN.out]; exact hn7
        rw [hm] at hcx
        have HM := Lib.hid hm
        have HO := Lib.hid hox
        have HGE := Lib.hid (show ∀ u ∈ xs, -1 ≤ u from fun u hu => (hxi u hu).1)
        have HOX := Lib.hid (HOI.out xs hmem)
        have HNXT := Lib.hid (show lvC (costC (volK bs)) ((nesAll bs).take (k + 1)) = if l < 0 then costC (volK bs) xs else if costC (volK bs) xs < l then costC (volK bs) xs else l by
          rw [take_next hxs, lvC_snoc (fun ys hy => HPOS.out ys (List.mem_of_mem_take hy)), hl])
        obtain ⟨os, hos⟩ : ∃ os, outerL xs = os := ⟨_, rfl⟩
        have hol : os.length ≤ m := by rw [← hos, ← hm]; exact outerF_length _ _
        have HOS := Lib.hid hos
        have hzw : w2.heap.size ≤ wr.heap.size := hzr
        clear hxs hcx0 hox0 hox hmem hxi hxl hm hos hb hl
        go_wp2_with fail
        refine (neOuter_any B m d xs _ _ wr HM.out (by omega) HO.out.seg (by omega) HGE.out).mono ?_
        rw [HOS.out]
        rintro e w3 ⟨A3, n3, c3, rfl, hl3, hown3, hb3⟩
        have HOWN := Lib.hid hown3
        have HL3 := Lib.hid hl3
        have HB3 := Lib.hid (HBR.out.trans (hb3.mono hzr))
        have hz3 := hb3.size
        rw [hl3] at hol
        clear hown3 hl3 hb3 hcx
        go_wp2
        go_loopw [7, 23] (fun s i wq => ∃ j : Nat, j ≤ n3 ∧ i = .int .i64 j ∧ s = .int .i64 (sumC (volK bs) (os.take j)) ∧ Below w3.heap.size w3 wq) (fun _ i _ => n3 - (intOf i).toNat)
        case atStart => exact ⟨0, Nat.zero_le _, rfl, rfl, Below.refl _ _⟩
        case round =>
          rename World => wq
          obtain ⟨j, hj, rfl, rfl, hbq⟩ := hrel
          have hzq := hbq.size
          have HBQ := Lib.hid hbq
          obtain ⟨s, hs⟩ : ∃ s, sumC (volK bs) (os.take j) = s := ⟨_, rfl⟩
          have hsb := sumC_bd HKK.out j os (by rw [← HOS.out]; exact HOX.out)
          rw [hs] at hsb ⊢
          have HSUM := Lib.hid hs
          clear hs
          by_cases hlt3 : j < n3
          · obtain ⟨b3, off, u, rfl, _, hbh, hu, hcu⟩ := (HOWN.out.below hbq (Nat.le_refl _)).seg.at_ (k := j) (by rw [HL3.out]; exact hlt3)
            have hui := HOX.out u (by rw [HOS.out]; exact List.mem_of_getElem? hu)
            obtain ⟨t, rfl⟩ : ∃ t : Nat, u = (t : Int) := ⟨u.toNat, by omega⟩
            have ht : t < n := by omega
            have HNX3 := Lib.hid (show sumC (volK bs) (os.take (j + 1)) = s + volK bs t by rw [sumC_take hu, HSUM.out]; rfl)
            have hkt := HKK.out t ht
            have HBW := Lib.hid (HB3.out.trans (hbq.mono (by omega)))
            obtain ⟨b4, o4, x, y, z, hA4, _, hb4, hx, hc0, hc1, hc2⟩ := (HS2.out.below HBW.out (by omega)).tri (k := t) (by rw [HN.out]; exact ht)
            subst hA4
            have hvk := volK_at hx
            have HBX := Lib.hid ((goodN_at HG.out).2.2 _ (List.mem_of_getElem? hx))
            rw [hvk] at hkt HNX3
            obtain ⟨vv, hvv⟩ : ∃ vv, volT (x, y, z) = vv := ⟨_, rfl⟩
            rw [hvv] at hkt HNX3
            have HVV := Lib.hid hvv
            have hsw : IntKind.i64.wrap (s + vv) = s + vv := by rw [IntKind.wrap_i64]; omega
            clear hu hx hvk hvv hbq
            go_wp2_with fail
            refine (neVolume_any x y z _ HBX.out).mono ?_
            rw [HVV.out]
            rintro e w5 ⟨rfl, hb5⟩
            have HB5 := Lib.hid (HBQ.out.trans (hb5.mono hzq))
            clear hb5
            go_wp2
            go_roundw
            case rel => exact ⟨j + 1, by omega, by go_num, by rw [HNX3.out], HB5.out⟩
            case measure => simp [intOf]; omega
          · obtain rfl : j = n3 := by omega
            have HCOST := Lib.hid (show costC (volK bs) xs = s by rw [costC, HOS.out, ← HSUM.out, List.take_of_length_le (by rw [HL3.out]; exact Nat.le_refl _)])
            have HBW := Lib.hid (HB3.out.trans (hbq.mono (by omega)))
            clear hbq
            by_cases hl0 : l < 0
            · have hd0 : decide (l < 0) = true := decide_eq_true hl0
              have HX := Lib.hid (show lvC (costC (volK bs)) ((nesAll bs).take (k + 1)) = s by rw [HNXT.out, if_pos hl0, HCOST.out])
              go_wp2
              go_roundw
              case rel => exact ⟨k + 1, by omega, by go_num, by rw [HX.out], HBW.out⟩
              case measure => simp [intOf]; omega
            · have hd0 : decide (l < 0) = false := decide_eq_false hl0
              by_cases hl1 : s < l
              · have hd1 : decide (s < l) = true := decide_eq_true hl1
                have HX := Lib.hid (show lvC (costC (volK bs)) ((nesAll bs).take (k + 1)) = s by rw [HNXT.out, if_neg hl0, HCOST.out, if_pos hl1])
                go_wp2
                go_roundw
                case rel => exact ⟨k + 1, by omega, by go_num, by rw [HX.out], HBW.out⟩
                case measure => simp [intOf]; omega
              · have hd1 : decide (s < l) = false := decide_eq_false hl1
                have HX := Lib.hid (show lvC (costC (volK bs)) ((nesAll bs).take (k + 1)) = l by rw [HNXT.out, if_neg hl0, HCOST.out, if_neg hl1])
                go_wp2
                go_roundw
                case rel => exact ⟨k + 1, by omega, by go_num, by rw [HX.out], HBW.out⟩
                case measure => simp [intOf]; omega
      · obtain rfl : k = n2 := by omega
        have HE := Lib.hid (show leastC (costC (volK bs)) (nesB (costC (volK bs)) (nesAll bs)) = l by rw [← lvC_least (nesAll_ne bs), ← hl, List.take_of_length_le (by rw [HL2.out]; exact Nat.le_refl _)])
        clear hl
        go_wp2
        go_ret2
        exact ⟨by rw [← HE.out]; rfl, HB2.out.trans (HBR.out.mono (by omega))⟩
end Go.Proofs.Ytbaofgbkcolmmab
