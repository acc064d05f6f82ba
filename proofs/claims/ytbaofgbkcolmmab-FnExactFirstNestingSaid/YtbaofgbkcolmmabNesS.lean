/-
  The given program's list of all nestings that go on from one, in their order.
  Conditions: there are boxes.
-/
import Derived.Test.YtbaofgbkcolmmabNesF
import Derived.Test.YtbaofgbkcolmmabOuter
import Derived.Test.YtbaofgbkcolmmabRws
namespace Go.Proofs.Ytbaofgbkcolmmab
set_option linter.unusedVariables false
open Go.RowKit

theorem rowsT_info : (Try.prog.info? 30).map (fun i => (i.zero, i.size, i.bytes)) = some (some (.slice none 0 0), 1, 24) := by kernel_rfl

/-- Lists of numbers are answered, in new memory. -/
def RetRs (xss : List (List Int)) (w : World) (e : Ending) (w' : World) : Prop :=
  ∃ A n c vs, e = .returned (.slice A n c) ∧ xss.length = n ∧ Rws w' w.heap.size (.slice A n c) xss vs ∧ Below w.heap.size w w'

theorem rws_one {w : World} {base m c : Nat} {B : Option Addr} {xs : List Int} (hb : base ≤ w.heap.size) (hm : xs.length = m) (h : Own w base w.heap.size B xs) :
    Rws (w.alloc (.cells #[.slice B m c] 30)) base (.slice (some ⟨w.heap.size, 0, none⟩) 1 1) [xs] [.slice B m c] := by
  have hbb := (Below.refl w.heap.size w).alloc (Nat.le_refl _) (.cells #[.slice B m c] 30)
  refine ⟨⟨rfl, .inr ⟨w.heap.size, 1, _, rfl, hb, new_at w _ rfl, Nat.le_refl _, by unfold maxLen; omega, rfl, rfl⟩⟩, rfl, fun j ys hj => ?_⟩
  have hj0 : j = 0 := by
    have := (List.getElem?_eq_some_iff.1 hj).1
    simp at this
    exact this
  subst hj0
  obtain rfl : xs = ys := by simpa using hj
  refine ⟨B, c, by rw [hm]; rfl, (h.below hbb (Nat.le_refl _)).more (Nat.le_refl _) (by simp), fun hx g hB e => ?_⟩
  have h1 := (h.lt_ hx hB).2
  injection e with e
  have h2 : w.heap.size = g := e
  omega

set_option maxRecDepth 100000 in
set_option maxHeartbeats 4000000 in
theorem nePlans_any (A : Option Addr) (n c : Nat) (bs : List (Int × Int × Int)) (lo hi : Nat) (hn : bs.length = n) (hg : goodN bs = true) (f : Nat) :
    ∀ (beg : List Int) (m c2 : Nat) (A2 : Option Addr) (l1 h1 : Nat) (w : World), f + m = n → beg.length = m → Seg w lo hi A (flat3 bs) → hi ≤ w.heap.size → Seg w l1 h1 A2 beg → h1 ≤ w.heap.size →
      Calls Try.prog 51 #[.slice A n c, .slice A2 m c2] w (RetRs (nesF bs f beg) w) := by
  have hn7' : n ≤ 7 := by rw [← hn]; exact (goodN_at hg).2.1
  induction f with
  | zero =>
    intro beg m c2 A2 l1 h1 w hf hm hs hB hs2 hB2
    obtain rfl : m = n := by omega
    have HM := Lib.hid hm
    have hee : ((m : Int) == (m : Int)) = true := by simp
    clear hn hg hf hm hs
    go_enter Try.func51, Try.ntmps51
    go_wp2_with fail
    refine (l1Own_any A2 m c2 beg l1 h1 _ HM.out (by omega) hs2 hB2).mono ?_
    rintro e w2 ⟨A4, c4, rfl, hown2, hb2⟩
    have HR2 := Lib.hid (rws_one (w := w2) (base := w.heap.size) (c := c4) hb2.size HM.out (ownsRow_own (w := w2) (ys := beg) (by rw [HM.out]; exact hown2)).2)
    have HB3 := Lib.hid (hb2.alloc hb2.size (.cells #[.slice A4 m c4] 30))
    clear hown2 hb2
    go_wp2
    go_ret
    exact ⟨_, 1, 1, _, rfl, rfl, HR2.out, HB3.out⟩
  | succ f ih =>
    intro beg m c2 A2 l1 h1 w hf hm hs hB hs2 hB2
    obtain ⟨i0, hi0, hz0, hz1, hz2⟩ := info_parts int_info
    obtain ⟨j0, hj0, hy0, hy1, hy2⟩ := info_parts rowsT_info
    have hm7 : m < n := by omega
    have IH := Lib.hid ih
    have HN := Lib.hid hn
    have HG := Lib.hid hg
    have HM := Lib.hid hm
    have HF := Lib.hid hf
    have HALL := Lib.hid (nesU_all (f := f) (beg := beg) hn)
    have HFEW := Lib.hid (show ∀ u : Int, u ≤ (n : Int) → (nesU bs f beg u).length ≤ 2097152 from fun u hu => nesU_few hn hn7' (by omega) hu)
    have hne : ((m : Int) == (n : Int)) = false := by rw [beq_eq_false_iff_ne]; omega
    clear ih hn hg hm hf
    go_enter Try.func51, Try.ntmps51
    go_wp2
    go_loopw [6, 7] (fun v i wr => ∃ u : Int, -1 ≤ u ∧ u ≤ (n : Int) ∧ i = .int .i64 u ∧ Below w.heap.size w wr ∧ ∃ vs, Rws wr w.heap.size v (nesU bs f beg u) vs) (fun _ i _ => ((n : Int) - intOf i).toNat)
    case atStart => exact ⟨-1, by omega, by omega, rfl, Below.refl _ _, [], by rw [nesU_zero]; exact Rws.nil_ _ _⟩
    case round =>
      obtain ⟨u, hu1, hu2, rfl, hb, vs, hr⟩ := hrel
      have hsz := hb.size
      have HB := Lib.hid hb
      obtain ⟨B, d, rfl⟩ := hr.form
      obtain ⟨nv, hnv⟩ : ∃ nv, (nesU bs f beg u).length = nv := ⟨_, rfl⟩
      rw [hnv] at hr ⊢
      have HNV := Lib.hid hnv
      have HR := Lib.hid hr
      clear hnv
      by_cases hlt : u < (n : Int)
      · have HSB := Lib.hid (hs2.below hb hB2)
        have HSA := Lib.hid (hs.below hb hB)
        have hf1 := HFEW.out u (by omega)
        have hf2 := HFEW.out (u + 1) (by omega)
        cases hd : freeB bs beg m u
        · have HNX := Lib.hid (show nesU bs f beg (u + 1) = nesU bs f beg u from nesU_no hu1 (by rw [HM.out]; exact hd))
          have HD := Lib.hid hd
          clear hb hr hd hf1 hf2
          go_wp2_with fail
          refine (neFree_any A A2 n c m c2 bs beg m u lo hi l1 h1 _ HN.out (by omega) HSA.out HM.out (by omega) HSB.out (by omega) hm7 ⟨hu1, hlt⟩ _ HD.out).mono ?_
          rintro e w4 ⟨rfl, hb4⟩
          have HB4 := Lib.hid (HB.out.trans (hb4.mono hsz))
          have HR4 := Lib.hid (HR.out.below hb4)
          clear hb4
          go_wp2
          go_roundw
          case rel => exact ⟨u + 1, by omega, by omega, rfl, HB4.out, vs, by rw [HNX.out]; exact HR4.out⟩
          case measure => simp [intOf]; omega
        · have HNX := Lib.hid (show nesU bs f beg (u + 1) = nesU bs f beg u ++ nesF bs f (beg ++ [u]) from nesU_yes hu1 (by rw [HM.out]; exact hd))
          have HD := Lib.hid hd
          obtain ⟨yss, hyss⟩ : ∃ yss, nesF bs f (beg ++ [u]) = yss := ⟨_, rfl⟩
          rw [hyss] at HNX
          have HYS := Lib.hid hyss
          have hyl : nv + yss.length ≤ 2097152 := by
            have e1 := congrArg List.length HNX.out
            rw [List.length_append] at e1
            have := HNV.out
            omega
          obtain ⟨kj, hkj⟩ : ∃ kj, nesU bs f beg u = kj := ⟨_, rfl⟩
          rw [hkj] at HNX HR HNV
          clear hb hr hd hyss hkj hf1 hf2
          go_wp2_with fail
          refine (neFree_any A A2 n c m c2 bs beg m u lo hi l1 h1 _ HN.out (by omega) HSA.out HM.out (by omega) HSB.out (by omega) hm7 ⟨hu1, hlt⟩ _ HD.out).mono ?_
          rintro e w4 ⟨rfl, hb4⟩
          have hz4 := hb4.size
          have HB4 := Lib.hid (HB.out.trans (hb4.mono hsz))
          have HR4 := Lib.hid (HR.out.below hb4)
          have HSB4 := Lib.hid (HSB.out.below hb4 (by omega))
          have HSA4 := Lib.hid (HSA.out.below hb4 (by omega))
          clear hb4
          go_wp2_with fail
          refine (l1Own_any A2 m c2 beg l1 h1 _ HM.out (by omega) HSB4.out (by omega)).mono ?_
          rintro e w5 ⟨A5, c5, rfl, hown5, hb5⟩
          have hz5 := hb5.size
          have HOW5 := Lib.hid (hown5.alloc (.cells #[.int .i64 u] 3))
          have HS5 := Lib.hid (seg_one w5 u 3)
          have HLT5 := Lib.hid hown5.lt
          have HB5 := Lib.hid hb5
          clear hown5 hb5
          go_wp2_with (at_builtin; refine wpList_append_seg _ rfl _ _ 30 rfl w4.heap.size 3 i0 Try.underlying30 hi0 hz0 hz1 hz2 _ m _ rfl HOW5.out _ 1 1 [u] _ _ rfl rfl HS5.out (by omega) (by simp; omega) ?_; intro v6 w6 hown6 hgr6; obtain ⟨A6, c6, rfl⟩ := ownsRow_form hown6; have HM6 := Lib.hid (show (beg ++ [u]).length = m + 1 by rw [List.length_append, HM.out]; rfl); have HA6 := Lib.hid (ownsRow_own (ys := beg ++ [u]) (by rw [HM6.out, List.map_append]; exact hown6)).2.seg; have hb6 : Below w4.heap.size w4 w6 := (HB5.out.alloc hz5 _).grown hgr6 (by simp; omega) (fun g' hg' => (HLT5.out g' hg').1); have hz6 := hb6.size; have HR6 := Lib.hid (HR4.out.below hb6); have HB6 := Lib.hid (HB4.out.trans (hb6.mono (by omega))); have HS6 := Lib.hid (HSA4.out.below hb6 (by omega)); clear hown6 hgr6 hb6)
          refine (IH.out (beg ++ [u]) (m + 1) c6 A6 _ _ w6 (by have := HF.out; omega) HM6.out HS6.out (by omega) HA6.out (Nat.le_refl _)).mono ?_
          rw [HYS.out]
          rintro e w7 ⟨A7, n7, c7, us, rfl, hl7, hr7, hb7⟩
          have hz7 := hb7.size
          have HR7 := Lib.hid (HR6.out.below hb7)
          have HB7 := Lib.hid (HB6.out.trans (hb7.mono (by omega)))
          have HY7 := Lib.hid hr7
          have HL7 := Lib.hid hl7
          have HOB := Lib.hid (show ∀ g, (Value.slice B nv d).ownBlock = some g → g < w6.heap.size from fun g hg => (HR6.out.1.lt g hg).2)
          have hlen7 : nv + n7 ≤ 4194304 := by rw [← hl7]; omega
          clear hl7 hr7 hb7
          go_wp2_with (at_builtin; refine wpList_append_rows _ rfl _ _ 52 rfl w.heap.size 30 j0 Try.underlying52 hj0 hy0 hy1 hy2 _ _ _ rfl (by have h := HR7.out.1; rw [HNV.out] at h; exact h) _ _ _ _ rfl (by have h := HY7.out.1; rw [HL7.out] at h; exact h) HY7.out.2.one hlen7 (by omega) ?_; intro v8 w8 hown8 hgr8 hloc8; have HR8 := Lib.hid (HR7.out.app (HY7.out.2.far (by omega) HOB.out) (by rw [HL7.out, HNV.out]; exact hown8) hgr8 hloc8); have HB8 := Lib.hid (HB7.out.grown hgr8 (by omega) (fun g' hg' => (HR7.out.1.lt g' hg').1)); clear hown8 hgr8 hloc8)
          go_roundw
          case rel => exact ⟨u + 1, by omega, by omega, rfl, HB8.out, _, by rw [HNX.out]; exact HR8.out⟩
          case measure => simp [intOf]; omega
      · obtain rfl : u = (n : Int) := by omega
        clear hb hr
        go_wp2
        go_ret
        exact ⟨B, nv, d, vs, rfl, by rw [HALL.out]; exact HNV.out, by rw [HALL.out]; exact HR.out, HB.out⟩
end Go.Proofs.Ytbaofgbkcolmmab
