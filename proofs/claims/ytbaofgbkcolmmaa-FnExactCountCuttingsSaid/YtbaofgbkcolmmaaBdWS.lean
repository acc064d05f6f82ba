/-
  The given program's count of cuttings.
  Conditions: none.
-/
import Derived.Test.YtbaofgbkcolmmaaBdQ
import Derived.Test.YtbaofgbkcolmmaaBdX3
namespace Go.Proofs.Ytbaofgbkcolmmaa
set_option linter.unusedVariables false
open Go.RowKit

theorem TabS.put {W : World} {lo F A H : Nat} {t : Nat → Nat → Int} {n m : Nat} (h : TabS W lo F A H t n m) (hn : 1 ≤ n) (hm : m < H) :
    ∃ g, W.cell? ⟨F, n, none⟩ = some (.slice (some ⟨g, 0, none⟩) (H + 1) (H + 1)) ∧ F < g ∧ (∃ rs : Array Value, W.heap[g]? = some (.cells rs 3 (0, 0)) ∧ rs.size = H + 1) ∧ ∀ v, TabS (W.setCell ⟨g, m + 1, none⟩ v) lo F A H t n m := by
  obtain ⟨hl, cs, g, h1, h2, h3, h4⟩ := h
  obtain ⟨r1, r2, rs, r3, r4, r5⟩ := h3 n hn (Nat.le_refl _)
  refine ⟨g n, (cell_of h1 n).trans r1, r2, ⟨rs, r3, r4⟩, fun v => ⟨hl, cs, g, (set_far _ (by show F ≠ g n; omega) _).trans h1, h2, fun a a1 an => ?_, h4⟩⟩
  obtain ⟨q1, q2, qs, q3, q4, q5⟩ := h3 a a1 an
  by_cases e : a = n
  · subst e
    refine ⟨q1, q2, _, set_self r3 (m + 1) _, by simpa using r4, fun b b1 bH hb => ?_⟩
    rw [Array.getElem?_setIfInBounds_ne (by omega)]
    exact r5 b b1 bH (by omega)
  · have hlt := h4 a n a1 (by omega) (Nat.le_refl _)
    exact ⟨q1, q2, qs, (set_far _ (by show g a ≠ g n; omega) _).trans q3, q4, fun b b1 bH hb => q5 b b1 bH (by omega)⟩
theorem TabS.fin {W : World} {lo F A H g : Nat} {t : Nat → Nat → Int} {n m : Nat} (h : TabS W lo F A H t n m) (hn : 1 ≤ n) (hc : W.cell? ⟨F, n, none⟩ = some (.slice (some ⟨g, 0, none⟩) (H + 1) (H + 1))) (hv : W.cell? ⟨g, m + 1, none⟩ = some (.int .i64 (t n (m + 1)))) : TabS W lo F A H t n (m + 1) := by
  obtain ⟨hl, cs, g', h1, h2, h3, h4⟩ := h
  refine ⟨hl, cs, g', h1, h2, fun a a1 an => ?_, h4⟩
  obtain ⟨q1, q2, qs, q3, q4, q5⟩ := h3 a a1 an
  refine ⟨q1, q2, qs, q3, q4, fun b b1 bH hb => ?_⟩
  by_cases e : a = n ∧ b = m + 1
  · obtain ⟨rfl, rfl⟩ := e
    have h5 := (cell_of h1 a).trans q1
    rw [hc] at h5
    simp at h5
    subst h5
    rw [← cell_of q3 (m + 1)]
    exact hv
  · exact q5 b b1 bH (by omega)

/-- The row that is being filled; from 'm' on it holds nothing yet. -/
def RowZ (W : World) (F g H n m : Nat) : Prop := W.cell? ⟨F, n, none⟩ = some (.slice (some ⟨g, 0, none⟩) (H + 1) (H + 1)) ∧ F < g ∧ ∃ rs : Array Value, W.heap[g]? = some (.cells rs 3 (0, 0)) ∧ rs.size = H + 1 ∧ ∀ b, m < b → b ≤ H → rs[b]? = some (.int .i64 0)
theorem RowZ.below {W W' : World} {F g H n m : Nat} (h : RowZ W F g H n m) (hb : Below W.heap.size W W') : RowZ W' F g H n m := by
  obtain ⟨h1, h2, rs, h3, h4, h5⟩ := h
  exact ⟨(hb.cell (cell_lt h1)).trans h1, h2, rs, (hb.block _ (heap_lt h3)).trans h3, h4, h5⟩
theorem RowZ.set {W : World} {F g H n m : Nat} (h : RowZ W F g H n m) (v : Value) (k : Nat) (hk : k ≤ m) : RowZ (W.setCell ⟨g, k, none⟩ v) F g H n m := by
  obtain ⟨h1, h2, rs, h3, h4, h5⟩ := h
  have hF : (W.setCell ⟨g, k, none⟩ v).heap[F]? = W.heap[F]? := set_far _ (by show F ≠ g; omega) _
  refine ⟨?_, h2, _, set_self h3 k _, by simpa using h4, fun b b1 b2 => by rw [Array.getElem?_setIfInBounds_ne (by omega)]; exact h5 b b1 b2⟩
  rw [← h1]
  unfold World.cell?
  rw [hF]
/-- The value that is being counted lies in the row. -/
structure TabC (W : World) (lo F g A H : Nat) (n m : Nat) (c : Int) : Prop where
  tab : TabS W lo F A H wayB n m
  row : RowZ W F g H n (m + 1)
  cur : W.cell? ⟨g, m + 1, none⟩ = some (.int .i64 c)
theorem TabC.below {W W' : World} {lo F g A H n m : Nat} {c : Int} (h : TabC W lo F g A H n m c) (hb : Below W.heap.size W W') : TabC W' lo F g A H n m c :=
  ⟨h.tab.below hb, h.row.below hb, (hb.cell (cell_lt h.cur)).trans h.cur⟩
theorem TabC.frozen {W : World} {lo F g A H n m : Nat} {c : Int} (h : TabC W lo F g A H n m c) (k : Nat) : W.frozen? ⟨g, k, none⟩ = false := by
  obtain ⟨_, _, rs, h3, _, _⟩ := h.row
  exact frozen_of h3 k
theorem TabC.set {W : World} {lo F g A H n m : Nat} {c : Int} (h : TabC W lo F g A H n m c) (hn : 1 ≤ n) (hm : m < H) (v : Int) : TabC (W.setCell ⟨g, m + 1, none⟩ (.int .i64 v)) lo F g A H n m v := by
  obtain ⟨g', e1, e2, _, e4⟩ := h.tab.put hn hm
  have e5 := h.row.1
  rw [e1] at e5
  simp at e5
  subst e5
  refine ⟨e4 _, h.row.set _ _ (Nat.le_refl _), ?_⟩
  obtain ⟨_, _, rs, h3, h4, _⟩ := h.row
  rw [cell_of (set_self h3 (m + 1) (.int .i64 v)), Array.getElem?_setIfInBounds_self_of_lt (by omega)]
theorem TabC.start {W : World} {lo F g A H n m : Nat} (h : TabS W lo F A H wayB n m) (hr : RowZ W F g H n m) (hm : m < H) : TabC W lo F g A H n m 0 := by
  obtain ⟨h1, h2, rs, h3, h4, h5⟩ := hr
  exact ⟨h, ⟨h1, h2, rs, h3, h4, fun b b1 b2 => h5 b (by omega) b2⟩, (cell_of h3 (m + 1)).trans (h5 (m + 1) (by omega) (by omega))⟩

theorem wayF_snocS (s : Int) (cs : List Cut) (c : Cut) : wayF capS wayB s (cs ++ [c]) = min (wayF capS wayB s cs + capS (wayB c.1.1 c.1.2) (wayB c.2.1 c.2.2)) 1000000000000001 := by simp [wayF]
theorem wayF_rngS {s : Int} {cs : List Cut} (h0 : 0 ≤ s) (h1 : s ≤ 1000000000000001) (h : ∀ c ∈ cs, WayOk (wayB c.1.1 c.1.2) ∧ WayOk (wayB c.2.1 c.2.2)) : 0 ≤ wayF capS wayB s cs ∧ wayF capS wayB s cs ≤ 1000000000000001 := by
  have e : wayF capS wayB s cs = wayF capI wayB s cs := (wayF_same (fun c hc => (cap_same (h c hc).1 (h c hc).2).1) s).symm
  rw [e]
  by_cases hc : cs = []
  · subst hc; simp [wayF]; omega
  · have h2 := wayF_ok h s h0 h1 (.inl hc)
    exact ⟨by have := h2.1; omega, h2.2⟩

set_option maxHeartbeats 400000 in
theorem times_any (x y : Int) (hx : WayOk x) (hy : WayOk y) (w : World) (v : Int) (hv : capS x y = v) : Calls Try.prog 65 #[.int .i64 x, .int .i64 y] w fun e w' => e = .returned (.int .i64 v) ∧ w = w' := by
  have hk := cap_same hx hy
  rw [hk.1, hv] at hk
  obtain ⟨_, hk1, hk2⟩ := hk
  obtain ⟨hx1, hx2⟩ := hx
  obtain ⟨hy1, hy2⟩ := hy
  have hd : Int.tdiv 1000000000000000 x = 1000000000000000 / x := Int.tdiv_eq_ediv_of_nonneg (by omega)
  have hq1 : 0 ≤ 1000000000000000 / x := Int.ediv_nonneg (by omega) (by omega)
  have hq2 : 1000000000000000 / x ≤ 1000000000000000 := Int.ediv_le_self _ (by omega)
  obtain ⟨d, hd'⟩ : ∃ d, 1000000000000000 / x = d := ⟨_, rfl⟩
  have hx0 : x ≠ 0 := by omega
  have hxp : 0 < x := by omega
  have hxd : decide (0 < x) = true := decide_eq_true hxp
  rw [hd'] at hd hq1 hq2
  have hwd : IntKind.i64.wrap d = d := by rw [IntKind.wrap_i64]; omega
  by_cases hlt : d < y
  · have hlt' : decide (d < y) = true := decide_eq_true hlt
    obtain rfl : v = 1000000000000001 := by rw [← hv, capS, hd', if_pos ⟨hxp, hlt⟩]
    clear hv hd'
    go_enter Try.func65, Try.ntmps65
    go_wp2
    go_ret
    exact ⟨rfl, rfl⟩
  · have hlt' : decide (d < y) = false := decide_eq_false hlt
    have hxy : x * y = v := by rw [← hv, capS, hd', if_neg (fun h => hlt h.2)]
    have hwv : IntKind.i64.wrap v = v := by rw [IntKind.wrap_i64]; omega
    clear hv hd'
    go_enter Try.func65, Try.ntmps65
    go_wp2
    go_ret
    exact ⟨rfl, rfl⟩

/-- Whether the cuttings of a board are told, and how many they are. -/
def wayQ (x y : Int) : Bool := bdB x y && decide (wayB x.toNat y.toNat ≤ 1000000000000000)
def wayN (x y : Int) : Int := if wayQ x y = true then wayB x.toNat y.toNat else 0

set_option maxRecDepth 100000 in
set_option maxHeartbeats 4000000 in
theorem spec_CountCuttings (x y : Int) (w : World) (q : Bool) (hq : wayQ x y = q) (v : Int) (hv : wayN x y = v) :
    Calls Try.prog 37 #[.int .i64 x, .int .i64 y] w (RetI v q w) := by
  cases h1 : bdB x y
  · obtain rfl : q = false := by rw [← hq, wayQ, h1]; rfl
    obtain rfl : v = 0 := by rw [← hv, wayN, hq]; rfl
    clear hv hq
    go_enter Try.func37, Try.ntmps37
    go_wp2_with fail
    refine (bdGood_any x y _ false h1).mono ?_
    rintro e w1 ⟨rfl, rfl⟩
    go_wp2
    go_ret2
    exact ⟨rfl, Below.refl _ _⟩
  · obtain ⟨A, H, rfl, rfl, ⟨hA1, hA⟩, hH1, hH⟩ := bdB_nat h1
    have HQ := Lib.hid hq
    have HV := Lib.hid hv
    have H1 := Lib.hid h1
    have hmk := make_tab A hA w
    have hT0 := TabS.new w A H wayB
    have HB0 := Lib.hid ((Below.refl w.heap.size w).alloc (Nat.le_refl _) (.cells (madeCells #[.slice none 0 0] (A + 1)) 29))
    obtain ⟨F, hF⟩ : ∃ F, w.heap.size = F := ⟨_, rfl⟩
    have hT1 : TabS (w.alloc (.cells (madeCells #[.slice none 0 0] (A + 1)) 29)) w.heap.size F A H wayB 0 H := by rw [← hF]; exact hT0
    have HT0 := Lib.hid hT1
    rw [hF] at hmk
    have hFw : w.heap.size ≤ F := by omega
    have HFW := Lib.hid hF
    clear hT0 hT1 hF hq hv h1
    go_enter Try.func37, Try.ntmps37
    go_wp2_with fail
    refine (bdGood_any _ _ _ true H1.out).mono ?_
    rintro e w1 ⟨rfl, rfl⟩
    go_wp2
    clear hmk
    go_loopw [7] (fun i wr => ∃ n : Nat, n ≤ A ∧ i = .int .i64 ((n : Int) + 1) ∧ Below w.heap.size w wr ∧ TabS wr w.heap.size F A H wayB n H) (fun i _ => A + 1 - (intOf i).toNat)
    case atStart => exact ⟨0, Nat.zero_le _, rfl, HB0.out, HT0.out⟩
    case round =>
      obtain ⟨n, hn, rfl, hb, ht⟩ := hrel
      have HB := Lib.hid hb
      have HT := Lib.hid ht
      clear hb ht
      by_cases hlt : n < A
      · obtain ⟨a, ha'⟩ : ∃ a, n + 1 = a := ⟨_, rfl⟩
        have hai : (n : Int) + 1 = (a : Int) := by omega
        have hle : (a : Int) ≤ (A : Int) := by omega
        have hd0 : decide ((a : Int) ≤ (A : Int)) = true := decide_eq_true hle
        have hmr := make_row H hH
        obtain ⟨cs, c1, c2⟩ := HT.out.cells
        have hfr := heap_lt c1
        obtain ⟨u, hu⟩ : ∃ u, cs[a]? = some u := ⟨_, Array.getElem?_eq_getElem (by omega)⟩
        have c3 := (alloc_old wr hfr (.cells (madeCells #[.int .i64 0] (H + 1)) 3)).trans c1
        have c4 := (cell_of c3 a).trans hu
        have c5 := frozen_of c3 a
        have hzb := HB.out.size
        have HM := Lib.hid (show TabS _ w.heap.size F A H wayB a 0 by rw [← ha']; exact HT.out.more hlt)
        rw [ha'] at HM
        have HRZ := Lib.hid (show RowZ ((wr.alloc (.cells (madeCells #[.int .i64 0] (H + 1)) 3)).setCell ⟨F, a, none⟩ (.slice (some ⟨wr.heap.size, 0, none⟩) (H + 1) (H + 1))) F wr.heap.size H a 0 from
          ⟨by rw [cell_of (set_self c3 a _), Array.getElem?_setIfInBounds_self_of_lt (by omega)], hfr, _, (set_far _ (by show wr.heap.size ≠ F; omega) _).trans (new_at _ _ rfl), by simp [madeCells], fun b b1 b2 => by rw [← Array.getElem?_toList, toList_madeCells_one, List.getElem?_replicate, if_pos (by omega)]⟩)
        have HBM := Lib.hid ((HB.out.alloc hzb (.cells (madeCells #[.int .i64 0] (H + 1)) 3)).setCell (p := ⟨F, a, none⟩) hFw (.slice (some ⟨wr.heap.size, 0, none⟩) (H + 1) (H + 1)))
        have hcm : (wr.alloc (.cells (madeCells #[.int .i64 0] (H + 1)) 3)).setCell ⟨F, a, none⟩ (.slice (some ⟨wr.heap.size, 0, none⟩) (H + 1) (H + 1)) = (wr.setCell ⟨F, a, none⟩ (.slice (some ⟨wr.heap.size, 0, none⟩) (H + 1) (H + 1))).alloc (.cells (madeCells #[.int .i64 0] (H + 1)) 3) := by go_simp
        rw [hcm] at HM HBM HRZ
        obtain ⟨g, hg⟩ : ∃ g, wr.heap.size = g := ⟨_, rfl⟩
        have hgF : F < g := by omega
        have HGG := Lib.hid hg
        rw [hg] at HRZ
        clear c1 c2 c3 hu hzb hcm hg
        rw [hai]
        go_wp2
        clear hmr c4 c5
        go_loopw [8] (fun i wr => ∃ m : Nat, m ≤ H ∧ i = .int .i64 ((m : Int) + 1) ∧ Below w.heap.size w wr ∧ TabS wr w.heap.size F A H wayB a m ∧ RowZ wr F g H a m) (fun i _ => H + 1 - (intOf i).toNat)
        case atStart => exact ⟨0, Nat.zero_le _, rfl, HBM.out, HM.out, by first | exact HRZ.out | (have h := HRZ.out; rw [← HGG.out] at h ⊢; exact h)⟩
        case round =>
          obtain ⟨m, hm, rfl, hb, ht, hz⟩ := hrel
          have HBm := Lib.hid hb
          have HTm := Lib.hid ht
          have HZm := Lib.hid hz
          clear hb ht hz
          by_cases hlm : m < H
          · obtain ⟨b, hb'⟩ : ∃ b, m + 1 = b := ⟨_, rfl⟩
            have hbi : (m : Int) + 1 = (b : Int) := by omega
            have hbl : (b : Int) ≤ (H : Int) := by omega
            have hd1 : decide ((b : Int) ≤ (H : Int)) = true := decide_eq_true hbl
            rw [hbi]
            have hT1 := TabC.start HTm.out HZm.out hlm
            obtain ⟨s0, hs0⟩ : ∃ s0 : Int, (if a = 1 ∧ b = 1 then 1 else 0) = s0 := ⟨_, rfl⟩
            have hs01 : 0 ≤ s0 ∧ s0 ≤ 1 := by rw [← hs0]; split <;> omega
            have HS := Lib.hid hs0
            clear hs0
            have HRNG := Lib.hid (fun cs (hc : ∀ c ∈ cs, c ∈ cutsL a b) => wayF_rngS (s := s0) (by omega) (by omega) (fun c h => by have h := cut_less (hc c h) (by omega) (by omega); exact ⟨wayB_ok _ _ _ (Nat.le_refl _) h.1.1 h.1.2.1, wayB_ok _ _ _ (Nat.le_refl _) h.2.1 h.2.2.1⟩))
            by_cases hab : a = 1 ∧ b = 1
            · have ha1 : a = 1 := hab.1
              have hb1 : b = 1 := hab.2
              have he1 : ((a : Int) == 1) = true := by rw [beq_iff_eq]; omega
              have he2 : ((b : Int) == 1) = true := by rw [beq_iff_eq]; omega
              have hs1 : s0 = 1 := by rw [← HS.out, if_pos hab]
              have e5 := hT1.row.1
              have e6 := hT1.cur
              have e7 := hT1.frozen (m + 1)
              rw [show m + 1 = b from hb'] at e6 e7
              have hi0 : (a : Int) < (A : Int) + 1 := by omega
              have hi1 : (b : Int) < (H : Int) + 1 := by omega
              have HCyv := Lib.hid (show TabC (wr.setCell ⟨g, b, none⟩ (.int .i64 1)) w.heap.size F g A H a m (wayF capS wayB s0 (upL a b (1 - 1))) by rw [hs1]; have h := hT1.set (by omega) hlm 1; rw [show m + 1 = b from hb'] at h; exact h)
              have HByv := Lib.hid (HBm.out.setCell (p := ⟨g, b, none⟩) (by show w.heap.size ≤ g; omega) (.int .i64 1))
              clear hT1 ha1 hb1 hs1 hab
              go_wp2
              clear e5 e6 e7 he1 he2
              go_loopw [9] (fun i wk => ∃ k : Nat, 1 ≤ k ∧ k ≤ a ∧ i = .int .i64 (k : Int) ∧ Below w.heap.size w wk ∧ TabC wk w.heap.size F g A H a m (wayF capS wayB s0 (upL a b (k - 1)))) (fun i _ => 25 - (intOf i).toNat)
              case atStart => exact ⟨1, by omega, by omega, rfl, HByv.out, HCyv.out⟩
              case round =>
                obtain ⟨k, hk1, hk2, rfl, hbk, hck⟩ := hrel
                have HBK := Lib.hid hbk
                have HCK := Lib.hid hck
                clear hbk hck
                obtain ⟨cu, hcu⟩ : ∃ cu, wayF capS wayB s0 (upL a b (k - 1)) = cu := ⟨_, rfl⟩
                rw [hcu] at HCK
                have HCU := Lib.hid hcu
                clear hcu
                by_cases hlt : k < a
                · have hlk : (k : Int) < (a : Int) := by omega
                  have hdk : decide ((k : Int) < (a : Int)) = true := decide_eq_true hlk
                  obtain ⟨d, hd⟩ : ∃ d, a - k = d := ⟨_, rfl⟩
                  have hsub : (a : Int) - (k : Int) = (d : Int) := by omega
                  have hwd : IntKind.i64.wrap (d : Int) = (d : Int) := by rw [IntKind.wrap_i64]; omega
                  obtain ⟨g1, e1, e2⟩ := HCK.out.tab.read (a := k) (b := b) (by omega) (by omega) (by omega) (by omega) (by omega)
                  obtain ⟨g2, e3, e4⟩ := HCK.out.tab.read (a := d) (b := b) (by omega) (by omega) (by omega) (by omega) (by omega)
                  have e5 := HCK.out.row.1
                  have e6 := HCK.out.cur
                  have e7 := HCK.out.frozen (m + 1)
                  rw [show m + 1 = b from hb'] at e6 e7
                  have q1 := wayB_ok _ k b (Nat.le_refl _) (by omega) (by omega)
                  have q2 := wayB_ok _ d b (Nat.le_refl _) (by omega) (by omega)
                  obtain ⟨v1, hv1⟩ : ∃ v1, wayB k b = v1 := ⟨_, rfl⟩
                  obtain ⟨v2, hv2⟩ : ∃ v2, wayB d b = v2 := ⟨_, rfl⟩
                  rw [hv1] at e2 q1
                  rw [hv2] at e4 q2
                  obtain ⟨cp, hcp⟩ : ∃ cp, capS v1 v2 = cp := ⟨_, rfl⟩
                  have hck : WayOk cp := by rw [← hcp, ← (cap_same q1 q2).1]; exact (cap_same q1 q2).2
                  obtain ⟨hck1, hck2⟩ := hck
                  have hcb := HRNG.out (upL a b (k - 1)) (fun c hc => ((upL_pre (by omega)).subset hc))
                  rw [HCU.out] at hcb
                  have hwa : IntKind.i64.wrap (cu + cp) = cu + cp := by rw [IntKind.wrap_i64]; omega
                  obtain ⟨nv, hnv⟩ : ∃ nv, min (cu + cp) 1000000000000001 = nv := ⟨_, rfl⟩
                  have HNX := Lib.hid (show wayF capS wayB s0 (upL a b (k + 1 - 1)) = nv by
                    rw [show k + 1 - 1 = (k - 1) + 1 by omega, upL_succ, wayF_snocS, HCU.out]
                    rw [show k - 1 + 1 = k by omega, hd]
                    simp only [hv1, hv2, hcp, hnv])
                  have HNV := Lib.hid hnv
                  have HCP := Lib.hid hcp
                  have HQ1 := Lib.hid q1
                  have HQ2 := Lib.hid q2
                  clear hnv hcp q1 q2 hv1 hv2 hd hcb
                  have hi0 : (k : Int) < (A : Int) + 1 := by omega
                  have hi1 : (d : Int) < (A : Int) + 1 := by omega
                  have hi2 : (b : Int) < (H : Int) + 1 := by omega
                  have hi3 : (a : Int) < (A : Int) + 1 := by omega
                  go_wp2_with fail
                  refine region_E (S := fun wq => wq.cell? ⟨F, a, none⟩ = some (.slice (some ⟨g, 0, none⟩) (H + 1) (H + 1)) ∧ wq.cell? ⟨g, b, none⟩ = some (.int .i64 cu) ∧ wq.cell? ⟨F, k, none⟩ = some (.slice (some ⟨g1, 0, none⟩) (H + 1) (H + 1)) ∧ wq.cell? ⟨g1, b, none⟩ = some (.int .i64 v1) ∧ wq.cell? ⟨F, d, none⟩ = some (.slice (some ⟨g2, 0, none⟩) (H + 1) (H + 1)) ∧ wq.cell? ⟨g2, b, none⟩ = some (.int .i64 v2)) 32 (by kernel_rfl) ⟨e5, e6, e1, e2, e3, e4⟩ (fun hH0 => ?_)
                  refine AnyE.take (i := 0) (v := ?_) (ops_at rfl) (by kernel_rfl) (by kernel_rfl) (by kernel_rfl) (by kernel_rfl) (fun _ _ _ h => h) (Or.inl ⟨by rfl, ?yyv0⟩) (by assumption) ?nyv0
                  case yyv0 => (intro wS hSw; (try dsimp only at hSw); (have k0 := hSw.1); (have k1 := hSw.2.1); (have k2 := hSw.2.2.1); (have k3 := hSw.2.2.2.1); (have k4 := hSw.2.2.2.2.1); (have k5 := hSw.2.2.2.2.2); go_simp; try rfl)
                  try simp only [Act.put, List.setIfInBounds_toArray, List.set_cons_zero, List.set_cons_succ]
                  refine AnyE.take (i := 1) (v := ?_) (ops_at rfl) (by kernel_rfl) (by kernel_rfl) (by kernel_rfl) (by kernel_rfl) (fun _ _ _ h => h) (Or.inl ⟨by rfl, ?yyv1⟩) (by assumption) ?nyv1
                  case yyv1 => (intro wS hSw; (try dsimp only at hSw); (have k0 := hSw.1); (have k1 := hSw.2.1); (have k2 := hSw.2.2.1); (have k3 := hSw.2.2.2.1); (have k4 := hSw.2.2.2.2.1); (have k5 := hSw.2.2.2.2.2); go_simp; try rfl)
                  try simp only [Act.put, List.setIfInBounds_toArray, List.set_cons_zero, List.set_cons_succ]
                  refine AnyE.take (i := 2) (v := ?_) (ops_at rfl) (by kernel_rfl) (by kernel_rfl) (by kernel_rfl) (by kernel_rfl) (fun _ _ _ h => h) (Or.inl ⟨by rfl, ?yyv2⟩) (by assumption) ?nyv2
                  case yyv2 => (intro wS hSw; (try dsimp only at hSw); (have k0 := hSw.1); (have k1 := hSw.2.1); (have k2 := hSw.2.2.1); (have k3 := hSw.2.2.2.1); (have k4 := hSw.2.2.2.2.1); (have k5 := hSw.2.2.2.2.2); go_simp; try rfl)
                  try simp only [Act.put, List.setIfInBounds_toArray, List.set_cons_zero, List.set_cons_succ]
                  refine AnyE.take (i := 3) (v := ?_) (ops_at rfl) (by kernel_rfl) (by kernel_rfl) (by kernel_rfl) (by kernel_rfl) (fun _ _ _ h => h) (Or.inl ⟨by rfl, ?yyv3⟩) (by assumption) ?nyv3
                  case yyv3 => (intro wS hSw; (try dsimp only at hSw); (have k0 := hSw.1); (have k1 := hSw.2.1); (have k2 := hSw.2.2.1); (have k3 := hSw.2.2.2.1); (have k4 := hSw.2.2.2.2.1); (have k5 := hSw.2.2.2.2.2); go_simp; try rfl)
                  try simp only [Act.put, List.setIfInBounds_toArray, List.set_cons_zero, List.set_cons_succ]
                  refine AnyE.take (i := 4) (v := ?_) (ops_at rfl) (by kernel_rfl) (by kernel_rfl) (by kernel_rfl) (by kernel_rfl) (fun _ _ _ h => h) (Or.inl ⟨by rfl, ?yyv4⟩) (by assumption) ?nyv4
                  case yyv4 => (intro wS hSw; (try dsimp only at hSw); (have k0 := hSw.1); (have k1 := hSw.2.1); (have k2 := hSw.2.2.1); (have k3 := hSw.2.2.2.1); (have k4 := hSw.2.2.2.2.1); (have k5 := hSw.2.2.2.2.2); go_simp; try rfl)
                  try simp only [Act.put, List.setIfInBounds_toArray, List.set_cons_zero, List.set_cons_succ]
                  refine AnyE.take (i := 5) (v := ?_) (ops_at rfl) (by kernel_rfl) (by kernel_rfl) (by kernel_rfl) (by kernel_rfl) (fun _ _ _ h => h) (Or.inl ⟨by rfl, ?yyv5⟩) (by assumption) ?nyv5
                  case yyv5 => (intro wS hSw; (try dsimp only at hSw); (have k0 := hSw.1); (have k1 := hSw.2.1); (have k2 := hSw.2.2.1); (have k3 := hSw.2.2.2.1); (have k4 := hSw.2.2.2.2.1); (have k5 := hSw.2.2.2.2.2); go_simp; try rfl)
                  try simp only [Act.put, List.setIfInBounds_toArray, List.set_cons_zero, List.set_cons_succ]
                  refine AnyE.take (i := 6) (v := ?_) (ops_at rfl) (by kernel_rfl) (by kernel_rfl) (by kernel_rfl) (by kernel_rfl) (fun _ _ _ h => h) (Or.inl ⟨by rfl, ?yyv6⟩) (by assumption) ?nyv6
                  case yyv6 => (intro wS hSw; (try dsimp only at hSw); (have k0 := hSw.1); (have k1 := hSw.2.1); (have k2 := hSw.2.2.1); (have k3 := hSw.2.2.2.1); (have k4 := hSw.2.2.2.2.1); (have k5 := hSw.2.2.2.2.2); go_simp; try rfl)
                  try simp only [Act.put, List.setIfInBounds_toArray, List.set_cons_zero, List.set_cons_succ]
                  refine AnyE.take (i := 7) (v := ?_) (ops_at rfl) (by kernel_rfl) (by kernel_rfl) (by kernel_rfl) (by kernel_rfl) (fun _ _ _ h => h) (Or.inl ⟨by rfl, ?yyv7⟩) (by assumption) ?nyv7
                  case yyv7 => (intro wS hSw; (try dsimp only at hSw); (have k0 := hSw.1); (have k1 := hSw.2.1); (have k2 := hSw.2.2.1); (have k3 := hSw.2.2.2.1); (have k4 := hSw.2.2.2.2.1); (have k5 := hSw.2.2.2.2.2); go_simp; try rfl)
                  try simp only [Act.put, List.setIfInBounds_toArray, List.set_cons_zero, List.set_cons_succ]
                  refine AnyE.take (i := 8) (v := ?_) (ops_at rfl) (by kernel_rfl) (by kernel_rfl) (by kernel_rfl) (by kernel_rfl) (fun _ _ _ h => h) (Or.inl ⟨by rfl, ?yyv8⟩) (by assumption) ?nyv8
                  case yyv8 => (intro wS hSw; (try dsimp only at hSw); (have k0 := hSw.1); (have k1 := hSw.2.1); (have k2 := hSw.2.2.1); (have k3 := hSw.2.2.2.1); (have k4 := hSw.2.2.2.2.1); (have k5 := hSw.2.2.2.2.2); go_simp; try rfl)
                  try simp only [Act.put, List.setIfInBounds_toArray, List.set_cons_zero, List.set_cons_succ]
                  refine AnyE.take (i := 9) (v := ?_) (ops_at rfl) (by kernel_rfl) (by kernel_rfl) (by kernel_rfl) (by kernel_rfl) (fun _ _ _ h => h) (Or.inl ⟨by rfl, ?yyv9⟩) (by assumption) ?nyv9
                  case yyv9 => (intro wS hSw; (try dsimp only at hSw); (have k0 := hSw.1); (have k1 := hSw.2.1); (have k2 := hSw.2.2.1); (have k3 := hSw.2.2.2.1); (have k4 := hSw.2.2.2.2.1); (have k5 := hSw.2.2.2.2.2); go_simp; try rfl)
                  try simp only [Act.put, List.setIfInBounds_toArray, List.set_cons_zero, List.set_cons_succ]
                  refine AnyE.take (i := 10) (v := ?_) (ops_at rfl) (by kernel_rfl) (by kernel_rfl) (by kernel_rfl) (by kernel_rfl) (fun _ _ _ h => h) (Or.inl ⟨by rfl, ?yyv10⟩) (by assumption) ?nyv10
                  case yyv10 => (intro wS hSw; (try dsimp only at hSw); (have k0 := hSw.1); (have k1 := hSw.2.1); (have k2 := hSw.2.2.1); (have k3 := hSw.2.2.2.1); (have k4 := hSw.2.2.2.2.1); (have k5 := hSw.2.2.2.2.2); go_simp; try rfl)
                  try simp only [Act.put, List.setIfInBounds_toArray, List.set_cons_zero, List.set_cons_succ]
                  refine AnyE.take (i := 11) (v := ?_) (ops_at rfl) (by kernel_rfl) (by kernel_rfl) (by kernel_rfl) (by kernel_rfl) (fun _ _ _ h => h) (Or.inl ⟨by rfl, ?yyv11⟩) (by assumption) ?nyv11
                  case yyv11 => (intro wS hSw; (try dsimp only at hSw); (have k0 := hSw.1); (have k1 := hSw.2.1); (have k2 := hSw.2.2.1); (have k3 := hSw.2.2.2.1); (have k4 := hSw.2.2.2.2.1); (have k5 := hSw.2.2.2.2.2); go_simp; try rfl)
                  try simp only [Act.put, List.setIfInBounds_toArray, List.set_cons_zero, List.set_cons_succ]
                  refine AnyE.take (i := 12) (v := ?_) (ops_at rfl) (by kernel_rfl) (by kernel_rfl) (by kernel_rfl) (by kernel_rfl) (fun _ _ _ h => h) (Or.inl ⟨by rfl, ?yyv12⟩) (by assumption) ?nyv12
                  case yyv12 => (intro wS hSw; (try dsimp only at hSw); (have k0 := hSw.1); (have k1 := hSw.2.1); (have k2 := hSw.2.2.1); (have k3 := hSw.2.2.2.1); (have k4 := hSw.2.2.2.2.1); (have k5 := hSw.2.2.2.2.2); go_simp; try rfl)
                  try simp only [Act.put, List.setIfInBounds_toArray, List.set_cons_zero, List.set_cons_succ]
                  refine AnyE.take (i := 13) (v := ?_) (ops_at rfl) (by kernel_rfl) (by kernel_rfl) (by kernel_rfl) (by kernel_rfl) (fun _ _ _ h => h) (Or.inl ⟨by rfl, ?yyv13⟩) (by assumption) ?nyv13
                  case yyv13 => (intro wS hSw; (try dsimp only at hSw); (have k0 := hSw.1); (have k1 := hSw.2.1); (have k2 := hSw.2.2.1); (have k3 := hSw.2.2.2.1); (have k4 := hSw.2.2.2.2.1); (have k5 := hSw.2.2.2.2.2); go_simp; try rfl)
                  try simp only [Act.put, List.setIfInBounds_toArray, List.set_cons_zero, List.set_cons_succ]
                  refine AnyE.take (i := 14) (v := ?_) (ops_at rfl) (by kernel_rfl) (by kernel_rfl) (by kernel_rfl) (by kernel_rfl) (fun _ _ _ h => h) (Or.inl ⟨by rfl, ?yyv14⟩) (by assumption) ?nyv14
                  case yyv14 => (intro wS hSw; (try dsimp only at hSw); (have k0 := hSw.1); (have k1 := hSw.2.1); (have k2 := hSw.2.2.1); (have k3 := hSw.2.2.2.1); (have k4 := hSw.2.2.2.2.1); (have k5 := hSw.2.2.2.2.2); go_simp; try rfl)
                  try simp only [Act.put, List.setIfInBounds_toArray, List.set_cons_zero, List.set_cons_succ]
                  refine AnyE.take (i := 15) (v := ?_) (ops_at rfl) (by kernel_rfl) (by kernel_rfl) (by kernel_rfl) (by kernel_rfl) (fun _ _ _ h => h) (Or.inl ⟨by rfl, ?yyv15⟩) (by assumption) ?nyv15
                  case yyv15 => (intro wS hSw; (try dsimp only at hSw); (have k0 := hSw.1); (have k1 := hSw.2.1); (have k2 := hSw.2.2.1); (have k3 := hSw.2.2.2.1); (have k4 := hSw.2.2.2.2.1); (have k5 := hSw.2.2.2.2.2); go_simp; try rfl)
                  try simp only [Act.put, List.setIfInBounds_toArray, List.set_cons_zero, List.set_cons_succ]
                  refine AnyE.take (i := 16) (v := ?_) (ops_at rfl) (by kernel_rfl) (by kernel_rfl) (by kernel_rfl) (by kernel_rfl) (fun _ _ _ h => h) (Or.inl ⟨by rfl, ?yyv16⟩) (by assumption) ?nyv16
                  case yyv16 => (intro wS hSw; (try dsimp only at hSw); (have k0 := hSw.1); (have k1 := hSw.2.1); (have k2 := hSw.2.2.1); (have k3 := hSw.2.2.2.1); (have k4 := hSw.2.2.2.2.1); (have k5 := hSw.2.2.2.2.2); go_simp; try rfl)
                  try simp only [Act.put, List.setIfInBounds_toArray, List.set_cons_zero, List.set_cons_succ]
                  refine AnyE.take (i := 17) (v := ?_) (ops_at rfl) (by kernel_rfl) (by kernel_rfl) (by kernel_rfl) (by kernel_rfl) (fun _ _ _ h => h) (Or.inl ⟨by rfl, ?yyv17⟩) (by assumption) ?nyv17
                  case yyv17 => (intro wS hSw; (try dsimp only at hSw); (have k0 := hSw.1); (have k1 := hSw.2.1); (have k2 := hSw.2.2.1); (have k3 := hSw.2.2.2.1); (have k4 := hSw.2.2.2.2.1); (have k5 := hSw.2.2.2.2.2); go_simp; try rfl)
                  try simp only [Act.put, List.setIfInBounds_toArray, List.set_cons_zero, List.set_cons_succ]
                  refine AnyE.take (i := 18) (v := ?_) (ops_at rfl) (by kernel_rfl) (by kernel_rfl) (by kernel_rfl) (by kernel_rfl) (fun _ _ _ h => h) (Or.inl ⟨by rfl, ?yyv18⟩) (by assumption) ?nyv18
                  case yyv18 => (intro wS hSw; (try dsimp only at hSw); (have k0 := hSw.1); (have k1 := hSw.2.1); (have k2 := hSw.2.2.1); (have k3 := hSw.2.2.2.1); (have k4 := hSw.2.2.2.2.1); (have k5 := hSw.2.2.2.2.2); go_simp; try rfl)
                  try simp only [Act.put, List.setIfInBounds_toArray, List.set_cons_zero, List.set_cons_succ]
                  refine AnyE.take (i := 19) (v := ?_) (ops_at rfl) (by kernel_rfl) (by kernel_rfl) (by kernel_rfl) (by kernel_rfl) (fun _ _ _ h => h) (Or.inl ⟨by rfl, ?yyv19⟩) (by assumption) ?nyv19
                  case yyv19 => (intro wS hSw; (try dsimp only at hSw); (have k0 := hSw.1); (have k1 := hSw.2.1); (have k2 := hSw.2.2.1); (have k3 := hSw.2.2.2.1); (have k4 := hSw.2.2.2.2.1); (have k5 := hSw.2.2.2.2.2); go_simp; try rfl)
                  try simp only [Act.put, List.setIfInBounds_toArray, List.set_cons_zero, List.set_cons_succ]
                  refine AnyE.take (i := 20) (v := ?_) (ops_at rfl) (by kernel_rfl) (by kernel_rfl) (by kernel_rfl) (by kernel_rfl) (fun _ _ _ h => h) (Or.inl ⟨by rfl, ?yyv20⟩) (by assumption) ?nyv20
                  case yyv20 => (intro wS hSw; (try dsimp only at hSw); (have k0 := hSw.1); (have k1 := hSw.2.1); (have k2 := hSw.2.2.1); (have k3 := hSw.2.2.2.1); (have k4 := hSw.2.2.2.2.1); (have k5 := hSw.2.2.2.2.2); go_simp; try rfl)
                  try simp only [Act.put, List.setIfInBounds_toArray, List.set_cons_zero, List.set_cons_succ]
                  refine AnyE.take (i := 21) (v := ?_) (ops_at rfl) (by kernel_rfl) (by kernel_rfl) (by kernel_rfl) (by kernel_rfl) (fun _ _ _ h => h) (Or.inl ⟨by rfl, ?yyv21⟩) (by assumption) ?nyv21
                  case yyv21 => (intro wS hSw; (try dsimp only at hSw); (have k0 := hSw.1); (have k1 := hSw.2.1); (have k2 := hSw.2.2.1); (have k3 := hSw.2.2.2.1); (have k4 := hSw.2.2.2.2.1); (have k5 := hSw.2.2.2.2.2); go_simp; try rfl)
                  try simp only [Act.put, List.setIfInBounds_toArray, List.set_cons_zero, List.set_cons_succ]
                  refine AnyE.take (i := 22) (v := ?_) (ops_at rfl) (by kernel_rfl) (by kernel_rfl) (by kernel_rfl) (by kernel_rfl) (fun _ _ _ h => h) (Or.inl ⟨by rfl, ?yyv22⟩) (by assumption) ?nyv22
                  case yyv22 => (intro wS hSw; (try dsimp only at hSw); (have k0 := hSw.1); (have k1 := hSw.2.1); (have k2 := hSw.2.2.1); (have k3 := hSw.2.2.2.1); (have k4 := hSw.2.2.2.2.1); (have k5 := hSw.2.2.2.2.2); go_simp; try rfl)
                  try simp only [Act.put, List.setIfInBounds_toArray, List.set_cons_zero, List.set_cons_succ]
                  refine AnyE.take (i := 23) (v := ?_) (ops_at rfl) (by kernel_rfl) (by kernel_rfl) (by kernel_rfl) (by kernel_rfl) (fun _ _ _ h => h) (Or.inl ⟨by rfl, ?yyv23⟩) (by assumption) ?nyv23
                  case yyv23 => (intro wS hSw; (try dsimp only at hSw); (have k0 := hSw.1); (have k1 := hSw.2.1); (have k2 := hSw.2.2.1); (have k3 := hSw.2.2.2.1); (have k4 := hSw.2.2.2.2.1); (have k5 := hSw.2.2.2.2.2); go_simp; try rfl)
                  try simp only [Act.put, List.setIfInBounds_toArray, List.set_cons_zero, List.set_cons_succ]
                  refine AnyE.take (i := 24) (v := ?_) (ops_at rfl) (by kernel_rfl) (by kernel_rfl) (by kernel_rfl) (by kernel_rfl) (fun _ _ _ h => h) (Or.inl ⟨by rfl, ?yyv24⟩) (by assumption) ?nyv24
                  case yyv24 => (intro wS hSw; (try dsimp only at hSw); (have k0 := hSw.1); (have k1 := hSw.2.1); (have k2 := hSw.2.2.1); (have k3 := hSw.2.2.2.1); (have k4 := hSw.2.2.2.2.1); (have k5 := hSw.2.2.2.2.2); go_simp; try rfl)
                  try simp only [Act.put, List.setIfInBounds_toArray, List.set_cons_zero, List.set_cons_succ]
                  refine AnyE.take (i := 25) (v := ?_) (ops_at rfl) (by kernel_rfl) (by kernel_rfl) (by kernel_rfl) (by kernel_rfl) (fun _ _ _ h => h) (Or.inl ⟨by rfl, ?yyv25⟩) (by assumption) ?nyv25
                  case yyv25 => (intro wS hSw; (try dsimp only at hSw); (have k0 := hSw.1); (have k1 := hSw.2.1); (have k2 := hSw.2.2.1); (have k3 := hSw.2.2.2.1); (have k4 := hSw.2.2.2.2.1); (have k5 := hSw.2.2.2.2.2); go_simp; try rfl)
                  try simp only [Act.put, List.setIfInBounds_toArray, List.set_cons_zero, List.set_cons_succ]
                  refine AnyE.take (i := 26) (v := ?_) (ops_at rfl) (by kernel_rfl) (by kernel_rfl) (by kernel_rfl) (by kernel_rfl) (fun _ _ _ h => h) (Or.inl ⟨by rfl, ?yyv26⟩) (by assumption) ?nyv26
                  case yyv26 => (intro wS hSw; (try dsimp only at hSw); (have k0 := hSw.1); (have k1 := hSw.2.1); (have k2 := hSw.2.2.1); (have k3 := hSw.2.2.2.1); (have k4 := hSw.2.2.2.2.1); (have k5 := hSw.2.2.2.2.2); go_simp; try rfl)
                  try simp only [Act.put, List.setIfInBounds_toArray, List.set_cons_zero, List.set_cons_succ]
                  refine AnyE.take (i := 27) (v := ?_) (ops_at rfl) (by kernel_rfl) (by kernel_rfl) (by kernel_rfl) (by kernel_rfl) (fun _ _ _ h => h) (Or.inl ⟨by rfl, ?yyv27⟩) (by assumption) ?nyv27
                  case yyv27 => (intro wS hSw; (try dsimp only at hSw); (have k0 := hSw.1); (have k1 := hSw.2.1); (have k2 := hSw.2.2.1); (have k3 := hSw.2.2.2.1); (have k4 := hSw.2.2.2.2.1); (have k5 := hSw.2.2.2.2.2); go_simp; try rfl)
                  try simp only [Act.put, List.setIfInBounds_toArray, List.set_cons_zero, List.set_cons_succ]
                  refine AnyE.of_ready (rs := [28]) (by kernel_rfl) (by simp) ?_
                  refine ReadyE.cons (ops_at rfl) (fun K hK => ?_) ReadyE.nil
                  go_simp
                  refine (times_any v1 v2 HQ1.out HQ2.out _ cp HCP.out).mono ?_
                  rintro e wz ⟨rfl, rfl⟩
                  refine hK.out _ _ (fun _ => hH0) (fun _ => ?_)
                  clear hK K
                  refine AnyE.of_ready (rs := [29]) (by kernel_rfl) (by simp) ?_
                  refine ReadyE.cons (ops_at rfl) (fun K hK => ?_) ReadyE.nil
                  go_simp
                  refine hK.out _ _ (fun _ => hH0) (fun _ => ?_)
                  clear hK K
                  refine AnyE.of_ready (rs := [30]) (by kernel_rfl) (by simp) ?_
                  refine ReadyE.cons (ops_at rfl) (fun K hK => ?_) ReadyE.nil
                  go_simp
                  refine (l1Least_any (cu + cp) 1000000000000001 nv HNV.out _).mono ?_
                  rintro e wz ⟨rfl, rfl⟩
                  refine hK.out _ _ (fun _ => hH0) (fun _ => ?_)
                  clear hK K
                  refine AnyE.take (i := 31) (v := ?_) (ops_at rfl) (by kernel_rfl) (by kernel_rfl) (by kernel_rfl) (by kernel_rfl) (fun _ _ _ h => h) (Or.inl ⟨by rfl, ?yyv31⟩) (by assumption) ?nyv31
                  case yyv31 => (intro wS hSw; (try dsimp only at hSw); (have k0 := hSw.1); (have k1 := hSw.2.1); (have k2 := hSw.2.2.1); (have k3 := hSw.2.2.2.1); (have k4 := hSw.2.2.2.2.1); (have k5 := hSw.2.2.2.2.2); go_simp; try rfl)
                  try simp only [Act.put, List.setIfInBounds_toArray, List.set_cons_zero, List.set_cons_succ]
                  refine AnyE.of_ready (rs := [32]) (by kernel_rfl) (by simp) ?_
                  refine ReadyE.cons (ops_at rfl) (fun K hK => ?_) ReadyE.nil
                  go_simp
                  refine hK.out _ _ (fun h => absurd rfl h) (fun _ => ?_)
                  clear hK K
                  refine AnyE.end_ (by kernel_rfl) ?_ _
                  clear e1 e2 e3 e4 e5 e6 e7 hH0
                  go_wp2
                  go_roundw
                  case rel => exact ⟨k + 1, by omega, by omega, by go_num, drewB (HBK.out.setCell (p := ⟨g, b, none⟩) (by show w.heap.size ≤ g; omega) _), by rw [HNX.out]; have h := HCK.out.set (by omega) hlm nv; rw [show m + 1 = b from hb'] at h; exact h.below (drewB (Below.refl _ _))⟩
                  case measure => simp [intOf]; omega
                · have hka : k = a := by omega
                  have hlk : ¬ (k : Int) < (a : Int) := by omega
                  have hdk : decide ((k : Int) < (a : Int)) = false := decide_eq_false hlk
                  have HByw := Lib.hid HBK.out
                  have HCyw := Lib.hid (show TabC _ w.heap.size F g A H a m (wayF capS wayB s0 (upL a b (a - 1))) by rw [← hka, show upL k b (k - 1) = upL a b (k - 1) by rw [hka], HCU.out, hka]; exact HCK.out)
                  clear hlk hdk HCU hka
                  go_wp2
                  go_loopw [10] (fun i wk => ∃ k : Nat, 1 ≤ k ∧ k ≤ b ∧ i = .int .i64 (k : Int) ∧ Below w.heap.size w wk ∧ TabC wk w.heap.size F g A H a m (wayF capS wayB s0 (upL a b (a - 1) ++ lvL a b (k - 1)))) (fun i _ => 25 - (intOf i).toNat)
                  case atStart => exact ⟨1, by omega, by omega, rfl, HByw.out, by rw [show (1 : Nat) - 1 = 0 from rfl, show lvL a b 0 = [] from rfl, List.append_nil]; exact HCyw.out⟩
                  case round =>
                    obtain ⟨k, hk1, hk2, rfl, hbk, hck⟩ := hrel
                    have HBK := Lib.hid hbk
                    have HCK := Lib.hid hck
                    clear hbk hck
                    obtain ⟨cu, hcu⟩ : ∃ cu, wayF capS wayB s0 (upL a b (a - 1) ++ lvL a b (k - 1)) = cu := ⟨_, rfl⟩
                    rw [hcu] at HCK
                    have HCU := Lib.hid hcu
                    clear hcu
                    by_cases hlt : k < b
                    · have hlk : (k : Int) < (b : Int) := by omega
                      have hdk : decide ((k : Int) < (b : Int)) = true := decide_eq_true hlk
                      obtain ⟨d, hd⟩ : ∃ d, b - k = d := ⟨_, rfl⟩
                      have hsub : (b : Int) - (k : Int) = (d : Int) := by omega
                      have hwd : IntKind.i64.wrap (d : Int) = (d : Int) := by rw [IntKind.wrap_i64]; omega
                      obtain ⟨g1, e1, e2⟩ := HCK.out.tab.read (a := a) (b := k) (by omega) (by omega) (by omega) (by omega) (by omega)
                      obtain ⟨g2, e3, e4⟩ := HCK.out.tab.read (a := a) (b := d) (by omega) (by omega) (by omega) (by omega) (by omega)
                      have e5 := HCK.out.row.1
                      have e6 := HCK.out.cur
                      have e7 := HCK.out.frozen (m + 1)
                      rw [show m + 1 = b from hb'] at e6 e7
                      obtain rfl : g1 = g := by have h := e1.symm.trans e5; simp at h; exact h
                      obtain rfl : g2 = g1 := by have h := e3.symm.trans e5; simp at h; exact h
                      have q1 := wayB_ok _ a k (Nat.le_refl _) (by omega) (by omega)
                      have q2 := wayB_ok _ a d (Nat.le_refl _) (by omega) (by omega)
                      obtain ⟨v1, hv1⟩ : ∃ v1, wayB a k = v1 := ⟨_, rfl⟩
                      obtain ⟨v2, hv2⟩ : ∃ v2, wayB a d = v2 := ⟨_, rfl⟩
                      rw [hv1] at e2 q1
                      rw [hv2] at e4 q2
                      obtain ⟨cp, hcp⟩ : ∃ cp, capS v1 v2 = cp := ⟨_, rfl⟩
                      have hck : WayOk cp := by rw [← hcp, ← (cap_same q1 q2).1]; exact (cap_same q1 q2).2
                      obtain ⟨hck1, hck2⟩ := hck
                      have hcb := HRNG.out (upL a b (a - 1) ++ lvL a b (k - 1)) (fun c hc => ((lvL_pre (by omega)).subset hc))
                      rw [HCU.out] at hcb
                      have hwa : IntKind.i64.wrap (cu + cp) = cu + cp := by rw [IntKind.wrap_i64]; omega
                      obtain ⟨nv, hnv⟩ : ∃ nv, min (cu + cp) 1000000000000001 = nv := ⟨_, rfl⟩
                      have HNX := Lib.hid (show wayF capS wayB s0 (upL a b (a - 1) ++ lvL a b (k + 1 - 1)) = nv by
                        rw [show k + 1 - 1 = (k - 1) + 1 by omega, lvL_succ, ← List.append_assoc, wayF_snocS, HCU.out]
                        rw [show k - 1 + 1 = k by omega, hd]
                        simp only [hv1, hv2, hcp, hnv])
                      have HNV := Lib.hid hnv
                      have HCP := Lib.hid hcp
                      have HQ1 := Lib.hid q1
                      have HQ2 := Lib.hid q2
                      clear hnv hcp q1 q2 hv1 hv2 hd hcb
                      have hi0 : (a : Int) < (A : Int) + 1 := by omega
                      have hi1 : (k : Int) < (H : Int) + 1 := by omega
                      have hi2 : (d : Int) < (H : Int) + 1 := by omega
                      have hi3 : (b : Int) < (H : Int) + 1 := by omega
                      go_wp2_with fail
                      refine region_E (S := fun wq => wq.cell? ⟨F, a, none⟩ = some (.slice (some ⟨g2, 0, none⟩) (H + 1) (H + 1)) ∧ wq.cell? ⟨g2, b, none⟩ = some (.int .i64 cu) ∧ wq.cell? ⟨F, a, none⟩ = some (.slice (some ⟨g2, 0, none⟩) (H + 1) (H + 1)) ∧ wq.cell? ⟨g2, k, none⟩ = some (.int .i64 v1) ∧ wq.cell? ⟨F, a, none⟩ = some (.slice (some ⟨g2, 0, none⟩) (H + 1) (H + 1)) ∧ wq.cell? ⟨g2, d, none⟩ = some (.int .i64 v2)) 32 (by kernel_rfl) ⟨e5, e6, e1, e2, e3, e4⟩ (fun hH0 => ?_)
                      refine AnyE.take (i := 0) (v := ?_) (ops_at rfl) (by kernel_rfl) (by kernel_rfl) (by kernel_rfl) (by kernel_rfl) (fun _ _ _ h => h) (Or.inl ⟨by rfl, ?yyw0⟩) (by assumption) ?nyw0
                      case yyw0 => (intro wS hSw; (try dsimp only at hSw); (have k0 := hSw.1); (have k1 := hSw.2.1); (have k2 := hSw.2.2.1); (have k3 := hSw.2.2.2.1); (have k4 := hSw.2.2.2.2.1); (have k5 := hSw.2.2.2.2.2); go_simp; try rfl)
                      try simp only [Act.put, List.setIfInBounds_toArray, List.set_cons_zero, List.set_cons_succ]
                      refine AnyE.take (i := 1) (v := ?_) (ops_at rfl) (by kernel_rfl) (by kernel_rfl) (by kernel_rfl) (by kernel_rfl) (fun _ _ _ h => h) (Or.inl ⟨by rfl, ?yyw1⟩) (by assumption) ?nyw1
                      case yyw1 => (intro wS hSw; (try dsimp only at hSw); (have k0 := hSw.1); (have k1 := hSw.2.1); (have k2 := hSw.2.2.1); (have k3 := hSw.2.2.2.1); (have k4 := hSw.2.2.2.2.1); (have k5 := hSw.2.2.2.2.2); go_simp; try rfl)
                      try simp only [Act.put, List.setIfInBounds_toArray, List.set_cons_zero, List.set_cons_succ]
                      refine AnyE.take (i := 2) (v := ?_) (ops_at rfl) (by kernel_rfl) (by kernel_rfl) (by kernel_rfl) (by kernel_rfl) (fun _ _ _ h => h) (Or.inl ⟨by rfl, ?yyw2⟩) (by assumption) ?nyw2
                      case yyw2 => (intro wS hSw; (try dsimp only at hSw); (have k0 := hSw.1); (have k1 := hSw.2.1); (have k2 := hSw.2.2.1); (have k3 := hSw.2.2.2.1); (have k4 := hSw.2.2.2.2.1); (have k5 := hSw.2.2.2.2.2); go_simp; try rfl)
                      try simp only [Act.put, List.setIfInBounds_toArray, List.set_cons_zero, List.set_cons_succ]
                      refine AnyE.take (i := 3) (v := ?_) (ops_at rfl) (by kernel_rfl) (by kernel_rfl) (by kernel_rfl) (by kernel_rfl) (fun _ _ _ h => h) (Or.inl ⟨by rfl, ?yyw3⟩) (by assumption) ?nyw3
                      case yyw3 => (intro wS hSw; (try dsimp only at hSw); (have k0 := hSw.1); (have k1 := hSw.2.1); (have k2 := hSw.2.2.1); (have k3 := hSw.2.2.2.1); (have k4 := hSw.2.2.2.2.1); (have k5 := hSw.2.2.2.2.2); go_simp; try rfl)
                      try simp only [Act.put, List.setIfInBounds_toArray, List.set_cons_zero, List.set_cons_succ]
                      refine AnyE.take (i := 4) (v := ?_) (ops_at rfl) (by kernel_rfl) (by kernel_rfl) (by kernel_rfl) (by kernel_rfl) (fun _ _ _ h => h) (Or.inl ⟨by rfl, ?yyw4⟩) (by assumption) ?nyw4
                      case yyw4 => (intro wS hSw; (try dsimp only at hSw); (have k0 := hSw.1); (have k1 := hSw.2.1); (have k2 := hSw.2.2.1); (have k3 := hSw.2.2.2.1); (have k4 := hSw.2.2.2.2.1); (have k5 := hSw.2.2.2.2.2); go_simp; try rfl)
                      try simp only [Act.put, List.setIfInBounds_toArray, List.set_cons_zero, List.set_cons_succ]
                      refine AnyE.take (i := 5) (v := ?_) (ops_at rfl) (by kernel_rfl) (by kernel_rfl) (by kernel_rfl) (by kernel_rfl) (fun _ _ _ h => h) (Or.inl ⟨by rfl, ?yyw5⟩) (by assumption) ?nyw5
                      case yyw5 => (intro wS hSw; (try dsimp only at hSw); (have k0 := hSw.1); (have k1 := hSw.2.1); (have k2 := hSw.2.2.1); (have k3 := hSw.2.2.2.1); (have k4 := hSw.2.2.2.2.1); (have k5 := hSw.2.2.2.2.2); go_simp; try rfl)
                      try simp only [Act.put, List.setIfInBounds_toArray, List.set_cons_zero, List.set_cons_succ]
                      refine AnyE.take (i := 6) (v := ?_) (ops_at rfl) (by kernel_rfl) (by kernel_rfl) (by kernel_rfl) (by kernel_rfl) (fun _ _ _ h => h) (Or.inl ⟨by rfl, ?yyw6⟩) (by assumption) ?nyw6
                      case yyw6 => (intro wS hSw; (try dsimp only at hSw); (have k0 := hSw.1); (have k1 := hSw.2.1); (have k2 := hSw.2.2.1); (have k3 := hSw.2.2.2.1); (have k4 := hSw.2.2.2.2.1); (have k5 := hSw.2.2.2.2.2); go_simp; try rfl)
                      try simp only [Act.put, List.setIfInBounds_toArray, List.set_cons_zero, List.set_cons_succ]
                      refine AnyE.take (i := 7) (v := ?_) (ops_at rfl) (by kernel_rfl) (by kernel_rfl) (by kernel_rfl) (by kernel_rfl) (fun _ _ _ h => h) (Or.inl ⟨by rfl, ?yyw7⟩) (by assumption) ?nyw7
                      case yyw7 => (intro wS hSw; (try dsimp only at hSw); (have k0 := hSw.1); (have k1 := hSw.2.1); (have k2 := hSw.2.2.1); (have k3 := hSw.2.2.2.1); (have k4 := hSw.2.2.2.2.1); (have k5 := hSw.2.2.2.2.2); go_simp; try rfl)
                      try simp only [Act.put, List.setIfInBounds_toArray, List.set_cons_zero, List.set_cons_succ]
                      refine AnyE.take (i := 8) (v := ?_) (ops_at rfl) (by kernel_rfl) (by kernel_rfl) (by kernel_rfl) (by kernel_rfl) (fun _ _ _ h => h) (Or.inl ⟨by rfl, ?yyw8⟩) (by assumption) ?nyw8
                      case yyw8 => (intro wS hSw; (try dsimp only at hSw); (have k0 := hSw.1); (have k1 := hSw.2.1); (have k2 := hSw.2.2.1); (have k3 := hSw.2.2.2.1); (have k4 := hSw.2.2.2.2.1); (have k5 := hSw.2.2.2.2.2); go_simp; try rfl)
                      try simp only [Act.put, List.setIfInBounds_toArray, List.set_cons_zero, List.set_cons_succ]
                      refine AnyE.take (i := 9) (v := ?_) (ops_at rfl) (by kernel_rfl) (by kernel_rfl) (by kernel_rfl) (by kernel_rfl) (fun _ _ _ h => h) (Or.inl ⟨by rfl, ?yyw9⟩) (by assumption) ?nyw9
                      case yyw9 => (intro wS hSw; (try dsimp only at hSw); (have k0 := hSw.1); (have k1 := hSw.2.1); (have k2 := hSw.2.2.1); (have k3 := hSw.2.2.2.1); (have k4 := hSw.2.2.2.2.1); (have k5 := hSw.2.2.2.2.2); go_simp; try rfl)
                      try simp only [Act.put, List.setIfInBounds_toArray, List.set_cons_zero, List.set_cons_succ]
                      refine AnyE.take (i := 10) (v := ?_) (ops_at rfl) (by kernel_rfl) (by kernel_rfl) (by kernel_rfl) (by kernel_rfl) (fun _ _ _ h => h) (Or.inl ⟨by rfl, ?yyw10⟩) (by assumption) ?nyw10
                      case yyw10 => (intro wS hSw; (try dsimp only at hSw); (have k0 := hSw.1); (have k1 := hSw.2.1); (have k2 := hSw.2.2.1); (have k3 := hSw.2.2.2.1); (have k4 := hSw.2.2.2.2.1); (have k5 := hSw.2.2.2.2.2); go_simp; try rfl)
                      try simp only [Act.put, List.setIfInBounds_toArray, List.set_cons_zero, List.set_cons_succ]
                      refine AnyE.take (i := 11) (v := ?_) (ops_at rfl) (by kernel_rfl) (by kernel_rfl) (by kernel_rfl) (by kernel_rfl) (fun _ _ _ h => h) (Or.inl ⟨by rfl, ?yyw11⟩) (by assumption) ?nyw11
                      case yyw11 => (intro wS hSw; (try dsimp only at hSw); (have k0 := hSw.1); (have k1 := hSw.2.1); (have k2 := hSw.2.2.1); (have k3 := hSw.2.2.2.1); (have k4 := hSw.2.2.2.2.1); (have k5 := hSw.2.2.2.2.2); go_simp; try rfl)
                      try simp only [Act.put, List.setIfInBounds_toArray, List.set_cons_zero, List.set_cons_succ]
                      refine AnyE.take (i := 12) (v := ?_) (ops_at rfl) (by kernel_rfl) (by kernel_rfl) (by kernel_rfl) (by kernel_rfl) (fun _ _ _ h => h) (Or.inl ⟨by rfl, ?yyw12⟩) (by assumption) ?nyw12
                      case yyw12 => (intro wS hSw; (try dsimp only at hSw); (have k0 := hSw.1); (have k1 := hSw.2.1); (have k2 := hSw.2.2.1); (have k3 := hSw.2.2.2.1); (have k4 := hSw.2.2.2.2.1); (have k5 := hSw.2.2.2.2.2); go_simp; try rfl)
                      try simp only [Act.put, List.setIfInBounds_toArray, List.set_cons_zero, List.set_cons_succ]
                      refine AnyE.take (i := 13) (v := ?_) (ops_at rfl) (by kernel_rfl) (by kernel_rfl) (by kernel_rfl) (by kernel_rfl) (fun _ _ _ h => h) (Or.inl ⟨by rfl, ?yyw13⟩) (by assumption) ?nyw13
                      case yyw13 => (intro wS hSw; (try dsimp only at hSw); (have k0 := hSw.1); (have k1 := hSw.2.1); (have k2 := hSw.2.2.1); (have k3 := hSw.2.2.2.1); (have k4 := hSw.2.2.2.2.1); (have k5 := hSw.2.2.2.2.2); go_simp; try rfl)
                      try simp only [Act.put, List.setIfInBounds_toArray, List.set_cons_zero, List.set_cons_succ]
                      refine AnyE.take (i := 14) (v := ?_) (ops_at rfl) (by kernel_rfl) (by kernel_rfl) (by kernel_rfl) (by kernel_rfl) (fun _ _ _ h => h) (Or.inl ⟨by rfl, ?yyw14⟩) (by assumption) ?nyw14
                      case yyw14 => (intro wS hSw; (try dsimp only at hSw); (have k0 := hSw.1); (have k1 := hSw.2.1); (have k2 := hSw.2.2.1); (have k3 := hSw.2.2.2.1); (have k4 := hSw.2.2.2.2.1); (have k5 := hSw.2.2.2.2.2); go_simp; try rfl)
                      try simp only [Act.put, List.setIfInBounds_toArray, List.set_cons_zero, List.set_cons_succ]
                      refine AnyE.take (i := 15) (v := ?_) (ops_at rfl) (by kernel_rfl) (by kernel_rfl) (by kernel_rfl) (by kernel_rfl) (fun _ _ _ h => h) (Or.inl ⟨by rfl, ?yyw15⟩) (by assumption) ?nyw15
                      case yyw15 => (intro wS hSw; (try dsimp only at hSw); (have k0 := hSw.1); (have k1 := hSw.2.1); (have k2 := hSw.2.2.1); (have k3 := hSw.2.2.2.1); (have k4 := hSw.2.2.2.2.1); (have k5 := hSw.2.2.2.2.2); go_simp; try rfl)
                      try simp only [Act.put, List.setIfInBounds_toArray, List.set_cons_zero, List.set_cons_succ]
                      refine AnyE.take (i := 16) (v := ?_) (ops_at rfl) (by kernel_rfl) (by kernel_rfl) (by kernel_rfl) (by kernel_rfl) (fun _ _ _ h => h) (Or.inl ⟨by rfl, ?yyw16⟩) (by assumption) ?nyw16
                      case yyw16 => (intro wS hSw; (try dsimp only at hSw); (have k0 := hSw.1); (have k1 := hSw.2.1); (have k2 := hSw.2.2.1); (have k3 := hSw.2.2.2.1); (have k4 := hSw.2.2.2.2.1); (have k5 := hSw.2.2.2.2.2); go_simp; try rfl)
                      try simp only [Act.put, List.setIfInBounds_toArray, List.set_cons_zero, List.set_cons_succ]
                      refine AnyE.take (i := 17) (v := ?_) (ops_at rfl) (by kernel_rfl) (by kernel_rfl) (by kernel_rfl) (by kernel_rfl) (fun _ _ _ h => h) (Or.inl ⟨by rfl, ?yyw17⟩) (by assumption) ?nyw17
                      case yyw17 => (intro wS hSw; (try dsimp only at hSw); (have k0 := hSw.1); (have k1 := hSw.2.1); (have k2 := hSw.2.2.1); (have k3 := hSw.2.2.2.1); (have k4 := hSw.2.2.2.2.1); (have k5 := hSw.2.2.2.2.2); go_simp; try rfl)
                      try simp only [Act.put, List.setIfInBounds_toArray, List.set_cons_zero, List.set_cons_succ]
                      refine AnyE.take (i := 18) (v := ?_) (ops_at rfl) (by kernel_rfl) (by kernel_rfl) (by kernel_rfl) (by kernel_rfl) (fun _ _ _ h => h) (Or.inl ⟨by rfl, ?yyw18⟩) (by assumption) ?nyw18
                      case yyw18 => (intro wS hSw; (try dsimp only at hSw); (have k0 := hSw.1); (have k1 := hSw.2.1); (have k2 := hSw.2.2.1); (have k3 := hSw.2.2.2.1); (have k4 := hSw.2.2.2.2.1); (have k5 := hSw.2.2.2.2.2); go_simp; try rfl)
                      try simp only [Act.put, List.setIfInBounds_toArray, List.set_cons_zero, List.set_cons_succ]
                      refine AnyE.take (i := 19) (v := ?_) (ops_at rfl) (by kernel_rfl) (by kernel_rfl) (by kernel_rfl) (by kernel_rfl) (fun _ _ _ h => h) (Or.inl ⟨by rfl, ?yyw19⟩) (by assumption) ?nyw19
                      case yyw19 => (intro wS hSw; (try dsimp only at hSw); (have k0 := hSw.1); (have k1 := hSw.2.1); (have k2 := hSw.2.2.1); (have k3 := hSw.2.2.2.1); (have k4 := hSw.2.2.2.2.1); (have k5 := hSw.2.2.2.2.2); go_simp; try rfl)
                      try simp only [Act.put, List.setIfInBounds_toArray, List.set_cons_zero, List.set_cons_succ]
                      refine AnyE.take (i := 20) (v := ?_) (ops_at rfl) (by kernel_rfl) (by kernel_rfl) (by kernel_rfl) (by kernel_rfl) (fun _ _ _ h => h) (Or.inl ⟨by rfl, ?yyw20⟩) (by assumption) ?nyw20
                      case yyw20 => (intro wS hSw; (try dsimp only at hSw); (have k0 := hSw.1); (have k1 := hSw.2.1); (have k2 := hSw.2.2.1); (have k3 := hSw.2.2.2.1); (have k4 := hSw.2.2.2.2.1); (have k5 := hSw.2.2.2.2.2); go_simp; try rfl)
                      try simp only [Act.put, List.setIfInBounds_toArray, List.set_cons_zero, List.set_cons_succ]
                      refine AnyE.take (i := 21) (v := ?_) (ops_at rfl) (by kernel_rfl) (by kernel_rfl) (by kernel_rfl) (by kernel_rfl) (fun _ _ _ h => h) (Or.inl ⟨by rfl, ?yyw21⟩) (by assumption) ?nyw21
                      case yyw21 => (intro wS hSw; (try dsimp only at hSw); (have k0 := hSw.1); (have k1 := hSw.2.1); (have k2 := hSw.2.2.1); (have k3 := hSw.2.2.2.1); (have k4 := hSw.2.2.2.2.1); (have k5 := hSw.2.2.2.2.2); go_simp; try rfl)
                      try simp only [Act.put, List.setIfInBounds_toArray, List.set_cons_zero, List.set_cons_succ]
                      refine AnyE.take (i := 22) (v := ?_) (ops_at rfl) (by kernel_rfl) (by kernel_rfl) (by kernel_rfl) (by kernel_rfl) (fun _ _ _ h => h) (Or.inl ⟨by rfl, ?yyw22⟩) (by assumption) ?nyw22
                      case yyw22 => (intro wS hSw; (try dsimp only at hSw); (have k0 := hSw.1); (have k1 := hSw.2.1); (have k2 := hSw.2.2.1); (have k3 := hSw.2.2.2.1); (have k4 := hSw.2.2.2.2.1); (have k5 := hSw.2.2.2.2.2); go_simp; try rfl)
                      try simp only [Act.put, List.setIfInBounds_toArray, List.set_cons_zero, List.set_cons_succ]
                      refine AnyE.take (i := 23) (v := ?_) (ops_at rfl) (by kernel_rfl) (by kernel_rfl) (by kernel_rfl) (by kernel_rfl) (fun _ _ _ h => h) (Or.inl ⟨by rfl, ?yyw23⟩) (by assumption) ?nyw23
                      case yyw23 => (intro wS hSw; (try dsimp only at hSw); (have k0 := hSw.1); (have k1 := hSw.2.1); (have k2 := hSw.2.2.1); (have k3 := hSw.2.2.2.1); (have k4 := hSw.2.2.2.2.1); (have k5 := hSw.2.2.2.2.2); go_simp; try rfl)
                      try simp only [Act.put, List.setIfInBounds_toArray, List.set_cons_zero, List.set_cons_succ]
                      refine AnyE.take (i := 24) (v := ?_) (ops_at rfl) (by kernel_rfl) (by kernel_rfl) (by kernel_rfl) (by kernel_rfl) (fun _ _ _ h => h) (Or.inl ⟨by rfl, ?yyw24⟩) (by assumption) ?nyw24
                      case yyw24 => (intro wS hSw; (try dsimp only at hSw); (have k0 := hSw.1); (have k1 := hSw.2.1); (have k2 := hSw.2.2.1); (have k3 := hSw.2.2.2.1); (have k4 := hSw.2.2.2.2.1); (have k5 := hSw.2.2.2.2.2); go_simp; try rfl)
                      try simp only [Act.put, List.setIfInBounds_toArray, List.set_cons_zero, List.set_cons_succ]
                      refine AnyE.take (i := 25) (v := ?_) (ops_at rfl) (by kernel_rfl) (by kernel_rfl) (by kernel_rfl) (by kernel_rfl) (fun _ _ _ h => h) (Or.inl ⟨by rfl, ?yyw25⟩) (by assumption) ?nyw25
                      case yyw25 => (intro wS hSw; (try dsimp only at hSw); (have k0 := hSw.1); (have k1 := hSw.2.1); (have k2 := hSw.2.2.1); (have k3 := hSw.2.2.2.1); (have k4 := hSw.2.2.2.2.1); (have k5 := hSw.2.2.2.2.2); go_simp; try rfl)
                      try simp only [Act.put, List.setIfInBounds_toArray, List.set_cons_zero, List.set_cons_succ]
                      refine AnyE.take (i := 26) (v := ?_) (ops_at rfl) (by kernel_rfl) (by kernel_rfl) (by kernel_rfl) (by kernel_rfl) (fun _ _ _ h => h) (Or.inl ⟨by rfl, ?yyw26⟩) (by assumption) ?nyw26
                      case yyw26 => (intro wS hSw; (try dsimp only at hSw); (have k0 := hSw.1); (have k1 := hSw.2.1); (have k2 := hSw.2.2.1); (have k3 := hSw.2.2.2.1); (have k4 := hSw.2.2.2.2.1); (have k5 := hSw.2.2.2.2.2); go_simp; try rfl)
                      try simp only [Act.put, List.setIfInBounds_toArray, List.set_cons_zero, List.set_cons_succ]
                      refine AnyE.take (i := 27) (v := ?_) (ops_at rfl) (by kernel_rfl) (by kernel_rfl) (by kernel_rfl) (by kernel_rfl) (fun _ _ _ h => h) (Or.inl ⟨by rfl, ?yyw27⟩) (by assumption) ?nyw27
                      case yyw27 => (intro wS hSw; (try dsimp only at hSw); (have k0 := hSw.1); (have k1 := hSw.2.1); (have k2 := hSw.2.2.1); (have k3 := hSw.2.2.2.1); (have k4 := hSw.2.2.2.2.1); (have k5 := hSw.2.2.2.2.2); go_simp; try rfl)
                      try simp only [Act.put, List.setIfInBounds_toArray, List.set_cons_zero, List.set_cons_succ]
                      refine AnyE.of_ready (rs := [28]) (by kernel_rfl) (by simp) ?_
                      refine ReadyE.cons (ops_at rfl) (fun K hK => ?_) ReadyE.nil
                      go_simp
                      refine (times_any v1 v2 HQ1.out HQ2.out _ cp HCP.out).mono ?_
                      rintro e wz ⟨rfl, rfl⟩
                      refine hK.out _ _ (fun _ => hH0) (fun _ => ?_)
                      clear hK K
                      refine AnyE.of_ready (rs := [29]) (by kernel_rfl) (by simp) ?_
                      refine ReadyE.cons (ops_at rfl) (fun K hK => ?_) ReadyE.nil
                      go_simp
                      refine hK.out _ _ (fun _ => hH0) (fun _ => ?_)
                      clear hK K
                      refine AnyE.of_ready (rs := [30]) (by kernel_rfl) (by simp) ?_
                      refine ReadyE.cons (ops_at rfl) (fun K hK => ?_) ReadyE.nil
                      go_simp
                      refine (l1Least_any (cu + cp) 1000000000000001 nv HNV.out _).mono ?_
                      rintro e wz ⟨rfl, rfl⟩
                      refine hK.out _ _ (fun _ => hH0) (fun _ => ?_)
                      clear hK K
                      refine AnyE.take (i := 31) (v := ?_) (ops_at rfl) (by kernel_rfl) (by kernel_rfl) (by kernel_rfl) (by kernel_rfl) (fun _ _ _ h => h) (Or.inl ⟨by rfl, ?yyw31⟩) (by assumption) ?nyw31
                      case yyw31 => (intro wS hSw; (try dsimp only at hSw); (have k0 := hSw.1); (have k1 := hSw.2.1); (have k2 := hSw.2.2.1); (have k3 := hSw.2.2.2.1); (have k4 := hSw.2.2.2.2.1); (have k5 := hSw.2.2.2.2.2); go_simp; try rfl)
                      try simp only [Act.put, List.setIfInBounds_toArray, List.set_cons_zero, List.set_cons_succ]
                      refine AnyE.of_ready (rs := [32]) (by kernel_rfl) (by simp) ?_
                      refine ReadyE.cons (ops_at rfl) (fun K hK => ?_) ReadyE.nil
                      go_simp
                      refine hK.out _ _ (fun h => absurd rfl h) (fun _ => ?_)
                      clear hK K
                      refine AnyE.end_ (by kernel_rfl) ?_ _
                      clear e1 e2 e3 e4 e5 e6 e7 hH0
                      go_wp2
                      go_roundw
                      case rel => exact ⟨k + 1, by omega, by omega, by go_num, drewB (HBK.out.setCell (p := ⟨g2, b, none⟩) (by show w.heap.size ≤ g2; omega) _), by rw [HNX.out]; have h := HCK.out.set (by omega) hlm nv; rw [show m + 1 = b from hb'] at h; exact h.below (drewB (Below.refl _ _))⟩
                      case measure => simp [intOf]; omega
                    · have hkb : k = b := by omega
                      have hlk : ¬ (k : Int) < (b : Int) := by omega
                      have hdk : decide ((k : Int) < (b : Int)) = false := decide_eq_false hlk
                      have HW := Lib.hid (show wayB a b = cu by rw [wayB_spec (by omega) (by omega), wayS, cutsL_parts, HS.out]; have h := HCU.out; rw [hkb] at h; exact h)
                      have hfin := (HCK.out.tab.fin (by omega) HCK.out.row.1 (by rw [HCK.out.cur, show m + 1 = b from hb', HW.out]))
                      have HFI := Lib.hid hfin
                      have HRO := Lib.hid HCK.out.row
                      clear hfin
                      go_wp2
                      go_roundw
                      case rel => exact ⟨m + 1, by omega, by go_num, HBK.out, HFI.out, HRO.out⟩
                      case measure => simp [intOf]; omega
            · have hs1 : s0 = 0 := by rw [← HS.out, if_neg hab]
              have HCnv := Lib.hid (show TabC wr w.heap.size F g A H a m (wayF capS wayB s0 (upL a b (1 - 1))) by rw [hs1]; exact hT1)
              have HBnv := Lib.hid HBm.out
              clear hT1 hs1
              obtain ⟨p, hp⟩ : ∃ p, ((a : Int) == 1) = p := ⟨_, rfl⟩
              obtain ⟨r, hr⟩ : ∃ r, ((b : Int) == 1) = r := ⟨_, rfl⟩
              have hpr : (p && r) = false := by
                rw [Bool.eq_false_iff]
                intro h
                rw [Bool.and_eq_true, ← hp, ← hr, beq_iff_eq, beq_iff_eq] at h
                exact hab ⟨by omega, by omega⟩
              clear hab
              cases p
              · have HCn1v := HCnv
                have HBn1v := HBnv
                go_wp2
                clear hp hpr
                go_loopw [9] (fun i wk => ∃ k : Nat, 1 ≤ k ∧ k ≤ a ∧ i = .int .i64 (k : Int) ∧ Below w.heap.size w wk ∧ TabC wk w.heap.size F g A H a m (wayF capS wayB s0 (upL a b (k - 1)))) (fun i _ => 25 - (intOf i).toNat)
                case atStart => exact ⟨1, by omega, by omega, rfl, HBn1v.out, HCn1v.out⟩
                case round =>
                  obtain ⟨k, hk1, hk2, rfl, hbk, hck⟩ := hrel
                  have HBK := Lib.hid hbk
                  have HCK := Lib.hid hck
                  clear hbk hck
                  obtain ⟨cu, hcu⟩ : ∃ cu, wayF capS wayB s0 (upL a b (k - 1)) = cu := ⟨_, rfl⟩
                  rw [hcu] at HCK
                  have HCU := Lib.hid hcu
                  clear hcu
                  by_cases hlt : k < a
                  · have hlk : (k : Int) < (a : Int) := by omega
                    have hdk : decide ((k : Int) < (a : Int)) = true := decide_eq_true hlk
                    obtain ⟨d, hd⟩ : ∃ d, a - k = d := ⟨_, rfl⟩
                    have hsub : (a : Int) - (k : Int) = (d : Int) := by omega
                    have hwd : IntKind.i64.wrap (d : Int) = (d : Int) := by rw [IntKind.wrap_i64]; omega
                    obtain ⟨g1, e1, e2⟩ := HCK.out.tab.read (a := k) (b := b) (by omega) (by omega) (by omega) (by omega) (by omega)
                    obtain ⟨g2, e3, e4⟩ := HCK.out.tab.read (a := d) (b := b) (by omega) (by omega) (by omega) (by omega) (by omega)
                    have e5 := HCK.out.row.1
                    have e6 := HCK.out.cur
                    have e7 := HCK.out.frozen (m + 1)
                    rw [show m + 1 = b from hb'] at e6 e7
                    have q1 := wayB_ok _ k b (Nat.le_refl _) (by omega) (by omega)
                    have q2 := wayB_ok _ d b (Nat.le_refl _) (by omega) (by omega)
                    obtain ⟨v1, hv1⟩ : ∃ v1, wayB k b = v1 := ⟨_, rfl⟩
                    obtain ⟨v2, hv2⟩ : ∃ v2, wayB d b = v2 := ⟨_, rfl⟩
                    rw [hv1] at e2 q1
                    rw [hv2] at e4 q2
                    obtain ⟨cp, hcp⟩ : ∃ cp, capS v1 v2 = cp := ⟨_, rfl⟩
                    have hck : WayOk cp := by rw [← hcp, ← (cap_same q1 q2).1]; exact (cap_same q1 q2).2
                    obtain ⟨hck1, hck2⟩ := hck
                    have hcb := HRNG.out (upL a b (k - 1)) (fun c hc => ((upL_pre (by omega)).subset hc))
                    rw [HCU.out] at hcb
                    have hwa : IntKind.i64.wrap (cu + cp) = cu + cp := by rw [IntKind.wrap_i64]; omega
                    obtain ⟨nv, hnv⟩ : ∃ nv, min (cu + cp) 1000000000000001 = nv := ⟨_, rfl⟩
                    have HNX := Lib.hid (show wayF capS wayB s0 (upL a b (k + 1 - 1)) = nv by
                      rw [show k + 1 - 1 = (k - 1) + 1 by omega, upL_succ, wayF_snocS, HCU.out]
                      rw [show k - 1 + 1 = k by omega, hd]
                      simp only [hv1, hv2, hcp, hnv])
                    have HNV := Lib.hid hnv
                    have HCP := Lib.hid hcp
                    have HQ1 := Lib.hid q1
                    have HQ2 := Lib.hid q2
                    clear hnv hcp q1 q2 hv1 hv2 hd hcb
                    have hi0 : (k : Int) < (A : Int) + 1 := by omega
                    have hi1 : (d : Int) < (A : Int) + 1 := by omega
                    have hi2 : (b : Int) < (H : Int) + 1 := by omega
                    have hi3 : (a : Int) < (A : Int) + 1 := by omega
                    go_wp2_with fail
                    refine region_E (S := fun wq => wq.cell? ⟨F, a, none⟩ = some (.slice (some ⟨g, 0, none⟩) (H + 1) (H + 1)) ∧ wq.cell? ⟨g, b, none⟩ = some (.int .i64 cu) ∧ wq.cell? ⟨F, k, none⟩ = some (.slice (some ⟨g1, 0, none⟩) (H + 1) (H + 1)) ∧ wq.cell? ⟨g1, b, none⟩ = some (.int .i64 v1) ∧ wq.cell? ⟨F, d, none⟩ = some (.slice (some ⟨g2, 0, none⟩) (H + 1) (H + 1)) ∧ wq.cell? ⟨g2, b, none⟩ = some (.int .i64 v2)) 32 (by kernel_rfl) ⟨e5, e6, e1, e2, e3, e4⟩ (fun hH0 => ?_)
                    refine AnyE.take (i := 0) (v := ?_) (ops_at rfl) (by kernel_rfl) (by kernel_rfl) (by kernel_rfl) (by kernel_rfl) (fun _ _ _ h => h) (Or.inl ⟨by rfl, ?yn1v0⟩) (by assumption) ?nn1v0
                    case yn1v0 => (intro wS hSw; (try dsimp only at hSw); (have k0 := hSw.1); (have k1 := hSw.2.1); (have k2 := hSw.2.2.1); (have k3 := hSw.2.2.2.1); (have k4 := hSw.2.2.2.2.1); (have k5 := hSw.2.2.2.2.2); go_simp; try rfl)
                    try simp only [Act.put, List.setIfInBounds_toArray, List.set_cons_zero, List.set_cons_succ]
                    refine AnyE.take (i := 1) (v := ?_) (ops_at rfl) (by kernel_rfl) (by kernel_rfl) (by kernel_rfl) (by kernel_rfl) (fun _ _ _ h => h) (Or.inl ⟨by rfl, ?yn1v1⟩) (by assumption) ?nn1v1
                    case yn1v1 => (intro wS hSw; (try dsimp only at hSw); (have k0 := hSw.1); (have k1 := hSw.2.1); (have k2 := hSw.2.2.1); (have k3 := hSw.2.2.2.1); (have k4 := hSw.2.2.2.2.1); (have k5 := hSw.2.2.2.2.2); go_simp; try rfl)
                    try simp only [Act.put, List.setIfInBounds_toArray, List.set_cons_zero, List.set_cons_succ]
                    refine AnyE.take (i := 2) (v := ?_) (ops_at rfl) (by kernel_rfl) (by kernel_rfl) (by kernel_rfl) (by kernel_rfl) (fun _ _ _ h => h) (Or.inl ⟨by rfl, ?yn1v2⟩) (by assumption) ?nn1v2
                    case yn1v2 => (intro wS hSw; (try dsimp only at hSw); (have k0 := hSw.1); (have k1 := hSw.2.1); (have k2 := hSw.2.2.1); (have k3 := hSw.2.2.2.1); (have k4 := hSw.2.2.2.2.1); (have k5 := hSw.2.2.2.2.2); go_simp; try rfl)
                    try simp only [Act.put, List.setIfInBounds_toArray, List.set_cons_zero, List.set_cons_succ]
                    refine AnyE.take (i := 3) (v := ?_) (ops_at rfl) (by kernel_rfl) (by kernel_rfl) (by kernel_rfl) (by kernel_rfl) (fun _ _ _ h => h) (Or.inl ⟨by rfl, ?yn1v3⟩) (by assumption) ?nn1v3
                    case yn1v3 => (intro wS hSw; (try dsimp only at hSw); (have k0 := hSw.1); (have k1 := hSw.2.1); (have k2 := hSw.2.2.1); (have k3 := hSw.2.2.2.1); (have k4 := hSw.2.2.2.2.1); (have k5 := hSw.2.2.2.2.2); go_simp; try rfl)
                    try simp only [Act.put, List.setIfInBounds_toArray, List.set_cons_zero, List.set_cons_succ]
                    refine AnyE.take (i := 4) (v := ?_) (ops_at rfl) (by kernel_rfl) (by kernel_rfl) (by kernel_rfl) (by kernel_rfl) (fun _ _ _ h => h) (Or.inl ⟨by rfl, ?yn1v4⟩) (by assumption) ?nn1v4
                    case yn1v4 => (intro wS hSw; (try dsimp only at hSw); (have k0 := hSw.1); (have k1 := hSw.2.1); (have k2 := hSw.2.2.1); (have k3 := hSw.2.2.2.1); (have k4 := hSw.2.2.2.2.1); (have k5 := hSw.2.2.2.2.2); go_simp; try rfl)
                    try simp only [Act.put, List.setIfInBounds_toArray, List.set_cons_zero, List.set_cons_succ]
                    refine AnyE.take (i := 5) (v := ?_) (ops_at rfl) (by kernel_rfl) (by kernel_rfl) (by kernel_rfl) (by kernel_rfl) (fun _ _ _ h => h) (Or.inl ⟨by rfl, ?yn1v5⟩) (by assumption) ?nn1v5
                    case yn1v5 => (intro wS hSw; (try dsimp only at hSw); (have k0 := hSw.1); (have k1 := hSw.2.1); (have k2 := hSw.2.2.1); (have k3 := hSw.2.2.2.1); (have k4 := hSw.2.2.2.2.1); (have k5 := hSw.2.2.2.2.2); go_simp; try rfl)
                    try simp only [Act.put, List.setIfInBounds_toArray, List.set_cons_zero, List.set_cons_succ]
                    refine AnyE.take (i := 6) (v := ?_) (ops_at rfl) (by kernel_rfl) (by kernel_rfl) (by kernel_rfl) (by kernel_rfl) (fun _ _ _ h => h) (Or.inl ⟨by rfl, ?yn1v6⟩) (by assumption) ?nn1v6
                    case yn1v6 => (intro wS hSw; (try dsimp only at hSw); (have k0 := hSw.1); (have k1 := hSw.2.1); (have k2 := hSw.2.2.1); (have k3 := hSw.2.2.2.1); (have k4 := hSw.2.2.2.2.1); (have k5 := hSw.2.2.2.2.2); go_simp; try rfl)
                    try simp only [Act.put, List.setIfInBounds_toArray, List.set_cons_zero, List.set_cons_succ]
                    refine AnyE.take (i := 7) (v := ?_) (ops_at rfl) (by kernel_rfl) (by kernel_rfl) (by kernel_rfl) (by kernel_rfl) (fun _ _ _ h => h) (Or.inl ⟨by rfl, ?yn1v7⟩) (by assumption) ?nn1v7
                    case yn1v7 => (intro wS hSw; (try dsimp only at hSw); (have k0 := hSw.1); (have k1 := hSw.2.1); (have k2 := hSw.2.2.1); (have k3 := hSw.2.2.2.1); (have k4 := hSw.2.2.2.2.1); (have k5 := hSw.2.2.2.2.2); go_simp; try rfl)
                    try simp only [Act.put, List.setIfInBounds_toArray, List.set_cons_zero, List.set_cons_succ]
                    refine AnyE.take (i := 8) (v := ?_) (ops_at rfl) (by kernel_rfl) (by kernel_rfl) (by kernel_rfl) (by kernel_rfl) (fun _ _ _ h => h) (Or.inl ⟨by rfl, ?yn1v8⟩) (by assumption) ?nn1v8
                    case yn1v8 => (intro wS hSw; (try dsimp only at hSw); (have k0 := hSw.1); (have k1 := hSw.2.1); (have k2 := hSw.2.2.1); (have k3 := hSw.2.2.2.1); (have k4 := hSw.2.2.2.2.1); (have k5 := hSw.2.2.2.2.2); go_simp; try rfl)
                    try simp only [Act.put, List.setIfInBounds_toArray, List.set_cons_zero, List.set_cons_succ]
                    refine AnyE.take (i := 9) (v := ?_) (ops_at rfl) (by kernel_rfl) (by kernel_rfl) (by kernel_rfl) (by kernel_rfl) (fun _ _ _ h => h) (Or.inl ⟨by rfl, ?yn1v9⟩) (by assumption) ?nn1v9
                    case yn1v9 => (intro wS hSw; (try dsimp only at hSw); (have k0 := hSw.1); (have k1 := hSw.2.1); (have k2 := hSw.2.2.1); (have k3 := hSw.2.2.2.1); (have k4 := hSw.2.2.2.2.1); (have k5 := hSw.2.2.2.2.2); go_simp; try rfl)
                    try simp only [Act.put, List.setIfInBounds_toArray, List.set_cons_zero, List.set_cons_succ]
                    refine AnyE.take (i := 10) (v := ?_) (ops_at rfl) (by kernel_rfl) (by kernel_rfl) (by kernel_rfl) (by kernel_rfl) (fun _ _ _ h => h) (Or.inl ⟨by rfl, ?yn1v10⟩) (by assumption) ?nn1v10
                    case yn1v10 => (intro wS hSw; (try dsimp only at hSw); (have k0 := hSw.1); (have k1 := hSw.2.1); (have k2 := hSw.2.2.1); (have k3 := hSw.2.2.2.1); (have k4 := hSw.2.2.2.2.1); (have k5 := hSw.2.2.2.2.2); go_simp; try rfl)
                    try simp only [Act.put, List.setIfInBounds_toArray, List.set_cons_zero, List.set_cons_succ]
                    refine AnyE.take (i := 11) (v := ?_) (ops_at rfl) (by kernel_rfl) (by kernel_rfl) (by kernel_rfl) (by kernel_rfl) (fun _ _ _ h => h) (Or.inl ⟨by rfl, ?yn1v11⟩) (by assumption) ?nn1v11
                    case yn1v11 => (intro wS hSw; (try dsimp only at hSw); (have k0 := hSw.1); (have k1 := hSw.2.1); (have k2 := hSw.2.2.1); (have k3 := hSw.2.2.2.1); (have k4 := hSw.2.2.2.2.1); (have k5 := hSw.2.2.2.2.2); go_simp; try rfl)
                    try simp only [Act.put, List.setIfInBounds_toArray, List.set_cons_zero, List.set_cons_succ]
                    refine AnyE.take (i := 12) (v := ?_) (ops_at rfl) (by kernel_rfl) (by kernel_rfl) (by kernel_rfl) (by kernel_rfl) (fun _ _ _ h => h) (Or.inl ⟨by rfl, ?yn1v12⟩) (by assumption) ?nn1v12
                    case yn1v12 => (intro wS hSw; (try dsimp only at hSw); (have k0 := hSw.1); (have k1 := hSw.2.1); (have k2 := hSw.2.2.1); (have k3 := hSw.2.2.2.1); (have k4 := hSw.2.2.2.2.1); (have k5 := hSw.2.2.2.2.2); go_simp; try rfl)
                    try simp only [Act.put, List.setIfInBounds_toArray, List.set_cons_zero, List.set_cons_succ]
                    refine AnyE.take (i := 13) (v := ?_) (ops_at rfl) (by kernel_rfl) (by kernel_rfl) (by kernel_rfl) (by kernel_rfl) (fun _ _ _ h => h) (Or.inl ⟨by rfl, ?yn1v13⟩) (by assumption) ?nn1v13
                    case yn1v13 => (intro wS hSw; (try dsimp only at hSw); (have k0 := hSw.1); (have k1 := hSw.2.1); (have k2 := hSw.2.2.1); (have k3 := hSw.2.2.2.1); (have k4 := hSw.2.2.2.2.1); (have k5 := hSw.2.2.2.2.2); go_simp; try rfl)
                    try simp only [Act.put, List.setIfInBounds_toArray, List.set_cons_zero, List.set_cons_succ]
                    refine AnyE.take (i := 14) (v := ?_) (ops_at rfl) (by kernel_rfl) (by kernel_rfl) (by kernel_rfl) (by kernel_rfl) (fun _ _ _ h => h) (Or.inl ⟨by rfl, ?yn1v14⟩) (by assumption) ?nn1v14
                    case yn1v14 => (intro wS hSw; (try dsimp only at hSw); (have k0 := hSw.1); (have k1 := hSw.2.1); (have k2 := hSw.2.2.1); (have k3 := hSw.2.2.2.1); (have k4 := hSw.2.2.2.2.1); (have k5 := hSw.2.2.2.2.2); go_simp; try rfl)
                    try simp only [Act.put, List.setIfInBounds_toArray, List.set_cons_zero, List.set_cons_succ]
                    refine AnyE.take (i := 15) (v := ?_) (ops_at rfl) (by kernel_rfl) (by kernel_rfl) (by kernel_rfl) (by kernel_rfl) (fun _ _ _ h => h) (Or.inl ⟨by rfl, ?yn1v15⟩) (by assumption) ?nn1v15
                    case yn1v15 => (intro wS hSw; (try dsimp only at hSw); (have k0 := hSw.1); (have k1 := hSw.2.1); (have k2 := hSw.2.2.1); (have k3 := hSw.2.2.2.1); (have k4 := hSw.2.2.2.2.1); (have k5 := hSw.2.2.2.2.2); go_simp; try rfl)
                    try simp only [Act.put, List.setIfInBounds_toArray, List.set_cons_zero, List.set_cons_succ]
                    refine AnyE.take (i := 16) (v := ?_) (ops_at rfl) (by kernel_rfl) (by kernel_rfl) (by kernel_rfl) (by kernel_rfl) (fun _ _ _ h => h) (Or.inl ⟨by rfl, ?yn1v16⟩) (by assumption) ?nn1v16
                    case yn1v16 => (intro wS hSw; (try dsimp only at hSw); (have k0 := hSw.1); (have k1 := hSw.2.1); (have k2 := hSw.2.2.1); (have k3 := hSw.2.2.2.1); (have k4 := hSw.2.2.2.2.1); (have k5 := hSw.2.2.2.2.2); go_simp; try rfl)
                    try simp only [Act.put, List.setIfInBounds_toArray, List.set_cons_zero, List.set_cons_succ]
                    refine AnyE.take (i := 17) (v := ?_) (ops_at rfl) (by kernel_rfl) (by kernel_rfl) (by kernel_rfl) (by kernel_rfl) (fun _ _ _ h => h) (Or.inl ⟨by rfl, ?yn1v17⟩) (by assumption) ?nn1v17
                    case yn1v17 => (intro wS hSw; (try dsimp only at hSw); (have k0 := hSw.1); (have k1 := hSw.2.1); (have k2 := hSw.2.2.1); (have k3 := hSw.2.2.2.1); (have k4 := hSw.2.2.2.2.1); (have k5 := hSw.2.2.2.2.2); go_simp; try rfl)
                    try simp only [Act.put, List.setIfInBounds_toArray, List.set_cons_zero, List.set_cons_succ]
                    refine AnyE.take (i := 18) (v := ?_) (ops_at rfl) (by kernel_rfl) (by kernel_rfl) (by kernel_rfl) (by kernel_rfl) (fun _ _ _ h => h) (Or.inl ⟨by rfl, ?yn1v18⟩) (by assumption) ?nn1v18
                    case yn1v18 => (intro wS hSw; (try dsimp only at hSw); (have k0 := hSw.1); (have k1 := hSw.2.1); (have k2 := hSw.2.2.1); (have k3 := hSw.2.2.2.1); (have k4 := hSw.2.2.2.2.1); (have k5 := hSw.2.2.2.2.2); go_simp; try rfl)
                    try simp only [Act.put, List.setIfInBounds_toArray, List.set_cons_zero, List.set_cons_succ]
                    refine AnyE.take (i := 19) (v := ?_) (ops_at rfl) (by kernel_rfl) (by kernel_rfl) (by kernel_rfl) (by kernel_rfl) (fun _ _ _ h => h) (Or.inl ⟨by rfl, ?yn1v19⟩) (by assumption) ?nn1v19
                    case yn1v19 => (intro wS hSw; (try dsimp only at hSw); (have k0 := hSw.1); (have k1 := hSw.2.1); (have k2 := hSw.2.2.1); (have k3 := hSw.2.2.2.1); (have k4 := hSw.2.2.2.2.1); (have k5 := hSw.2.2.2.2.2); go_simp; try rfl)
                    try simp only [Act.put, List.setIfInBounds_toArray, List.set_cons_zero, List.set_cons_succ]
                    refine AnyE.take (i := 20) (v := ?_) (ops_at rfl) (by kernel_rfl) (by kernel_rfl) (by kernel_rfl) (by kernel_rfl) (fun _ _ _ h => h) (Or.inl ⟨by rfl, ?yn1v20⟩) (by assumption) ?nn1v20
                    case yn1v20 => (intro wS hSw; (try dsimp only at hSw); (have k0 := hSw.1); (have k1 := hSw.2.1); (have k2 := hSw.2.2.1); (have k3 := hSw.2.2.2.1); (have k4 := hSw.2.2.2.2.1); (have k5 := hSw.2.2.2.2.2); go_simp; try rfl)
                    try simp only [Act.put, List.setIfInBounds_toArray, List.set_cons_zero, List.set_cons_succ]
                    refine AnyE.take (i := 21) (v := ?_) (ops_at rfl) (by kernel_rfl) (by kernel_rfl) (by kernel_rfl) (by kernel_rfl) (fun _ _ _ h => h) (Or.inl ⟨by rfl, ?yn1v21⟩) (by assumption) ?nn1v21
                    case yn1v21 => (intro wS hSw; (try dsimp only at hSw); (have k0 := hSw.1); (have k1 := hSw.2.1); (have k2 := hSw.2.2.1); (have k3 := hSw.2.2.2.1); (have k4 := hSw.2.2.2.2.1); (have k5 := hSw.2.2.2.2.2); go_simp; try rfl)
                    try simp only [Act.put, List.setIfInBounds_toArray, List.set_cons_zero, List.set_cons_succ]
                    refine AnyE.take (i := 22) (v := ?_) (ops_at rfl) (by kernel_rfl) (by kernel_rfl) (by kernel_rfl) (by kernel_rfl) (fun _ _ _ h => h) (Or.inl ⟨by rfl, ?yn1v22⟩) (by assumption) ?nn1v22
                    case yn1v22 => (intro wS hSw; (try dsimp only at hSw); (have k0 := hSw.1); (have k1 := hSw.2.1); (have k2 := hSw.2.2.1); (have k3 := hSw.2.2.2.1); (have k4 := hSw.2.2.2.2.1); (have k5 := hSw.2.2.2.2.2); go_simp; try rfl)
                    try simp only [Act.put, List.setIfInBounds_toArray, List.set_cons_zero, List.set_cons_succ]
                    refine AnyE.take (i := 23) (v := ?_) (ops_at rfl) (by kernel_rfl) (by kernel_rfl) (by kernel_rfl) (by kernel_rfl) (fun _ _ _ h => h) (Or.inl ⟨by rfl, ?yn1v23⟩) (by assumption) ?nn1v23
                    case yn1v23 => (intro wS hSw; (try dsimp only at hSw); (have k0 := hSw.1); (have k1 := hSw.2.1); (have k2 := hSw.2.2.1); (have k3 := hSw.2.2.2.1); (have k4 := hSw.2.2.2.2.1); (have k5 := hSw.2.2.2.2.2); go_simp; try rfl)
                    try simp only [Act.put, List.setIfInBounds_toArray, List.set_cons_zero, List.set_cons_succ]
                    refine AnyE.take (i := 24) (v := ?_) (ops_at rfl) (by kernel_rfl) (by kernel_rfl) (by kernel_rfl) (by kernel_rfl) (fun _ _ _ h => h) (Or.inl ⟨by rfl, ?yn1v24⟩) (by assumption) ?nn1v24
                    case yn1v24 => (intro wS hSw; (try dsimp only at hSw); (have k0 := hSw.1); (have k1 := hSw.2.1); (have k2 := hSw.2.2.1); (have k3 := hSw.2.2.2.1); (have k4 := hSw.2.2.2.2.1); (have k5 := hSw.2.2.2.2.2); go_simp; try rfl)
                    try simp only [Act.put, List.setIfInBounds_toArray, List.set_cons_zero, List.set_cons_succ]
                    refine AnyE.take (i := 25) (v := ?_) (ops_at rfl) (by kernel_rfl) (by kernel_rfl) (by kernel_rfl) (by kernel_rfl) (fun _ _ _ h => h) (Or.inl ⟨by rfl, ?yn1v25⟩) (by assumption) ?nn1v25
                    case yn1v25 => (intro wS hSw; (try dsimp only at hSw); (have k0 := hSw.1); (have k1 := hSw.2.1); (have k2 := hSw.2.2.1); (have k3 := hSw.2.2.2.1); (have k4 := hSw.2.2.2.2.1); (have k5 := hSw.2.2.2.2.2); go_simp; try rfl)
                    try simp only [Act.put, List.setIfInBounds_toArray, List.set_cons_zero, List.set_cons_succ]
                    refine AnyE.take (i := 26) (v := ?_) (ops_at rfl) (by kernel_rfl) (by kernel_rfl) (by kernel_rfl) (by kernel_rfl) (fun _ _ _ h => h) (Or.inl ⟨by rfl, ?yn1v26⟩) (by assumption) ?nn1v26
                    case yn1v26 => (intro wS hSw; (try dsimp only at hSw); (have k0 := hSw.1); (have k1 := hSw.2.1); (have k2 := hSw.2.2.1); (have k3 := hSw.2.2.2.1); (have k4 := hSw.2.2.2.2.1); (have k5 := hSw.2.2.2.2.2); go_simp; try rfl)
                    try simp only [Act.put, List.setIfInBounds_toArray, List.set_cons_zero, List.set_cons_succ]
                    refine AnyE.take (i := 27) (v := ?_) (ops_at rfl) (by kernel_rfl) (by kernel_rfl) (by kernel_rfl) (by kernel_rfl) (fun _ _ _ h => h) (Or.inl ⟨by rfl, ?yn1v27⟩) (by assumption) ?nn1v27
                    case yn1v27 => (intro wS hSw; (try dsimp only at hSw); (have k0 := hSw.1); (have k1 := hSw.2.1); (have k2 := hSw.2.2.1); (have k3 := hSw.2.2.2.1); (have k4 := hSw.2.2.2.2.1); (have k5 := hSw.2.2.2.2.2); go_simp; try rfl)
                    try simp only [Act.put, List.setIfInBounds_toArray, List.set_cons_zero, List.set_cons_succ]
                    refine AnyE.of_ready (rs := [28]) (by kernel_rfl) (by simp) ?_
                    refine ReadyE.cons (ops_at rfl) (fun K hK => ?_) ReadyE.nil
                    go_simp
                    refine (times_any v1 v2 HQ1.out HQ2.out _ cp HCP.out).mono ?_
                    rintro e wz ⟨rfl, rfl⟩
                    refine hK.out _ _ (fun _ => hH0) (fun _ => ?_)
                    clear hK K
                    refine AnyE.of_ready (rs := [29]) (by kernel_rfl) (by simp) ?_
                    refine ReadyE.cons (ops_at rfl) (fun K hK => ?_) ReadyE.nil
                    go_simp
                    refine hK.out _ _ (fun _ => hH0) (fun _ => ?_)
                    clear hK K
                    refine AnyE.of_ready (rs := [30]) (by kernel_rfl) (by simp) ?_
                    refine ReadyE.cons (ops_at rfl) (fun K hK => ?_) ReadyE.nil
                    go_simp
                    refine (l1Least_any (cu + cp) 1000000000000001 nv HNV.out _).mono ?_
                    rintro e wz ⟨rfl, rfl⟩
                    refine hK.out _ _ (fun _ => hH0) (fun _ => ?_)
                    clear hK K
                    refine AnyE.take (i := 31) (v := ?_) (ops_at rfl) (by kernel_rfl) (by kernel_rfl) (by kernel_rfl) (by kernel_rfl) (fun _ _ _ h => h) (Or.inl ⟨by rfl, ?yn1v31⟩) (by assumption) ?nn1v31
                    case yn1v31 => (intro wS hSw; (try dsimp only at hSw); (have k0 := hSw.1); (have k1 := hSw.2.1); (have k2 := hSw.2.2.1); (have k3 := hSw.2.2.2.1); (have k4 := hSw.2.2.2.2.1); (have k5 := hSw.2.2.2.2.2); go_simp; try rfl)
                    try simp only [Act.put, List.setIfInBounds_toArray, List.set_cons_zero, List.set_cons_succ]
                    refine AnyE.of_ready (rs := [32]) (by kernel_rfl) (by simp) ?_
                    refine ReadyE.cons (ops_at rfl) (fun K hK => ?_) ReadyE.nil
                    go_simp
                    refine hK.out _ _ (fun h => absurd rfl h) (fun _ => ?_)
                    clear hK K
                    refine AnyE.end_ (by kernel_rfl) ?_ _
                    clear e1 e2 e3 e4 e5 e6 e7 hH0
                    go_wp2
                    go_roundw
                    case rel => exact ⟨k + 1, by omega, by omega, by go_num, drewB (HBK.out.setCell (p := ⟨g, b, none⟩) (by show w.heap.size ≤ g; omega) _), by rw [HNX.out]; have h := HCK.out.set (by omega) hlm nv; rw [show m + 1 = b from hb'] at h; exact h.below (drewB (Below.refl _ _))⟩
                    case measure => simp [intOf]; omega
                  · have hka : k = a := by omega
                    have hlk : ¬ (k : Int) < (a : Int) := by omega
                    have hdk : decide ((k : Int) < (a : Int)) = false := decide_eq_false hlk
                    have HBn1w := Lib.hid HBK.out
                    have HCn1w := Lib.hid (show TabC _ w.heap.size F g A H a m (wayF capS wayB s0 (upL a b (a - 1))) by rw [← hka, show upL k b (k - 1) = upL a b (k - 1) by rw [hka], HCU.out, hka]; exact HCK.out)
                    clear hlk hdk HCU hka
                    go_wp2
                    go_loopw [10] (fun i wk => ∃ k : Nat, 1 ≤ k ∧ k ≤ b ∧ i = .int .i64 (k : Int) ∧ Below w.heap.size w wk ∧ TabC wk w.heap.size F g A H a m (wayF capS wayB s0 (upL a b (a - 1) ++ lvL a b (k - 1)))) (fun i _ => 25 - (intOf i).toNat)
                    case atStart => exact ⟨1, by omega, by omega, rfl, HBn1w.out, by rw [show (1 : Nat) - 1 = 0 from rfl, show lvL a b 0 = [] from rfl, List.append_nil]; exact HCn1w.out⟩
                    case round =>
                      obtain ⟨k, hk1, hk2, rfl, hbk, hck⟩ := hrel
                      have HBK := Lib.hid hbk
                      have HCK := Lib.hid hck
                      clear hbk hck
                      obtain ⟨cu, hcu⟩ : ∃ cu, wayF capS wayB s0 (upL a b (a - 1) ++ lvL a b (k - 1)) = cu := ⟨_, rfl⟩
                      rw [hcu] at HCK
                      have HCU := Lib.hid hcu
                      clear hcu
                      by_cases hlt : k < b
                      · have hlk : (k : Int) < (b : Int) := by omega
                        have hdk : decide ((k : Int) < (b : Int)) = true := decide_eq_true hlk
                        obtain ⟨d, hd⟩ : ∃ d, b - k = d := ⟨_, rfl⟩
                        have hsub : (b : Int) - (k : Int) = (d : Int) := by omega
                        have hwd : IntKind.i64.wrap (d : Int) = (d : Int) := by rw [IntKind.wrap_i64]; omega
                        obtain ⟨g1, e1, e2⟩ := HCK.out.tab.read (a := a) (b := k) (by omega) (by omega) (by omega) (by omega) (by omega)
                        obtain ⟨g2, e3, e4⟩ := HCK.out.tab.read (a := a) (b := d) (by omega) (by omega) (by omega) (by omega) (by omega)
                        have e5 := HCK.out.row.1
                        have e6 := HCK.out.cur
                        have e7 := HCK.out.frozen (m + 1)
                        rw [show m + 1 = b from hb'] at e6 e7
                        obtain rfl : g1 = g := by have h := e1.symm.trans e5; simp at h; exact h
                        obtain rfl : g2 = g1 := by have h := e3.symm.trans e5; simp at h; exact h
                        have q1 := wayB_ok _ a k (Nat.le_refl _) (by omega) (by omega)
                        have q2 := wayB_ok _ a d (Nat.le_refl _) (by omega) (by omega)
                        obtain ⟨v1, hv1⟩ : ∃ v1, wayB a k = v1 := ⟨_, rfl⟩
                        obtain ⟨v2, hv2⟩ : ∃ v2, wayB a d = v2 := ⟨_, rfl⟩
                        rw [hv1] at e2 q1
                        rw [hv2] at e4 q2
                        obtain ⟨cp, hcp⟩ : ∃ cp, capS v1 v2 = cp := ⟨_, rfl⟩
                        have hck : WayOk cp := by rw [← hcp, ← (cap_same q1 q2).1]; exact (cap_same q1 q2).2
                        obtain ⟨hck1, hck2⟩ := hck
                        have hcb := HRNG.out (upL a b (a - 1) ++ lvL a b (k - 1)) (fun c hc => ((lvL_pre (by omega)).subset hc))
                        rw [HCU.out] at hcb
                        have hwa : IntKind.i64.wrap (cu + cp) = cu + cp := by rw [IntKind.wrap_i64]; omega
                        obtain ⟨nv, hnv⟩ : ∃ nv, min (cu + cp) 1000000000000001 = nv := ⟨_, rfl⟩
                        have HNX := Lib.hid (show wayF capS wayB s0 (upL a b (a - 1) ++ lvL a b (k + 1 - 1)) = nv by
                          rw [show k + 1 - 1 = (k - 1) + 1 by omega, lvL_succ, ← List.append_assoc, wayF_snocS, HCU.out]
                          rw [show k - 1 + 1 = k by omega, hd]
                          simp only [hv1, hv2, hcp, hnv])
                        have HNV := Lib.hid hnv
                        have HCP := Lib.hid hcp
                        have HQ1 := Lib.hid q1
                        have HQ2 := Lib.hid q2
                        clear hnv hcp q1 q2 hv1 hv2 hd hcb
                        have hi0 : (a : Int) < (A : Int) + 1 := by omega
                        have hi1 : (k : Int) < (H : Int) + 1 := by omega
                        have hi2 : (d : Int) < (H : Int) + 1 := by omega
                        have hi3 : (b : Int) < (H : Int) + 1 := by omega
                        go_wp2_with fail
                        refine region_E (S := fun wq => wq.cell? ⟨F, a, none⟩ = some (.slice (some ⟨g2, 0, none⟩) (H + 1) (H + 1)) ∧ wq.cell? ⟨g2, b, none⟩ = some (.int .i64 cu) ∧ wq.cell? ⟨F, a, none⟩ = some (.slice (some ⟨g2, 0, none⟩) (H + 1) (H + 1)) ∧ wq.cell? ⟨g2, k, none⟩ = some (.int .i64 v1) ∧ wq.cell? ⟨F, a, none⟩ = some (.slice (some ⟨g2, 0, none⟩) (H + 1) (H + 1)) ∧ wq.cell? ⟨g2, d, none⟩ = some (.int .i64 v2)) 32 (by kernel_rfl) ⟨e5, e6, e1, e2, e3, e4⟩ (fun hH0 => ?_)
                        refine AnyE.take (i := 0) (v := ?_) (ops_at rfl) (by kernel_rfl) (by kernel_rfl) (by kernel_rfl) (by kernel_rfl) (fun _ _ _ h => h) (Or.inl ⟨by rfl, ?yn1w0⟩) (by assumption) ?nn1w0
                        case yn1w0 => (intro wS hSw; (try dsimp only at hSw); (have k0 := hSw.1); (have k1 := hSw.2.1); (have k2 := hSw.2.2.1); (have k3 := hSw.2.2.2.1); (have k4 := hSw.2.2.2.2.1); (have k5 := hSw.2.2.2.2.2); go_simp; try rfl)
                        try simp only [Act.put, List.setIfInBounds_toArray, List.set_cons_zero, List.set_cons_succ]
                        refine AnyE.take (i := 1) (v := ?_) (ops_at rfl) (by kernel_rfl) (by kernel_rfl) (by kernel_rfl) (by kernel_rfl) (fun _ _ _ h => h) (Or.inl ⟨by rfl, ?yn1w1⟩) (by assumption) ?nn1w1
                        case yn1w1 => (intro wS hSw; (try dsimp only at hSw); (have k0 := hSw.1); (have k1 := hSw.2.1); (have k2 := hSw.2.2.1); (have k3 := hSw.2.2.2.1); (have k4 := hSw.2.2.2.2.1); (have k5 := hSw.2.2.2.2.2); go_simp; try rfl)
                        try simp only [Act.put, List.setIfInBounds_toArray, List.set_cons_zero, List.set_cons_succ]
                        refine AnyE.take (i := 2) (v := ?_) (ops_at rfl) (by kernel_rfl) (by kernel_rfl) (by kernel_rfl) (by kernel_rfl) (fun _ _ _ h => h) (Or.inl ⟨by rfl, ?yn1w2⟩) (by assumption) ?nn1w2
                        case yn1w2 => (intro wS hSw; (try dsimp only at hSw); (have k0 := hSw.1); (have k1 := hSw.2.1); (have k2 := hSw.2.2.1); (have k3 := hSw.2.2.2.1); (have k4 := hSw.2.2.2.2.1); (have k5 := hSw.2.2.2.2.2); go_simp; try rfl)
                        try simp only [Act.put, List.setIfInBounds_toArray, List.set_cons_zero, List.set_cons_succ]
                        refine AnyE.take (i := 3) (v := ?_) (ops_at rfl) (by kernel_rfl) (by kernel_rfl) (by kernel_rfl) (by kernel_rfl) (fun _ _ _ h => h) (Or.inl ⟨by rfl, ?yn1w3⟩) (by assumption) ?nn1w3
                        case yn1w3 => (intro wS hSw; (try dsimp only at hSw); (have k0 := hSw.1); (have k1 := hSw.2.1); (have k2 := hSw.2.2.1); (have k3 := hSw.2.2.2.1); (have k4 := hSw.2.2.2.2.1); (have k5 := hSw.2.2.2.2.2); go_simp; try rfl)
                        try simp only [Act.put, List.setIfInBounds_toArray, List.set_cons_zero, List.set_cons_succ]
                        refine AnyE.take (i := 4) (v := ?_) (ops_at rfl) (by kernel_rfl) (by kernel_rfl) (by kernel_rfl) (by kernel_rfl) (fun _ _ _ h => h) (Or.inl ⟨by rfl, ?yn1w4⟩) (by assumption) ?nn1w4
                        case yn1w4 => (intro wS hSw; (try dsimp only at hSw); (have k0 := hSw.1); (have k1 := hSw.2.1); (have k2 := hSw.2.2.1); (have k3 := hSw.2.2.2.1); (have k4 := hSw.2.2.2.2.1); (have k5 := hSw.2.2.2.2.2); go_simp; try rfl)
                        try simp only [Act.put, List.setIfInBounds_toArray, List.set_cons_zero, List.set_cons_succ]
                        refine AnyE.take (i := 5) (v := ?_) (ops_at rfl) (by kernel_rfl) (by kernel_rfl) (by kernel_rfl) (by kernel_rfl) (fun _ _ _ h => h) (Or.inl ⟨by rfl, ?yn1w5⟩) (by assumption) ?nn1w5
                        case yn1w5 => (intro wS hSw; (try dsimp only at hSw); (have k0 := hSw.1); (have k1 := hSw.2.1); (have k2 := hSw.2.2.1); (have k3 := hSw.2.2.2.1); (have k4 := hSw.2.2.2.2.1); (have k5 := hSw.2.2.2.2.2); go_simp; try rfl)
                        try simp only [Act.put, List.setIfInBounds_toArray, List.set_cons_zero, List.set_cons_succ]
                        refine AnyE.take (i := 6) (v := ?_) (ops_at rfl) (by kernel_rfl) (by kernel_rfl) (by kernel_rfl) (by kernel_rfl) (fun _ _ _ h => h) (Or.inl ⟨by rfl, ?yn1w6⟩) (by assumption) ?nn1w6
                        case yn1w6 => (intro wS hSw; (try dsimp only at hSw); (have k0 := hSw.1); (have k1 := hSw.2.1); (have k2 := hSw.2.2.1); (have k3 := hSw.2.2.2.1); (have k4 := hSw.2.2.2.2.1); (have k5 := hSw.2.2.2.2.2); go_simp; try rfl)
                        try simp only [Act.put, List.setIfInBounds_toArray, List.set_cons_zero, List.set_cons_succ]
                        refine AnyE.take (i := 7) (v := ?_) (ops_at rfl) (by kernel_rfl) (by kernel_rfl) (by kernel_rfl) (by kernel_rfl) (fun _ _ _ h => h) (Or.inl ⟨by rfl, ?yn1w7⟩) (by assumption) ?nn1w7
                        case yn1w7 => (intro wS hSw; (try dsimp only at hSw); (have k0 := hSw.1); (have k1 := hSw.2.1); (have k2 := hSw.2.2.1); (have k3 := hSw.2.2.2.1); (have k4 := hSw.2.2.2.2.1); (have k5 := hSw.2.2.2.2.2); go_simp; try rfl)
                        try simp only [Act.put, List.setIfInBounds_toArray, List.set_cons_zero, List.set_cons_succ]
                        refine AnyE.take (i := 8) (v := ?_) (ops_at rfl) (by kernel_rfl) (by kernel_rfl) (by kernel_rfl) (by kernel_rfl) (fun _ _ _ h => h) (Or.inl ⟨by rfl, ?yn1w8⟩) (by assumption) ?nn1w8
                        case yn1w8 => (intro wS hSw; (try dsimp only at hSw); (have k0 := hSw.1); (have k1 := hSw.2.1); (have k2 := hSw.2.2.1); (have k3 := hSw.2.2.2.1); (have k4 := hSw.2.2.2.2.1); (have k5 := hSw.2.2.2.2.2); go_simp; try rfl)
                        try simp only [Act.put, List.setIfInBounds_toArray, List.set_cons_zero, List.set_cons_succ]
                        refine AnyE.take (i := 9) (v := ?_) (ops_at rfl) (by kernel_rfl) (by kernel_rfl) (by kernel_rfl) (by kernel_rfl) (fun _ _ _ h => h) (Or.inl ⟨by rfl, ?yn1w9⟩) (by assumption) ?nn1w9
                        case yn1w9 => (intro wS hSw; (try dsimp only at hSw); (have k0 := hSw.1); (have k1 := hSw.2.1); (have k2 := hSw.2.2.1); (have k3 := hSw.2.2.2.1); (have k4 := hSw.2.2.2.2.1); (have k5 := hSw.2.2.2.2.2); go_simp; try rfl)
                        try simp only [Act.put, List.setIfInBounds_toArray, List.set_cons_zero, List.set_cons_succ]
                        refine AnyE.take (i := 10) (v := ?_) (ops_at rfl) (by kernel_rfl) (by kernel_rfl) (by kernel_rfl) (by kernel_rfl) (fun _ _ _ h => h) (Or.inl ⟨by rfl, ?yn1w10⟩) (by assumption) ?nn1w10
                        case yn1w10 => (intro wS hSw; (try dsimp only at hSw); (have k0 := hSw.1); (have k1 := hSw.2.1); (have k2 := hSw.2.2.1); (have k3 := hSw.2.2.2.1); (have k4 := hSw.2.2.2.2.1); (have k5 := hSw.2.2.2.2.2); go_simp; try rfl)
                        try simp only [Act.put, List.setIfInBounds_toArray, List.set_cons_zero, List.set_cons_succ]
                        refine AnyE.take (i := 11) (v := ?_) (ops_at rfl) (by kernel_rfl) (by kernel_rfl) (by kernel_rfl) (by kernel_rfl) (fun _ _ _ h => h) (Or.inl ⟨by rfl, ?yn1w11⟩) (by assumption) ?nn1w11
                        case yn1w11 => (intro wS hSw; (try dsimp only at hSw); (have k0 := hSw.1); (have k1 := hSw.2.1); (have k2 := hSw.2.2.1); (have k3 := hSw.2.2.2.1); (have k4 := hSw.2.2.2.2.1); (have k5 := hSw.2.2.2.2.2); go_simp; try rfl)
                        try simp only [Act.put, List.setIfInBounds_toArray, List.set_cons_zero, List.set_cons_succ]
                        refine AnyE.take (i := 12) (v := ?_) (ops_at rfl) (by kernel_rfl) (by kernel_rfl) (by kernel_rfl) (by kernel_rfl) (fun _ _ _ h => h) (Or.inl ⟨by rfl, ?yn1w12⟩) (by assumption) ?nn1w12
                        case yn1w12 => (intro wS hSw; (try dsimp only at hSw); (have k0 := hSw.1); (have k1 := hSw.2.1); (have k2 := hSw.2.2.1); (have k3 := hSw.2.2.2.1); (have k4 := hSw.2.2.2.2.1); (have k5 := hSw.2.2.2.2.2); go_simp; try rfl)
                        try simp only [Act.put, List.setIfInBounds_toArray, List.set_cons_zero, List.set_cons_succ]
                        refine AnyE.take (i := 13) (v := ?_) (ops_at rfl) (by kernel_rfl) (by kernel_rfl) (by kernel_rfl) (by kernel_rfl) (fun _ _ _ h => h) (Or.inl ⟨by rfl, ?yn1w13⟩) (by assumption) ?nn1w13
                        case yn1w13 => (intro wS hSw; (try dsimp only at hSw); (have k0 := hSw.1); (have k1 := hSw.2.1); (have k2 := hSw.2.2.1); (have k3 := hSw.2.2.2.1); (have k4 := hSw.2.2.2.2.1); (have k5 := hSw.2.2.2.2.2); go_simp; try rfl)
                        try simp only [Act.put, List.setIfInBounds_toArray, List.set_cons_zero, List.set_cons_succ]
                        refine AnyE.take (i := 14) (v := ?_) (ops_at rfl) (by kernel_rfl) (by kernel_rfl) (by kernel_rfl) (by kernel_rfl) (fun _ _ _ h => h) (Or.inl ⟨by rfl, ?yn1w14⟩) (by assumption) ?nn1w14
                        case yn1w14 => (intro wS hSw; (try dsimp only at hSw); (have k0 := hSw.1); (have k1 := hSw.2.1); (have k2 := hSw.2.2.1); (have k3 := hSw.2.2.2.1); (have k4 := hSw.2.2.2.2.1); (have k5 := hSw.2.2.2.2.2); go_simp; try rfl)
                        try simp only [Act.put, List.setIfInBounds_toArray, List.set_cons_zero, List.set_cons_succ]
                        refine AnyE.take (i := 15) (v := ?_) (ops_at rfl) (by kernel_rfl) (by kernel_rfl) (by kernel_rfl) (by kernel_rfl) (fun _ _ _ h => h) (Or.inl ⟨by rfl, ?yn1w15⟩) (by assumption) ?nn1w15
                        case yn1w15 => (intro wS hSw; (try dsimp only at hSw); (have k0 := hSw.1); (have k1 := hSw.2.1); (have k2 := hSw.2.2.1); (have k3 := hSw.2.2.2.1); (have k4 := hSw.2.2.2.2.1); (have k5 := hSw.2.2.2.2.2); go_simp; try rfl)
                        try simp only [Act.put, List.setIfInBounds_toArray, List.set_cons_zero, List.set_cons_succ]
                        refine AnyE.take (i := 16) (v := ?_) (ops_at rfl) (by kernel_rfl) (by kernel_rfl) (by kernel_rfl) (by kernel_rfl) (fun _ _ _ h => h) (Or.inl ⟨by rfl, ?yn1w16⟩) (by assumption) ?nn1w16
                        case yn1w16 => (intro wS hSw; (try dsimp only at hSw); (have k0 := hSw.1); (have k1 := hSw.2.1); (have k2 := hSw.2.2.1); (have k3 := hSw.2.2.2.1); (have k4 := hSw.2.2.2.2.1); (have k5 := hSw.2.2.2.2.2); go_simp; try rfl)
                        try simp only [Act.put, List.setIfInBounds_toArray, List.set_cons_zero, List.set_cons_succ]
                        refine AnyE.take (i := 17) (v := ?_) (ops_at rfl) (by kernel_rfl) (by kernel_rfl) (by kernel_rfl) (by kernel_rfl) (fun _ _ _ h => h) (Or.inl ⟨by rfl, ?yn1w17⟩) (by assumption) ?nn1w17
                        case yn1w17 => (intro wS hSw; (try dsimp only at hSw); (have k0 := hSw.1); (have k1 := hSw.2.1); (have k2 := hSw.2.2.1); (have k3 := hSw.2.2.2.1); (have k4 := hSw.2.2.2.2.1); (have k5 := hSw.2.2.2.2.2); go_simp; try rfl)
                        try simp only [Act.put, List.setIfInBounds_toArray, List.set_cons_zero, List.set_cons_succ]
                        refine AnyE.take (i := 18) (v := ?_) (ops_at rfl) (by kernel_rfl) (by kernel_rfl) (by kernel_rfl) (by kernel_rfl) (fun _ _ _ h => h) (Or.inl ⟨by rfl, ?yn1w18⟩) (by assumption) ?nn1w18
                        case yn1w18 => (intro wS hSw; (try dsimp only at hSw); (have k0 := hSw.1); (have k1 := hSw.2.1); (have k2 := hSw.2.2.1); (have k3 := hSw.2.2.2.1); (have k4 := hSw.2.2.2.2.1); (have k5 := hSw.2.2.2.2.2); go_simp; try rfl)
                        try simp only [Act.put, List.setIfInBounds_toArray, List.set_cons_zero, List.set_cons_succ]
                        refine AnyE.take (i := 19) (v := ?_) (ops_at rfl) (by kernel_rfl) (by kernel_rfl) (by kernel_rfl) (by kernel_rfl) (fun _ _ _ h => h) (Or.inl ⟨by rfl, ?yn1w19⟩) (by assumption) ?nn1w19
                        case yn1w19 => (intro wS hSw; (try dsimp only at hSw); (have k0 := hSw.1); (have k1 := hSw.2.1); (have k2 := hSw.2.2.1); (have k3 := hSw.2.2.2.1); (have k4 := hSw.2.2.2.2.1); (have k5 := hSw.2.2.2.2.2); go_simp; try rfl)
                        try simp only [Act.put, List.setIfInBounds_toArray, List.set_cons_zero, List.set_cons_succ]
                        refine AnyE.take (i := 20) (v := ?_) (ops_at rfl) (by kernel_rfl) (by kernel_rfl) (by kernel_rfl) (by kernel_rfl) (fun _ _ _ h => h) (Or.inl ⟨by rfl, ?yn1w20⟩) (by assumption) ?nn1w20
                        case yn1w20 => (intro wS hSw; (try dsimp only at hSw); (have k0 := hSw.1); (have k1 := hSw.2.1); (have k2 := hSw.2.2.1); (have k3 := hSw.2.2.2.1); (have k4 := hSw.2.2.2.2.1); (have k5 := hSw.2.2.2.2.2); go_simp; try rfl)
                        try simp only [Act.put, List.setIfInBounds_toArray, List.set_cons_zero, List.set_cons_succ]
                        refine AnyE.take (i := 21) (v := ?_) (ops_at rfl) (by kernel_rfl) (by kernel_rfl) (by kernel_rfl) (by kernel_rfl) (fun _ _ _ h => h) (Or.inl ⟨by rfl, ?yn1w21⟩) (by assumption) ?nn1w21
                        case yn1w21 => (intro wS hSw; (try dsimp only at hSw); (have k0 := hSw.1); (have k1 := hSw.2.1); (have k2 := hSw.2.2.1); (have k3 := hSw.2.2.2.1); (have k4 := hSw.2.2.2.2.1); (have k5 := hSw.2.2.2.2.2); go_simp; try rfl)
                        try simp only [Act.put, List.setIfInBounds_toArray, List.set_cons_zero, List.set_cons_succ]
                        refine AnyE.take (i := 22) (v := ?_) (ops_at rfl) (by kernel_rfl) (by kernel_rfl) (by kernel_rfl) (by kernel_rfl) (fun _ _ _ h => h) (Or.inl ⟨by rfl, ?yn1w22⟩) (by assumption) ?nn1w22
                        case yn1w22 => (intro wS hSw; (try dsimp only at hSw); (have k0 := hSw.1); (have k1 := hSw.2.1); (have k2 := hSw.2.2.1); (have k3 := hSw.2.2.2.1); (have k4 := hSw.2.2.2.2.1); (have k5 := hSw.2.2.2.2.2); go_simp; try rfl)
                        try simp only [Act.put, List.setIfInBounds_toArray, List.set_cons_zero, List.set_cons_succ]
                        refine AnyE.take (i := 23) (v := ?_) (ops_at rfl) (by kernel_rfl) (by kernel_rfl) (by kernel_rfl) (by kernel_rfl) (fun _ _ _ h => h) (Or.inl ⟨by rfl, ?yn1w23⟩) (by assumption) ?nn1w23
                        case yn1w23 => (intro wS hSw; (try dsimp only at hSw); (have k0 := hSw.1); (have k1 := hSw.2.1); (have k2 := hSw.2.2.1); (have k3 := hSw.2.2.2.1); (have k4 := hSw.2.2.2.2.1); (have k5 := hSw.2.2.2.2.2); go_simp; try rfl)
                        try simp only [Act.put, List.setIfInBounds_toArray, List.set_cons_zero, List.set_cons_succ]
                        refine AnyE.take (i := 24) (v := ?_) (ops_at rfl) (by kernel_rfl) (by kernel_rfl) (by kernel_rfl) (by kernel_rfl) (fun _ _ _ h => h) (Or.inl ⟨by rfl, ?yn1w24⟩) (by assumption) ?nn1w24
                        case yn1w24 => (intro wS hSw; (try dsimp only at hSw); (have k0 := hSw.1); (have k1 := hSw.2.1); (have k2 := hSw.2.2.1); (have k3 := hSw.2.2.2.1); (have k4 := hSw.2.2.2.2.1); (have k5 := hSw.2.2.2.2.2); go_simp; try rfl)
                        try simp only [Act.put, List.setIfInBounds_toArray, List.set_cons_zero, List.set_cons_succ]
                        refine AnyE.take (i := 25) (v := ?_) (ops_at rfl) (by kernel_rfl) (by kernel_rfl) (by kernel_rfl) (by kernel_rfl) (fun _ _ _ h => h) (Or.inl ⟨by rfl, ?yn1w25⟩) (by assumption) ?nn1w25
                        case yn1w25 => (intro wS hSw; (try dsimp only at hSw); (have k0 := hSw.1); (have k1 := hSw.2.1); (have k2 := hSw.2.2.1); (have k3 := hSw.2.2.2.1); (have k4 := hSw.2.2.2.2.1); (have k5 := hSw.2.2.2.2.2); go_simp; try rfl)
                        try simp only [Act.put, List.setIfInBounds_toArray, List.set_cons_zero, List.set_cons_succ]
                        refine AnyE.take (i := 26) (v := ?_) (ops_at rfl) (by kernel_rfl) (by kernel_rfl) (by kernel_rfl) (by kernel_rfl) (fun _ _ _ h => h) (Or.inl ⟨by rfl, ?yn1w26⟩) (by assumption) ?nn1w26
                        case yn1w26 => (intro wS hSw; (try dsimp only at hSw); (have k0 := hSw.1); (have k1 := hSw.2.1); (have k2 := hSw.2.2.1); (have k3 := hSw.2.2.2.1); (have k4 := hSw.2.2.2.2.1); (have k5 := hSw.2.2.2.2.2); go_simp; try rfl)
                        try simp only [Act.put, List.setIfInBounds_toArray, List.set_cons_zero, List.set_cons_succ]
                        refine AnyE.take (i := 27) (v := ?_) (ops_at rfl) (by kernel_rfl) (by kernel_rfl) (by kernel_rfl) (by kernel_rfl) (fun _ _ _ h => h) (Or.inl ⟨by rfl, ?yn1w27⟩) (by assumption) ?nn1w27
                        case yn1w27 => (intro wS hSw; (try dsimp only at hSw); (have k0 := hSw.1); (have k1 := hSw.2.1); (have k2 := hSw.2.2.1); (have k3 := hSw.2.2.2.1); (have k4 := hSw.2.2.2.2.1); (have k5 := hSw.2.2.2.2.2); go_simp; try rfl)
                        try simp only [Act.put, List.setIfInBounds_toArray, List.set_cons_zero, List.set_cons_succ]
                        refine AnyE.of_ready (rs := [28]) (by kernel_rfl) (by simp) ?_
                        refine ReadyE.cons (ops_at rfl) (fun K hK => ?_) ReadyE.nil
                        go_simp
                        refine (times_any v1 v2 HQ1.out HQ2.out _ cp HCP.out).mono ?_
                        rintro e wz ⟨rfl, rfl⟩
                        refine hK.out _ _ (fun _ => hH0) (fun _ => ?_)
                        clear hK K
                        refine AnyE.of_ready (rs := [29]) (by kernel_rfl) (by simp) ?_
                        refine ReadyE.cons (ops_at rfl) (fun K hK => ?_) ReadyE.nil
                        go_simp
                        refine hK.out _ _ (fun _ => hH0) (fun _ => ?_)
                        clear hK K
                        refine AnyE.of_ready (rs := [30]) (by kernel_rfl) (by simp) ?_
                        refine ReadyE.cons (ops_at rfl) (fun K hK => ?_) ReadyE.nil
                        go_simp
                        refine (l1Least_any (cu + cp) 1000000000000001 nv HNV.out _).mono ?_
                        rintro e wz ⟨rfl, rfl⟩
                        refine hK.out _ _ (fun _ => hH0) (fun _ => ?_)
                        clear hK K
                        refine AnyE.take (i := 31) (v := ?_) (ops_at rfl) (by kernel_rfl) (by kernel_rfl) (by kernel_rfl) (by kernel_rfl) (fun _ _ _ h => h) (Or.inl ⟨by rfl, ?yn1w31⟩) (by assumption) ?nn1w31
                        case yn1w31 => (intro wS hSw; (try dsimp only at hSw); (have k0 := hSw.1); (have k1 := hSw.2.1); (have k2 := hSw.2.2.1); (have k3 := hSw.2.2.2.1); (have k4 := hSw.2.2.2.2.1); (have k5 := hSw.2.2.2.2.2); go_simp; try rfl)
                        try simp only [Act.put, List.setIfInBounds_toArray, List.set_cons_zero, List.set_cons_succ]
                        refine AnyE.of_ready (rs := [32]) (by kernel_rfl) (by simp) ?_
                        refine ReadyE.cons (ops_at rfl) (fun K hK => ?_) ReadyE.nil
                        go_simp
                        refine hK.out _ _ (fun h => absurd rfl h) (fun _ => ?_)
                        clear hK K
                        refine AnyE.end_ (by kernel_rfl) ?_ _
                        clear e1 e2 e3 e4 e5 e6 e7 hH0
                        go_wp2
                        go_roundw
                        case rel => exact ⟨k + 1, by omega, by omega, by go_num, drewB (HBK.out.setCell (p := ⟨g2, b, none⟩) (by show w.heap.size ≤ g2; omega) _), by rw [HNX.out]; have h := HCK.out.set (by omega) hlm nv; rw [show m + 1 = b from hb'] at h; exact h.below (drewB (Below.refl _ _))⟩
                        case measure => simp [intOf]; omega
                      · have hkb : k = b := by omega
                        have hlk : ¬ (k : Int) < (b : Int) := by omega
                        have hdk : decide ((k : Int) < (b : Int)) = false := decide_eq_false hlk
                        have HW := Lib.hid (show wayB a b = cu by rw [wayB_spec (by omega) (by omega), wayS, cutsL_parts, HS.out]; have h := HCU.out; rw [hkb] at h; exact h)
                        have hfin := (HCK.out.tab.fin (by omega) HCK.out.row.1 (by rw [HCK.out.cur, show m + 1 = b from hb', HW.out]))
                        have HFI := Lib.hid hfin
                        have HRO := Lib.hid HCK.out.row
                        clear hfin
                        go_wp2
                        go_roundw
                        case rel => exact ⟨m + 1, by omega, by go_num, HBK.out, HFI.out, HRO.out⟩
                        case measure => simp [intOf]; omega
              · obtain rfl : r = false := by simpa using hpr
                have HCn2v := HCnv
                have HBn2v := HBnv
                go_wp2
                clear hp hpr
                go_loopw [9] (fun i wk => ∃ k : Nat, 1 ≤ k ∧ k ≤ a ∧ i = .int .i64 (k : Int) ∧ Below w.heap.size w wk ∧ TabC wk w.heap.size F g A H a m (wayF capS wayB s0 (upL a b (k - 1)))) (fun i _ => 25 - (intOf i).toNat)
                case atStart => exact ⟨1, by omega, by omega, rfl, HBn2v.out, HCn2v.out⟩
                case round =>
                  obtain ⟨k, hk1, hk2, rfl, hbk, hck⟩ := hrel
                  have HBK := Lib.hid hbk
                  have HCK := Lib.hid hck
                  clear hbk hck
                  obtain ⟨cu, hcu⟩ : ∃ cu, wayF capS wayB s0 (upL a b (k - 1)) = cu := ⟨_, rfl⟩
                  rw [hcu] at HCK
                  have HCU := Lib.hid hcu
                  clear hcu
                  by_cases hlt : k < a
                  · have hlk : (k : Int) < (a : Int) := by omega
                    have hdk : decide ((k : Int) < (a : Int)) = true := decide_eq_true hlk
                    obtain ⟨d, hd⟩ : ∃ d, a - k = d := ⟨_, rfl⟩
                    have hsub : (a : Int) - (k : Int) = (d : Int) := by omega
                    have hwd : IntKind.i64.wrap (d : Int) = (d : Int) := by rw [IntKind.wrap_i64]; omega
                    obtain ⟨g1, e1, e2⟩ := HCK.out.tab.read (a := k) (b := b) (by omega) (by omega) (by omega) (by omega) (by omega)
                    obtain ⟨g2, e3, e4⟩ := HCK.out.tab.read (a := d) (b := b) (by omega) (by omega) (by omega) (by omega) (by omega)
                    have e5 := HCK.out.row.1
                    have e6 := HCK.out.cur
                    have e7 := HCK.out.frozen (m + 1)
                    rw [show m + 1 = b from hb'] at e6 e7
                    have q1 := wayB_ok _ k b (Nat.le_refl _) (by omega) (by omega)
                    have q2 := wayB_ok _ d b (Nat.le_refl _) (by omega) (by omega)
                    obtain ⟨v1, hv1⟩ : ∃ v1, wayB k b = v1 := ⟨_, rfl⟩
                    obtain ⟨v2, hv2⟩ : ∃ v2, wayB d b = v2 := ⟨_, rfl⟩
                    rw [hv1] at e2 q1
                    rw [hv2] at e4 q2
                    obtain ⟨cp, hcp⟩ : ∃ cp, capS v1 v2 = cp := ⟨_, rfl⟩
                    have hck : WayOk cp := by rw [← hcp, ← (cap_same q1 q2).1]; exact (cap_same q1 q2).2
                    obtain ⟨hck1, hck2⟩ := hck
                    have hcb := HRNG.out (upL a b (k - 1)) (fun c hc => ((upL_pre (by omega)).subset hc))
                    rw [HCU.out] at hcb
                    have hwa : IntKind.i64.wrap (cu + cp) = cu + cp := by rw [IntKind.wrap_i64]; omega
                    obtain ⟨nv, hnv⟩ : ∃ nv, min (cu + cp) 1000000000000001 = nv := ⟨_, rfl⟩
                    have HNX := Lib.hid (show wayF capS wayB s0 (upL a b (k + 1 - 1)) = nv by
                      rw [show k + 1 - 1 = (k - 1) + 1 by omega, upL_succ, wayF_snocS, HCU.out]
                      rw [show k - 1 + 1 = k by omega, hd]
                      simp only [hv1, hv2, hcp, hnv])
                    have HNV := Lib.hid hnv
                    have HCP := Lib.hid hcp
                    have HQ1 := Lib.hid q1
                    have HQ2 := Lib.hid q2
                    clear hnv hcp q1 q2 hv1 hv2 hd hcb
                    have hi0 : (k : Int) < (A : Int) + 1 := by omega
                    have hi1 : (d : Int) < (A : Int) + 1 := by omega
                    have hi2 : (b : Int) < (H : Int) + 1 := by omega
                    have hi3 : (a : Int) < (A : Int) + 1 := by omega
                    go_wp2_with fail
                    refine region_E (S := fun wq => wq.cell? ⟨F, a, none⟩ = some (.slice (some ⟨g, 0, none⟩) (H + 1) (H + 1)) ∧ wq.cell? ⟨g, b, none⟩ = some (.int .i64 cu) ∧ wq.cell? ⟨F, k, none⟩ = some (.slice (some ⟨g1, 0, none⟩) (H + 1) (H + 1)) ∧ wq.cell? ⟨g1, b, none⟩ = some (.int .i64 v1) ∧ wq.cell? ⟨F, d, none⟩ = some (.slice (some ⟨g2, 0, none⟩) (H + 1) (H + 1)) ∧ wq.cell? ⟨g2, b, none⟩ = some (.int .i64 v2)) 32 (by kernel_rfl) ⟨e5, e6, e1, e2, e3, e4⟩ (fun hH0 => ?_)
                    refine AnyE.take (i := 0) (v := ?_) (ops_at rfl) (by kernel_rfl) (by kernel_rfl) (by kernel_rfl) (by kernel_rfl) (fun _ _ _ h => h) (Or.inl ⟨by rfl, ?yn2v0⟩) (by assumption) ?nn2v0
                    case yn2v0 => (intro wS hSw; (try dsimp only at hSw); (have k0 := hSw.1); (have k1 := hSw.2.1); (have k2 := hSw.2.2.1); (have k3 := hSw.2.2.2.1); (have k4 := hSw.2.2.2.2.1); (have k5 := hSw.2.2.2.2.2); go_simp; try rfl)
                    try simp only [Act.put, List.setIfInBounds_toArray, List.set_cons_zero, List.set_cons_succ]
                    refine AnyE.take (i := 1) (v := ?_) (ops_at rfl) (by kernel_rfl) (by kernel_rfl) (by kernel_rfl) (by kernel_rfl) (fun _ _ _ h => h) (Or.inl ⟨by rfl, ?yn2v1⟩) (by assumption) ?nn2v1
                    case yn2v1 => (intro wS hSw; (try dsimp only at hSw); (have k0 := hSw.1); (have k1 := hSw.2.1); (have k2 := hSw.2.2.1); (have k3 := hSw.2.2.2.1); (have k4 := hSw.2.2.2.2.1); (have k5 := hSw.2.2.2.2.2); go_simp; try rfl)
                    try simp only [Act.put, List.setIfInBounds_toArray, List.set_cons_zero, List.set_cons_succ]
                    refine AnyE.take (i := 2) (v := ?_) (ops_at rfl) (by kernel_rfl) (by kernel_rfl) (by kernel_rfl) (by kernel_rfl) (fun _ _ _ h => h) (Or.inl ⟨by rfl, ?yn2v2⟩) (by assumption) ?nn2v2
                    case yn2v2 => (intro wS hSw; (try dsimp only at hSw); (have k0 := hSw.1); (have k1 := hSw.2.1); (have k2 := hSw.2.2.1); (have k3 := hSw.2.2.2.1); (have k4 := hSw.2.2.2.2.1); (have k5 := hSw.2.2.2.2.2); go_simp; try rfl)
                    try simp only [Act.put, List.setIfInBounds_toArray, List.set_cons_zero, List.set_cons_succ]
                    refine AnyE.take (i := 3) (v := ?_) (ops_at rfl) (by kernel_rfl) (by kernel_rfl) (by kernel_rfl) (by kernel_rfl) (fun _ _ _ h => h) (Or.inl ⟨by rfl, ?yn2v3⟩) (by assumption) ?nn2v3
                    case yn2v3 => (intro wS hSw; (try dsimp only at hSw); (have k0 := hSw.1); (have k1 := hSw.2.1); (have k2 := hSw.2.2.1); (have k3 := hSw.2.2.2.1); (have k4 := hSw.2.2.2.2.1); (have k5 := hSw.2.2.2.2.2); go_simp; try rfl)
                    try simp only [Act.put, List.setIfInBounds_toArray, List.set_cons_zero, List.set_cons_succ]
                    refine AnyE.take (i := 4) (v := ?_) (ops_at rfl) (by kernel_rfl) (by kernel_rfl) (by kernel_rfl) (by kernel_rfl) (fun _ _ _ h => h) (Or.inl ⟨by rfl, ?yn2v4⟩) (by assumption) ?nn2v4
                    case yn2v4 => (intro wS hSw; (try dsimp only at hSw); (have k0 := hSw.1); (have k1 := hSw.2.1); (have k2 := hSw.2.2.1); (have k3 := hSw.2.2.2.1); (have k4 := hSw.2.2.2.2.1); (have k5 := hSw.2.2.2.2.2); go_simp; try rfl)
                    try simp only [Act.put, List.setIfInBounds_toArray, List.set_cons_zero, List.set_cons_succ]
                    refine AnyE.take (i := 5) (v := ?_) (ops_at rfl) (by kernel_rfl) (by kernel_rfl) (by kernel_rfl) (by kernel_rfl) (fun _ _ _ h => h) (Or.inl ⟨by rfl, ?yn2v5⟩) (by assumption) ?nn2v5
                    case yn2v5 => (intro wS hSw; (try dsimp only at hSw); (have k0 := hSw.1); (have k1 := hSw.2.1); (have k2 := hSw.2.2.1); (have k3 := hSw.2.2.2.1); (have k4 := hSw.2.2.2.2.1); (have k5 := hSw.2.2.2.2.2); go_simp; try rfl)
                    try simp only [Act.put, List.setIfInBounds_toArray, List.set_cons_zero, List.set_cons_succ]
                    refine AnyE.take (i := 6) (v := ?_) (ops_at rfl) (by kernel_rfl) (by kernel_rfl) (by kernel_rfl) (by kernel_rfl) (fun _ _ _ h => h) (Or.inl ⟨by rfl, ?yn2v6⟩) (by assumption) ?nn2v6
                    case yn2v6 => (intro wS hSw; (try dsimp only at hSw); (have k0 := hSw.1); (have k1 := hSw.2.1); (have k2 := hSw.2.2.1); (have k3 := hSw.2.2.2.1); (have k4 := hSw.2.2.2.2.1); (have k5 := hSw.2.2.2.2.2); go_simp; try rfl)
                    try simp only [Act.put, List.setIfInBounds_toArray, List.set_cons_zero, List.set_cons_succ]
                    refine AnyE.take (i := 7) (v := ?_) (ops_at rfl) (by kernel_rfl) (by kernel_rfl) (by kernel_rfl) (by kernel_rfl) (fun _ _ _ h => h) (Or.inl ⟨by rfl, ?yn2v7⟩) (by assumption) ?nn2v7
                    case yn2v7 => (intro wS hSw; (try dsimp only at hSw); (have k0 := hSw.1); (have k1 := hSw.2.1); (have k2 := hSw.2.2.1); (have k3 := hSw.2.2.2.1); (have k4 := hSw.2.2.2.2.1); (have k5 := hSw.2.2.2.2.2); go_simp; try rfl)
                    try simp only [Act.put, List.setIfInBounds_toArray, List.set_cons_zero, List.set_cons_succ]
                    refine AnyE.take (i := 8) (v := ?_) (ops_at rfl) (by kernel_rfl) (by kernel_rfl) (by kernel_rfl) (by kernel_rfl) (fun _ _ _ h => h) (Or.inl ⟨by rfl, ?yn2v8⟩) (by assumption) ?nn2v8
                    case yn2v8 => (intro wS hSw; (try dsimp only at hSw); (have k0 := hSw.1); (have k1 := hSw.2.1); (have k2 := hSw.2.2.1); (have k3 := hSw.2.2.2.1); (have k4 := hSw.2.2.2.2.1); (have k5 := hSw.2.2.2.2.2); go_simp; try rfl)
                    try simp only [Act.put, List.setIfInBounds_toArray, List.set_cons_zero, List.set_cons_succ]
                    refine AnyE.take (i := 9) (v := ?_) (ops_at rfl) (by kernel_rfl) (by kernel_rfl) (by kernel_rfl) (by kernel_rfl) (fun _ _ _ h => h) (Or.inl ⟨by rfl, ?yn2v9⟩) (by assumption) ?nn2v9
                    case yn2v9 => (intro wS hSw; (try dsimp only at hSw); (have k0 := hSw.1); (have k1 := hSw.2.1); (have k2 := hSw.2.2.1); (have k3 := hSw.2.2.2.1); (have k4 := hSw.2.2.2.2.1); (have k5 := hSw.2.2.2.2.2); go_simp; try rfl)
                    try simp only [Act.put, List.setIfInBounds_toArray, List.set_cons_zero, List.set_cons_succ]
                    refine AnyE.take (i := 10) (v := ?_) (ops_at rfl) (by kernel_rfl) (by kernel_rfl) (by kernel_rfl) (by kernel_rfl) (fun _ _ _ h => h) (Or.inl ⟨by rfl, ?yn2v10⟩) (by assumption) ?nn2v10
                    case yn2v10 => (intro wS hSw; (try dsimp only at hSw); (have k0 := hSw.1); (have k1 := hSw.2.1); (have k2 := hSw.2.2.1); (have k3 := hSw.2.2.2.1); (have k4 := hSw.2.2.2.2.1); (have k5 := hSw.2.2.2.2.2); go_simp; try rfl)
                    try simp only [Act.put, List.setIfInBounds_toArray, List.set_cons_zero, List.set_cons_succ]
                    refine AnyE.take (i := 11) (v := ?_) (ops_at rfl) (by kernel_rfl) (by kernel_rfl) (by kernel_rfl) (by kernel_rfl) (fun _ _ _ h => h) (Or.inl ⟨by rfl, ?yn2v11⟩) (by assumption) ?nn2v11
                    case yn2v11 => (intro wS hSw; (try dsimp only at hSw); (have k0 := hSw.1); (have k1 := hSw.2.1); (have k2 := hSw.2.2.1); (have k3 := hSw.2.2.2.1); (have k4 := hSw.2.2.2.2.1); (have k5 := hSw.2.2.2.2.2); go_simp; try rfl)
                    try simp only [Act.put, List.setIfInBounds_toArray, List.set_cons_zero, List.set_cons_succ]
                    refine AnyE.take (i := 12) (v := ?_) (ops_at rfl) (by kernel_rfl) (by kernel_rfl) (by kernel_rfl) (by kernel_rfl) (fun _ _ _ h => h) (Or.inl ⟨by rfl, ?yn2v12⟩) (by assumption) ?nn2v12
                    case yn2v12 => (intro wS hSw; (try dsimp only at hSw); (have k0 := hSw.1); (have k1 := hSw.2.1); (have k2 := hSw.2.2.1); (have k3 := hSw.2.2.2.1); (have k4 := hSw.2.2.2.2.1); (have k5 := hSw.2.2.2.2.2); go_simp; try rfl)
                    try simp only [Act.put, List.setIfInBounds_toArray, List.set_cons_zero, List.set_cons_succ]
                    refine AnyE.take (i := 13) (v := ?_) (ops_at rfl) (by kernel_rfl) (by kernel_rfl) (by kernel_rfl) (by kernel_rfl) (fun _ _ _ h => h) (Or.inl ⟨by rfl, ?yn2v13⟩) (by assumption) ?nn2v13
                    case yn2v13 => (intro wS hSw; (try dsimp only at hSw); (have k0 := hSw.1); (have k1 := hSw.2.1); (have k2 := hSw.2.2.1); (have k3 := hSw.2.2.2.1); (have k4 := hSw.2.2.2.2.1); (have k5 := hSw.2.2.2.2.2); go_simp; try rfl)
                    try simp only [Act.put, List.setIfInBounds_toArray, List.set_cons_zero, List.set_cons_succ]
                    refine AnyE.take (i := 14) (v := ?_) (ops_at rfl) (by kernel_rfl) (by kernel_rfl) (by kernel_rfl) (by kernel_rfl) (fun _ _ _ h => h) (Or.inl ⟨by rfl, ?yn2v14⟩) (by assumption) ?nn2v14
                    case yn2v14 => (intro wS hSw; (try dsimp only at hSw); (have k0 := hSw.1); (have k1 := hSw.2.1); (have k2 := hSw.2.2.1); (have k3 := hSw.2.2.2.1); (have k4 := hSw.2.2.2.2.1); (have k5 := hSw.2.2.2.2.2); go_simp; try rfl)
                    try simp only [Act.put, List.setIfInBounds_toArray, List.set_cons_zero, List.set_cons_succ]
                    refine AnyE.take (i := 15) (v := ?_) (ops_at rfl) (by kernel_rfl) (by kernel_rfl) (by kernel_rfl) (by kernel_rfl) (fun _ _ _ h => h) (Or.inl ⟨by rfl, ?yn2v15⟩) (by assumption) ?nn2v15
                    case yn2v15 => (intro wS hSw; (try dsimp only at hSw); (have k0 := hSw.1); (have k1 := hSw.2.1); (have k2 := hSw.2.2.1); (have k3 := hSw.2.2.2.1); (have k4 := hSw.2.2.2.2.1); (have k5 := hSw.2.2.2.2.2); go_simp; try rfl)
                    try simp only [Act.put, List.setIfInBounds_toArray, List.set_cons_zero, List.set_cons_succ]
                    refine AnyE.take (i := 16) (v := ?_) (ops_at rfl) (by kernel_rfl) (by kernel_rfl) (by kernel_rfl) (by kernel_rfl) (fun _ _ _ h => h) (Or.inl ⟨by rfl, ?yn2v16⟩) (by assumption) ?nn2v16
                    case yn2v16 => (intro wS hSw; (try dsimp only at hSw); (have k0 := hSw.1); (have k1 := hSw.2.1); (have k2 := hSw.2.2.1); (have k3 := hSw.2.2.2.1); (have k4 := hSw.2.2.2.2.1); (have k5 := hSw.2.2.2.2.2); go_simp; try rfl)
                    try simp only [Act.put, List.setIfInBounds_toArray, List.set_cons_zero, List.set_cons_succ]
                    refine AnyE.take (i := 17) (v := ?_) (ops_at rfl) (by kernel_rfl) (by kernel_rfl) (by kernel_rfl) (by kernel_rfl) (fun _ _ _ h => h) (Or.inl ⟨by rfl, ?yn2v17⟩) (by assumption) ?nn2v17
                    case yn2v17 => (intro wS hSw; (try dsimp only at hSw); (have k0 := hSw.1); (have k1 := hSw.2.1); (have k2 := hSw.2.2.1); (have k3 := hSw.2.2.2.1); (have k4 := hSw.2.2.2.2.1); (have k5 := hSw.2.2.2.2.2); go_simp; try rfl)
                    try simp only [Act.put, List.setIfInBounds_toArray, List.set_cons_zero, List.set_cons_succ]
                    refine AnyE.take (i := 18) (v := ?_) (ops_at rfl) (by kernel_rfl) (by kernel_rfl) (by kernel_rfl) (by kernel_rfl) (fun _ _ _ h => h) (Or.inl ⟨by rfl, ?yn2v18⟩) (by assumption) ?nn2v18
                    case yn2v18 => (intro wS hSw; (try dsimp only at hSw); (have k0 := hSw.1); (have k1 := hSw.2.1); (have k2 := hSw.2.2.1); (have k3 := hSw.2.2.2.1); (have k4 := hSw.2.2.2.2.1); (have k5 := hSw.2.2.2.2.2); go_simp; try rfl)
                    try simp only [Act.put, List.setIfInBounds_toArray, List.set_cons_zero, List.set_cons_succ]
                    refine AnyE.take (i := 19) (v := ?_) (ops_at rfl) (by kernel_rfl) (by kernel_rfl) (by kernel_rfl) (by kernel_rfl) (fun _ _ _ h => h) (Or.inl ⟨by rfl, ?yn2v19⟩) (by assumption) ?nn2v19
                    case yn2v19 => (intro wS hSw; (try dsimp only at hSw); (have k0 := hSw.1); (have k1 := hSw.2.1); (have k2 := hSw.2.2.1); (have k3 := hSw.2.2.2.1); (have k4 := hSw.2.2.2.2.1); (have k5 := hSw.2.2.2.2.2); go_simp; try rfl)
                    try simp only [Act.put, List.setIfInBounds_toArray, List.set_cons_zero, List.set_cons_succ]
                    refine AnyE.take (i := 20) (v := ?_) (ops_at rfl) (by kernel_rfl) (by kernel_rfl) (by kernel_rfl) (by kernel_rfl) (fun _ _ _ h => h) (Or.inl ⟨by rfl, ?yn2v20⟩) (by assumption) ?nn2v20
                    case yn2v20 => (intro wS hSw; (try dsimp only at hSw); (have k0 := hSw.1); (have k1 := hSw.2.1); (have k2 := hSw.2.2.1); (have k3 := hSw.2.2.2.1); (have k4 := hSw.2.2.2.2.1); (have k5 := hSw.2.2.2.2.2); go_simp; try rfl)
                    try simp only [Act.put, List.setIfInBounds_toArray, List.set_cons_zero, List.set_cons_succ]
                    refine AnyE.take (i := 21) (v := ?_) (ops_at rfl) (by kernel_rfl) (by kernel_rfl) (by kernel_rfl) (by kernel_rfl) (fun _ _ _ h => h) (Or.inl ⟨by rfl, ?yn2v21⟩) (by assumption) ?nn2v21
                    case yn2v21 => (intro wS hSw; (try dsimp only at hSw); (have k0 := hSw.1); (have k1 := hSw.2.1); (have k2 := hSw.2.2.1); (have k3 := hSw.2.2.2.1); (have k4 := hSw.2.2.2.2.1); (have k5 := hSw.2.2.2.2.2); go_simp; try rfl)
                    try simp only [Act.put, List.setIfInBounds_toArray, List.set_cons_zero, List.set_cons_succ]
                    refine AnyE.take (i := 22) (v := ?_) (ops_at rfl) (by kernel_rfl) (by kernel_rfl) (by kernel_rfl) (by kernel_rfl) (fun _ _ _ h => h) (Or.inl ⟨by rfl, ?yn2v22⟩) (by assumption) ?nn2v22
                    case yn2v22 => (intro wS hSw; (try dsimp only at hSw); (have k0 := hSw.1); (have k1 := hSw.2.1); (have k2 := hSw.2.2.1); (have k3 := hSw.2.2.2.1); (have k4 := hSw.2.2.2.2.1); (have k5 := hSw.2.2.2.2.2); go_simp; try rfl)
                    try simp only [Act.put, List.setIfInBounds_toArray, List.set_cons_zero, List.set_cons_succ]
                    refine AnyE.take (i := 23) (v := ?_) (ops_at rfl) (by kernel_rfl) (by kernel_rfl) (by kernel_rfl) (by kernel_rfl) (fun _ _ _ h => h) (Or.inl ⟨by rfl, ?yn2v23⟩) (by assumption) ?nn2v23
                    case yn2v23 => (intro wS hSw; (try dsimp only at hSw); (have k0 := hSw.1); (have k1 := hSw.2.1); (have k2 := hSw.2.2.1); (have k3 := hSw.2.2.2.1); (have k4 := hSw.2.2.2.2.1); (have k5 := hSw.2.2.2.2.2); go_simp; try rfl)
                    try simp only [Act.put, List.setIfInBounds_toArray, List.set_cons_zero, List.set_cons_succ]
                    refine AnyE.take (i := 24) (v := ?_) (ops_at rfl) (by kernel_rfl) (by kernel_rfl) (by kernel_rfl) (by kernel_rfl) (fun _ _ _ h => h) (Or.inl ⟨by rfl, ?yn2v24⟩) (by assumption) ?nn2v24
                    case yn2v24 => (intro wS hSw; (try dsimp only at hSw); (have k0 := hSw.1); (have k1 := hSw.2.1); (have k2 := hSw.2.2.1); (have k3 := hSw.2.2.2.1); (have k4 := hSw.2.2.2.2.1); (have k5 := hSw.2.2.2.2.2); go_simp; try rfl)
                    try simp only [Act.put, List.setIfInBounds_toArray, List.set_cons_zero, List.set_cons_succ]
                    refine AnyE.take (i := 25) (v := ?_) (ops_at rfl) (by kernel_rfl) (by kernel_rfl) (by kernel_rfl) (by kernel_rfl) (fun _ _ _ h => h) (Or.inl ⟨by rfl, ?yn2v25⟩) (by assumption) ?nn2v25
                    case yn2v25 => (intro wS hSw; (try dsimp only at hSw); (have k0 := hSw.1); (have k1 := hSw.2.1); (have k2 := hSw.2.2.1); (have k3 := hSw.2.2.2.1); (have k4 := hSw.2.2.2.2.1); (have k5 := hSw.2.2.2.2.2); go_simp; try rfl)
                    try simp only [Act.put, List.setIfInBounds_toArray, List.set_cons_zero, List.set_cons_succ]
                    refine AnyE.take (i := 26) (v := ?_) (ops_at rfl) (by kernel_rfl) (by kernel_rfl) (by kernel_rfl) (by kernel_rfl) (fun _ _ _ h => h) (Or.inl ⟨by rfl, ?yn2v26⟩) (by assumption) ?nn2v26
                    case yn2v26 => (intro wS hSw; (try dsimp only at hSw); (have k0 := hSw.1); (have k1 := hSw.2.1); (have k2 := hSw.2.2.1); (have k3 := hSw.2.2.2.1); (have k4 := hSw.2.2.2.2.1); (have k5 := hSw.2.2.2.2.2); go_simp; try rfl)
                    try simp only [Act.put, List.setIfInBounds_toArray, List.set_cons_zero, List.set_cons_succ]
                    refine AnyE.take (i := 27) (v := ?_) (ops_at rfl) (by kernel_rfl) (by kernel_rfl) (by kernel_rfl) (by kernel_rfl) (fun _ _ _ h => h) (Or.inl ⟨by rfl, ?yn2v27⟩) (by assumption) ?nn2v27
                    case yn2v27 => (intro wS hSw; (try dsimp only at hSw); (have k0 := hSw.1); (have k1 := hSw.2.1); (have k2 := hSw.2.2.1); (have k3 := hSw.2.2.2.1); (have k4 := hSw.2.2.2.2.1); (have k5 := hSw.2.2.2.2.2); go_simp; try rfl)
                    try simp only [Act.put, List.setIfInBounds_toArray, List.set_cons_zero, List.set_cons_succ]
                    refine AnyE.of_ready (rs := [28]) (by kernel_rfl) (by simp) ?_
                    refine ReadyE.cons (ops_at rfl) (fun K hK => ?_) ReadyE.nil
                    go_simp
                    refine (times_any v1 v2 HQ1.out HQ2.out _ cp HCP.out).mono ?_
                    rintro e wz ⟨rfl, rfl⟩
                    refine hK.out _ _ (fun _ => hH0) (fun _ => ?_)
                    clear hK K
                    refine AnyE.of_ready (rs := [29]) (by kernel_rfl) (by simp) ?_
                    refine ReadyE.cons (ops_at rfl) (fun K hK => ?_) ReadyE.nil
                    go_simp
                    refine hK.out _ _ (fun _ => hH0) (fun _ => ?_)
                    clear hK K
                    refine AnyE.of_ready (rs := [30]) (by kernel_rfl) (by simp) ?_
                    refine ReadyE.cons (ops_at rfl) (fun K hK => ?_) ReadyE.nil
                    go_simp
                    refine (l1Least_any (cu + cp) 1000000000000001 nv HNV.out _).mono ?_
                    rintro e wz ⟨rfl, rfl⟩
                    refine hK.out _ _ (fun _ => hH0) (fun _ => ?_)
                    clear hK K
                    refine AnyE.take (i := 31) (v := ?_) (ops_at rfl) (by kernel_rfl) (by kernel_rfl) (by kernel_rfl) (by kernel_rfl) (fun _ _ _ h => h) (Or.inl ⟨by rfl, ?yn2v31⟩) (by assumption) ?nn2v31
                    case yn2v31 => (intro wS hSw; (try dsimp only at hSw); (have k0 := hSw.1); (have k1 := hSw.2.1); (have k2 := hSw.2.2.1); (have k3 := hSw.2.2.2.1); (have k4 := hSw.2.2.2.2.1); (have k5 := hSw.2.2.2.2.2); go_simp; try rfl)
                    try simp only [Act.put, List.setIfInBounds_toArray, List.set_cons_zero, List.set_cons_succ]
                    refine AnyE.of_ready (rs := [32]) (by kernel_rfl) (by simp) ?_
                    refine ReadyE.cons (ops_at rfl) (fun K hK => ?_) ReadyE.nil
                    go_simp
                    refine hK.out _ _ (fun h => absurd rfl h) (fun _ => ?_)
                    clear hK K
                    refine AnyE.end_ (by kernel_rfl) ?_ _
                    clear e1 e2 e3 e4 e5 e6 e7 hH0
                    go_wp2
                    go_roundw
                    case rel => exact ⟨k + 1, by omega, by omega, by go_num, drewB (HBK.out.setCell (p := ⟨g, b, none⟩) (by show w.heap.size ≤ g; omega) _), by rw [HNX.out]; have h := HCK.out.set (by omega) hlm nv; rw [show m + 1 = b from hb'] at h; exact h.below (drewB (Below.refl _ _))⟩
                    case measure => simp [intOf]; omega
                  · have hka : k = a := by omega
                    have hlk : ¬ (k : Int) < (a : Int) := by omega
                    have hdk : decide ((k : Int) < (a : Int)) = false := decide_eq_false hlk
                    have HBn2w := Lib.hid HBK.out
                    have HCn2w := Lib.hid (show TabC _ w.heap.size F g A H a m (wayF capS wayB s0 (upL a b (a - 1))) by rw [← hka, show upL k b (k - 1) = upL a b (k - 1) by rw [hka], HCU.out, hka]; exact HCK.out)
                    clear hlk hdk HCU hka
                    go_wp2
                    go_loopw [10] (fun i wk => ∃ k : Nat, 1 ≤ k ∧ k ≤ b ∧ i = .int .i64 (k : Int) ∧ Below w.heap.size w wk ∧ TabC wk w.heap.size F g A H a m (wayF capS wayB s0 (upL a b (a - 1) ++ lvL a b (k - 1)))) (fun i _ => 25 - (intOf i).toNat)
                    case atStart => exact ⟨1, by omega, by omega, rfl, HBn2w.out, by rw [show (1 : Nat) - 1 = 0 from rfl, show lvL a b 0 = [] from rfl, List.append_nil]; exact HCn2w.out⟩
                    case round =>
                      obtain ⟨k, hk1, hk2, rfl, hbk, hck⟩ := hrel
                      have HBK := Lib.hid hbk
                      have HCK := Lib.hid hck
                      clear hbk hck
                      obtain ⟨cu, hcu⟩ : ∃ cu, wayF capS wayB s0 (upL a b (a - 1) ++ lvL a b (k - 1)) = cu := ⟨_, rfl⟩
                      rw [hcu] at HCK
                      have HCU := Lib.hid hcu
                      clear hcu
                      by_cases hlt : k < b
                      · have hlk : (k : Int) < (b : Int) := by omega
                        have hdk : decide ((k : Int) < (b : Int)) = true := decide_eq_true hlk
                        obtain ⟨d, hd⟩ : ∃ d, b - k = d := ⟨_, rfl⟩
                        have hsub : (b : Int) - (k : Int) = (d : Int) := by omega
                        have hwd : IntKind.i64.wrap (d : Int) = (d : Int) := by rw [IntKind.wrap_i64]; omega
                        obtain ⟨g1, e1, e2⟩ := HCK.out.tab.read (a := a) (b := k) (by omega) (by omega) (by omega) (by omega) (by omega)
                        obtain ⟨g2, e3, e4⟩ := HCK.out.tab.read (a := a) (b := d) (by omega) (by omega) (by omega) (by omega) (by omega)
                        have e5 := HCK.out.row.1
                        have e6 := HCK.out.cur
                        have e7 := HCK.out.frozen (m + 1)
                        rw [show m + 1 = b from hb'] at e6 e7
                        obtain rfl : g1 = g := by have h := e1.symm.trans e5; simp at h; exact h
                        obtain rfl : g2 = g1 := by have h := e3.symm.trans e5; simp at h; exact h
                        have q1 := wayB_ok _ a k (Nat.le_refl _) (by omega) (by omega)
                        have q2 := wayB_ok _ a d (Nat.le_refl _) (by omega) (by omega)
                        obtain ⟨v1, hv1⟩ : ∃ v1, wayB a k = v1 := ⟨_, rfl⟩
                        obtain ⟨v2, hv2⟩ : ∃ v2, wayB a d = v2 := ⟨_, rfl⟩
                        rw [hv1] at e2 q1
                        rw [hv2] at e4 q2
                        obtain ⟨cp, hcp⟩ : ∃ cp, capS v1 v2 = cp := ⟨_, rfl⟩
                        have hck : WayOk cp := by rw [← hcp, ← (cap_same q1 q2).1]; exact (cap_same q1 q2).2
                        obtain ⟨hck1, hck2⟩ := hck
                        have hcb := HRNG.out (upL a b (a - 1) ++ lvL a b (k - 1)) (fun c hc => ((lvL_pre (by omega)).subset hc))
                        rw [HCU.out] at hcb
                        have hwa : IntKind.i64.wrap (cu + cp) = cu + cp := by rw [IntKind.wrap_i64]; omega
                        obtain ⟨nv, hnv⟩ : ∃ nv, min (cu + cp) 1000000000000001 = nv := ⟨_, rfl⟩
                        have HNX := Lib.hid (show wayF capS wayB s0 (upL a b (a - 1) ++ lvL a b (k + 1 - 1)) = nv by
                          rw [show k + 1 - 1 = (k - 1) + 1 by omega, lvL_succ, ← List.append_assoc, wayF_snocS, HCU.out]
                          rw [show k - 1 + 1 = k by omega, hd]
                          simp only [hv1, hv2, hcp, hnv])
                        have HNV := Lib.hid hnv
                        have HCP := Lib.hid hcp
                        have HQ1 := Lib.hid q1
                        have HQ2 := Lib.hid q2
                        clear hnv hcp q1 q2 hv1 hv2 hd hcb
                        have hi0 : (a : Int) < (A : Int) + 1 := by omega
                        have hi1 : (k : Int) < (H : Int) + 1 := by omega
                        have hi2 : (d : Int) < (H : Int) + 1 := by omega
                        have hi3 : (b : Int) < (H : Int) + 1 := by omega
                        go_wp2_with fail
                        refine region_E (S := fun wq => wq.cell? ⟨F, a, none⟩ = some (.slice (some ⟨g2, 0, none⟩) (H + 1) (H + 1)) ∧ wq.cell? ⟨g2, b, none⟩ = some (.int .i64 cu) ∧ wq.cell? ⟨F, a, none⟩ = some (.slice (some ⟨g2, 0, none⟩) (H + 1) (H + 1)) ∧ wq.cell? ⟨g2, k, none⟩ = some (.int .i64 v1) ∧ wq.cell? ⟨F, a, none⟩ = some (.slice (some ⟨g2, 0, none⟩) (H + 1) (H + 1)) ∧ wq.cell? ⟨g2, d, none⟩ = some (.int .i64 v2)) 32 (by kernel_rfl) ⟨e5, e6, e1, e2, e3, e4⟩ (fun hH0 => ?_)
                        refine AnyE.take (i := 0) (v := ?_) (ops_at rfl) (by kernel_rfl) (by kernel_rfl) (by kernel_rfl) (by kernel_rfl) (fun _ _ _ h => h) (Or.inl ⟨by rfl, ?yn2w0⟩) (by assumption) ?nn2w0
                        case yn2w0 => (intro wS hSw; (try dsimp only at hSw); (have k0 := hSw.1); (have k1 := hSw.2.1); (have k2 := hSw.2.2.1); (have k3 := hSw.2.2.2.1); (have k4 := hSw.2.2.2.2.1); (have k5 := hSw.2.2.2.2.2); go_simp; try rfl)
                        try simp only [Act.put, List.setIfInBounds_toArray, List.set_cons_zero, List.set_cons_succ]
                        refine AnyE.take (i := 1) (v := ?_) (ops_at rfl) (by kernel_rfl) (by kernel_rfl) (by kernel_rfl) (by kernel_rfl) (fun _ _ _ h => h) (Or.inl ⟨by rfl, ?yn2w1⟩) (by assumption) ?nn2w1
                        case yn2w1 => (intro wS hSw; (try dsimp only at hSw); (have k0 := hSw.1); (have k1 := hSw.2.1); (have k2 := hSw.2.2.1); (have k3 := hSw.2.2.2.1); (have k4 := hSw.2.2.2.2.1); (have k5 := hSw.2.2.2.2.2); go_simp; try rfl)
                        try simp only [Act.put, List.setIfInBounds_toArray, List.set_cons_zero, List.set_cons_succ]
                        refine AnyE.take (i := 2) (v := ?_) (ops_at rfl) (by kernel_rfl) (by kernel_rfl) (by kernel_rfl) (by kernel_rfl) (fun _ _ _ h => h) (Or.inl ⟨by rfl, ?yn2w2⟩) (by assumption) ?nn2w2
                        case yn2w2 => (intro wS hSw; (try dsimp only at hSw); (have k0 := hSw.1); (have k1 := hSw.2.1); (have k2 := hSw.2.2.1); (have k3 := hSw.2.2.2.1); (have k4 := hSw.2.2.2.2.1); (have k5 := hSw.2.2.2.2.2); go_simp; try rfl)
                        try simp only [Act.put, List.setIfInBounds_toArray, List.set_cons_zero, List.set_cons_succ]
                        refine AnyE.take (i := 3) (v := ?_) (ops_at rfl) (by kernel_rfl) (by kernel_rfl) (by kernel_rfl) (by kernel_rfl) (fun _ _ _ h => h) (Or.inl ⟨by rfl, ?yn2w3⟩) (by assumption) ?nn2w3
                        case yn2w3 => (intro wS hSw; (try dsimp only at hSw); (have k0 := hSw.1); (have k1 := hSw.2.1); (have k2 := hSw.2.2.1); (have k3 := hSw.2.2.2.1); (have k4 := hSw.2.2.2.2.1); (have k5 := hSw.2.2.2.2.2); go_simp; try rfl)
                        try simp only [Act.put, List.setIfInBounds_toArray, List.set_cons_zero, List.set_cons_succ]
                        refine AnyE.take (i := 4) (v := ?_) (ops_at rfl) (by kernel_rfl) (by kernel_rfl) (by kernel_rfl) (by kernel_rfl) (fun _ _ _ h => h) (Or.inl ⟨by rfl, ?yn2w4⟩) (by assumption) ?nn2w4
                        case yn2w4 => (intro wS hSw; (try dsimp only at hSw); (have k0 := hSw.1); (have k1 := hSw.2.1); (have k2 := hSw.2.2.1); (have k3 := hSw.2.2.2.1); (have k4 := hSw.2.2.2.2.1); (have k5 := hSw.2.2.2.2.2); go_simp; try rfl)
                        try simp only [Act.put, List.setIfInBounds_toArray, List.set_cons_zero, List.set_cons_succ]
                        refine AnyE.take (i := 5) (v := ?_) (ops_at rfl) (by kernel_rfl) (by kernel_rfl) (by kernel_rfl) (by kernel_rfl) (fun _ _ _ h => h) (Or.inl ⟨by rfl, ?yn2w5⟩) (by assumption) ?nn2w5
                        case yn2w5 => (intro wS hSw; (try dsimp only at hSw); (have k0 := hSw.1); (have k1 := hSw.2.1); (have k2 := hSw.2.2.1); (have k3 := hSw.2.2.2.1); (have k4 := hSw.2.2.2.2.1); (have k5 := hSw.2.2.2.2.2); go_simp; try rfl)
                        try simp only [Act.put, List.setIfInBounds_toArray, List.set_cons_zero, List.set_cons_succ]
                        refine AnyE.take (i := 6) (v := ?_) (ops_at rfl) (by kernel_rfl) (by kernel_rfl) (by kernel_rfl) (by kernel_rfl) (fun _ _ _ h => h) (Or.inl ⟨by rfl, ?yn2w6⟩) (by assumption) ?nn2w6
                        case yn2w6 => (intro wS hSw; (try dsimp only at hSw); (have k0 := hSw.1); (have k1 := hSw.2.1); (have k2 := hSw.2.2.1); (have k3 := hSw.2.2.2.1); (have k4 := hSw.2.2.2.2.1); (have k5 := hSw.2.2.2.2.2); go_simp; try rfl)
                        try simp only [Act.put, List.setIfInBounds_toArray, List.set_cons_zero, List.set_cons_succ]
                        refine AnyE.take (i := 7) (v := ?_) (ops_at rfl) (by kernel_rfl) (by kernel_rfl) (by kernel_rfl) (by kernel_rfl) (fun _ _ _ h => h) (Or.inl ⟨by rfl, ?yn2w7⟩) (by assumption) ?nn2w7
                        case yn2w7 => (intro wS hSw; (try dsimp only at hSw); (have k0 := hSw.1); (have k1 := hSw.2.1); (have k2 := hSw.2.2.1); (have k3 := hSw.2.2.2.1); (have k4 := hSw.2.2.2.2.1); (have k5 := hSw.2.2.2.2.2); go_simp; try rfl)
                        try simp only [Act.put, List.setIfInBounds_toArray, List.set_cons_zero, List.set_cons_succ]
                        refine AnyE.take (i := 8) (v := ?_) (ops_at rfl) (by kernel_rfl) (by kernel_rfl) (by kernel_rfl) (by kernel_rfl) (fun _ _ _ h => h) (Or.inl ⟨by rfl, ?yn2w8⟩) (by assumption) ?nn2w8
                        case yn2w8 => (intro wS hSw; (try dsimp only at hSw); (have k0 := hSw.1); (have k1 := hSw.2.1); (have k2 := hSw.2.2.1); (have k3 := hSw.2.2.2.1); (have k4 := hSw.2.2.2.2.1); (have k5 := hSw.2.2.2.2.2); go_simp; try rfl)
                        try simp only [Act.put, List.setIfInBounds_toArray, List.set_cons_zero, List.set_cons_succ]
                        refine AnyE.take (i := 9) (v := ?_) (ops_at rfl) (by kernel_rfl) (by kernel_rfl) (by kernel_rfl) (by kernel_rfl) (fun _ _ _ h => h) (Or.inl ⟨by rfl, ?yn2w9⟩) (by assumption) ?nn2w9
                        case yn2w9 => (intro wS hSw; (try dsimp only at hSw); (have k0 := hSw.1); (have k1 := hSw.2.1); (have k2 := hSw.2.2.1); (have k3 := hSw.2.2.2.1); (have k4 := hSw.2.2.2.2.1); (have k5 := hSw.2.2.2.2.2); go_simp; try rfl)
                        try simp only [Act.put, List.setIfInBounds_toArray, List.set_cons_zero, List.set_cons_succ]
                        refine AnyE.take (i := 10) (v := ?_) (ops_at rfl) (by kernel_rfl) (by kernel_rfl) (by kernel_rfl) (by kernel_rfl) (fun _ _ _ h => h) (Or.inl ⟨by rfl, ?yn2w10⟩) (by assumption) ?nn2w10
                        case yn2w10 => (intro wS hSw; (try dsimp only at hSw); (have k0 := hSw.1); (have k1 := hSw.2.1); (have k2 := hSw.2.2.1); (have k3 := hSw.2.2.2.1); (have k4 := hSw.2.2.2.2.1); (have k5 := hSw.2.2.2.2.2); go_simp; try rfl)
                        try simp only [Act.put, List.setIfInBounds_toArray, List.set_cons_zero, List.set_cons_succ]
                        refine AnyE.take (i := 11) (v := ?_) (ops_at rfl) (by kernel_rfl) (by kernel_rfl) (by kernel_rfl) (by kernel_rfl) (fun _ _ _ h => h) (Or.inl ⟨by rfl, ?yn2w11⟩) (by assumption) ?nn2w11
                        case yn2w11 => (intro wS hSw; (try dsimp only at hSw); (have k0 := hSw.1); (have k1 := hSw.2.1); (have k2 := hSw.2.2.1); (have k3 := hSw.2.2.2.1); (have k4 := hSw.2.2.2.2.1); (have k5 := hSw.2.2.2.2.2); go_simp; try rfl)
                        try simp only [Act.put, List.setIfInBounds_toArray, List.set_cons_zero, List.set_cons_succ]
                        refine AnyE.take (i := 12) (v := ?_) (ops_at rfl) (by kernel_rfl) (by kernel_rfl) (by kernel_rfl) (by kernel_rfl) (fun _ _ _ h => h) (Or.inl ⟨by rfl, ?yn2w12⟩) (by assumption) ?nn2w12
                        case yn2w12 => (intro wS hSw; (try dsimp only at hSw); (have k0 := hSw.1); (have k1 := hSw.2.1); (have k2 := hSw.2.2.1); (have k3 := hSw.2.2.2.1); (have k4 := hSw.2.2.2.2.1); (have k5 := hSw.2.2.2.2.2); go_simp; try rfl)
                        try simp only [Act.put, List.setIfInBounds_toArray, List.set_cons_zero, List.set_cons_succ]
                        refine AnyE.take (i := 13) (v := ?_) (ops_at rfl) (by kernel_rfl) (by kernel_rfl) (by kernel_rfl) (by kernel_rfl) (fun _ _ _ h => h) (Or.inl ⟨by rfl, ?yn2w13⟩) (by assumption) ?nn2w13
                        case yn2w13 => (intro wS hSw; (try dsimp only at hSw); (have k0 := hSw.1); (have k1 := hSw.2.1); (have k2 := hSw.2.2.1); (have k3 := hSw.2.2.2.1); (have k4 := hSw.2.2.2.2.1); (have k5 := hSw.2.2.2.2.2); go_simp; try rfl)
                        try simp only [Act.put, List.setIfInBounds_toArray, List.set_cons_zero, List.set_cons_succ]
                        refine AnyE.take (i := 14) (v := ?_) (ops_at rfl) (by kernel_rfl) (by kernel_rfl) (by kernel_rfl) (by kernel_rfl) (fun _ _ _ h => h) (Or.inl ⟨by rfl, ?yn2w14⟩) (by assumption) ?nn2w14
                        case yn2w14 => (intro wS hSw; (try dsimp only at hSw); (have k0 := hSw.1); (have k1 := hSw.2.1); (have k2 := hSw.2.2.1); (have k3 := hSw.2.2.2.1); (have k4 := hSw.2.2.2.2.1); (have k5 := hSw.2.2.2.2.2); go_simp; try rfl)
                        try simp only [Act.put, List.setIfInBounds_toArray, List.set_cons_zero, List.set_cons_succ]
                        refine AnyE.take (i := 15) (v := ?_) (ops_at rfl) (by kernel_rfl) (by kernel_rfl) (by kernel_rfl) (by kernel_rfl) (fun _ _ _ h => h) (Or.inl ⟨by rfl, ?yn2w15⟩) (by assumption) ?nn2w15
                        case yn2w15 => (intro wS hSw; (try dsimp only at hSw); (have k0 := hSw.1); (have k1 := hSw.2.1); (have k2 := hSw.2.2.1); (have k3 := hSw.2.2.2.1); (have k4 := hSw.2.2.2.2.1); (have k5 := hSw.2.2.2.2.2); go_simp; try rfl)
                        try simp only [Act.put, List.setIfInBounds_toArray, List.set_cons_zero, List.set_cons_succ]
                        refine AnyE.take (i := 16) (v := ?_) (ops_at rfl) (by kernel_rfl) (by kernel_rfl) (by kernel_rfl) (by kernel_rfl) (fun _ _ _ h => h) (Or.inl ⟨by rfl, ?yn2w16⟩) (by assumption) ?nn2w16
                        case yn2w16 => (intro wS hSw; (try dsimp only at hSw); (have k0 := hSw.1); (have k1 := hSw.2.1); (have k2 := hSw.2.2.1); (have k3 := hSw.2.2.2.1); (have k4 := hSw.2.2.2.2.1); (have k5 := hSw.2.2.2.2.2); go_simp; try rfl)
                        try simp only [Act.put, List.setIfInBounds_toArray, List.set_cons_zero, List.set_cons_succ]
                        refine AnyE.take (i := 17) (v := ?_) (ops_at rfl) (by kernel_rfl) (by kernel_rfl) (by kernel_rfl) (by kernel_rfl) (fun _ _ _ h => h) (Or.inl ⟨by rfl, ?yn2w17⟩) (by assumption) ?nn2w17
                        case yn2w17 => (intro wS hSw; (try dsimp only at hSw); (have k0 := hSw.1); (have k1 := hSw.2.1); (have k2 := hSw.2.2.1); (have k3 := hSw.2.2.2.1); (have k4 := hSw.2.2.2.2.1); (have k5 := hSw.2.2.2.2.2); go_simp; try rfl)
                        try simp only [Act.put, List.setIfInBounds_toArray, List.set_cons_zero, List.set_cons_succ]
                        refine AnyE.take (i := 18) (v := ?_) (ops_at rfl) (by kernel_rfl) (by kernel_rfl) (by kernel_rfl) (by kernel_rfl) (fun _ _ _ h => h) (Or.inl ⟨by rfl, ?yn2w18⟩) (by assumption) ?nn2w18
                        case yn2w18 => (intro wS hSw; (try dsimp only at hSw); (have k0 := hSw.1); (have k1 := hSw.2.1); (have k2 := hSw.2.2.1); (have k3 := hSw.2.2.2.1); (have k4 := hSw.2.2.2.2.1); (have k5 := hSw.2.2.2.2.2); go_simp; try rfl)
                        try simp only [Act.put, List.setIfInBounds_toArray, List.set_cons_zero, List.set_cons_succ]
                        refine AnyE.take (i := 19) (v := ?_) (ops_at rfl) (by kernel_rfl) (by kernel_rfl) (by kernel_rfl) (by kernel_rfl) (fun _ _ _ h => h) (Or.inl ⟨by rfl, ?yn2w19⟩) (by assumption) ?nn2w19
                        case yn2w19 => (intro wS hSw; (try dsimp only at hSw); (have k0 := hSw.1); (have k1 := hSw.2.1); (have k2 := hSw.2.2.1); (have k3 := hSw.2.2.2.1); (have k4 := hSw.2.2.2.2.1); (have k5 := hSw.2.2.2.2.2); go_simp; try rfl)
                        try simp only [Act.put, List.setIfInBounds_toArray, List.set_cons_zero, List.set_cons_succ]
                        refine AnyE.take (i := 20) (v := ?_) (ops_at rfl) (by kernel_rfl) (by kernel_rfl) (by kernel_rfl) (by kernel_rfl) (fun _ _ _ h => h) (Or.inl ⟨by rfl, ?yn2w20⟩) (by assumption) ?nn2w20
                        case yn2w20 => (intro wS hSw; (try dsimp only at hSw); (have k0 := hSw.1); (have k1 := hSw.2.1); (have k2 := hSw.2.2.1); (have k3 := hSw.2.2.2.1); (have k4 := hSw.2.2.2.2.1); (have k5 := hSw.2.2.2.2.2); go_simp; try rfl)
                        try simp only [Act.put, List.setIfInBounds_toArray, List.set_cons_zero, List.set_cons_succ]
                        refine AnyE.take (i := 21) (v := ?_) (ops_at rfl) (by kernel_rfl) (by kernel_rfl) (by kernel_rfl) (by kernel_rfl) (fun _ _ _ h => h) (Or.inl ⟨by rfl, ?yn2w21⟩) (by assumption) ?nn2w21
                        case yn2w21 => (intro wS hSw; (try dsimp only at hSw); (have k0 := hSw.1); (have k1 := hSw.2.1); (have k2 := hSw.2.2.1); (have k3 := hSw.2.2.2.1); (have k4 := hSw.2.2.2.2.1); (have k5 := hSw.2.2.2.2.2); go_simp; try rfl)
                        try simp only [Act.put, List.setIfInBounds_toArray, List.set_cons_zero, List.set_cons_succ]
                        refine AnyE.take (i := 22) (v := ?_) (ops_at rfl) (by kernel_rfl) (by kernel_rfl) (by kernel_rfl) (by kernel_rfl) (fun _ _ _ h => h) (Or.inl ⟨by rfl, ?yn2w22⟩) (by assumption) ?nn2w22
                        case yn2w22 => (intro wS hSw; (try dsimp only at hSw); (have k0 := hSw.1); (have k1 := hSw.2.1); (have k2 := hSw.2.2.1); (have k3 := hSw.2.2.2.1); (have k4 := hSw.2.2.2.2.1); (have k5 := hSw.2.2.2.2.2); go_simp; try rfl)
                        try simp only [Act.put, List.setIfInBounds_toArray, List.set_cons_zero, List.set_cons_succ]
                        refine AnyE.take (i := 23) (v := ?_) (ops_at rfl) (by kernel_rfl) (by kernel_rfl) (by kernel_rfl) (by kernel_rfl) (fun _ _ _ h => h) (Or.inl ⟨by rfl, ?yn2w23⟩) (by assumption) ?nn2w23
                        case yn2w23 => (intro wS hSw; (try dsimp only at hSw); (have k0 := hSw.1); (have k1 := hSw.2.1); (have k2 := hSw.2.2.1); (have k3 := hSw.2.2.2.1); (have k4 := hSw.2.2.2.2.1); (have k5 := hSw.2.2.2.2.2); go_simp; try rfl)
                        try simp only [Act.put, List.setIfInBounds_toArray, List.set_cons_zero, List.set_cons_succ]
                        refine AnyE.take (i := 24) (v := ?_) (ops_at rfl) (by kernel_rfl) (by kernel_rfl) (by kernel_rfl) (by kernel_rfl) (fun _ _ _ h => h) (Or.inl ⟨by rfl, ?yn2w24⟩) (by assumption) ?nn2w24
                        case yn2w24 => (intro wS hSw; (try dsimp only at hSw); (have k0 := hSw.1); (have k1 := hSw.2.1); (have k2 := hSw.2.2.1); (have k3 := hSw.2.2.2.1); (have k4 := hSw.2.2.2.2.1); (have k5 := hSw.2.2.2.2.2); go_simp; try rfl)
                        try simp only [Act.put, List.setIfInBounds_toArray, List.set_cons_zero, List.set_cons_succ]
                        refine AnyE.take (i := 25) (v := ?_) (ops_at rfl) (by kernel_rfl) (by kernel_rfl) (by kernel_rfl) (by kernel_rfl) (fun _ _ _ h => h) (Or.inl ⟨by rfl, ?yn2w25⟩) (by assumption) ?nn2w25
                        case yn2w25 => (intro wS hSw; (try dsimp only at hSw); (have k0 := hSw.1); (have k1 := hSw.2.1); (have k2 := hSw.2.2.1); (have k3 := hSw.2.2.2.1); (have k4 := hSw.2.2.2.2.1); (have k5 := hSw.2.2.2.2.2); go_simp; try rfl)
                        try simp only [Act.put, List.setIfInBounds_toArray, List.set_cons_zero, List.set_cons_succ]
                        refine AnyE.take (i := 26) (v := ?_) (ops_at rfl) (by kernel_rfl) (by kernel_rfl) (by kernel_rfl) (by kernel_rfl) (fun _ _ _ h => h) (Or.inl ⟨by rfl, ?yn2w26⟩) (by assumption) ?nn2w26
                        case yn2w26 => (intro wS hSw; (try dsimp only at hSw); (have k0 := hSw.1); (have k1 := hSw.2.1); (have k2 := hSw.2.2.1); (have k3 := hSw.2.2.2.1); (have k4 := hSw.2.2.2.2.1); (have k5 := hSw.2.2.2.2.2); go_simp; try rfl)
                        try simp only [Act.put, List.setIfInBounds_toArray, List.set_cons_zero, List.set_cons_succ]
                        refine AnyE.take (i := 27) (v := ?_) (ops_at rfl) (by kernel_rfl) (by kernel_rfl) (by kernel_rfl) (by kernel_rfl) (fun _ _ _ h => h) (Or.inl ⟨by rfl, ?yn2w27⟩) (by assumption) ?nn2w27
                        case yn2w27 => (intro wS hSw; (try dsimp only at hSw); (have k0 := hSw.1); (have k1 := hSw.2.1); (have k2 := hSw.2.2.1); (have k3 := hSw.2.2.2.1); (have k4 := hSw.2.2.2.2.1); (have k5 := hSw.2.2.2.2.2); go_simp; try rfl)
                        try simp only [Act.put, List.setIfInBounds_toArray, List.set_cons_zero, List.set_cons_succ]
                        refine AnyE.of_ready (rs := [28]) (by kernel_rfl) (by simp) ?_
                        refine ReadyE.cons (ops_at rfl) (fun K hK => ?_) ReadyE.nil
                        go_simp
                        refine (times_any v1 v2 HQ1.out HQ2.out _ cp HCP.out).mono ?_
                        rintro e wz ⟨rfl, rfl⟩
                        refine hK.out _ _ (fun _ => hH0) (fun _ => ?_)
                        clear hK K
                        refine AnyE.of_ready (rs := [29]) (by kernel_rfl) (by simp) ?_
                        refine ReadyE.cons (ops_at rfl) (fun K hK => ?_) ReadyE.nil
                        go_simp
                        refine hK.out _ _ (fun _ => hH0) (fun _ => ?_)
                        clear hK K
                        refine AnyE.of_ready (rs := [30]) (by kernel_rfl) (by simp) ?_
                        refine ReadyE.cons (ops_at rfl) (fun K hK => ?_) ReadyE.nil
                        go_simp
                        refine (l1Least_any (cu + cp) 1000000000000001 nv HNV.out _).mono ?_
                        rintro e wz ⟨rfl, rfl⟩
                        refine hK.out _ _ (fun _ => hH0) (fun _ => ?_)
                        clear hK K
                        refine AnyE.take (i := 31) (v := ?_) (ops_at rfl) (by kernel_rfl) (by kernel_rfl) (by kernel_rfl) (by kernel_rfl) (fun _ _ _ h => h) (Or.inl ⟨by rfl, ?yn2w31⟩) (by assumption) ?nn2w31
                        case yn2w31 => (intro wS hSw; (try dsimp only at hSw); (have k0 := hSw.1); (have k1 := hSw.2.1); (have k2 := hSw.2.2.1); (have k3 := hSw.2.2.2.1); (have k4 := hSw.2.2.2.2.1); (have k5 := hSw.2.2.2.2.2); go_simp; try rfl)
                        try simp only [Act.put, List.setIfInBounds_toArray, List.set_cons_zero, List.set_cons_succ]
                        refine AnyE.of_ready (rs := [32]) (by kernel_rfl) (by simp) ?_
                        refine ReadyE.cons (ops_at rfl) (fun K hK => ?_) ReadyE.nil
                        go_simp
                        refine hK.out _ _ (fun h => absurd rfl h) (fun _ => ?_)
                        clear hK K
                        refine AnyE.end_ (by kernel_rfl) ?_ _
                        clear e1 e2 e3 e4 e5 e6 e7 hH0
                        go_wp2
                        go_roundw
                        case rel => exact ⟨k + 1, by omega, by omega, by go_num, drewB (HBK.out.setCell (p := ⟨g2, b, none⟩) (by show w.heap.size ≤ g2; omega) _), by rw [HNX.out]; have h := HCK.out.set (by omega) hlm nv; rw [show m + 1 = b from hb'] at h; exact h.below (drewB (Below.refl _ _))⟩
                        case measure => simp [intOf]; omega
                      · have hkb : k = b := by omega
                        have hlk : ¬ (k : Int) < (b : Int) := by omega
                        have hdk : decide ((k : Int) < (b : Int)) = false := decide_eq_false hlk
                        have HW := Lib.hid (show wayB a b = cu by rw [wayB_spec (by omega) (by omega), wayS, cutsL_parts, HS.out]; have h := HCU.out; rw [hkb] at h; exact h)
                        have hfin := (HCK.out.tab.fin (by omega) HCK.out.row.1 (by rw [HCK.out.cur, show m + 1 = b from hb', HW.out]))
                        have HFI := Lib.hid hfin
                        have HRO := Lib.hid HCK.out.row
                        clear hfin
                        go_wp2
                        go_roundw
                        case rel => exact ⟨m + 1, by omega, by go_num, HBK.out, HFI.out, HRO.out⟩
                        case measure => simp [intOf]; omega
          · obtain rfl : m = H := by omega
            have hbl : ¬ ((m : Int) + 1) ≤ (m : Int) := by omega
            have hd1 : decide (((m : Int) + 1) ≤ (m : Int)) = false := decide_eq_false hbl
            go_wp2
            go_roundw
            case rel => exact ⟨n + 1, by omega, by go_num, HBm.out, by rw [show n + 1 = a from ha']; exact HTm.out⟩
            case measure => simp [intOf]; omega
      · obtain rfl : n = A := by omega
        have hle : ¬ ((n : Int) + 1) ≤ (n : Int) := by omega
        have hd0 : decide (((n : Int) + 1) ≤ (n : Int)) = false := decide_eq_false hle
        obtain ⟨g, e1, e2⟩ := HT.out.read (a := n) (b := H) hA1 (Nat.le_refl _) hH1 (Nat.le_refl _) (.inr (Nat.le_refl _))
        obtain ⟨u, hu⟩ : ∃ u, wayB n H = u := ⟨_, rfl⟩
        have HU := Lib.hid hu
        rw [hu] at e2
        clear hu
        by_cases hbig : 1000000000000000 < u
        · have hdb : decide (1000000000000000 < u) = true := decide_eq_true hbig
          obtain rfl : q = false := by rw [← HQ.out, wayQ, H1.out]; show (true && decide (wayB n H ≤ 1000000000000000)) = false; rw [HU.out, Bool.true_and]; exact decide_eq_false (by omega)
          obtain rfl : v = 0 := by rw [← HV.out, wayN, HQ.out]; rfl
          go_wp2
          go_ret2
          exact ⟨rfl, HB.out⟩
        · have hdb : decide (1000000000000000 < u) = false := decide_eq_false hbig
          obtain rfl : q = true := by rw [← HQ.out, wayQ, H1.out]; show (true && decide (wayB n H ≤ 1000000000000000)) = true; rw [HU.out, Bool.true_and]; exact decide_eq_true (by omega)
          obtain rfl : v = u := by rw [← HV.out, wayN, HQ.out, if_pos rfl]; exact HU.out
          go_wp2
          go_ret2
          exact ⟨rfl, HB.out⟩
end Go.Proofs.Ytbaofgbkcolmmaa
