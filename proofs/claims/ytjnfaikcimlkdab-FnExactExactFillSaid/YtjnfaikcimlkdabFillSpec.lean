/-
  The given program's search for things that are just a room together.
  Conditions: one to nine things, each from 1 to 100; a room of 0 to 1000.
-/
import Derived.Test.YtjnfaikcimlkdabFillImpl
import Derived.Test.YtjnfaikcimlkdabPk
import Derived.Deep.RegionHeld3
import Derived.Deep.DeepCutAuto
namespace Go.Proofs.Ytjnfaikcimlkdab
set_option linter.unusedVariables false
open Go.RowKit

set_option maxHeartbeats 400000 in
theorem l1Own_any (A : Option Addr) (n c : Nat) (xs : List Int) (lo hi : Nat) (w : World) (hn : xs.length = n) (hlen : n ≤ 1048576) (hs : Seg w lo hi A xs) (hB : hi ≤ w.heap.size) :
    Calls Try.prog 64 #[.slice A n c] w fun e w' => ∃ A' c', e = .returned (.slice A' n c') ∧ w'.ownsRow w.heap.size 3 1 (.slice A' n c') n (xs.map (Value.int .i64)) ∧ Below w.heap.size w w' := by
  obtain ⟨i0, hi0, hz0, hz1, hz2⟩ := info_parts int_info
  have HN := Lib.hid hn
  have hlit := World.ownsRow_lit (base := w.heap.size) (e := 3) (size := 1) w #[] 0 (Nat.le_refl _) (Nat.zero_le _) rfl
  have hs1 := hs.below ((Below.refl w.heap.size w).alloc (Nat.le_refl _) (.cells #[] 3)) hB
  have HLIT := Lib.hid hlit
  have HSEG := Lib.hid hs1
  clear hn hlit hs1
  go_enter Try.func64, Try.ntmps64
  go_wp2_with (at_builtin; refine wpList_append_seg _ rfl _ _ 22 rfl w.heap.size 3 i0 Try.underlying22 hi0 hz0 hz1 hz2 _ 0 _ rfl HLIT.out A n c xs lo hi rfl HN.out HSEG.out (by omega) (by simp) ?_; intro v' w2 hown2 hgrow2; have hown3 : w2.ownsRow w.heap.size 3 1 v' n (xs.map (Value.int .i64)) := (by simpa using hown2); clear hown2; obtain ⟨A2, c2, rfl⟩ := ownsRow_form hown3)
  go_ret
  exact ⟨A2, c2, rfl, hown3, ((Below.refl w.heap.size w).alloc (Nat.le_refl _) _).grown hgrow2 (by simp) (fun g hg => (HLIT.out.lt g hg).1)⟩

theorem FillRet.bel {r : Option (List Int)} {w w' : World} {e : Ending} (h : FillRet r w e w') : Below w.heap.size w w' := by
  rcases h with ⟨_, _, h⟩ | ⟨_, _, _, _, _, _, h⟩ <;> exact h

theorem seg_one (w : World) (u : Int) (T : Nat) : Seg (w.alloc (.cells #[.int .i64 u] T)) w.heap.size (w.alloc (.cells #[.int .i64 u] T)).heap.size (some ⟨w.heap.size, 0, none⟩) [u] := by
  refine .inr ⟨w.heap.size, 0, rfl, Nat.le_refl _, by simp, fun k hk => ?_⟩
  have hk0 : k = 0 := by simpa using hk
  subst hk0
  rw [cell_of (heap_alloc_new w _)]
  rfl

theorem own_mono {w : World} {base base' T n : Nat} {v : Value} {xs : List Value} (h : w.ownsRow base T 1 v n xs) (hb : base' ≤ base) : w.ownsRow base' T 1 v n xs := by
  obtain ⟨h1, h2⟩ := h
  refine ⟨h1, ?_⟩
  rcases h2 with h2 | ⟨g, cap, cur, e, hg, h3⟩
  · exact .inl h2
  · exact .inr ⟨g, cap, cur, e, Nat.le_trans hb hg, h3⟩

/-- Where the search goes on behind a beginning. -/
def From (bs : List Int) (k : Nat) : Prop := (bs = [] ∧ k = 0) ∨ ∃ j, bs.length = j + 1 ∧ bs[j]? = some ((k : Int) - 1)

theorem From.snoc (bs : List Int) (k : Nat) : From (bs ++ [(k : Int)]) (k + 1) := .inr ⟨bs.length, by simp, by simp⟩

set_option maxHeartbeats 1500000 in
set_option maxRecDepth 100000 in
theorem bxFill_any (A : Option Addr) (n c : Nat) (xs : List Int) (lo hi : Nat) (hn : xs.length = n) (hg : goodB xs = true) (m : Nat) :
    ∀ (k : Nat) (room : Int) (D : Option Addr) (p d : Nat) (bs : List Int) (lo' hi' : Nat) (w : World), k + m = n → 0 ≤ room ∧ room ≤ 1000 → Seg w lo hi A xs → hi ≤ w.heap.size → Seg w lo' hi' D bs → hi' ≤ w.heap.size → bs.length = p → p ≤ k → From bs k →
      Calls Try.prog 45 #[.slice A n c, .slice D p d, .int .i64 room] w (FillRet ((fillM xs m k room).map (bs ++ ·)) w) := by
  obtain ⟨i0, hi0, hz0, hz1, hz2⟩ := info_parts int_info
  have HN := Lib.hid hn
  obtain ⟨g1, g2, g3⟩ := goodB_at hg
  have hn9 : n ≤ 9 := by omega
  have HG := Lib.hid g3
  clear hg g1 g2 g3 hn
  induction m using Nat.strongRecOn with
  | ind m ih =>
    intro k0 room D p d bs lo' hi' w hkm hroom hs hB hd hB' hp hpk hfrom
    have IH := Lib.hid ih
    have HP := Lib.hid hp
    have HFR := Lib.hid hfrom
    clear ih hp hfrom
    by_cases hz : room = 0
    · subst hz
      have HZ := Lib.hid (fillM_zero xs m k0)
      go_enter Try.func45, Try.ntmps45
      go_wp2_with (go_at_call 64; refine (l1Own_any _ _ _ bs lo' hi' _ HP.out (by omega) hd hB').mono ?_; rintro e w1 ⟨A', c', rfl, hown, hb⟩)
      go_ret2
      have ho := (ownsRow_own (ys := bs) (by rw [HP.out]; exact hown)).2
      exact Or.inr ⟨bs, A', c', by rw [HZ.out]; simp, by rw [HP.out]; rfl, ho, hb⟩
    · have hz' : (room == 0) = false := by simpa using hz
      go_enter Try.func45, Try.ntmps45
      go_upto_if 20 with (fail)
      go_cut [8] (fun s8 wx => s8 = .int .i64 (k0 : Int) ∧ wx = w)
      case first =>
        by_cases hp0 : p = 0
        · subst hp0
          have hk0 : k0 = 0 := by
            rcases HFR.out with ⟨_, h⟩ | ⟨j, h, _⟩
            · exact h
            · have := HP.out; omega
          subst hk0
          go_wp2_with fail
          go_meet
          exact ⟨rfl, rfl⟩
        · obtain ⟨j, hj, hjv⟩ : ∃ j, bs.length = j + 1 ∧ bs[j]? = some ((k0 : Int) - 1) := by
            rcases HFR.out with ⟨h, _⟩ | h
            · have := HP.out; rw [h] at this; exact absurd this.symm hp0
            · exact h
          have hpj : p = j + 1 := by rw [← HP.out]; exact hj
          obtain ⟨bb, bo, v, hDe, _, _, hv, hcv⟩ := hd.at_ (k := j) (by omega)
          subst hDe
          obtain rfl : (k0 : Int) - 1 = v := by rw [hjv] at hv; injection hv
          subst hpj
          clear hj hjv hv
          go_wp2_with fail
          go_meet
          exact ⟨by go_num, rfl⟩
      case rest =>
        obtain ⟨rfl, hwc⟩ := hcut
        obtain rfl : w = wc := hwc.symm
        go_wp2
        go_loopw [10] (fun i wr => ∃ k : Nat, k0 ≤ k ∧ k ≤ n ∧ i = .int .i64 k ∧ Below w.heap.size w wr ∧ fillM xs m k0 room = fillM xs (n - k) k room) (fun i _ => n - (intOf i).toNat)
        case atStart => exact ⟨k0, Nat.le_refl _, by omega, rfl, Below.refl _ _, by rw [show n - k0 = m by omega]⟩
        case round =>
          obtain ⟨k, hk0, hk, rfl, hb, hf⟩ := hrel
          have HF := Lib.hid hf
          have hsz := hb.size
          have hsw := hs.below hb hB
          have hdw := hd.below hb hB'
          clear hf
          by_cases hlt : k < n
          · obtain ⟨bt, ot, x, rfl, _, hbt, hx, hct⟩ := hsw.at_ (k := k) (by rw [HN.out]; exact hlt)
            have hxb := HG.out x (List.mem_of_getElem? hx)
            have HX := Lib.hid hx
            clear hx
            obtain ⟨dd, hdd⟩ : ∃ dd, n - k = dd + 1 := ⟨n - k - 1, by omega⟩
            have hdd2 : n - (k + 1) = dd := by omega
            have HD := Lib.hid hdd
            have HD2 := Lib.hid hdd2
            by_cases hov : room < x
            · have HS := Lib.hid (show fillM xs m k0 room = fillM xs (n - (k + 1)) (k + 1) room by rw [HD2.out, HF.out, HD.out]; exact fillM_over hz HX.out hov)
              clear hdd hdd2
              go_wp2
              go_roundw
              case rel => exact ⟨k + 1, by omega, by omega, by go_num, hb, HS.out⟩
              case measure => simp [intOf]; omega
            · have hov' : decide (room < x) = false := decide_eq_false hov
              have hih := fun (D' : Option Addr) (d' : Nat) (l2 h2 : Nat) (W : World) (hW : Below wr.heap.size wr W) (hD : Seg W l2 h2 D' (bs ++ [(k : Int)])) (hh : h2 ≤ W.heap.size) =>
                IH.out dd (by omega) (k + 1) (room - x) D' (p + 1) d' (bs ++ [(k : Int)]) l2 h2 W (by omega) (by omega) (hsw.below hW (by omega)) (by have := hW.size; omega) hD hh (by simp [HP.out]) (by omega) (From.snoc bs k)
              have HI := Lib.hid hih
              have hpk2 : p ≤ 9 := by omega
              clear hdd hdd2 hih
              have HW := Lib.hid (show IntKind.i64.wrap (room - x) = room - x from IntWalk.i64_in _ (by omega))
              go_upto_region 11 with (fail)
              refine wp_region_held_drew (S := (fun w' => w'.cell? ⟨bt, ot + k, none⟩ = some (.int .i64 x) ∧ True)) (by kernel_rfl) ⟨hct, trivial⟩ (fun hH0 => ?_)
              refine wpAnyH_take (i := 0) (v := ?_) (ops_at rfl) (by kernel_rfl) (by kernel_rfl) (by kernel_rfl) (fun _ _ _ h => h) (Or.inl ⟨by rfl, ?ya0⟩) (by assumption) ?na0
              case ya0 => (intro wS hSw; (try dsimp only at hSw); go_simp; try rfl)
              try simp only [Act.put, List.setIfInBounds_toArray, List.set_cons_zero, List.set_cons_succ]
              refine wpAnyH_take (i := 1) (v := ?_) (ops_at rfl) (by kernel_rfl) (by kernel_rfl) (by kernel_rfl) (fun _ _ _ h => h) (Or.inl ⟨by rfl, ?ya1⟩) (by assumption) ?na1
              case ya1 => (intro wS hSw; (try dsimp only at hSw); go_simp; try rfl)
              try simp only [Act.put, List.setIfInBounds_toArray, List.set_cons_zero, List.set_cons_succ]
              refine wpAnyH_take (i := 3) (v := ?_) (ops_at rfl) (by kernel_rfl) (by kernel_rfl) (by kernel_rfl) (fun _ _ _ h => h) (Or.inl ⟨by rfl, ?ya3⟩) (by assumption) ?na3
              case ya3 => (intro wS hSw; (try dsimp only at hSw); go_simp; try rfl)
              try simp only [Act.put, List.setIfInBounds_toArray, List.set_cons_zero, List.set_cons_succ]
              refine wpAnyH_take (i := 6) (v := ?_) (ops_at rfl) (by kernel_rfl) (by kernel_rfl) (by kernel_rfl) (fun _ _ _ h => h) (Or.inl ⟨by rfl, ?ya6⟩) (by assumption) ?na6
              case ya6 => (intro wS hSw; (try dsimp only at hSw); go_simp; try rfl)
              try simp only [Act.put, List.setIfInBounds_toArray, List.set_cons_zero, List.set_cons_succ]
              refine wpAnyH_take (i := 7) (v := ?_) (ops_at rfl) (by kernel_rfl) (by kernel_rfl) (by kernel_rfl) (fun _ _ _ h => h) (Or.inl ⟨by rfl, ?ya7⟩) (by assumption) ?na7
              case ya7 => (intro wS hSw; (try dsimp only at hSw); go_simp; try rfl)
              try simp only [Act.put, List.setIfInBounds_toArray, List.set_cons_zero, List.set_cons_succ]
              refine wpAnyH_take (i := 8) (v := ?_) (ops_at rfl) (by kernel_rfl) (by kernel_rfl) (by kernel_rfl) (fun _ _ _ h => h) (Or.inl ⟨by rfl, ?ya8⟩) (by assumption) ?na8
              case ya8 => (intro wS hSw; (try dsimp only at hSw); go_simp; try rfl)
              try simp only [Act.put, List.setIfInBounds_toArray, List.set_cons_zero, List.set_cons_succ]
              refine wpAnyH_take (i := 9) (v := ?_) (ops_at rfl) (by kernel_rfl) (by kernel_rfl) (by kernel_rfl) (fun _ _ _ h => h) (Or.inl ⟨by rfl, ?ya9⟩) (by assumption) ?na9
              case ya9 => (intro wS hSw; (try dsimp only at hSw); go_simp; try rfl)
              try simp only [Act.put, List.setIfInBounds_toArray, List.set_cons_zero, List.set_cons_succ]
              refine wpAnyH_take (i := 10) (v := ?_) (ops_at rfl) (by kernel_rfl) (by kernel_rfl) (by kernel_rfl) (fun _ _ _ h => h) (Or.inl ⟨by rfl, ?ya10⟩) (by assumption) ?na10
              case ya10 => (intro wS hSw; (try dsimp only at hSw); go_simp; try rfl)
              try simp only [Act.put, List.setIfInBounds_toArray, List.set_cons_zero, List.set_cons_succ]
              refine wpAnyH_take (i := 11) (v := ?_) (ops_at rfl) (by kernel_rfl) (by kernel_rfl) (by kernel_rfl) (fun _ _ _ h => h) (Or.inl ⟨by rfl, ?ya11⟩) (by assumption) ?na11
              case ya11 => (intro wS hSw; (try dsimp only at hSw); go_simp; try rfl)
              try simp only [Act.put, List.setIfInBounds_toArray, List.set_cons_zero, List.set_cons_succ]
              refine wpAnyH_ready (rs := [2, 4]) (by kernel_rfl) (by simp) ?_
              refine AllReadyH.cons (ops_at rfl) (fun K hK => ?_) (AllReadyH.cons (ops_at rfl) (fun K hK => ?_) AllReadyH.nil)
              · go_simp
                go_wp2_with (go_at_call 64; refine (l1Own_any _ _ _ bs lo' hi' wr.drew HP.out (by omega) (hdw.keep fun _ _ _ => rfl) (by show hi' ≤ wr.heap.size; omega)).mono ?_; rintro e w1 ⟨A1, c1, rfl, hown1, hb1⟩)
                have hbW1 : Below wr.heap.size wr w1 := undrew hb1
                have hzw := hbW1.size
                have hct1 : w1.cell? ⟨bt, ot + k, none⟩ = some (.int .i64 x) := (hbW1.cell (by show bt < wr.heap.size; omega)).trans hct
                refine hK.out _ _ ⟨hct1, trivial⟩ (fun hHpa => ?_)
                clear hK K
                refine wpAnyH_ready (rs := [4]) (by kernel_rfl) (by simp) ?_
                refine AllReadyH.cons (ops_at rfl) (fun K hK => ?_) AllReadyH.nil
                go_simp
                have hct2 : (w1.alloc (.cells #[.int .i64 (k : Int)] 3)).cell? ⟨bt, ot + k, none⟩ = some (.int .i64 x) := (World.cell?_alloc_lt w1 _ _ (by show bt < w1.heap.size; omega)).trans hct1
                refine hK.out _ _ ⟨hct2, trivial⟩ (fun hHpb => ?_)
                clear hK K
                have hownX := hown1.alloc (.cells #[.int .i64 (k : Int)] 3)
                have hsegX := seg_one w1 (k : Int) 3
                have hbX : Below wr.heap.size wr (w1.alloc (.cells #[.int .i64 (k : Int)] 3)) := hbW1.alloc hzw _
                have hctX := hct2
                have hownL := hownX.lt
                refine wpAnyH_ready (rs := [5]) (by kernel_rfl) (by simp) ?_
                refine AllReadyH.cons (ops_at rfl) (fun K hK => ?_) AllReadyH.nil
                refine step_append_seg _ rfl (.tmp 43) (.tmp 45) 22 rfl _ 3 i0 Try.underlying22 hi0 hz0 hz1 hz2 _ p _ rfl hownX _ 1 1 [(k : Int)] _ _ rfl rfl hsegX (by omega) (by first | (show wr.heap.size ≤ _; exact hbX.size) | (simp; omega)) ?_
                intro v3 w2 hown2 hgrow2
                have hownA : w2.ownsRow wr.heap.size 3 1 v3 (bs ++ [(k : Int)]).length ((bs ++ [(k : Int)]).map (Value.int .i64)) := own_mono (by simpa [HP.out] using hown2) (by first | exact Nat.le_refl _ | (simp))
                have hbW2 : Below wr.heap.size wr w2 := hbX.grown hgrow2 hbX.size (fun g hg => by have := (hownL g hg).1; first | exact this | (simp at this; omega))
                have hct3 : w2.cell? ⟨bt, ot + k, none⟩ = some (.int .i64 x) := (hbW2.cell (by show bt < wr.heap.size; omega)).trans hct
                have hlen3 : (bs ++ [(k : Int)]).length = p + 1 := by simp [HP.out]
                obtain ⟨A3, c3, rfl⟩ := ownsRow_form hownA
                have hownS := (ownsRow_own hownA).2.seg
                have hbtw : bt < w2.heap.size := by have := hbW2.size; omega
                rw [hlen3]
                refine hK.out _ _ ⟨hct3, trivial⟩ (fun hHpc => ?_)
                clear hK K hlen3 hown2 hgrow2 hownX
                refine wpAnyH_ready (rs := [12]) (by kernel_rfl) (by simp) ?_
                refine AllReadyH.cons (ops_at rfl) (fun K hK => ?_) AllReadyH.nil
                go_simp
                rw [HW.out]
                refine (HI.out A3 c3 _ _ _ hbW2 hownS (Nat.le_refl _)).mono ?_
                rintro e w4 (⟨hr, rfl, hbX4⟩ | ⟨ys, A4, c4, hr, rfl, hown4, hbX4⟩)
                · try dsimp only
                  have hct4 : w4.cell? ⟨bt, ot + k, none⟩ = some (.int .i64 x) := (hbX4.cell (by show bt < w2.heap.size; omega)).trans hct3
                  have hbW4 := hbW2.trans (hbX4.mono hbW2.size)
                  refine hK.out _ _ ⟨hct4, trivial⟩ (fun hHp => ?_)
                  clear hK K
                  refine wpAnyH_take (i := 13) (v := ?_) (ops_at rfl) (by kernel_rfl) (by kernel_rfl) (by kernel_rfl) (fun _ _ _ h => h) (Or.inl ⟨by rfl, ?ypn13⟩) (by assumption) ?npn13
                  case ypn13 => (intro wS hSw; (try dsimp only at hSw); go_simp; try rfl)
                  try simp only [Act.put, List.setIfInBounds_toArray, List.set_cons_zero, List.set_cons_succ]
                  refine wpAnyH_take (i := 14) (v := ?_) (ops_at rfl) (by kernel_rfl) (by kernel_rfl) (by kernel_rfl) (fun _ _ _ h => h) (Or.inl ⟨by rfl, ?ypn14⟩) (by assumption) ?npn14
                  case ypn14 => (intro wS hSw; (try dsimp only at hSw); go_simp; try rfl)
                  try simp only [Act.put, List.setIfInBounds_toArray, List.set_cons_zero, List.set_cons_succ]
                  refine wpAnyH_take (i := 15) (v := ?_) (ops_at rfl) (by kernel_rfl) (by kernel_rfl) (by kernel_rfl) (fun _ _ _ h => h) (Or.inl ⟨by rfl, ?ypn15⟩) (by assumption) ?npn15
                  case ypn15 => (intro wS hSw; (try dsimp only at hSw); go_simp; try rfl)
                  try simp only [Act.put, List.setIfInBounds_toArray, List.set_cons_zero, List.set_cons_succ]
                  refine wpAnyH_take (i := 16) (v := ?_) (ops_at rfl) (by kernel_rfl) (by kernel_rfl) (by kernel_rfl) (fun _ _ _ h => h) (Or.inl ⟨by rfl, ?ypn16⟩) (by assumption) ?npn16
                  case ypn16 => (intro wS hSw; (try dsimp only at hSw); go_simp; try rfl)
                  try simp only [Act.put, List.setIfInBounds_toArray, List.set_cons_zero, List.set_cons_succ]
                  refine wpAnyH_take (i := 17) (v := ?_) (ops_at rfl) (by kernel_rfl) (by kernel_rfl) (by kernel_rfl) (fun _ _ _ h => h) (Or.inl ⟨by rfl, ?ypn17⟩) (by assumption) ?npn17
                  case ypn17 => (intro wS hSw; (try dsimp only at hSw); go_simp; try rfl)
                  try simp only [Act.put, List.setIfInBounds_toArray, List.set_cons_zero, List.set_cons_succ]
                  refine wpAnyH_done (by kernel_rfl) ?_ _
                  have HS := Lib.hid (show fillM xs m k0 room = fillM xs (n - (k + 1)) (k + 1) room by rw [HD2.out, HF.out, HD.out]; exact fillM_no hz HX.out (Option.map_eq_none_iff.1 hr))
                  clear hr
                  go_wp2
                  go_roundw
                  case rel => exact ⟨k + 1, by omega, by omega, by go_num, hb.trans (hbW4.mono hsz), HS.out⟩
                  case measure => simp [intOf]; omega
                · try dsimp only
                  have hct4 : w4.cell? ⟨bt, ot + k, none⟩ = some (.int .i64 x) := (hbX4.cell (by show bt < w2.heap.size; omega)).trans hct3
                  have hbW4 := hbW2.trans (hbX4.mono hbW2.size)
                  obtain ⟨r, hr1, hr2⟩ := Option.map_eq_some_iff.1 hr
                  have HS := Lib.hid (show fillM xs m k0 room = some ((k : Int) :: r) by rw [HF.out, HD.out]; exact fillM_yes hz HX.out (by omega) hr1)
                  have HR := Lib.hid hr2
                  clear hr hr1 hr2
                  refine hK.out _ _ ⟨hct4, trivial⟩ (fun hHp => ?_)
                  clear hK K
                  refine wpAnyH_take (i := 13) (v := ?_) (ops_at rfl) (by kernel_rfl) (by kernel_rfl) (by kernel_rfl) (fun _ _ _ h => h) (Or.inl ⟨by rfl, ?yps13⟩) (by assumption) ?nps13
                  case yps13 => (intro wS hSw; (try dsimp only at hSw); go_simp; try rfl)
                  try simp only [Act.put, List.setIfInBounds_toArray, List.set_cons_zero, List.set_cons_succ]
                  refine wpAnyH_take (i := 14) (v := ?_) (ops_at rfl) (by kernel_rfl) (by kernel_rfl) (by kernel_rfl) (fun _ _ _ h => h) (Or.inl ⟨by rfl, ?yps14⟩) (by assumption) ?nps14
                  case yps14 => (intro wS hSw; (try dsimp only at hSw); go_simp; try rfl)
                  try simp only [Act.put, List.setIfInBounds_toArray, List.set_cons_zero, List.set_cons_succ]
                  refine wpAnyH_take (i := 15) (v := ?_) (ops_at rfl) (by kernel_rfl) (by kernel_rfl) (by kernel_rfl) (fun _ _ _ h => h) (Or.inl ⟨by rfl, ?yps15⟩) (by assumption) ?nps15
                  case yps15 => (intro wS hSw; (try dsimp only at hSw); go_simp; try rfl)
                  try simp only [Act.put, List.setIfInBounds_toArray, List.set_cons_zero, List.set_cons_succ]
                  refine wpAnyH_take (i := 16) (v := ?_) (ops_at rfl) (by kernel_rfl) (by kernel_rfl) (by kernel_rfl) (fun _ _ _ h => h) (Or.inl ⟨by rfl, ?yps16⟩) (by assumption) ?nps16
                  case yps16 => (intro wS hSw; (try dsimp only at hSw); go_simp; try rfl)
                  try simp only [Act.put, List.setIfInBounds_toArray, List.set_cons_zero, List.set_cons_succ]
                  refine wpAnyH_take (i := 17) (v := ?_) (ops_at rfl) (by kernel_rfl) (by kernel_rfl) (by kernel_rfl) (fun _ _ _ h => h) (Or.inl ⟨by rfl, ?yps17⟩) (by assumption) ?nps17
                  case yps17 => (intro wS hSw; (try dsimp only at hSw); go_simp; try rfl)
                  try simp only [Act.put, List.setIfInBounds_toArray, List.set_cons_zero, List.set_cons_succ]
                  refine wpAnyH_done (by kernel_rfl) ?_ _
                  go_wp2
                  go_ret2
                  exact Or.inr ⟨ys, A4, c4, by rw [HS.out, ← HR.out]; simp, rfl, hown4.more (by have := hbW2.size; omega) (Nat.le_refl _), hb.trans (hbW4.mono hsz)⟩
              · go_simp
                have hct1 : (wr.alloc (.cells #[.int .i64 (k : Int)] 3)).drew.cell? ⟨bt, ot + k, none⟩ = some (.int .i64 x) := (World.cell?_alloc_lt wr _ _ (by show bt < wr.heap.size; omega)).trans hct
                refine hK.out _ _ ⟨hct1, trivial⟩ (fun hHqa => ?_)
                clear hK K
                refine wpAnyH_ready (rs := [2]) (by kernel_rfl) (by simp) ?_
                refine AllReadyH.cons (ops_at rfl) (fun K hK => ?_) AllReadyH.nil
                go_simp
                go_wp2_with (go_at_call 64; refine (l1Own_any _ _ _ bs lo' hi' (wr.alloc (.cells #[.int .i64 (k : Int)] 3)).drew HP.out (by omega) (hdw.keep fun p _ hp => World.cell?_alloc_lt wr (.cells #[.int .i64 (k : Int)] 3) p (by omega)) (by simp; omega)).mono ?_; rintro e w1 ⟨A1, c1, rfl, hown1, hb1⟩)
                have hbW1 : Below (wr.alloc (.cells #[.int .i64 (k : Int)] 3)).heap.size (wr.alloc (.cells #[.int .i64 (k : Int)] 3)) w1 := undrew hb1
                have hzw := hbW1.size
                simp at hzw
                have hct2 : w1.cell? ⟨bt, ot + k, none⟩ = some (.int .i64 x) := (hbW1.cell (by simp; omega)).trans hct1
                refine hK.out _ _ ⟨hct2, trivial⟩ (fun hHqb => ?_)
                clear hK K
                have hownX := hown1
                have hsegX := (seg_one wr (k : Int) 3).below hbW1 (by simp)
                have hbX : Below wr.heap.size wr w1 := ((Below.refl _ _).alloc (Nat.le_refl _) _).trans (hbW1.mono (by simp))
                have hctX := hct2
                have hownL := hownX.lt
                refine wpAnyH_ready (rs := [5]) (by kernel_rfl) (by simp) ?_
                refine AllReadyH.cons (ops_at rfl) (fun K hK => ?_) AllReadyH.nil
                refine step_append_seg _ rfl (.tmp 43) (.tmp 45) 22 rfl _ 3 i0 Try.underlying22 hi0 hz0 hz1 hz2 _ p _ rfl hownX _ 1 1 [(k : Int)] _ _ rfl rfl hsegX (by omega) (by first | (show wr.heap.size ≤ _; exact hbX.size) | (simp; omega)) ?_
                intro v3 w2 hown2 hgrow2
                have hownA : w2.ownsRow wr.heap.size 3 1 v3 (bs ++ [(k : Int)]).length ((bs ++ [(k : Int)]).map (Value.int .i64)) := own_mono (by simpa [HP.out] using hown2) (by first | exact Nat.le_refl _ | (simp))
                have hbW2 : Below wr.heap.size wr w2 := hbX.grown hgrow2 hbX.size (fun g hg => by have := (hownL g hg).1; first | exact this | (simp at this; omega))
                have hct3 : w2.cell? ⟨bt, ot + k, none⟩ = some (.int .i64 x) := (hbW2.cell (by show bt < wr.heap.size; omega)).trans hct
                have hlen3 : (bs ++ [(k : Int)]).length = p + 1 := by simp [HP.out]
                obtain ⟨A3, c3, rfl⟩ := ownsRow_form hownA
                have hownS := (ownsRow_own hownA).2.seg
                have hbtw : bt < w2.heap.size := by have := hbW2.size; omega
                rw [hlen3]
                refine hK.out _ _ ⟨hct3, trivial⟩ (fun hHqc => ?_)
                clear hK K hlen3 hown2 hgrow2 hownX
                refine wpAnyH_ready (rs := [12]) (by kernel_rfl) (by simp) ?_
                refine AllReadyH.cons (ops_at rfl) (fun K hK => ?_) AllReadyH.nil
                go_simp
                rw [HW.out]
                refine (HI.out A3 c3 _ _ _ hbW2 hownS (Nat.le_refl _)).mono ?_
                rintro e w4 (⟨hr, rfl, hbX4⟩ | ⟨ys, A4, c4, hr, rfl, hown4, hbX4⟩)
                · try dsimp only
                  have hct4 : w4.cell? ⟨bt, ot + k, none⟩ = some (.int .i64 x) := (hbX4.cell (by show bt < w2.heap.size; omega)).trans hct3
                  have hbW4 := hbW2.trans (hbX4.mono hbW2.size)
                  refine hK.out _ _ ⟨hct4, trivial⟩ (fun hHq => ?_)
                  clear hK K
                  refine wpAnyH_take (i := 13) (v := ?_) (ops_at rfl) (by kernel_rfl) (by kernel_rfl) (by kernel_rfl) (fun _ _ _ h => h) (Or.inl ⟨by rfl, ?yqn13⟩) (by assumption) ?nqn13
                  case yqn13 => (intro wS hSw; (try dsimp only at hSw); go_simp; try rfl)
                  try simp only [Act.put, List.setIfInBounds_toArray, List.set_cons_zero, List.set_cons_succ]
                  refine wpAnyH_take (i := 14) (v := ?_) (ops_at rfl) (by kernel_rfl) (by kernel_rfl) (by kernel_rfl) (fun _ _ _ h => h) (Or.inl ⟨by rfl, ?yqn14⟩) (by assumption) ?nqn14
                  case yqn14 => (intro wS hSw; (try dsimp only at hSw); go_simp; try rfl)
                  try simp only [Act.put, List.setIfInBounds_toArray, List.set_cons_zero, List.set_cons_succ]
                  refine wpAnyH_take (i := 15) (v := ?_) (ops_at rfl) (by kernel_rfl) (by kernel_rfl) (by kernel_rfl) (fun _ _ _ h => h) (Or.inl ⟨by rfl, ?yqn15⟩) (by assumption) ?nqn15
                  case yqn15 => (intro wS hSw; (try dsimp only at hSw); go_simp; try rfl)
                  try simp only [Act.put, List.setIfInBounds_toArray, List.set_cons_zero, List.set_cons_succ]
                  refine wpAnyH_take (i := 16) (v := ?_) (ops_at rfl) (by kernel_rfl) (by kernel_rfl) (by kernel_rfl) (fun _ _ _ h => h) (Or.inl ⟨by rfl, ?yqn16⟩) (by assumption) ?nqn16
                  case yqn16 => (intro wS hSw; (try dsimp only at hSw); go_simp; try rfl)
                  try simp only [Act.put, List.setIfInBounds_toArray, List.set_cons_zero, List.set_cons_succ]
                  refine wpAnyH_take (i := 17) (v := ?_) (ops_at rfl) (by kernel_rfl) (by kernel_rfl) (by kernel_rfl) (fun _ _ _ h => h) (Or.inl ⟨by rfl, ?yqn17⟩) (by assumption) ?nqn17
                  case yqn17 => (intro wS hSw; (try dsimp only at hSw); go_simp; try rfl)
                  try simp only [Act.put, List.setIfInBounds_toArray, List.set_cons_zero, List.set_cons_succ]
                  refine wpAnyH_done (by kernel_rfl) ?_ _
                  have HS := Lib.hid (show fillM xs m k0 room = fillM xs (n - (k + 1)) (k + 1) room by rw [HD2.out, HF.out, HD.out]; exact fillM_no hz HX.out (Option.map_eq_none_iff.1 hr))
                  clear hr
                  go_wp2
                  go_roundw
                  case rel => exact ⟨k + 1, by omega, by omega, by go_num, hb.trans (hbW4.mono hsz), HS.out⟩
                  case measure => simp [intOf]; omega
                · try dsimp only
                  have hct4 : w4.cell? ⟨bt, ot + k, none⟩ = some (.int .i64 x) := (hbX4.cell (by show bt < w2.heap.size; omega)).trans hct3
                  have hbW4 := hbW2.trans (hbX4.mono hbW2.size)
                  obtain ⟨r, hr1, hr2⟩ := Option.map_eq_some_iff.1 hr
                  have HS := Lib.hid (show fillM xs m k0 room = some ((k : Int) :: r) by rw [HF.out, HD.out]; exact fillM_yes hz HX.out (by omega) hr1)
                  have HR := Lib.hid hr2
                  clear hr hr1 hr2
                  refine hK.out _ _ ⟨hct4, trivial⟩ (fun hHq => ?_)
                  clear hK K
                  refine wpAnyH_take (i := 13) (v := ?_) (ops_at rfl) (by kernel_rfl) (by kernel_rfl) (by kernel_rfl) (fun _ _ _ h => h) (Or.inl ⟨by rfl, ?yqs13⟩) (by assumption) ?nqs13
                  case yqs13 => (intro wS hSw; (try dsimp only at hSw); go_simp; try rfl)
                  try simp only [Act.put, List.setIfInBounds_toArray, List.set_cons_zero, List.set_cons_succ]
                  refine wpAnyH_take (i := 14) (v := ?_) (ops_at rfl) (by kernel_rfl) (by kernel_rfl) (by kernel_rfl) (fun _ _ _ h => h) (Or.inl ⟨by rfl, ?yqs14⟩) (by assumption) ?nqs14
                  case yqs14 => (intro wS hSw; (try dsimp only at hSw); go_simp; try rfl)
                  try simp only [Act.put, List.setIfInBounds_toArray, List.set_cons_zero, List.set_cons_succ]
                  refine wpAnyH_take (i := 15) (v := ?_) (ops_at rfl) (by kernel_rfl) (by kernel_rfl) (by kernel_rfl) (fun _ _ _ h => h) (Or.inl ⟨by rfl, ?yqs15⟩) (by assumption) ?nqs15
                  case yqs15 => (intro wS hSw; (try dsimp only at hSw); go_simp; try rfl)
                  try simp only [Act.put, List.setIfInBounds_toArray, List.set_cons_zero, List.set_cons_succ]
                  refine wpAnyH_take (i := 16) (v := ?_) (ops_at rfl) (by kernel_rfl) (by kernel_rfl) (by kernel_rfl) (fun _ _ _ h => h) (Or.inl ⟨by rfl, ?yqs16⟩) (by assumption) ?nqs16
                  case yqs16 => (intro wS hSw; (try dsimp only at hSw); go_simp; try rfl)
                  try simp only [Act.put, List.setIfInBounds_toArray, List.set_cons_zero, List.set_cons_succ]
                  refine wpAnyH_take (i := 17) (v := ?_) (ops_at rfl) (by kernel_rfl) (by kernel_rfl) (by kernel_rfl) (fun _ _ _ h => h) (Or.inl ⟨by rfl, ?yqs17⟩) (by assumption) ?nqs17
                  case yqs17 => (intro wS hSw; (try dsimp only at hSw); go_simp; try rfl)
                  try simp only [Act.put, List.setIfInBounds_toArray, List.set_cons_zero, List.set_cons_succ]
                  refine wpAnyH_done (by kernel_rfl) ?_ _
                  go_wp2
                  go_ret2
                  exact Or.inr ⟨ys, A4, c4, by rw [HS.out, ← HR.out]; simp, rfl, hown4.more (by have := hbW2.size; omega) (Nat.le_refl _), hb.trans (hbW4.mono hsz)⟩
          · obtain rfl : k = n := by omega
            have HS := Lib.hid (HF.out.trans (by rw [Nat.sub_self, fillM_end xs k hz]))
            go_wp2
            go_ret2
            exact Or.inl ⟨by rw [HS.out]; rfl, rfl, hb⟩
end Go.Proofs.Ytjnfaikcimlkdab
