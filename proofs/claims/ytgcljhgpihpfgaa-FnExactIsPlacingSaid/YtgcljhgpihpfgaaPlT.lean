/-
  Both programs' test for places of boxes.
  Conditions: none.
-/
import Derived.Test.YtgcljhgpihpfgaaPlR
import Derived.Test.YtgcljhgpihpfgaaYd
import Derived.Test.YtgcljhgpihpfgaaVan
import Derived.Deep.RegionHeld3
namespace Go.Proofs.Ytgcljhgpihpfgaa
set_option linter.unusedVariables false
open Go.RowKit

/-- The boxes on top behind so many, if each could come to its place. -/
def plcP (cs ps : List Int) : Nat → Option (List Int)
  | 0 => some []
  | k + 1 => (plcP cs ps k).bind fun t => if canP t (ps.getD k 0) (cs.getD k 0) = true then some (putP t (ps.getD k 0).toNat (cs.getD k 0)) else none
def isP (cs ps : List Int) : Bool := decide (ps.length = cs.length) && (plcP cs ps cs.length).isSome
theorem plcP_no {cs ps : List Int} {k : Nat} {t : List Int} {p c : Int} (h : plcP cs ps k = some t) (hp : ps[k]? = some p) (hc : cs[k]? = some c) (hn : canP t p c = false) (n : Nat) (hk : k < n) : plcP cs ps n = none := by
  have h1 : plcP cs ps (k + 1) = none := by
    rw [plcP, h]
    show (if canP t (ps.getD k 0) (cs.getD k 0) = true then _ else none) = _
    rw [show ps.getD k 0 = p by simp [List.getD, hp], show cs.getD k 0 = c by simp [List.getD, hc], hn]; rfl
  have h2 : ∀ m, plcP cs ps (k + 1 + m) = none := by
    intro m
    induction m with
    | zero => exact h1
    | succ m ih => rw [← Nat.add_assoc, plcP, ih]; rfl
  have := h2 (n - (k + 1))
  rwa [show k + 1 + (n - (k + 1)) = n by omega] at this
theorem plcP_go {cs ps : List Int} {k : Nat} {t : List Int} {p c : Int} (h : plcP cs ps k = some t) (hp : ps[k]? = some p) (hc : cs[k]? = some c) (hn : canP t p c = true) : plcP cs ps (k + 1) = some (putP t p.toNat c) := by
  rw [plcP, h]
  show (if canP t (ps.getD k 0) (cs.getD k 0) = true then _ else none) = _
  rw [show ps.getD k 0 = p by simp [List.getD, hp], show cs.getD k 0 = c by simp [List.getD, hc], hn]; rfl
theorem isP_no {cs ps : List Int} (h : plcP cs ps cs.length = none) : isP cs ps = false := by rw [isP, h]; simp
theorem isP_yes {cs ps : List Int} {t : List Int} (hl : ps.length = cs.length) (h : plcP cs ps cs.length = some t) : isP cs ps = true := by rw [isP, h, decide_eq_true hl]; rfl

set_option maxHeartbeats 4000000 in
theorem spec_IsPlacing (s : ByteArray) (A : Option Addr) (n c : Nat) (xs : List Int) (lo hi : Nat) (w : World) (hn : xs.length = n) (hlen : n ≤ 1048576) (hs : Seg w lo hi A xs) (hB : hi ≤ w.heap.size) (q : Bool) (hq : ldB s.data.toList = q) (v : Bool) (hv : isP (u8 s.data.toList) xs = v) :
    Calls Try.prog 24 #[.string s, .slice A n c] w fun e w' => e = .returned (.tuple #[.bool (if q then v else false), .bool q]) ∧ Below w.heap.size w w' := by
  obtain ⟨j0, hj0, hj1, hj2, hj3⟩ := info_parts u8_info
  have HQ := Lib.hid hq
  have HV := Lib.hid hv
  have HN := Lib.hid hn
  clear hq hv hn
  cases q
  · clear hs
    go_enter Try.func24, Try.ntmps24
    go_wp2_with fail
    refine (ldGood_any s _ HQ.out _).mono ?_
    rintro e w1 ⟨rfl, rfl⟩
    go_wp2
    go_ret2
    exact ⟨rfl, Below.refl _ _⟩
  have hsz : s.size ≤ 12 := by have := (ldB_true.1 HQ.out).1; rw [byte_len] at this; exact this
  by_cases hne : n = s.size
  case neg =>
    have d0 : ((n : Int) != (s.size : Int)) = true := by simp; omega
    have hv0 : v = false := by rw [← HV.out, isP, decide_eq_false (by rw [HN.out, u8_len, byte_len]; exact hne)]; rfl
    subst hv0
    clear hs
    go_enter Try.func24, Try.ntmps24
    go_wp2_with fail
    refine (ldGood_any s _ HQ.out _).mono ?_
    rintro e w1 ⟨rfl, rfl⟩
    go_wp2
    go_ret2
    exact ⟨rfl, Below.refl _ _⟩
  subst hne
  have HD := Lib.hid (ldB_true.1 HQ.out).2
  obtain ⟨L, hL⟩ : ∃ L, u8 s.data.toList = L := ⟨_, rfl⟩
  have hLl : L.length = s.size := by rw [← hL, u8_len, byte_len]
  rw [hL] at HV
  have HL := Lib.hid hL
  clear hL
  go_enter Try.func24, Try.ntmps24
  go_wp2_with fail
  refine (ldGood_any s _ HQ.out _).mono ?_
  rintro e w1 ⟨rfl, rfl⟩
  clear HQ
  go_wp2
  go_loopw [6, 19] (fun t i wr => ∃ (k m d : Nat) (B : Option Addr) (tops : List Int), k ≤ s.size ∧ i = .int .i64 (k : Int) ∧ t = .slice B m d ∧ m ≤ k ∧ OwnU wr w.heap.size B m d tops ∧ Hid (plcP L xs k = some tops) ∧ Below w.heap.size w wr) (fun _ i _ => s.size - (intOf i).toNat)
  case atStart => exact ⟨0, 0, 0, none, [], by omega, rfl, rfl, by omega, World.ownsRow_nil _ _ _ _, rfl, Below.refl _ _⟩
  case round =>
    obtain ⟨k, m, d, B, tops, hk, rfl, rfl, hmk, hrow, HP, hb⟩ := hrel
    by_cases hlt : k < s.size
    · obtain ⟨ch, hch⟩ := byte_get s hlt
      have hik := byte_at s hch
      have hdig := HD.out ch (List.mem_of_getElem? hch)
      have hcL := u8_at hch
      rw [HL.out] at hcL
      obtain ⟨cc, hcc⟩ : ∃ cc : Int, (ch.toNat : Int) = cc := ⟨_, rfl⟩
      rw [hcc] at hcL
      have hc57 : 49 ≤ cc ∧ cc ≤ 57 := by omega
      have hik2 : ∀ hk : k < s.size, ((s[k]'hk).toNat : Int) = cc := fun hk => by rw [hik hk]; exact hcc
      obtain ⟨bA, off, p, hA, hbl, hbh, hp, hcell⟩ := (hs.below hb hB).at_ (k := k) (by rw [HN.out]; exact hlt)
      have hm := hrow.len
      have hki : (k : Int) < (s.size : Int) := by omega
      have hsz1 := hb.size
      subst hA
      have HC := Lib.hid hcL
      have HPX := Lib.hid hp
      have HR := Lib.hid hrow
      have HB0 := Lib.hid hb
      clear hch hik hdig hcc hcL hp hrow hb
      by_cases hin : inB p 0 (m : Int) = true
      case neg =>
        have hin' : inB p 0 (m : Int) = false := by simpa using hin
        have hcan : canP tops p cc = false := by rw [canP, hm, hin']; rfl
        have hv0 : v = false := by rw [← HV.out]; exact isP_no (plcP_no HP.out HPX.out HC.out hcan _ (by omega))
        subst hv0
        clear hin hcan
        go_wp2_with fail
        refine (l1In_any _ _ _ false hin' _).mono ?_
        rintro e w2 ⟨rfl, rfl⟩
        go_wp2
        go_ret2
        exact ⟨rfl, HB0.out⟩
      obtain ⟨j, rfl⟩ : ∃ j : Nat, p = j := ⟨p.toNat, by have := inB_true.1 hin; omega⟩
      have hjm : j ≤ m := by have := inB_true.1 hin; omega
      by_cases hje : j = m
      · subst hje
        have hcan : canP tops (j : Int) cc = true := by rw [canP, hm, hin]; simp
        have hgo := plcP_go HP.out HPX.out HC.out hcan
        rw [Int.toNat_natCast, putP, if_pos hm.symm, ← put_same cc 57 hm] at hgo
        have HGO := Lib.hid hgo
        have HOW := Lib.hid (HR.out.alloc (.cells #[.int .u8 57] 5))
        have HNW := Lib.hid (cell_of (new_at wr (.cells #[.int .u8 57] 5) rfl) 0)
        have HB1 := Lib.hid (HB0.out.alloc hsz1 (.cells #[.int .u8 57] 5))
        have HLT := Lib.hid HR.out.lt
        have d1 : decide ((57 : Int) < cc) = false := decide_eq_false (by omega)
        have hjj : (j : Int) < (j : Int) + 1 := by omega
        clear hcan hgo
        go_wp2_with fail
        refine (l1In_any _ _ _ true hin _).mono ?_
        rintro e w2 ⟨rfl, rfl⟩
        go_wp2_with (at_builtin; refine wpList_append_ownU _ rfl _ _ 41 rfl w.heap.size 5 j0 Try.underlying41 hj0 hj1 hj2 hj3 _ j _ rfl HOW.out _ 1 (.int .u8 57) rfl HNW.out rfl (by omega) HB1.out.size ?_; intro v3 w3 hown3 hgr3 hor3; obtain ⟨B3, d3, rfl⟩ := slice_form hown3; have hr3 : OwnU w3 w.heap.size B3 (j + 1) d3 (tops ++ [57]) := (by unfold OwnU; rw [List.map_append]; exact hown3); obtain ⟨g3, rfl, hgb3, _, hnc3, _, q3, f3⟩ := hr3.at_ (j := j) (u := 57) (by rw [List.getElem?_append_right (by omega), hm, Nat.sub_self] <;> rfl); have HR3 := Lib.hid (hr3.set j cc); have HB3 := Lib.hid ((HB1.out.grown hgr3 HB1.out.size (fun g' hg' => (HLT.out g' hg').1)).setCell (p := ⟨g3, j, none⟩) hgb3 (.int .u8 cc)); clear hown3 hgr3 hor3 hr3)
        refine wp_region_held_drew (S := (fun wq => wq.cell? ⟨g3, j, none⟩ = some (.int .u8 57))) (by kernel_rfl) q3 (fun hH0 => ?_)
        refine wpAnyH_take (i := 0) (v := ?_) (ops_at rfl) (by kernel_rfl) (by kernel_rfl) (by kernel_rfl) (fun _ _ _ h => h) (Or.inl ⟨by rfl, ?ya0⟩) (by assumption) ?na0
        case ya0 => (intro wS hSw; (try dsimp only at hSw); go_simp; try rfl)
        try simp only [Act.put, List.setIfInBounds_toArray, List.set_cons_zero, List.set_cons_succ]
        refine wpAnyH_take (i := 1) (v := ?_) (ops_at rfl) (by kernel_rfl) (by kernel_rfl) (by kernel_rfl) (fun _ _ _ h => h) (Or.inl ⟨by rfl, ?ya1⟩) (by assumption) ?na1
        case ya1 => (intro wS hSw; (try dsimp only at hSw); go_simp; try rfl)
        try simp only [Act.put, List.setIfInBounds_toArray, List.set_cons_zero, List.set_cons_succ]
        refine wpAnyH_take (i := 2) (v := ?_) (ops_at rfl) (by kernel_rfl) (by kernel_rfl) (by kernel_rfl) (fun _ _ _ h => h) (Or.inl ⟨by rfl, ?ya2⟩) (by assumption) ?na2
        case ya2 => (intro wS hSw; (try dsimp only at hSw); go_simp; try rfl)
        try simp only [Act.put, List.setIfInBounds_toArray, List.set_cons_zero, List.set_cons_succ]
        refine wpAnyH_take (i := 3) (v := ?_) (ops_at rfl) (by kernel_rfl) (by kernel_rfl) (by kernel_rfl) (fun _ _ _ h => h) (Or.inl ⟨by rfl, ?ya3⟩) (by assumption) ?na3
        case ya3 => (intro wS hSw; (try dsimp only at hSw); go_simp; try rfl)
        try simp only [Act.put, List.setIfInBounds_toArray, List.set_cons_zero, List.set_cons_succ]
        refine wpAnyH_take (i := 4) (v := ?_) (ops_at rfl) (by kernel_rfl) (by kernel_rfl) (by kernel_rfl) (fun _ _ _ h => h) (Or.inl ⟨by rfl, ?ya4⟩) (by assumption) ?na4
        case ya4 => (intro wS hSw; (try dsimp only at hSw); go_simp; try rfl)
        try simp only [Act.put, List.setIfInBounds_toArray, List.set_cons_zero, List.set_cons_succ]
        refine wpAnyH_take (i := 5) (v := ?_) (ops_at rfl) (by kernel_rfl) (by kernel_rfl) (by kernel_rfl) (fun _ _ _ h => h) (Or.inl ⟨by rfl, ?ya5⟩) (by assumption) ?na5
        case ya5 => (intro wS hSw; (try dsimp only at hSw); go_simp; try rfl)
        try simp only [Act.put, List.setIfInBounds_toArray, List.set_cons_zero, List.set_cons_succ]
        refine wpAnyH_take (i := 6) (v := ?_) (ops_at rfl) (by kernel_rfl) (by kernel_rfl) (by kernel_rfl) (fun _ _ _ h => h) (Or.inl ⟨by rfl, ?ya6⟩) (by assumption) ?na6
        case ya6 => (intro wS hSw; (try dsimp only at hSw); go_simp; try rfl)
        try simp only [Act.put, List.setIfInBounds_toArray, List.set_cons_zero, List.set_cons_succ]
        refine wpAnyH_take (i := 7) (v := ?_) (ops_at rfl) (by kernel_rfl) (by kernel_rfl) (by kernel_rfl) (fun _ _ _ h => h) (Or.inl ⟨by rfl, ?ya7⟩) (by assumption) ?na7
        case ya7 => (intro wS hSw; (try dsimp only at hSw); go_simp; try rfl)
        try simp only [Act.put, List.setIfInBounds_toArray, List.set_cons_zero, List.set_cons_succ]
        refine wpAnyH_done (by kernel_rfl) ?_ _
        go_wp2
        go_roundw
        case rel => exact ⟨k + 1, j + 1, d3, some ⟨g3, 0, none⟩, _, by omega, by go_num, rfl, by omega, HR3.out, HGO, HB3.out.drew⟩
        case measure => simp [intOf]; omega
      · obtain ⟨u, hu⟩ : ∃ u, tops[j]? = some u := ⟨_, List.getElem?_eq_getElem (by omega)⟩
        obtain ⟨g, rfl, hgb, hgl, hnc, hjm, q1, f1⟩ := HR.out.at_ hu
        have d3 : ((j : Int) == (m : Int)) = false := beq_eq_false_iff_ne.2 (by omega)
        have hjmi : (j : Int) < (m : Int) := by omega
        have hcan : canP tops (j : Int) cc = decide (cc ≤ u) := by rw [canP, hm, hin, decide_eq_false (by omega), Int.toNat_natCast, show tops.getD j 0 = u by simp [List.getD, hu]]; rfl
        by_cases hcu : u < cc
        · have d1 : decide (u < cc) = true := decide_eq_true hcu
          have hv0 : v = false := by rw [← HV.out]; exact isP_no (plcP_no HP.out HPX.out HC.out (by rw [hcan, decide_eq_false (by omega)]) _ (by omega))
          subst hv0
          clear hcan hu
          go_wp2_with fail
          refine (l1In_any _ _ _ true hin _).mono ?_
          rintro e w2 ⟨rfl, rfl⟩
          go_wp2_with fail
          refine wp_region_held_drew (S := (fun wq => wq.cell? ⟨g, j, none⟩ = some (.int .u8 u))) (by kernel_rfl) q1 (fun hH0 => ?_)
          refine wpAnyH_take (i := 0) (v := ?_) (ops_at rfl) (by kernel_rfl) (by kernel_rfl) (by kernel_rfl) (fun _ _ _ h => h) (Or.inl ⟨by rfl, ?yb0⟩) (by assumption) ?nb0
          case yb0 => (intro wS hSw; (try dsimp only at hSw); go_simp; try rfl)
          try simp only [Act.put, List.setIfInBounds_toArray, List.set_cons_zero, List.set_cons_succ]
          refine wpAnyH_take (i := 1) (v := ?_) (ops_at rfl) (by kernel_rfl) (by kernel_rfl) (by kernel_rfl) (fun _ _ _ h => h) (Or.inl ⟨by rfl, ?yb1⟩) (by assumption) ?nb1
          case yb1 => (intro wS hSw; (try dsimp only at hSw); go_simp; try rfl)
          try simp only [Act.put, List.setIfInBounds_toArray, List.set_cons_zero, List.set_cons_succ]
          refine wpAnyH_take (i := 2) (v := ?_) (ops_at rfl) (by kernel_rfl) (by kernel_rfl) (by kernel_rfl) (fun _ _ _ h => h) (Or.inl ⟨by rfl, ?yb2⟩) (by assumption) ?nb2
          case yb2 => (intro wS hSw; (try dsimp only at hSw); go_simp; try rfl)
          try simp only [Act.put, List.setIfInBounds_toArray, List.set_cons_zero, List.set_cons_succ]
          refine wpAnyH_take (i := 3) (v := ?_) (ops_at rfl) (by kernel_rfl) (by kernel_rfl) (by kernel_rfl) (fun _ _ _ h => h) (Or.inl ⟨by rfl, ?yb3⟩) (by assumption) ?nb3
          case yb3 => (intro wS hSw; (try dsimp only at hSw); go_simp; try rfl)
          try simp only [Act.put, List.setIfInBounds_toArray, List.set_cons_zero, List.set_cons_succ]
          refine wpAnyH_take (i := 4) (v := ?_) (ops_at rfl) (by kernel_rfl) (by kernel_rfl) (by kernel_rfl) (fun _ _ _ h => h) (Or.inl ⟨by rfl, ?yb4⟩) (by assumption) ?nb4
          case yb4 => (intro wS hSw; (try dsimp only at hSw); go_simp; try rfl)
          try simp only [Act.put, List.setIfInBounds_toArray, List.set_cons_zero, List.set_cons_succ]
          refine wpAnyH_take (i := 5) (v := ?_) (ops_at rfl) (by kernel_rfl) (by kernel_rfl) (by kernel_rfl) (fun _ _ _ h => h) (Or.inl ⟨by rfl, ?yb5⟩) (by assumption) ?nb5
          case yb5 => (intro wS hSw; (try dsimp only at hSw); go_simp; try rfl)
          try simp only [Act.put, List.setIfInBounds_toArray, List.set_cons_zero, List.set_cons_succ]
          refine wpAnyH_take (i := 6) (v := ?_) (ops_at rfl) (by kernel_rfl) (by kernel_rfl) (by kernel_rfl) (fun _ _ _ h => h) (Or.inl ⟨by rfl, ?yb6⟩) (by assumption) ?nb6
          case yb6 => (intro wS hSw; (try dsimp only at hSw); go_simp; try rfl)
          try simp only [Act.put, List.setIfInBounds_toArray, List.set_cons_zero, List.set_cons_succ]
          refine wpAnyH_take (i := 7) (v := ?_) (ops_at rfl) (by kernel_rfl) (by kernel_rfl) (by kernel_rfl) (fun _ _ _ h => h) (Or.inl ⟨by rfl, ?yb7⟩) (by assumption) ?nb7
          case yb7 => (intro wS hSw; (try dsimp only at hSw); go_simp; try rfl)
          try simp only [Act.put, List.setIfInBounds_toArray, List.set_cons_zero, List.set_cons_succ]
          refine wpAnyH_done (by kernel_rfl) ?_ _
          go_wp2
          go_ret2
          exact ⟨rfl, HB0.out.drew⟩
        · have d1 : decide (u < cc) = false := decide_eq_false hcu
          have hgo := plcP_go HP.out HPX.out HC.out (by rw [hcan, decide_eq_true (by omega)])
          rw [Int.toNat_natCast, putP, if_neg (by omega)] at hgo
          have HGO := Lib.hid hgo
          clear hcan hu hgo
          go_wp2_with fail
          refine (l1In_any _ _ _ true hin _).mono ?_
          rintro e w2 ⟨rfl, rfl⟩
          go_wp2_with fail
          refine wp_region_held_drew (S := (fun wq => wq.cell? ⟨g, j, none⟩ = some (.int .u8 u))) (by kernel_rfl) q1 (fun hH0 => ?_)
          refine wpAnyH_take (i := 0) (v := ?_) (ops_at rfl) (by kernel_rfl) (by kernel_rfl) (by kernel_rfl) (fun _ _ _ h => h) (Or.inl ⟨by rfl, ?yc0⟩) (by assumption) ?nc0
          case yc0 => (intro wS hSw; (try dsimp only at hSw); go_simp; try rfl)
          try simp only [Act.put, List.setIfInBounds_toArray, List.set_cons_zero, List.set_cons_succ]
          refine wpAnyH_take (i := 1) (v := ?_) (ops_at rfl) (by kernel_rfl) (by kernel_rfl) (by kernel_rfl) (fun _ _ _ h => h) (Or.inl ⟨by rfl, ?yc1⟩) (by assumption) ?nc1
          case yc1 => (intro wS hSw; (try dsimp only at hSw); go_simp; try rfl)
          try simp only [Act.put, List.setIfInBounds_toArray, List.set_cons_zero, List.set_cons_succ]
          refine wpAnyH_take (i := 2) (v := ?_) (ops_at rfl) (by kernel_rfl) (by kernel_rfl) (by kernel_rfl) (fun _ _ _ h => h) (Or.inl ⟨by rfl, ?yc2⟩) (by assumption) ?nc2
          case yc2 => (intro wS hSw; (try dsimp only at hSw); go_simp; try rfl)
          try simp only [Act.put, List.setIfInBounds_toArray, List.set_cons_zero, List.set_cons_succ]
          refine wpAnyH_take (i := 3) (v := ?_) (ops_at rfl) (by kernel_rfl) (by kernel_rfl) (by kernel_rfl) (fun _ _ _ h => h) (Or.inl ⟨by rfl, ?yc3⟩) (by assumption) ?nc3
          case yc3 => (intro wS hSw; (try dsimp only at hSw); go_simp; try rfl)
          try simp only [Act.put, List.setIfInBounds_toArray, List.set_cons_zero, List.set_cons_succ]
          refine wpAnyH_take (i := 4) (v := ?_) (ops_at rfl) (by kernel_rfl) (by kernel_rfl) (by kernel_rfl) (fun _ _ _ h => h) (Or.inl ⟨by rfl, ?yc4⟩) (by assumption) ?nc4
          case yc4 => (intro wS hSw; (try dsimp only at hSw); go_simp; try rfl)
          try simp only [Act.put, List.setIfInBounds_toArray, List.set_cons_zero, List.set_cons_succ]
          refine wpAnyH_take (i := 5) (v := ?_) (ops_at rfl) (by kernel_rfl) (by kernel_rfl) (by kernel_rfl) (fun _ _ _ h => h) (Or.inl ⟨by rfl, ?yc5⟩) (by assumption) ?nc5
          case yc5 => (intro wS hSw; (try dsimp only at hSw); go_simp; try rfl)
          try simp only [Act.put, List.setIfInBounds_toArray, List.set_cons_zero, List.set_cons_succ]
          refine wpAnyH_take (i := 6) (v := ?_) (ops_at rfl) (by kernel_rfl) (by kernel_rfl) (by kernel_rfl) (fun _ _ _ h => h) (Or.inl ⟨by rfl, ?yc6⟩) (by assumption) ?nc6
          case yc6 => (intro wS hSw; (try dsimp only at hSw); go_simp; try rfl)
          try simp only [Act.put, List.setIfInBounds_toArray, List.set_cons_zero, List.set_cons_succ]
          refine wpAnyH_take (i := 7) (v := ?_) (ops_at rfl) (by kernel_rfl) (by kernel_rfl) (by kernel_rfl) (fun _ _ _ h => h) (Or.inl ⟨by rfl, ?yc7⟩) (by assumption) ?nc7
          case yc7 => (intro wS hSw; (try dsimp only at hSw); go_simp; try rfl)
          try simp only [Act.put, List.setIfInBounds_toArray, List.set_cons_zero, List.set_cons_succ]
          refine wpAnyH_done (by kernel_rfl) ?_ _
          go_wp2
          go_roundw
          case rel => exact ⟨k + 1, m, d, some ⟨g, 0, none⟩, _, by omega, by go_num, rfl, by omega, OwnU.set HR.out j cc, HGO, (HB0.out.setCell (p := ⟨g, j, none⟩) hgb (.int .u8 cc)).drew⟩
          case measure => simp [intOf]; omega
    · obtain rfl : k = s.size := by omega
      have hv1 : v = true := by rw [← HV.out]; exact isP_yes (by rw [HN.out, hLl]) (by rw [hLl]; exact HP.out)
      subst hv1
      clear hrow
      go_wp2
      go_ret2
      exact ⟨rfl, hb⟩

set_option maxHeartbeats 4000000 in
theorem impl_IsPlacing (s : ByteArray) (A : Option Addr) (n c : Nat) (xs : List Int) (lo hi : Nat) (w : World) (hn : xs.length = n) (hlen : n ≤ 1048576) (hs : Seg w lo hi A xs) (hB : hi ≤ w.heap.size) (q : Bool) (hq : ldB s.data.toList = q) (v : Bool) (hv : isP (u8 s.data.toList) xs = v) :
    Calls Try.prog 26 #[.string s, .slice A n c] w fun e w' => e = .returned (.tuple #[.bool (if q then v else false), .bool q]) ∧ Below w.heap.size w w' := by
  cases q
  · have HV := Lib.hid (vanOf_no s w hq)
    clear hq hs
    go_enter Try.func26, Try.ntmps26
    go_wp2_with fail
    refine HV.out.mono ?_
    rintro e w1 ⟨rfl, hb1⟩
    have hb2 := hb1.alloc hb1.size (.cells #[.slice none 0 0] 45)
    go_wp2
    go_ret2
    exact ⟨rfl, hb2⟩
  have HQ := Lib.hid hq
  have HV := Lib.hid hv
  have HN := Lib.hid hn
  have HVAN := Lib.hid (vanOf_yes s w hq)
  have hsz : s.size ≤ 12 := by have := (ldB_true.1 hq).1; rw [byte_len] at this; exact this
  clear hq hv hn
  by_cases hne : n = s.size
  case neg =>
    have d0 : ((n : Int) != (s.size : Int)) = true := by simp; omega
    have hv0 : v = false := by rw [← HV.out, isP, decide_eq_false (by rw [HN.out, u8_len, byte_len]; exact hne)]; rfl
    subst hv0
    clear hs
    go_enter Try.func26, Try.ntmps26
    go_wp2_with fail
    refine HVAN.out.mono ?_
    rintro e w1 ⟨g, N, cap, rfl, hb1, hgb, hrow, hcap⟩
    have hb2 := hb1.alloc hb1.size (.cells #[.slice (some ⟨g, 0, none⟩) s.size cap] 45)
    clear hrow
    go_wp2
    go_ret2
    exact ⟨rfl, hb2⟩
  subst hne
  obtain ⟨L, hL⟩ : ∃ L, u8 s.data.toList = L := ⟨_, rfl⟩
  have hLl : L.length = s.size := by rw [← hL, u8_len, byte_len]
  rw [hL] at HV HVAN
  clear hL
  go_enter Try.func26, Try.ntmps26
  go_wp2_with fail
  refine HVAN.out.mono ?_
  rintro e w1 ⟨g, N, cap, rfl, hb1, hgb, hrow, hcap⟩
  have hs1 := hb1.size
  have hgl := hrow.lt
  have hb2 : Below w.heap.size w ((w1.alloc (.cells #[.slice (some ⟨g, 0, none⟩) s.size cap] 45)).alloc (.cells #[.slice none 0 0] 49)) := (hb1.alloc hs1 _).alloc (by simp; omega) _
  have hr2 : RowB ((w1.alloc (.cells #[.slice (some ⟨g, 0, none⟩) s.size cap] 45)).alloc (.cells #[.slice none 0 0] 49)) g 5 N L := (hrow.keep (alloc_old w1 hgl _)).keep (alloc_old _ (by simp; omega) _)
  have hy2 : Yard ((w1.alloc (.cells #[.slice (some ⟨g, 0, none⟩) s.size cap] 45)).alloc (.cells #[.slice none 0 0] 49)) (w1.heap.size + 1) (w1.heap.size + 1 + 1) [] none 0 0 := ⟨new_at _ _ (by simp), World.ownsRow_nil _ _ _ _, fun g e => by cases e⟩
  have HB2 := Lib.hid hb2
  have HR2 := Lib.hid hr2
  have HY2 := Lib.hid hy2
  have hgP : g < w1.heap.size + 1 := by omega
  have hwP : w.heap.size ≤ w1.heap.size + 1 := by omega
  clear hb1 hrow hgl hs1 hb2 hr2 hy2
  go_wp2
  generalize w1.heap.size + 1 = P at HY2 hgP hwP ⊢
  go_loopw [27] (fun i wr => ∃ (k m d : Nat) (B : Option Addr) (tops : List Int), k ≤ s.size ∧ i = .int .i64 (k : Int) ∧ m ≤ k ∧ Yard wr P (P + 1) tops B m d ∧ RowB wr g 5 N L ∧ Hid (plcP L xs k = some tops) ∧ Below w.heap.size w wr) (fun i _ => s.size - (intOf i).toNat)
  case atStart => exact ⟨0, 0, 0, none, [], by omega, rfl, by omega, HY2.out, HR2.out, rfl, HB2.out⟩
  case round =>
    obtain ⟨k, m, d, B, tops, hk, rfl, hmk, hy, hrow, HP, hb⟩ := hrel
    by_cases hlt : k < s.size
    · obtain ⟨cc, hcL⟩ : ∃ cc, L[k]? = some cc := ⟨_, List.getElem?_eq_getElem (by omega)⟩
      obtain ⟨bA, off, p, hA, hbl, hbh, hp, hcell⟩ := (hs.below hb hB).at_ (k := k) (by rw [HN.out]; exact hlt)
      have hm := hy.row.len
      have hki : (k : Int) < (s.size : Int) := by omega
      have qb := hrow.cell hcL
      subst hA
      have HC := Lib.hid hcL
      have HPX := Lib.hid hp
      have HR := Lib.hid hrow
      have HB0 := Lib.hid hb
      have HYY := Lib.hid hy
      have hct := canTake_any P (P + 1) tops B m d p cc wr hy
      obtain ⟨q, hq⟩ : ∃ q, canP tops p cc = q := ⟨_, rfl⟩
      rw [hq] at hct
      have HQQ := Lib.hid hq
      have HCT := Lib.hid hct
      clear hcL hp hrow hb hct hq hy
      cases q
      · have hv0 : v = false := by rw [← HV.out]; exact isP_no (plcP_no HP.out HPX.out HC.out HQQ.out _ (by omega))
        subst hv0
        go_wp2_with fail
        refine HCT.out.mono ?_
        rintro e w2 ⟨rfl, rfl⟩
        go_wp2
        go_ret2
        exact ⟨rfl, HB0.out⟩
      · have hgo := plcP_go HP.out HPX.out HC.out HQQ.out
        have HGO := Lib.hid hgo
        have hpm : 0 ≤ p ∧ p ≤ (m : Int) := by
          have h := HQQ.out
          rw [canP, hm, Bool.and_eq_true] at h
          exact inB_true.1 h.1
        obtain ⟨j, rfl⟩ : ∃ j : Nat, p = j := ⟨p.toNat, by omega⟩
        have HPU := Lib.hid (put_any P (P + 1) tops B m d j cc wr HYY.out (by omega) (by omega) (by have := heap_lt HYY.out.self; omega))
        clear hgo
        go_wp2_with fail
        refine HCT.out.mono ?_
        rintro e w2 ⟨rfl, rfl⟩
        go_wp2_with fail
        refine HPU.out.mono ?_
        rintro e w3 ⟨rfl, B', m', d', hy3, ho, _⟩
        have hBB : ∀ b, B = some ⟨b, 0, none⟩ → P + 1 ≤ b := fun b e => (HYY.out.row.lt b (by rw [e]; rfl)).1
        have hb3 := HB0.out.trans (ho.below HB0.out.size (fun k hk => by rcases hk with e | e; omega; have := hBB k e; omega))
        have hr3 := HR.out.keep (ho.block g HR.out.lt (fun hk => by rcases hk with e | e; omega; have := hBB g e; omega))
        have hm3 := hy3.row.len
        have hmm : m' ≤ k + 1 := by rw [← hm3, putP_len _ _ _ (by omega)]; omega
        have HB3 := Lib.hid hb3
        have HR3 := Lib.hid hr3
        have HY3 := Lib.hid hy3
        clear hb3 hr3 hy3 ho hm3 hBB
        go_wp2
        go_roundw
        case rel => exact ⟨k + 1, m', d', B', _, by omega, by go_num, hmm, HY3.out, HR3.out, Lib.hid (by rw [HGO.out, Int.toNat_natCast]), HB3.out⟩
        case measure => simp [intOf]; omega
    · obtain rfl : k = s.size := by omega
      have hv1 : v = true := by rw [← HV.out]; exact isP_yes (by rw [HN.out, hLl]) (by rw [hLl]; exact HP.out)
      subst hv1
      clear hrow hy
      go_wp2
      go_ret2
      exact ⟨rfl, hb⟩
end Go.Proofs.Ytgcljhgpihpfgaa
