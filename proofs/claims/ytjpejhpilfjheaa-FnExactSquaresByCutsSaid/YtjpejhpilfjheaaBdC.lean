/-
  The written program's iterator over the cuts of a board: its contract.
  Conditions: a board.
-/
import Derived.Test.YtjpejhpilfjheaaBdF
import Derived.Test.YtjpejhpilfjheaaBdM
namespace Go.Proofs.Ytjpejhpilfjheaa
set_option linter.unusedVariables false
open Go.RowKit Go.Shelf
attribute [local go_sem] Oper.semAt_some

theorem cuts_any (a b : Int) (w : World) :
    Calls Try.prog 66 #[.agg #[.int .i64 a, .int .i64 b]] w fun e w' => e = .returned (.func (.func 79) #[] #[.pointer (some ⟨w.heap.size, 0, none⟩)]) ∧ w' = w.alloc (.cells #[.int .i64 a, .int .i64 b] 55) := by
  go_enter Try.func66, Try.ntmps66
  go_wp2
  go_ret
  exact ⟨rfl, rfl⟩

theorem brd_at0 (a b : Int) (w : World) : (Instr.index 55 (.agg #[.int .i64 a, .int .i64 b]) (.int .i64 0)).run Try.prog w = .ok (.int .i64 a) w := by kernel_rfl
theorem brd_at1 (a b : Int) (w : World) : (Instr.index 55 (.agg #[.int .i64 a, .int .i64 b]) (.int .i64 1)).run Try.prog w = .ok (.int .i64 b) w := by kernel_rfl

abbrev Cut := (Nat × Nat) × (Nat × Nat)
abbrev encC (c : Cut) : Array Value := #[.agg #[.int .i64 (c.1.1 : Int), .int .i64 (c.1.2 : Int)], .agg #[.int .i64 (c.2.1 : Int), .int .i64 (c.2.2 : Int)]]
/-- A cut of just this board. -/
abbrev CutOf (a b : Nat) := {c : Cut // c ∈ cutsL a b}
/-- The first so many cuts of a side. -/
def upL (a b m : Nat) : List Cut := (List.range m).map fun k => ((k + 1, b), (a - (k + 1), b))
def lvL (a b m : Nat) : List Cut := (List.range m).map fun k => ((a, k + 1), (a, b - (k + 1)))
theorem upL_succ (a b m : Nat) : upL a b (m + 1) = upL a b m ++ [((m + 1, b), (a - (m + 1), b))] := by simp [upL, List.range_succ]
theorem lvL_succ (a b m : Nat) : lvL a b (m + 1) = lvL a b m ++ [((a, m + 1), (a, b - (m + 1)))] := by simp [lvL, List.range_succ]
theorem upL_length (a b m : Nat) : (upL a b m).length = m := by simp [upL]
theorem lvL_length (a b m : Nat) : (lvL a b m).length = m := by simp [lvL]
theorem cutsL_parts (a b : Nat) : cutsL a b = upL a b (a - 1) ++ lvL a b (b - 1) := rfl
theorem cutsL_length (a b : Nat) : (cutsL a b).length = (a - 1) + (b - 1) := by simp [cutsL]
theorem upL_pre {a b m : Nat} (h : m ≤ a - 1) : upL a b m <+: cutsL a b := by
  obtain ⟨k, hk⟩ : ∃ k, a - 1 = m + k := ⟨a - 1 - m, by omega⟩
  rw [cutsL_parts, hk, upL, upL, List.range_add, List.map_append, List.append_assoc]
  exact ⟨_, rfl⟩
theorem lvL_pre {a b m : Nat} (h : m ≤ b - 1) : upL a b (a - 1) ++ lvL a b m <+: cutsL a b := by
  obtain ⟨k, hk⟩ : ∃ k, b - 1 = m + k := ⟨b - 1 - m, by omega⟩
  rw [cutsL_parts, hk, lvL, lvL, List.range_add, List.map_append, ← List.append_assoc]
  exact ⟨_, rfl⟩

theorem yield_step {P : Program} {n l : Nat} {args : Array Value} {W : World} {R : Ending → World → Prop} {o : Oper} {a : Act} {K : Act → World → Prop} {Q : Exit → Act → World → Prop} (hy : YieldAt Fence.wide (n - 1) P l args W R)
    (h : ∀ e w', R e w' → (match e with | .returned v => K (a.put o.dst v) w' | .panicked chain => Q (.panic chain) a w' | .outgrown => LetsOut Q)) : o.uponIn Fence.wide n P a K Q (Sem.run P (Instr.yield l args) W) := by
  obtain ⟨fn, tmps, assign, body, hy, hR⟩ := hy
  rw [show Sem.run P (Instr.yield l args) W = _ from hy]
  exact ⟨fun hd => (by cases hd), hR.mono fun e w' hr => by have := h e w' hr; cases e <;> exact this⟩
theorem drewB {B : Nat} {a w : World} (h : Below B a w) : Below B a w.drew := ⟨h.os, h.tape, h.output, h.size, h.block⟩

set_option maxRecDepth 100000 in
set_option maxHeartbeats 2000000 in
theorem cuts1_in (n l Bb a b T : Nat) (ha : 1 ≤ a) (ha2 : a ≤ 24) (hb : 1 ≤ b) (hb2 : b ≤ 24) (J Jx : List (CutOf a b) → World → Prop) (W : World) (hJ : AbidesFrom W.heap.size J)
    (hY : ∀ pre x W1, J pre W1 → pre.length < (cutsL a b).length → YieldAt Fence.wide (n - 1) Try.prog l (encC x.1) W1 fun e W' =>
      (e = .returned (.bool true) ∧ J (pre ++ [x]) W' ∧ W'.heap[Bb]? = W1.heap[Bb]?) ∨ (e = .returned (.bool false) ∧ Jx (pre ++ [x]) W'))
    (hBb : W.heap[Bb]? = some (.cells #[.int .i64 (a : Int), .int .i64 (b : Int)] T (0, 0))) (h0 : J [] W) :
    CallsIn Fence.wide n Try.prog 79 #[.func (.yield l) #[] #[], .pointer (some ⟨Bb, 0, none⟩)] W fun e W' => (∃ v, e = .returned v) ∧
      ((∃ xs, xs.map Subtype.val = cutsL a b ∧ J xs W') ∨ (∃ pre, pre.map Subtype.val <+: cutsL a b ∧ Jx pre W')) := by
  have hc0 : W.cell? ⟨Bb, 0, none⟩ = some (.int .i64 (a : Int)) := cell_of hBb 0
  have hc1 : W.cell? ⟨Bb, 1, none⟩ = some (.int .i64 (b : Int)) := cell_of hBb 1
  refine callsIn_of_wp Try.func79 rfl trivial ?_ rfl
  simp only [Try.ntmps79, List.size_toArray, List.length_cons, List.length_nil, Nat.reduceAdd, Nat.reduceSub, Array.replicate_succ, Array.replicate_zero, List.push_toArray, List.append_toArray, List.nil_append, List.cons_append]
  gi_wp2
  gi_loopw [9] (fun i wr => (i = .int .i64 0 ∧ J [] wr ∧ wr.heap[Bb]? = W.heap[Bb]?) ∨ (i = .int .i64 1 ∧ (∃ pre, pre.map Subtype.val = upL a b (a - 1) ∧ J pre wr) ∧ wr.heap[Bb]? = W.heap[Bb]?) ∨ (i = .int .i64 2 ∧ (∃ pre, pre.map Subtype.val = cutsL a b ∧ J pre wr) ∧ wr.heap[Bb]? = W.heap[Bb]?)) (fun i _ => 2 - (intOf i).toNat)
  case atStart => exact .inl ⟨rfl, h0, rfl⟩
  case round =>
    rcases hrel with ⟨rfl, hj, hbw⟩ | ⟨rfl, hj, hbw⟩ | ⟨rfl, hj, hbw⟩
    · have hi0 := brd_at0 (a : Int) (b : Int)
      gi_wp2
      clear hi0
      gi_loopw [5] (fun i wr' => ∃ p : Nat, 1 ≤ p ∧ p ≤ a ∧ i = .int .i64 (p : Int) ∧ (∃ pre, pre.map Subtype.val = (upL a b (p - 1)) ∧ J pre wr') ∧ wr'.heap[Bb]? = W.heap[Bb]?) (fun i _ => a - (intOf i).toNat)
      case atStart => exact ⟨1, by omega, ha, rfl, ⟨[], rfl, hj⟩, hbw⟩
      case round =>
        obtain ⟨p, hp1, hp2, rfl, ⟨pre, hpre, hj2⟩, hb2w⟩ := hrel
        by_cases hpa : p < a
        · have hBw := hb2w.trans hBb
          have hBs := heap_lt hBw
          have hsub : (a : Int) - (p : Int) = ((a - p : Nat) : Int) := by omega
          have hnext : upL a b (p + 1 - 1) = (upL a b (p - 1)) ++ [((p, b), (a - p, b))] := by rw [show p + 1 - 1 = (p - 1) + 1 by omega, upL_succ, show p - 1 + 1 = p by omega]
          gi_wp2
          refine wpIn_wide.2 ?_
          refine wp_region_held_drew (S := (fun wq => wq.heap[Bb]? = some (.cells #[.int .i64 (a : Int), .int .i64 (b : Int)] T (0, 0)))) (by kernel_rfl) hBw (fun hH0 => ?_)
          refine wpAnyH_take (i := 0) (v := ?_) (ops_at rfl) (by kernel_rfl) (by kernel_rfl) (by kernel_rfl) (fun _ _ _ h => h) (Or.inl ⟨by rfl, ?ya00⟩) (by assumption) ?na00
          case ya00 => (intro wS hSw; (have k0 := cell_of hSw 0); (have k1 := cell_of hSw 1); go_simp; try rfl)
          try simp only [Act.put, List.setIfInBounds_toArray, List.set_cons_zero, List.set_cons_succ]
          refine wpAnyH_take (i := 1) (v := ?_) (ops_at rfl) (by kernel_rfl) (by kernel_rfl) (by kernel_rfl) (fun _ _ _ h => h) (Or.inl ⟨by rfl, ?ya01⟩) (by assumption) ?na01
          case ya01 => (intro wS hSw; (have k0 := cell_of hSw 0); (have k1 := cell_of hSw 1); go_simp; try rfl)
          try simp only [Act.put, List.setIfInBounds_toArray, List.set_cons_zero, List.set_cons_succ]
          refine wpAnyH_ready (rs := [2, 3]) (by kernel_rfl) (by simp) ?_
          refine AllReadyH.cons (ops_at rfl) (fun K hK => ?_) (AllReadyH.cons (ops_at rfl) (fun K hK => ?_) AllReadyH.nil)
          · go_simp
            refine hK.out _ _ ((alloc_old _ hBs _).trans hBw) (fun hH1 => ?_)
            clear hK K
            refine wpAnyH_ready (rs := [3]) (by kernel_rfl) (by simp) ?_
            refine AllReadyH.cons (ops_at rfl) (fun K hK => ?_) AllReadyH.nil
            go_simp
            refine hK.out _ _ ((alloc_old _ (by simp; omega) _).trans ((alloc_old _ hBs _).trans hBw)) (fun hH2 => ?_)
            clear hK K
            refine wpAnyH_ready (rs := [4]) (by kernel_rfl) (by simp) ?_
            refine AllReadyH.cons (ops_at rfl) (fun K hK => ?_) AllReadyH.nil
            go_simp
            refine hK.out _ _ ((alloc_old _ (by simp; omega) _).trans ((alloc_old _ hBs _).trans hBw)) (fun hH3 => ?_)
            clear hK K
            refine wpAnyH_ready (rs := [5]) (by kernel_rfl) (by simp) ?_
            refine AllReadyH.cons (ops_at rfl) (fun K hK => ?_) AllReadyH.nil
            go_simp
            refine hK.out _ _ ((alloc_old _ (by simp; omega) _).trans ((alloc_old _ hBs _).trans hBw)) (fun hH4 => ?_)
            clear hK K
            refine wpAnyH_done (by kernel_rfl) ?_ _
            gi_wp2
            try rw [hsub]
            have hmem : ((p, b), (a - p, b)) ∈ cutsL a b := mem_cutsL.2 (.inl ⟨p, hp1, hpa, rfl⟩)
            have hlen : pre.length = ((upL a b (p - 1))).length := by rw [← hpre, List.length_map]
            have HP := Lib.hid hpre
            clear hpre
            refine yield_step (hY pre ⟨((p, b), (a - p, b)), hmem⟩ _ (abides_below hJ hj2 (drewB (((Below.refl _ _).alloc (Nat.le_refl _) _).alloc (by simp) _))) (by rw [hlen]; simp only [cutsL_length, upL_length]; omega)) ?_
            rintro e W3 (⟨rfl, hJ3, hk3⟩ | ⟨rfl, hJx3⟩)
            · gi_wp2
              go_roundw
              case rel => exact ⟨p + 1, by omega, by omega, by go_num, ⟨_, by rw [hnext, List.map_append, HP.out]; rfl, hJ3⟩, hk3.trans (((alloc_old _ (by simp; omega) _).trans (alloc_old _ hBs _)).trans hb2w)⟩
              case measure => simp [intOf]; omega
            · gi_wp2
              refine bodyPost_ret (results_none rfl _ _ _) rfl ?_
              exact ⟨⟨_, rfl⟩, .inr ⟨_, by rw [List.map_append, HP.out]; simp only [List.map_cons, List.map_nil]; rw [← hnext]; exact upL_pre (by omega), hJx3⟩⟩
          · go_simp
            refine hK.out _ _ ((alloc_old _ hBs _).trans hBw) (fun hH1 => ?_)
            clear hK K
            refine wpAnyH_ready (rs := [2]) (by kernel_rfl) (by simp) ?_
            refine AllReadyH.cons (ops_at rfl) (fun K hK => ?_) AllReadyH.nil
            go_simp
            refine hK.out _ _ ((alloc_old _ (by simp; omega) _).trans ((alloc_old _ hBs _).trans hBw)) (fun hH2 => ?_)
            clear hK K
            refine wpAnyH_ready (rs := [4]) (by kernel_rfl) (by simp) ?_
            refine AllReadyH.cons (ops_at rfl) (fun K hK => ?_) AllReadyH.nil
            go_simp
            refine hK.out _ _ ((alloc_old _ (by simp; omega) _).trans ((alloc_old _ hBs _).trans hBw)) (fun hH3 => ?_)
            clear hK K
            refine wpAnyH_ready (rs := [5]) (by kernel_rfl) (by simp) ?_
            refine AllReadyH.cons (ops_at rfl) (fun K hK => ?_) AllReadyH.nil
            go_simp
            refine hK.out _ _ ((alloc_old _ (by simp; omega) _).trans ((alloc_old _ hBs _).trans hBw)) (fun hH4 => ?_)
            clear hK K
            refine wpAnyH_done (by kernel_rfl) ?_ _
            gi_wp2
            try rw [hsub]
            have hmem : ((p, b), (a - p, b)) ∈ cutsL a b := mem_cutsL.2 (.inl ⟨p, hp1, hpa, rfl⟩)
            have hlen : pre.length = ((upL a b (p - 1))).length := by rw [← hpre, List.length_map]
            have HP := Lib.hid hpre
            clear hpre
            refine yield_step (hY pre ⟨((p, b), (a - p, b)), hmem⟩ _ (abides_below hJ hj2 (drewB (((Below.refl _ _).alloc (Nat.le_refl _) _).alloc (by simp) _))) (by rw [hlen]; simp only [cutsL_length, upL_length]; omega)) ?_
            rintro e W3 (⟨rfl, hJ3, hk3⟩ | ⟨rfl, hJx3⟩)
            · gi_wp2
              go_roundw
              case rel => exact ⟨p + 1, by omega, by omega, by go_num, ⟨_, by rw [hnext, List.map_append, HP.out]; rfl, hJ3⟩, hk3.trans (((alloc_old _ (by simp; omega) _).trans (alloc_old _ hBs _)).trans hb2w)⟩
              case measure => simp [intOf]; omega
            · gi_wp2
              refine bodyPost_ret (results_none rfl _ _ _) rfl ?_
              exact ⟨⟨_, rfl⟩, .inr ⟨_, by rw [List.map_append, HP.out]; simp only [List.map_cons, List.map_nil]; rw [← hnext]; exact upL_pre (by omega), hJx3⟩⟩
        · obtain rfl : p = a := by omega
          gi_wp2
          go_roundw
          case rel => exact .inr (.inl ⟨by go_num, ⟨pre, hpre, hj2⟩, hb2w⟩)
          case measure => simp [intOf]
    · have hi0 := brd_at1 (a : Int) (b : Int)
      gi_wp2
      clear hi0
      gi_loopw [5] (fun i wr' => ∃ p : Nat, 1 ≤ p ∧ p ≤ b ∧ i = .int .i64 (p : Int) ∧ (∃ pre, pre.map Subtype.val = (upL a b (a - 1) ++ lvL a b (p - 1)) ∧ J pre wr') ∧ wr'.heap[Bb]? = W.heap[Bb]?) (fun i _ => b - (intOf i).toNat)
      case atStart => exact ⟨1, by omega, hb, rfl, by simpa [lvL] using hj, hbw⟩
      case round =>
        obtain ⟨p, hp1, hp2, rfl, ⟨pre, hpre, hj2⟩, hb2w⟩ := hrel
        by_cases hpa : p < b
        · have hBw := hb2w.trans hBb
          have hBs := heap_lt hBw
          have hsub : (b : Int) - (p : Int) = ((b - p : Nat) : Int) := by omega
          have hnext : upL a b (a - 1) ++ lvL a b (p + 1 - 1) = (upL a b (a - 1) ++ lvL a b (p - 1)) ++ [((a, p), (a, b - p))] := by rw [show p + 1 - 1 = (p - 1) + 1 by omega, lvL_succ, ← List.append_assoc, show p - 1 + 1 = p by omega]
          gi_wp2
          refine wpIn_wide.2 ?_
          refine wp_region_held_drew (S := (fun wq => wq.heap[Bb]? = some (.cells #[.int .i64 (a : Int), .int .i64 (b : Int)] T (0, 0)))) (by kernel_rfl) hBw (fun hH0 => ?_)
          refine wpAnyH_take (i := 0) (v := ?_) (ops_at rfl) (by kernel_rfl) (by kernel_rfl) (by kernel_rfl) (fun _ _ _ h => h) (Or.inl ⟨by rfl, ?ya10⟩) (by assumption) ?na10
          case ya10 => (intro wS hSw; (have k0 := cell_of hSw 0); (have k1 := cell_of hSw 1); go_simp; try rfl)
          try simp only [Act.put, List.setIfInBounds_toArray, List.set_cons_zero, List.set_cons_succ]
          refine wpAnyH_take (i := 1) (v := ?_) (ops_at rfl) (by kernel_rfl) (by kernel_rfl) (by kernel_rfl) (fun _ _ _ h => h) (Or.inl ⟨by rfl, ?ya11⟩) (by assumption) ?na11
          case ya11 => (intro wS hSw; (have k0 := cell_of hSw 0); (have k1 := cell_of hSw 1); go_simp; try rfl)
          try simp only [Act.put, List.setIfInBounds_toArray, List.set_cons_zero, List.set_cons_succ]
          refine wpAnyH_ready (rs := [2, 3]) (by kernel_rfl) (by simp) ?_
          refine AllReadyH.cons (ops_at rfl) (fun K hK => ?_) (AllReadyH.cons (ops_at rfl) (fun K hK => ?_) AllReadyH.nil)
          · go_simp
            refine hK.out _ _ ((alloc_old _ hBs _).trans hBw) (fun hH1 => ?_)
            clear hK K
            refine wpAnyH_ready (rs := [3]) (by kernel_rfl) (by simp) ?_
            refine AllReadyH.cons (ops_at rfl) (fun K hK => ?_) AllReadyH.nil
            go_simp
            refine hK.out _ _ ((alloc_old _ (by simp; omega) _).trans ((alloc_old _ hBs _).trans hBw)) (fun hH2 => ?_)
            clear hK K
            refine wpAnyH_ready (rs := [4]) (by kernel_rfl) (by simp) ?_
            refine AllReadyH.cons (ops_at rfl) (fun K hK => ?_) AllReadyH.nil
            go_simp
            refine hK.out _ _ ((alloc_old _ (by simp; omega) _).trans ((alloc_old _ hBs _).trans hBw)) (fun hH3 => ?_)
            clear hK K
            refine wpAnyH_ready (rs := [5]) (by kernel_rfl) (by simp) ?_
            refine AllReadyH.cons (ops_at rfl) (fun K hK => ?_) AllReadyH.nil
            go_simp
            refine hK.out _ _ ((alloc_old _ (by simp; omega) _).trans ((alloc_old _ hBs _).trans hBw)) (fun hH4 => ?_)
            clear hK K
            refine wpAnyH_done (by kernel_rfl) ?_ _
            gi_wp2
            try rw [hsub]
            have hmem : ((a, p), (a, b - p)) ∈ cutsL a b := mem_cutsL.2 (.inr ⟨p, hp1, hpa, rfl⟩)
            have hlen : pre.length = ((upL a b (a - 1) ++ lvL a b (p - 1))).length := by rw [← hpre, List.length_map]
            have HP := Lib.hid hpre
            clear hpre
            refine yield_step (hY pre ⟨((a, p), (a, b - p)), hmem⟩ _ (abides_below hJ hj2 (drewB (((Below.refl _ _).alloc (Nat.le_refl _) _).alloc (by simp) _))) (by rw [hlen]; simp only [cutsL_length, List.length_append, upL_length, lvL_length]; omega)) ?_
            rintro e W3 (⟨rfl, hJ3, hk3⟩ | ⟨rfl, hJx3⟩)
            · gi_wp2
              go_roundw
              case rel => exact ⟨p + 1, by omega, by omega, by go_num, ⟨_, by rw [hnext, List.map_append, HP.out]; rfl, hJ3⟩, hk3.trans (((alloc_old _ (by simp; omega) _).trans (alloc_old _ hBs _)).trans hb2w)⟩
              case measure => simp [intOf]; omega
            · gi_wp2
              refine bodyPost_ret (results_none rfl _ _ _) rfl ?_
              exact ⟨⟨_, rfl⟩, .inr ⟨_, by rw [List.map_append, HP.out]; simp only [List.map_cons, List.map_nil]; rw [← hnext]; exact lvL_pre (by omega), hJx3⟩⟩
          · go_simp
            refine hK.out _ _ ((alloc_old _ hBs _).trans hBw) (fun hH1 => ?_)
            clear hK K
            refine wpAnyH_ready (rs := [2]) (by kernel_rfl) (by simp) ?_
            refine AllReadyH.cons (ops_at rfl) (fun K hK => ?_) AllReadyH.nil
            go_simp
            refine hK.out _ _ ((alloc_old _ (by simp; omega) _).trans ((alloc_old _ hBs _).trans hBw)) (fun hH2 => ?_)
            clear hK K
            refine wpAnyH_ready (rs := [4]) (by kernel_rfl) (by simp) ?_
            refine AllReadyH.cons (ops_at rfl) (fun K hK => ?_) AllReadyH.nil
            go_simp
            refine hK.out _ _ ((alloc_old _ (by simp; omega) _).trans ((alloc_old _ hBs _).trans hBw)) (fun hH3 => ?_)
            clear hK K
            refine wpAnyH_ready (rs := [5]) (by kernel_rfl) (by simp) ?_
            refine AllReadyH.cons (ops_at rfl) (fun K hK => ?_) AllReadyH.nil
            go_simp
            refine hK.out _ _ ((alloc_old _ (by simp; omega) _).trans ((alloc_old _ hBs _).trans hBw)) (fun hH4 => ?_)
            clear hK K
            refine wpAnyH_done (by kernel_rfl) ?_ _
            gi_wp2
            try rw [hsub]
            have hmem : ((a, p), (a, b - p)) ∈ cutsL a b := mem_cutsL.2 (.inr ⟨p, hp1, hpa, rfl⟩)
            have hlen : pre.length = ((upL a b (a - 1) ++ lvL a b (p - 1))).length := by rw [← hpre, List.length_map]
            have HP := Lib.hid hpre
            clear hpre
            refine yield_step (hY pre ⟨((a, p), (a, b - p)), hmem⟩ _ (abides_below hJ hj2 (drewB (((Below.refl _ _).alloc (Nat.le_refl _) _).alloc (by simp) _))) (by rw [hlen]; simp only [cutsL_length, List.length_append, upL_length, lvL_length]; omega)) ?_
            rintro e W3 (⟨rfl, hJ3, hk3⟩ | ⟨rfl, hJx3⟩)
            · gi_wp2
              go_roundw
              case rel => exact ⟨p + 1, by omega, by omega, by go_num, ⟨_, by rw [hnext, List.map_append, HP.out]; rfl, hJ3⟩, hk3.trans (((alloc_old _ (by simp; omega) _).trans (alloc_old _ hBs _)).trans hb2w)⟩
              case measure => simp [intOf]; omega
            · gi_wp2
              refine bodyPost_ret (results_none rfl _ _ _) rfl ?_
              exact ⟨⟨_, rfl⟩, .inr ⟨_, by rw [List.map_append, HP.out]; simp only [List.map_cons, List.map_nil]; rw [← hnext]; exact lvL_pre (by omega), hJx3⟩⟩
        · obtain rfl : p = b := by omega
          gi_wp2
          go_roundw
          case rel => exact .inr (.inr ⟨by go_num, ⟨pre, hpre, hj2⟩, hb2w⟩)
          case measure => simp [intOf]
    · gi_wp2
      go_end0
      exact ⟨⟨_, rfl⟩, .inl hj⟩

/-- What a round keeps: the block of the board. -/
def KeepsB (Bb : Nat) (A B : World) : Prop := B.heap[Bb]? = A.heap[Bb]?
theorem keepsB_t {Bb : Nat} {A B C : World} (h : KeepsB Bb A B) (k : KeepsB Bb B C) : KeepsB Bb A C := Eq.trans k h
theorem keepsB_b {Bb : Nat} {w : World} (hB : Bb < w.heap.size) (W : World) (l : Nat) (o o' : Obj) (hl : w.heap.size ≤ l) (h : W.heap[l]? = some o) (_ : o.isCells = false) (_ : o.isWalk = false) : KeepsB Bb W (W.putObj l o') := World.putObj_heap_other (by omega)
theorem cuts_stops (n Bb a b T : Nat) (ha : 1 ≤ a) (ha2 : a ≤ 24) (hb : 1 ≤ b) (hb2 : b ≤ 24) (w : World) (hBb : w.heap[Bb]? = some (.cells #[.int .i64 (a : Int), .int .i64 (b : Int)] T (0, 0))) :
    SeqStopsK Fence.wide n Try.prog 79 #[.pointer (some ⟨Bb, 0, none⟩)] (fun x : CutOf a b => encC x.1) (KeepsB Bb) (fun xs => xs.map Subtype.val = cutsL a b) (fun pre => pre.map Subtype.val <+: cutsL a b) (cutsL a b).length w := fun l J Jx W hW hJ _ hY h0 =>
  cuts1_in n l Bb a b T ha ha2 hb hb2 J Jx W hJ hY ((hW.block Bb (heap_lt hBb)).trans hBb) h0
end Go.Proofs.Ytjpejhpilfjheaa
