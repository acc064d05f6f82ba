/-
  The library's Repeat of a list of one, and the iterator over all hidden things.
  Conditions: each part's own.
-/
import Derived.Test.YtoheoojpmndhoaaMem
import Derived.Test.YtoheoojpmndhoaaCopy
import Derived.Laws.CopyOwn
import Derived.Laws.CopyRow
import Derived.Deep.RegionHeld
import Derived.BigQuiet
import Derived.Test.YtoheoojpmndhoaaItK
import Derived.Test.YtoheoojpmndhoaaPzM
namespace Go.Proofs.Ytoheoojpmndhoaa
set_option linter.unusedVariables false
set_option linter.unusedSimpArgs false
open Go.RowKit

theorem and_low (q : Nat) (h : q < 8) : bits .and .u64 (q : Int) 4294967295 = (q : Int) := by
  have : ∀ q : Fin 8, bits .and .u64 ((q.val : Nat) : Int) 4294967295 = ((q.val : Nat) : Int) := by decide
  exact this ⟨q, h⟩

theorem mul64_few (n : Nat) (h : n = 2 ∨ n = 3 ∨ n = 4) (w : World) :
    Calls Try.prog 135 #[.int .u64 1, .int .u64 (n : Int)] w fun e w' => e = .returned (.tuple #[.int .u64 0, .int .u64 (n : Int)]) ∧ w = w' := by
  have a0 : bits .and .u64 0 4294967295 = 0 := and_low 0 (by omega)
  have a1 : bits .and .u64 1 4294967295 = 1 := and_low 1 (by omega)
  have a2 : bits .and .u64 2 4294967295 = 2 := and_low 2 (by omega)
  have a3 : bits .and .u64 3 4294967295 = 3 := and_low 3 (by omega)
  have a4 : bits .and .u64 4 4294967295 = 4 := and_low 4 (by omega)
  rcases h with rfl | rfl | rfl
  all_goals
    go_enter Try.func135, Try.ntmps135
    go_wp2
    refine bodyPost_ret (by simp [results, Try.results135, go_sem]) rfl ⟨rfl, rfl⟩

theorem mul_few (n : Nat) (h : n = 2 ∨ n = 3 ∨ n = 4) (w : World) :
    Calls Try.prog 128 #[.int .u64 1, .int .u64 (n : Int)] w fun e w' => e = .returned (.tuple #[.int .u64 0, .int .u64 (n : Int)]) ∧ w = w' := by
  go_enter Try.func128, Try.ntmps128
  go_wp2_with fail
  refine (mul64_few n h _).mono ?_
  rintro e w1 ⟨rfl, rfl⟩
  go_wp2
  refine bodyPost_ret (v := .tuple #[.int .u64 0, .int .u64 (n : Int)]) (by simp [results, Try.results128, go_sem]) rfl ⟨rfl, rfl⟩

/-- So many ones, and noughts behind. -/
def onesZ (n k : Nat) : List Value := List.replicate k (.int .i64 1) ++ List.replicate (n - k) (.int .i64 0)
theorem ones_new {n : Nat} (h : n = 2 ∨ n = 3 ∨ n = 4) : madeCells #[.int .i64 0] n = (onesZ n 0).toArray := by rcases h with rfl | rfl | rfl <;> (apply Array.ext' <;> simp [madeCells, onesZ, List.replicate, List.range, List.range.loop])
theorem ones_one {n : Nat} (h : n = 2 ∨ n = 3 ∨ n = 4) : splice (onesZ n 0) 0 [.int .i64 1] = onesZ n 1 := by rcases h with rfl | rfl | rfl <;> rfl
theorem ones_len {n k : Nat} (h : k ≤ n) : (onesZ n k).length = n := by simp [onesZ]; omega
theorem ones_more {n k : Nat} (h : n = 2 ∨ n = 3 ∨ n = 4) (h1 : 1 ≤ k) (h2 : k < n) : splice (onesZ n k) k (List.replicate (min k (n - k)) (.int .i64 1)) = onesZ n (k + min k (n - k)) := by
  rcases h with rfl | rfl | rfl
  · obtain rfl : k = 1 := by omega
    rfl
  · rcases (show k = 1 ∨ k = 2 by omega) with rfl | rfl <;> rfl
  · rcases (show k = 1 ∨ k = 2 ∨ k = 3 by omega) with rfl | rfl | rfl <;> rfl
theorem ones_full (n : Nat) : onesZ n n = List.replicate n (.int .i64 1) := by simp [onesZ]

theorem cut1_from (g n k : Nat) (h : k < n) (W : World) : (Instr.sliceAt 39 (.slice (some ⟨g, 0, none⟩) n n) (some (.int .i64 (k : Int))) none none).run Try.prog W = .ok (.slice (some ⟨g, k, none⟩) (n - k) (n - k)) W := by
  have ht : Try.prog.underlying 39 = some (.slice (Try.prog.elem 39)) := by kernel_rfl
  have hs : (sizeOf (Try.prog.elem 39)).run Try.prog W = .ok 1 W := by kernel_rfl
  rw [run_sliceAt_slice _ _ _ _ _ _ ht, run_slice_l _ _ _ _ _ ht .i64 _ (by omega) (by omega), hs]
  have hne : n ≠ k := by omega
  simp [Result.andThen, sliced, Addr.add, hne]
  omega
theorem cut1_to (g n k : Nat) (h : k ≤ n) (W : World) : (Instr.sliceAt 39 (.slice (some ⟨g, 0, none⟩) n n) none (some (.int .i64 (k : Int))) none).run Try.prog W = .ok (.slice (some ⟨g, 0, none⟩) k n) W := by
  have ht : Try.prog.underlying 39 = some (.slice (Try.prog.elem 39)) := by kernel_rfl
  have hs : (sizeOf (Try.prog.elem 39)).run Try.prog W = .ok 1 W := by kernel_rfl
  rw [run_sliceAt_slice _ _ _ _ _ _ ht, run_slice_h _ _ _ _ _ ht .i64 _ (by omega) (by omega), hs]
  simp [Result.andThen, sliced, Addr.add]

set_option maxHeartbeats 1000000 in
set_option maxRecDepth 100000 in
theorem repeat_few (gx n T : Nat) (h : n = 2 ∨ n = 3 ∨ n = 4) (w : World) (hx : w.heap[gx]? = some (.cells #[.int .i64 1] T (0, 0))) :
    Calls Try.prog 120 #[.slice (some ⟨gx, 0, none⟩) 1 1, .int .i64 (n : Int)] w fun e w' => e = .returned (.slice (some ⟨w.heap.size, 0, none⟩) n n) ∧
      w'.heap[w.heap.size]? = some (.cells (List.replicate n (.int .i64 1)).toArray 3 (0, 0)) ∧ Below w.heap.size w w' := by
  have hmk := fun W : World => run_make_row' 39 3 (.int .i64 0) 8 Try.underlying39 int_info rfl .i64 .i64 n (by omega) (by omega) W
  have hsz : (Try.prog.info? 3).map (·.size) = some 1 := by kernel_rfl
  have hxs := heap_lt hx
  have hx0 : w.cell? ⟨gx, 0, none⟩ = some (.int .i64 1) := cell_of hx 0
  have HX := Lib.hid hx
  have HX0 := Lib.hid hx0
  clear hx hx0
  go_enter Try.func120, Try.ntmps120
  go_wp2_with fail
  refine (mul_few n h _).mono ?_
  rintro e w1 ⟨rfl, rfl⟩
  rw [ones_new h] at hmk
  obtain ⟨V, hV⟩ : ∃ V, w.alloc (.cells (onesZ n 0).toArray 3) = V := ⟨_, rfl⟩
  have hbV : Below w.heap.size w V := by rw [← hV]; exact (Below.refl _ _).alloc (Nat.le_refl _) _
  have hpV : V.heap[w.heap.size]? = some (.cells (onesZ n 0).toArray 3 (0, 0)) := by rw [← hV]; exact new_at _ _ rfl
  have hcV : V.cell? ⟨gx, 0, none⟩ = some (.int .i64 1) := (hbV.cell (by exact hxs)).trans HX0.out
  have HV := Lib.hid hV
  have HPV := Lib.hid hpV
  have HCV := Lib.hid hcV
  clear hV hpV hcV
  have hcp0 := run_copy_row (P := Try.prog) V 39 39 3 3 w.heap.size 0 n n ⟨gx, 0, none⟩ 1 1 (onesZ n 0).toArray 3 [.int .i64 1] Try.underlying39 hsz HPV.out (by show 1 = min 1 n; omega) (fun j v hj => by
    rcases j with _ | j
    · simp at hj; subst hj; exact HCV.out
    · simp at hj) (by simp [ones_len (Nat.zero_le n)]; omega) (by simp [Value.oneCell'])
  obtain ⟨V2, hV2⟩ : ∃ V2, V.setRow w.heap.size ((onesZ n 0).toArray.toList.take 0 ++ [Value.int .i64 1] ++ (onesZ n 0).toArray.toList.drop (0 + [Value.int .i64 1].length)).toArray = V2 := ⟨_, rfl⟩
  have hb2 : Below w.heap.size w V2 := by rw [← hV2]; exact below_setRow hbV (Nat.le_refl _) _
  have hp2 : V2.heap[w.heap.size]? = some (.cells (onesZ n 1).toArray 3 (0, 0)) := by
    rw [← hV2, ← ones_one h]
    simpa [splice] using setRow_heap V w.heap.size _ _ _ _ HPV.out
  rw [hV2, ← HV.out] at hcp0
  have hcp1 : (Builtin.copy_ #[39, 39] 3 #[.slice (some ⟨w.heap.size, 0, none⟩) n n, .slice (some ⟨gx, 0, none⟩) 1 1]).run Try.prog (w.alloc (.cells (onesZ n 0).toArray 3)) = .ok (.int .i64 1) V2 := hcp0
  have HP2 := Lib.hid hp2
  clear hcp0 hp2 hV2
  go_wp2
  clear hmk hcp1
  go_loopw [8] (fun i wr => ∃ k : Nat, 1 ≤ k ∧ k ≤ n ∧ i = .int .i64 (k : Int) ∧ Below w.heap.size w wr ∧ wr.heap[w.heap.size]? = some (.cells (onesZ n k).toArray 3 (0, 0))) (fun i _ => n - (intOf i).toNat)
  case atStart => exact ⟨1, Nat.le_refl _, by omega, rfl, hb2, HP2.out⟩
  case round =>
    obtain ⟨k, hk1, hk, rfl, hb, hp⟩ := hrel
    by_cases hlt : k < n
    · have c1 := cut1_from w.heap.size n k hlt
      have c2 := cut1_to w.heap.size n k hk
      have hmore := ones_more h hk1 hlt
      obtain ⟨c, hc⟩ : ∃ c, min k (n - k) = c := ⟨_, rfl⟩
      have hc1 : 1 ≤ c ∧ k + c ≤ n := by omega
      rw [hc] at hmore
      have hn4 : n ≤ 4 := by omega
      have w1 : IntKind.i64.wrap ((k : Int) + (c : Int)) = (k : Int) + (c : Int) := IntWalk.i64_in _ (by omega)
      go_wp2_with fail
      refine wp_region_held_drew (S := fun wq => True) (by kernel_rfl) trivial (fun hH0 => ?_)
      refine wpAnyH_take (i := 0) (v := ?_) (ops_at rfl) (by kernel_rfl) (by kernel_rfl) (by kernel_rfl) (fun _ _ _ h => h) (Or.inl ⟨by rfl, ?ya0⟩) (by assumption) ?na0
      case ya0 => (intro wS hSw; go_simp; try rfl)
      try simp only [Act.put, List.setIfInBounds_toArray, List.set_cons_zero, List.set_cons_succ]
      refine wpAnyH_take (i := 1) (v := ?_) (ops_at rfl) (by kernel_rfl) (by kernel_rfl) (by kernel_rfl) (fun _ _ _ h => h) (Or.inl ⟨by rfl, ?ya1⟩) (by assumption) ?na1
      case ya1 => (intro wS hSw; go_simp; try rfl)
      try simp only [Act.put, List.setIfInBounds_toArray, List.set_cons_zero, List.set_cons_succ]
      refine wpAnyH_take (i := 2) (v := ?_) (ops_at rfl) (by kernel_rfl) (by kernel_rfl) (by kernel_rfl) (fun _ _ _ h => h) (Or.inl ⟨by rfl, ?ya2⟩) (by assumption) ?na2
      case ya2 => (intro wS hSw; go_simp; try rfl)
      try simp only [Act.put, List.setIfInBounds_toArray, List.set_cons_zero, List.set_cons_succ]
      refine wpAnyH_take (i := 3) (v := ?_) (ops_at rfl) (by kernel_rfl) (by kernel_rfl) (by kernel_rfl) (fun _ _ _ h => h) (Or.inl ⟨by rfl, ?ya3⟩) (by assumption) ?na3
      case ya3 => (intro wS hSw; go_simp; try rfl)
      try simp only [Act.put, List.setIfInBounds_toArray, List.set_cons_zero, List.set_cons_succ]
      refine wpAnyH_take (i := 4) (v := ?_) (ops_at rfl) (by kernel_rfl) (by kernel_rfl) (by kernel_rfl) (fun _ _ _ h => h) (Or.inl ⟨by rfl, ?ya4⟩) (by assumption) ?na4
      case ya4 => (intro wS hSw; go_simp; try rfl)
      try simp only [Act.put, List.setIfInBounds_toArray, List.set_cons_zero, List.set_cons_succ]
      refine wpAnyH_take (i := 5) (v := ?_) (ops_at rfl) (by kernel_rfl) (by kernel_rfl) (by kernel_rfl) (fun _ _ _ h => h) (Or.inl ⟨by rfl, ?ya5⟩) (by assumption) ?na5
      case ya5 => (intro wS hSw; go_simp; try rfl)
      try simp only [Act.put, List.setIfInBounds_toArray, List.set_cons_zero, List.set_cons_succ]
      refine wpAnyH_take (i := 6) (v := ?_) (ops_at rfl) (by kernel_rfl) (by kernel_rfl) (by kernel_rfl) (fun _ _ _ h => h) (Or.inl ⟨by rfl, ?ya6⟩) (by assumption) ?na6
      case ya6 => (intro wS hSw; go_simp; try rfl)
      try simp only [Act.put, List.setIfInBounds_toArray, List.set_cons_zero, List.set_cons_succ]
      clear c1 c2
      refine wpAnyH_ready (rs := [7]) (by kernel_rfl) (by simp) ?_
      refine AllReadyH.cons (ops_at rfl) (fun K hK => ?_) AllReadyH.nil
      refine step_copy_splice rfl _ _ 39 39 rfl 3 Try.underlying39 hsz (some ⟨w.heap.size, k, none⟩) (some ⟨w.heap.size, 0, none⟩) (n - k) (n - k) k n rfl rfl w.heap.size k (onesZ n k) 3 hp (List.replicate c (.int .i64 1)) (by rw [List.length_replicate, ← hc]) (fun _ => ⟨rfl, _, rfl, fun j v hj => ?cells⟩) (by rw [ones_len hk]; simp; omega) (by simp [Value.oneCell']) w.heap.size w hb.drew (Nat.le_refl _) ?_
      case cells =>
        have hj2 := (List.getElem?_eq_some_iff.1 hj).1
        rw [List.length_replicate] at hj2
        have hv : v = .int .i64 1 := by
          rw [List.getElem?_replicate] at hj
          split at hj
          all_goals first | (cases hj; done) | (injection hj with hj; exact hj.symm)
        subst hv
        rw [Addr.add_lit, Nat.zero_add]
        refine (cell_of (w := wr.drew) hp j).trans ?_
        rw [List.getElem?_toArray, onesZ, List.getElem?_append_left (by rw [List.length_replicate]; omega), List.getElem?_replicate]
        simp
        omega
      intro w3 HG3 hb3
      rw [hmore] at HG3
      refine hK.out _ _ trivial (fun _ => ?_)
      clear hK K
      refine wpAnyH_take (i := 8) (v := ?_) (ops_at rfl) (by kernel_rfl) (by kernel_rfl) (by kernel_rfl) (fun _ _ _ h => h) (Or.inl ⟨by rfl, ?yb8⟩) (by assumption) ?nb8
      case yb8 => (intro wS hSw; go_simp; try rfl)
      try simp only [Act.put, List.setIfInBounds_toArray, List.set_cons_zero, List.set_cons_succ]
      refine wpAnyH_take (i := 9) (v := ?_) (ops_at rfl) (by kernel_rfl) (by kernel_rfl) (by kernel_rfl) (fun _ _ _ h => h) (Or.inl ⟨by rfl, ?yb9⟩) (by assumption) ?nb9
      case yb9 => (intro wS hSw; go_simp; try rfl)
      try simp only [Act.put, List.setIfInBounds_toArray, List.set_cons_zero, List.set_cons_succ]
      refine wpAnyH_done (by kernel_rfl) ?_ _
      go_wp2
      go_roundw
      case rel => exact ⟨k + c, by omega, by omega, by go_num, hb3, HG3.out⟩
      case measure => simp [intOf]; omega
    · obtain rfl : k = n := by omega
      go_wp2
      go_ret
      rw [ones_full] at hp
      exact ⟨rfl, hp, hb⟩
end Go.Proofs.Ytoheoojpmndhoaa

namespace Go.Proofs.Ytoheoojpmndhoaa
set_option linter.unusedVariables false
set_option linter.unusedSimpArgs false
open Go.RowKit Go.Shelf
attribute [local go_sem] Oper.semAt_some

theorem yield_step {P : Program} {n l : Nat} {args : Array Value} {W : World} {R : Ending → World → Prop} {o : Oper} {a : Act} {K : Act → World → Prop} {Q : Exit → Act → World → Prop} (hy : YieldAt Fence.wide (n - 1) P l args W R)
    (h : ∀ e w', R e w' → (match e with | .returned v => K (a.put o.dst v) w' | .panicked chain => Q (.panic chain) a w' | .outgrown => LetsOut Q)) : o.uponIn Fence.wide n P a K Q (Sem.run P (Instr.yield l args) W) := by
  obtain ⟨fn, tmps, assign, body, hy, hR⟩ := hy
  rw [show Sem.run P (Instr.yield l args) W = _ from hy]
  exact ⟨fun hd => (by cases hd), hR.mono fun e w' hr => by have := h e w' hr; cases e <;> exact this⟩

theorem eachHidden_any (n : Int) (w : World) :
    Calls Try.prog 104 #[.int .i64 n] w fun e w' => e = .returned (.func (.func 119) #[] #[.pointer (some ⟨w.heap.size, 0, none⟩)]) ∧ w' = w.alloc (.cells #[.int .i64 n] 3) := by
  go_enter Try.func104, Try.ntmps104
  go_wp2
  go_ret
  exact ⟨rfl, rfl⟩

/-- How hidden things are handed over: as a list in memory of the iterator's own. -/
def encT : EncT := fun B m W0 x args W1 => ∃ g, B ≤ g ∧ g < m ∧ args = #[.slice (some ⟨g, 0, none⟩) x.length x.length] ∧ W1.heap[g]? = some (.cells (x.map (Value.int .i64)).toArray 3 (0, 0))

def rkT : List Int → Nat
  | [] => 0
  | y :: t => y.toNat * 7 ^ t.length + rkT t
theorem rkT_lt {t : List Int} (h : ∀ v ∈ t, 1 ≤ v ∧ v ≤ 6) : rkT t < 7 ^ t.length := by
  induction t with
  | nil => simp [rkT]
  | cons y t ih =>
    have h1 := h y (List.mem_cons_self)
    have h2 := ih (fun v hv => h v (List.mem_cons_of_mem _ hv))
    rw [rkT, List.length_cons, Nat.pow_succ]
    have h3 : y.toNat * 7 ^ t.length ≤ 6 * 7 ^ t.length := Nat.mul_le_mul_right _ (by omega)
    omega
theorem rkT_next {x : List Int} : ∀ {x' : List Int}, nextT x = some x' → (∀ v ∈ x, 1 ≤ v ∧ v ≤ 6) → rkT x < rkT x' ∧ x'.length = x.length := by
  induction x with
  | nil => intro x' h; simp [nextT] at h
  | cons y t ih =>
    intro x' h hx
    have ht : ∀ v ∈ t, 1 ≤ v ∧ v ≤ 6 := fun v hv => hx v (List.mem_cons_of_mem _ hv)
    have hy := hx y (List.mem_cons_self)
    rw [nextT] at h
    cases hn : nextT t with
    | some t' =>
      rw [hn] at h
      simp at h
      subst h
      obtain ⟨h1, h2⟩ := ih hn ht
      exact ⟨by rw [rkT, rkT, h2]; omega, by simp [h2]⟩
    | none =>
      rw [hn] at h
      simp at h
      obtain ⟨h6, rfl⟩ := h
      refine ⟨?_, by simp⟩
      have h1 := rkT_lt ht
      rw [rkT, rkT, List.length_replicate]
      have h3 : (y + 1).toNat * 7 ^ t.length = y.toNat * 7 ^ t.length + 7 ^ t.length := by
        rw [show (y + 1).toNat = y.toNat + 1 by omega, Nat.add_mul, Nat.one_mul]
      omega
/-- What lies in a block, as numbers. -/
def decT : Option Obj → List Int
  | some (.cells cs _ _) => cs.toList.map intOf
  | _ => []
theorem decT_cells (x : List Int) (T : Nat) (f : Nat × Nat) : decT (some (.cells (x.map (Value.int .i64)).toArray T f)) = x := by
  simp only [decT, List.map_map]
  induction x with
  | nil => rfl
  | cons y t ih => simp only [List.map_cons, Function.comp] at ih ⊢; rw [ih]; rfl
theorem set_mid (q : List Int) (v u : Int) (r : List Int) : ((q ++ v :: r).map (Value.int .i64)).toArray.setIfInBounds q.length (.int .i64 u) = ((q ++ u :: r).map (Value.int .i64)).toArray := by simp
theorem get_mid (q : List Int) (v : Int) (r : List Int) : ((q ++ v :: r).map (Value.int .i64)).toArray[q.length]? = some (.int .i64 v) := by simp
theorem sixes_one (q : List Int) (n : Nat) (h : q.length < n) (a : Int) : q ++ a :: List.replicate (n - (q.length + 1)) a = q ++ List.replicate (n - q.length) a := by
  rw [show n - q.length = (n - (q.length + 1)) + 1 by omega, List.replicate_succ]

theorem map_rep (n : Nat) : (List.replicate n (1 : Int)).map (Value.int .i64) = List.replicate n (.int .i64 1) := by simp

set_option maxRecDepth 100000 in
set_option maxHeartbeats 2000000 in
theorem each_seq (Mb n T : Nat) (h : n = 2 ∨ n = 3 ∨ n = 4) (w0 : World) (hM : w0.heap[Mb]? = some (.cells #[.int .i64 (n : Int)] T (0, 0))) :
    SeqC Try.prog 119 #[.pointer (some ⟨Mb, 0, none⟩)] (fun b => b = Mb) encT (allT n) w0 := by
  intro d l J Jx W hb hJ hJx h0 hY
  have hMW := (hb.block Mb (heap_lt hM)).trans hM
  have hMs := heap_lt hMW
  have hc0 : W.cell? ⟨Mb, 0, none⟩ = some (.int .i64 (n : Int)) := cell_of hMW 0
  obtain ⟨ms, hms⟩ := allT_head n
  refine callsIn_of_wp Try.func119 rfl trivial ?_ rfl
  simp only [Try.ntmps119, List.size_toArray, List.length_cons, List.length_nil, Nat.reduceAdd, Nat.reduceSub, Array.replicate_succ, Array.replicate_zero, List.push_toArray, List.append_toArray, List.nil_append, List.cons_append]
  gi_wp2
  refine ⟨trivial, fun hh => (by cases hh), callsIn_wide.2 ((repeat_few W.heap.size n _ h _ (new_at _ _ rfl)).mono ?_)⟩
  rintro e W1 ⟨rfl, hg1, hb1⟩
  have hz1 := hb1.size
  have hWb : Below W.heap.size W W1 := ((Below.refl _ _).alloc (Nat.le_refl _) _).trans (hb1.mono (by simp))
  have hg1' : W1.heap[W.heap.size + 1]? = some (.cells ((List.replicate n (1 : Int)).map (Value.int .i64)).toArray 3 (0, 0)) := by rw [map_rep]; simpa using hg1
  have hM1 := (hWb.block Mb hMs).trans hMW
  have hJ1 := h0 W1 hWb
  have hgs := heap_lt hg1'
  obtain ⟨m, hm⟩ : ∃ m, W1.heap.size = m := ⟨_, rfl⟩
  have hmW1 : m ≤ W1.heap.size := by omega
  rw [hm] at hJ1 hgs
  have hmB : W.heap.size ≤ m := by omega
  have hx0 : (allT n)[0]? = some (List.replicate n 1) := by rw [hms]; rfl
  simp only [World.size_alloc]
  clear hc0 hz1 hg1 hb1 hWb hm
  gi_wp2
  gi_loopw [4] (fun _ wr => ∃ (i : Nat) (x : List Int), (allT n)[i]? = some x ∧ J m ((allT n).take i) wr ∧ m ≤ wr.heap.size ∧ wr.heap[Mb]? = some (.cells #[.int .i64 (n : Int)] T (0, 0)) ∧ wr.heap[W.heap.size + 1]? = some (.cells (x.map (Value.int .i64)).toArray 3 (0, 0))) (fun _ wr => 7 ^ n - rkT (decT wr.heap[W.heap.size + 1]?))
  case atStart => exact ⟨0, _, hx0, by simpa using hJ1, hmW1, hM1, hg1'⟩
  case round =>
    clear hJ1 hmW1 hM1 hg1' hx0
    obtain ⟨i, x, hxi, hj, hmr, hMr, hgr⟩ := hrel
    have hxm := allT_mem (List.mem_of_getElem? hxi)
    have htk : (allT n).take (i + 1) = (allT n).take i ++ [x] := by rw [List.take_add_one, hxi]; rfl
    have hpre : (allT n).take i ++ [x] <+: allT n := by rw [← htk]; exact List.take_prefix _ _
    gi_wp2
    refine yield_step (hY m ((allT n).take i) x wr wr _ hmB hmr hpre hj (Only.refl _ _) ⟨W.heap.size + 1, by omega, hgs, by rw [hxm.1], hgr⟩) ?_
    rintro e W3 (⟨rfl, hJ3, hk3, hs3⟩ | ⟨rfl, hJx3, _⟩)
    · have hM3 := (hs3 Mb rfl).trans hMr
      have hg3 := (hk3.same (W.heap.size + 1) (by omega) hgs).trans hgr
      have hm3 := Nat.le_trans hmr hk3.size
      have hc3 : W3.cell? ⟨Mb, 0, none⟩ = some (.int .i64 (n : Int)) := cell_of hM3 0
      have hmu : decT wr.heap[W.heap.size + 1]? = x := by rw [hgr]; exact decT_cells _ _ _
      have HMU := Lib.hid hmu
      clear hk3 hs3 hgr hMr hj hmu
      gi_wp2
      gi_loopw [4] (fun v wq => ∃ p : List Int, p.length ≤ n ∧ v = .int .i64 ((p.length : Int) - 1) ∧ x = p ++ List.replicate (n - p.length) 6 ∧ J m ((allT n).take i ++ [x]) wq ∧ m ≤ wq.heap.size ∧ wq.heap[Mb]? = some (.cells #[.int .i64 (n : Int)] T (0, 0)) ∧ wq.heap[W.heap.size + 1]? = some (.cells ((p ++ List.replicate (n - p.length) (1 : Int)).map (Value.int .i64)).toArray 3 (0, 0))) (fun v _ => (intOf v + 1).toNat)
      case atStart => exact ⟨x, by omega, by rw [hxm.1], by rw [hxm.1]; simp, hJ3, hm3, hM3, by rw [hxm.1]; simpa using hg3⟩
      case round =>
        clear hJ3 hm3 hM3 hg3 hc3
        obtain ⟨p, hpn, hv, hxp, hj4, hm4, hM4, hg4⟩ := hrel
        rcases List.eq_nil_or_concat p with rfl | ⟨q, a, rfl⟩
        · have hv' := hv.trans (show _ = Value.int .i64 (-1) from rfl)
          clear hv
          subst hv'
          have hnx : nextT x = none := by rw [hxp]; simpa using nextT_all n
          have hlen : (allT n).length ≤ i + 1 := by rw [allT_next hxi] at hnx; exact List.getElem?_eq_none_iff.1 hnx
          have hall : (allT n).take i ++ [x] = allT n := by rw [← htk]; exact List.take_of_length_le hlen
          rw [hall] at hj4
          gi_wp2
          refine bodyPost_ret (results_none rfl _ _ _) rfl ?_
          exact ⟨⟨_, rfl⟩, .inl ⟨m, hmB, hj4⟩⟩
        · obtain ⟨j, hjq⟩ : ∃ j, q.length = j := ⟨_, rfl⟩
          simp only [List.concat_eq_append, List.length_append, List.length_cons, List.length_nil, List.append_assoc, List.cons_append, List.nil_append, Nat.zero_add, hjq] at hpn hv hxp hg4
          have hv' := hv.trans (show _ = Value.int .i64 (j : Int) by congr 1; omega)
          clear hv
          subst hv'
          have c4 : wr.cell? ⟨W.heap.size + 1, j, none⟩ = some (.int .i64 a) := (cell_of hg4 j).trans (by rw [← hjq]; exact get_mid _ _ _)
          have f4 := frozen_of hg4 j
          have ham : a ∈ x := by rw [hxp]; simp
          have ha := hxm.2 a ham
          have hg5 : ∀ u : Int, (wr.setCell ⟨W.heap.size + 1, j, none⟩ (.int .i64 u)).heap[W.heap.size + 1]? = some (.cells ((q ++ u :: List.replicate (n - (j + 1)) (1 : Int)).map (Value.int .i64)).toArray 3 (0, 0)) := fun u => by
            have e := set_self hg4 j (.int .i64 u)
            rw [e, ← hjq, set_mid]
          have hj5 : ∀ u : Int, J m ((allT n).take i ++ [x]) (wr.setCell ⟨W.heap.size + 1, j, none⟩ (.int .i64 u)) := fun u => hJ m hmB _ wr _ hj4 ((Only.refl _ _).setCell (p := ⟨W.heap.size + 1, j, none⟩) ⟨by show W.heap.size ≤ W.heap.size + 1; omega, hgs⟩ _)
          have hM5 : ∀ u : Int, (wr.setCell ⟨W.heap.size + 1, j, none⟩ (.int .i64 u)).heap[Mb]? = some (.cells #[.int .i64 (n : Int)] T (0, 0)) := fun u => (set_far _ (by show Mb ≠ W.heap.size + 1; omega) _).trans hM4
          have HG5 := Lib.hid hg5
          have HJ5 := Lib.hid hj5
          have HM5 := Lib.hid hM5
          clear hg5 hj5 hM5 hg4 hM4 hj4
          by_cases h6 : a = 6
          · subst h6
            gi_wp2
            go_roundw
            case rel => exact ⟨q, by omega, by rw [hjq], by rw [hxp, ← hjq]; exact sixes_one q n (by omega) 6, HJ5.out 1, by simpa using hm4, HM5.out 1, by rw [HG5.out 1, ← hjq, sixes_one q n (by omega) 1]⟩
            case measure => simp [intOf]
          · have h6' : (a == 6) = false := by simpa using h6
            have hnx : nextT x = some (q ++ (a + 1) :: List.replicate (n - (j + 1)) 1) := by rw [hxp]; exact nextT_at h6
            have hxi' := (allT_next hxi).symm.trans hnx
            have hxm' := allT_mem (List.mem_of_getElem? hxi')
            have hrk := rkT_next hnx hxm.2
            have hrl := rkT_lt hxm'.2
            rw [hxm'.1] at hrl
            have HRK := Lib.hid hrk
            have HRL := Lib.hid hrl
            clear hnx hrk hrl
            gi_wp2
            go_roundw
            case rel => exact ⟨i + 1, _, hxi', by rw [htk]; exact HJ5.out (a + 1), by simpa using hm4, HM5.out (a + 1), HG5.out (a + 1)⟩
            case measure =>
              rw [HMU.out, HG5.out (a + 1), decT_cells]
              have h1 := HRK.out.1
              have h2 := HRL.out
              omega
    · gi_wp2
      go_end0
      exact ⟨⟨_, rfl⟩, .inr ⟨m, _, hmB, hpre, hJx3⟩⟩
end Go.Proofs.Ytoheoojpmndhoaa
