/-
  The iterator over all solutions, and their number, by the written program.
  Conditions: each part's own.
-/
import Derived.Test.YtoheoojpmndhoaaItK
import Derived.Test.YtoheoojpmndhoaaItE2
import Derived.Test.YtoheoojpmndhoaaItF
import Derived.Test.YtoheoojpmndhoaaCloneI
import Derived.Test.YtoheoojpmndhoaaArr
namespace Go.Proofs.Ytoheoojpmndhoaa
set_option linter.unusedVariables false
set_option linter.unusedSimpArgs false
open Go.RowKit Go.Shelf
attribute [local go_sem] Oper.semAt_some

/-- How a solution is handed over: as a list in new memory. -/
def encS : EncT := fun B m W0 x args W1 => ∃ A c, args = #[.slice A x.length c] ∧ Own W1 W0.heap.size W1.heap.size A x

theorem filter_pre {pre L : List (List Int)} {x : List Int} {f : List Int → Bool} (h : pre ++ [x] <+: L) (hx : f x = true) : pre.filter f ++ [x] <+: L.filter f := by
  obtain ⟨r, rfl⟩ := h
  exact ⟨r.filter f, by simp [List.filter_append, hx]⟩
theorem filter_pre' {pre L : List (List Int)} {f : List Int → Bool} (h : pre <+: L) : pre.filter f <+: L.filter f := by
  obtain ⟨r, rfl⟩ := h
  exact ⟨r.filter f, by simp [List.filter_append]⟩
theorem seg_same {w w' : World} {lo hi : Nat} {A : Option Addr} {xs : List Int} (h : Seg w lo hi A xs) (hk : ∀ b, lo ≤ b → b < hi → w'.heap[b]? = w.heap[b]?) : Seg w' lo hi A xs :=
  h.keep fun p h1 h2 => by simp only [World.cell?, hk _ h1 h2]

set_option maxRecDepth 100000 in
set_option maxHeartbeats 2000000 in
theorem sol_seq (Pb N : Nat) (A : Option Addr) (n c : Nat) (cs : List Clu) (lo hi : Nat) (hN : N = 2 ∨ N = 3 ∨ N = 4) (w0 : World) (hP : w0.heap[Pb]? = some (.cells #[.int .i64 (N : Int), .slice A n c] 35 (0, 0))) (hn : cs.length = n) (hlen : n ≤ 1048576) (hcl : ∀ c ∈ cs, clueB (N : Int) c = true) (hs : Seg w0 lo hi A (flat4 cs)) (hB : hi ≤ w0.heap.size) :
    SeqC Try.prog 103 #[.pointer (some ⟨Pb, 0, none⟩)] (fun b => b = Pb ∨ (lo ≤ b ∧ b < hi)) encS (solF toldV N cs) w0 := by
  intro d l J Jx W hb hJ hJx h0 hY
  have hPW := (hb.block Pb (heap_lt hP)).trans hP
  have hPs := heap_lt hPW
  have hsW := hs.below hb hB
  have hiW : hi ≤ W.heap.size := by have := hb.size; omega
  have q0 := cell_of hPW 0
  simp only [List.getElem?_toArray, List.getElem?_cons_zero, List.getElem?_cons_succ] at q0
  have HS := Lib.hid hsW
  have HN := Lib.hid hn
  have HCL := Lib.hid hcl
  clear hs hsW hn hcl
  refine callsIn_of_wp_marks Try.func103 rfl trivial ?_ rfl
  simp only [Try.ntmps103, List.size_toArray, List.length_cons, List.length_nil, Nat.reduceAdd, Nat.reduceSub, Array.replicate_succ, Array.replicate_zero, List.push_toArray, List.append_toArray, List.nil_append, List.cons_append]
  gi_wp2
  refine ⟨trivial, fun hh => (by cases hh), (callsIn_wide.2 (eachHidden_any (N : Int) _)).mono ?_⟩
  rintro e V ⟨rfl, hV⟩
  obtain ⟨Ty, X, hX⟩ : ∃ Ty X, W.alloc (.cells #[.func (.yield l) #[] #[]] Ty) = X ∧ X.alloc (.cells #[.int .i64 (N : Int)] 3) = V := ⟨_, _, rfl, hV.symm⟩
  obtain ⟨hX, hXV⟩ := hX
  have x1 : X.heap.size = W.heap.size + 1 := by rw [← hX]; simp
  have hVb : Below W.heap.size W V := by rw [← hXV, ← hX]; exact ((Below.refl _ _).alloc (Nat.le_refl _) _).alloc (by simp) _
  have hVs : V.heap.size = W.heap.size + 2 := by rw [← hXV]; simp [x1]
  have hVy : V.heap[W.heap.size]? = some (.cells #[.func (.yield l) #[] #[]] Ty (0, 0)) := by rw [← hXV]; exact (alloc_old _ (by omega) _).trans (by rw [← hX]; exact new_at _ _ rfl)
  have hVm : V.heap[W.heap.size + 1]? = some (.cells #[.int .i64 (N : Int)] 3 (0, 0)) := by rw [← hXV]; exact new_at _ _ (by omega)
  have hVp := (hVb.block _ hPs).trans hPW
  simp only [World.size_alloc]
  clear hX hXV x1 hV q0
  gi_wp2
  refine range_seq (gf := 119) (lb := #[.pointer (some ⟨W.heap.size + 1, 0, none⟩)]) rfl (enters_of Try.func119 (by kernel_rfl) rfl) (each_seq (W.heap.size + 1) N 3 hN V hVm) (fun b hb => by show b < V.heap.size; rw [hb]; omega) (Below.refl _ _) ?hps ?hput
    (fun m pre W' => J m (pre.filter (fitB toldV cs)) W' ∧ W'.heap[Pb]? = some (.cells #[.int .i64 (N : Int), .slice A n c] 35 (0, 0)) ∧ W'.heap[W.heap.size]? = some (.cells #[.func (.yield l) #[] #[]] Ty (0, 0)) ∧ Seg W' lo hi A (flat4 cs))
    (fun m cc pre W' => cc = .ret ∧ Jx m (pre.filter (fitB toldV cs)) W') ?hI ?hIx ?h0
    (fun args => { tmps := #[.func (.yield l) #[] #[], .pointer (some ⟨Pb, 0, none⟩), .pointer (some ⟨W.heap.size, 0, none⟩), args.getD 0 undef, .pointer (some ⟨Pb, 0, none⟩), .int .i64 (N : Int), .func (.func 119) #[] #[.pointer (some ⟨W.heap.size + 1, 0, none⟩)], args.getD 0 undef, undef, undef, undef, undef, undef, undef, undef, undef, undef, undef], defers := [] })
    ?hassign ?hbody ?hdone ?hstop
  case hps => rintro B m W0 x args W1 ⟨g, _, _, rfl, _⟩; rfl
  case hput =>
    rintro m W0 x args W1 o hm hR ⟨g, h1, h2, rfl, h3⟩
    exact ⟨g, h1, h2, rfl, (World.putObj_heap_other (by omega)).trans h3⟩
  case hI =>
    rintro m hm s W' W2 ⟨h1, h2, h3, h4⟩ ho
    have hk : ∀ k, k < W.heap.size + 2 → k < W'.heap.size → W2.heap[k]? = W'.heap[k]? := fun k hk hl => ho.block k hl (fun hs => by have := hs.1; omega)
    refine ⟨hJ m (by omega) _ W' W2 h1 (ho.mono fun k hk => ⟨by have := hk.1; omega, hk.2⟩), (hk _ (by omega) (heap_lt h2)).trans h2, (hk _ (by omega) (heap_lt h3)).trans h3, h4.only ho (by have := heap_lt h3; omega) (fun g hg => .inr (by have := hg.1; omega))⟩
  case hIx =>
    rintro m cc hm s W' W2 ⟨h1, h2⟩ ho
    exact ⟨h1, hJx m (by omega) _ W' W2 h2 (ho.mono fun k hk => ⟨by have := hk.1; omega, hk.2⟩)⟩
  case h0 =>
    intro W' hbW hR
    have hz := hbW.size
    exact ⟨h0 W' (hVb.trans (hbW.mono (by omega))), (hbW.block _ (by omega)).trans hVp, (hbW.block _ (by omega)).trans hVy, HS.out.below (hVb.trans (hbW.mono (by omega))) hiW⟩
  case hassign =>
    rintro l' args W' K hsz hK
    obtain ⟨v, rfl⟩ : ∃ v, args = #[v] := ⟨args[0]'(by rw [hsz]; decide), by apply Array.ext <;> simp_all⟩
    gi_wp2
    exact hK
  case hbody =>
    rintro m pre x args W0 W1 hm hm0 hpre ⟨hj, hp, hy, hsg⟩ ho ⟨g, hg1, hg2, rfl, hg⟩
    have hxm := allT_mem (hpre.subset (by simp : x ∈ pre ++ [x]))
    have HXL := Lib.hid hxm.1
    have HH := Lib.hid (hid_of (n := N) (by omega) (by omega) hxm)
    have hk : ∀ k, k < V.heap.size → k < W0.heap.size → W1.heap[k]? = W0.heap[k]? := fun k h1 h2 => ho.block k h2 (fun hs => by have := hs.1; omega)
    have ho2 : Only (Mid W.heap.size m) W0 W1 := ho.mono fun k hk => ⟨by have := hk.1; omega, hk.2⟩
    have p1 := (hk _ (by omega) (heap_lt hp)).trans hp
    have y1 := (hk _ (by omega) (heap_lt hy)).trans hy
    have s1 := hsg.only ho (by have := heap_lt hy; omega) (fun g hg => .inr (by have := hg.1; omega))
    have j1 := hJ m (by omega) _ W0 W1 hj ho2
    have mm1 : m ≤ W1.heap.size := Nat.le_trans hm0 ho.size
    have sx1 : Seg W1 g (g + 1) (some ⟨g, 0, none⟩) x := .inr ⟨g, 0, rfl, Nat.le_refl _, by omega, fun k hk => by
      rw [Nat.zero_add, cell_of hg]
      simp [List.getD, List.getElem?_eq_getElem hk]⟩
    obtain ⟨v0, hv0⟩ : ∃ v, W1.drew = v := ⟨_, rfl⟩
    have z0 : Below W1.heap.size W1 v0 := by rw [← hv0]; exact (Below.refl _ _).drew
    have p0 := (z0.block _ (heap_lt p1)).trans p1
    have y0 := (z0.block _ (heap_lt y1)).trans y1
    have s0 := s1.below z0 (by have := heap_lt y1; omega)
    have sx0 := sx1.below z0 (by omega)
    have j0 := hJ m (by omega) _ W1 v0 j1 (Only.of_below z0 (Nat.le_refl _))
    have hz0 := z0.size
    have mm0 : m ≤ v0.heap.size := by omega
    clear hk ho2 p1 y1 s1 j1 sx1 hp hy hsg hj ho hg hm0
    obtain ⟨q, hq⟩ : ∃ q, fitB toldV cs x = q := ⟨_, rfl⟩
    cases q
    · have hfl : (pre ++ [x]).filter (fitB toldV cs) = pre.filter (fitB toldV cs) := by simp [List.filter_append, hq]
      have HFL := Lib.hid hfl
      have HQ := Lib.hid hq
      clear hfl hq
      gi_wp2
      refine wpIn_region_any (by kernel_rfl) ?_
      rw [show ({ W1 with drawn := W1.drawn + 1 } : World) = v0 from hv0]
      clear hv0
      refine anyI_ready (rs := [0, 1]) (by kernel_rfl) (by simp) ?_
      refine ReadyI.cons (noDefI_spec (by kernel_rfl)) (by rintro ⟨_, _, h⟩; exact h) (ops_at rfl) (fun K hK => ?_) (ReadyI.cons (noDefI_spec (by kernel_rfl)) (by rintro ⟨_, _, h⟩; exact h) (ops_at rfl) (fun K hK => ?_) ReadyI.nil)
      · have q0 := cell_of p0 0
        have q1 := cell_of p0 1
        simp only [List.getElem?_toArray, List.getElem?_cons_zero, List.getElem?_cons_succ] at q0 q1
        go_simp
        refine hK.out _ _ ?_
        clear hK K
        clear q0 q1
        refine anyI_ready (rs := [1]) (by kernel_rfl) (by simp) ?_
        refine ReadyI.cons (noDefI_spec (by kernel_rfl)) (by rintro ⟨_, _, h⟩; exact h) (ops_at rfl) (fun K hK => ?_) ReadyI.nil
        go_simp
        refine hK.out _ _ ?_
        clear hK K
        refine anyI_ready (rs := [2]) (by kernel_rfl) (by simp) ?_
        refine ReadyI.cons (noDefI_spec (by kernel_rfl)) (by rintro ⟨_, _, h⟩; exact h) (ops_at rfl) (fun K hK => ?_) ReadyI.nil
        go_simp
        refine (isFitBy_any (N : Int) A n c cs lo hi (some ⟨g, 0, none⟩) N N x g (g + 1) _ HN.out hlen s0 (by omega) HXL.out HH.out HCL.out sx0 (by omega)).mono ?_
        rintro e v1 ⟨he, hb1⟩
        rw [HQ.out] at he
        subst he
        have hz1 := hb1.size
        have p1 := (hb1.block _ (by omega)).trans p0
        have y1 := (hb1.block _ (by omega)).trans y0
        have s1 := s0.below hb1 (by omega)
        have sx1 := sx0.below hb1 (by omega)
        have j1 := hJ m (by omega) _ v0 v1 j0 (Only.of_below hb1 (Nat.le_refl _))
        have z1 := z0.trans (hb1.mono (by omega))
        have mm1 : m ≤ v1.heap.size := by omega
        refine hK.out _ _ ?_
        clear hK K
        refine anyI_ready (rs := [3]) (by kernel_rfl) (by simp) ?_
        refine ReadyI.cons (noDefI_spec (by kernel_rfl)) (by rintro ⟨_, _, h⟩; exact h) (ops_at rfl) (fun K hK => ?_) ReadyI.nil
        go_simp
        refine hK.out _ _ ?_
        clear hK K
        refine anyI_ready (rs := [4, 5]) (by kernel_rfl) (by simp) ?_
        refine ReadyI.cons (noDefI_spec (by kernel_rfl)) (by rintro ⟨_, _, h⟩; exact h) (ops_at rfl) (fun K hK => ?_) (ReadyI.cons (noDefI_spec (by kernel_rfl)) (by rintro ⟨_, _, h⟩; exact h) (ops_at rfl) (fun K hK => ?_) ReadyI.nil)
        · go_simp
          refine hK.out _ _ ?_
          clear hK K
          refine anyI_ready (rs := [5]) (by kernel_rfl) (by simp) ?_
          refine ReadyI.cons (noDefI_spec (by kernel_rfl)) (by rintro ⟨_, _, h⟩; exact h) (ops_at rfl) (fun K hK => ?_) ReadyI.nil
          go_simp
          refine hK.out _ _ ?_
          clear hK K
          refine anyI_ready (rs := [6]) (by kernel_rfl) (by simp) ?_
          refine ReadyI.cons (noDefI_spec (by kernel_rfl)) (by rintro ⟨_, _, h⟩; exact h) (ops_at rfl) (fun K hK => ?_) ReadyI.nil
          go_simp
          refine hK.out _ _ ?_
          clear hK K
          refine anyI_ready (rs := [7]) (by kernel_rfl) (by simp) ?_
          refine ReadyI.cons (noDefI_spec (by kernel_rfl)) (by rintro ⟨_, _, h⟩; exact h) (ops_at rfl) (fun K hK => ?_) ReadyI.nil
          go_simp
          refine hK.out _ _ ?_
          clear hK K
          refine anyI_ready (rs := [8]) (by kernel_rfl) (by simp) ?_
          refine ReadyI.cons (noDefI_spec (by kernel_rfl)) (by rintro ⟨_, _, h⟩; exact h) (ops_at rfl) (fun K hK => ?_) ReadyI.nil
          go_simp
          refine hK.out _ _ ?_
          clear hK K
          refine anyI_ready (rs := [9]) (by kernel_rfl) (by simp) ?_
          refine ReadyI.cons (noDefI_spec (by kernel_rfl)) (by rintro ⟨_, _, h⟩; exact h) (ops_at rfl) (fun K hK => ?_) ReadyI.nil
          go_simp
          refine hK.out _ _ ?_
          clear hK K
          refine anyI_done (by kernel_rfl) ?_ _
          gi_wp2
          refine ⟨KeepM.of_below (z1.mono (by omega)), fun b hb => ?_, ?_, p1, y1, s1⟩
          · subst hb; exact z1.block _ (by omega)
          · rw [HFL.out]; exact j1
        · go_simp
          refine hK.out _ _ ?_
          clear hK K
          refine anyI_ready (rs := [4, 6]) (by kernel_rfl) (by simp) ?_
          refine ReadyI.cons (noDefI_spec (by kernel_rfl)) (by rintro ⟨_, _, h⟩; exact h) (ops_at rfl) (fun K hK => ?_) (ReadyI.cons (noDefI_spec (by kernel_rfl)) (by rintro ⟨_, _, h⟩; exact h) (ops_at rfl) (fun K hK => ?_) ReadyI.nil)
          · go_simp
            refine hK.out _ _ ?_
            clear hK K
            refine anyI_ready (rs := [6]) (by kernel_rfl) (by simp) ?_
            refine ReadyI.cons (noDefI_spec (by kernel_rfl)) (by rintro ⟨_, _, h⟩; exact h) (ops_at rfl) (fun K hK => ?_) ReadyI.nil
            go_simp
            refine hK.out _ _ ?_
            clear hK K
            refine anyI_ready (rs := [7]) (by kernel_rfl) (by simp) ?_
            refine ReadyI.cons (noDefI_spec (by kernel_rfl)) (by rintro ⟨_, _, h⟩; exact h) (ops_at rfl) (fun K hK => ?_) ReadyI.nil
            go_simp
            refine hK.out _ _ ?_
            clear hK K
            refine anyI_ready (rs := [8]) (by kernel_rfl) (by simp) ?_
            refine ReadyI.cons (noDefI_spec (by kernel_rfl)) (by rintro ⟨_, _, h⟩; exact h) (ops_at rfl) (fun K hK => ?_) ReadyI.nil
            go_simp
            refine hK.out _ _ ?_
            clear hK K
            refine anyI_ready (rs := [9]) (by kernel_rfl) (by simp) ?_
            refine ReadyI.cons (noDefI_spec (by kernel_rfl)) (by rintro ⟨_, _, h⟩; exact h) (ops_at rfl) (fun K hK => ?_) ReadyI.nil
            go_simp
            refine hK.out _ _ ?_
            clear hK K
            refine anyI_done (by kernel_rfl) ?_ _
            gi_wp2
            refine ⟨KeepM.of_below (z1.mono (by omega)), fun b hb => ?_, ?_, p1, y1, s1⟩
            · subst hb; exact z1.block _ (by omega)
            · rw [HFL.out]; exact j1
          · go_simp
            refine hK.out _ _ ?_
            clear hK K
            refine anyI_ready (rs := [4]) (by kernel_rfl) (by simp) ?_
            refine ReadyI.cons (noDefI_spec (by kernel_rfl)) (by rintro ⟨_, _, h⟩; exact h) (ops_at rfl) (fun K hK => ?_) ReadyI.nil
            go_simp
            refine hK.out _ _ ?_
            clear hK K
            refine anyI_ready (rs := [7]) (by kernel_rfl) (by simp) ?_
            refine ReadyI.cons (noDefI_spec (by kernel_rfl)) (by rintro ⟨_, _, h⟩; exact h) (ops_at rfl) (fun K hK => ?_) ReadyI.nil
            go_simp
            refine hK.out _ _ ?_
            clear hK K
            refine anyI_ready (rs := [8]) (by kernel_rfl) (by simp) ?_
            refine ReadyI.cons (noDefI_spec (by kernel_rfl)) (by rintro ⟨_, _, h⟩; exact h) (ops_at rfl) (fun K hK => ?_) ReadyI.nil
            go_simp
            refine hK.out _ _ ?_
            clear hK K
            refine anyI_ready (rs := [9]) (by kernel_rfl) (by simp) ?_
            refine ReadyI.cons (noDefI_spec (by kernel_rfl)) (by rintro ⟨_, _, h⟩; exact h) (ops_at rfl) (fun K hK => ?_) ReadyI.nil
            go_simp
            refine hK.out _ _ ?_
            clear hK K
            refine anyI_done (by kernel_rfl) ?_ _
            gi_wp2
            refine ⟨KeepM.of_below (z1.mono (by omega)), fun b hb => ?_, ?_, p1, y1, s1⟩
            · subst hb; exact z1.block _ (by omega)
            · rw [HFL.out]; exact j1
      · go_simp
        refine hK.out _ _ ?_
        clear hK K
        refine anyI_ready (rs := [0]) (by kernel_rfl) (by simp) ?_
        refine ReadyI.cons (noDefI_spec (by kernel_rfl)) (by rintro ⟨_, _, h⟩; exact h) (ops_at rfl) (fun K hK => ?_) ReadyI.nil
        have q0 := cell_of p0 0
        have q1 := cell_of p0 1
        simp only [List.getElem?_toArray, List.getElem?_cons_zero, List.getElem?_cons_succ] at q0 q1
        go_simp
        refine hK.out _ _ ?_
        clear hK K
        clear q0 q1
        refine anyI_ready (rs := [2]) (by kernel_rfl) (by simp) ?_
        refine ReadyI.cons (noDefI_spec (by kernel_rfl)) (by rintro ⟨_, _, h⟩; exact h) (ops_at rfl) (fun K hK => ?_) ReadyI.nil
        go_simp
        refine (isFitBy_any (N : Int) A n c cs lo hi (some ⟨g, 0, none⟩) N N x g (g + 1) _ HN.out hlen s0 (by omega) HXL.out HH.out HCL.out sx0 (by omega)).mono ?_
        rintro e v1 ⟨he, hb1⟩
        rw [HQ.out] at he
        subst he
        have hz1 := hb1.size
        have p1 := (hb1.block _ (by omega)).trans p0
        have y1 := (hb1.block _ (by omega)).trans y0
        have s1 := s0.below hb1 (by omega)
        have sx1 := sx0.below hb1 (by omega)
        have j1 := hJ m (by omega) _ v0 v1 j0 (Only.of_below hb1 (Nat.le_refl _))
        have z1 := z0.trans (hb1.mono (by omega))
        have mm1 : m ≤ v1.heap.size := by omega
        refine hK.out _ _ ?_
        clear hK K
        refine anyI_ready (rs := [3]) (by kernel_rfl) (by simp) ?_
        refine ReadyI.cons (noDefI_spec (by kernel_rfl)) (by rintro ⟨_, _, h⟩; exact h) (ops_at rfl) (fun K hK => ?_) ReadyI.nil
        go_simp
        refine hK.out _ _ ?_
        clear hK K
        refine anyI_ready (rs := [4, 5]) (by kernel_rfl) (by simp) ?_
        refine ReadyI.cons (noDefI_spec (by kernel_rfl)) (by rintro ⟨_, _, h⟩; exact h) (ops_at rfl) (fun K hK => ?_) (ReadyI.cons (noDefI_spec (by kernel_rfl)) (by rintro ⟨_, _, h⟩; exact h) (ops_at rfl) (fun K hK => ?_) ReadyI.nil)
        · go_simp
          refine hK.out _ _ ?_
          clear hK K
          refine anyI_ready (rs := [5]) (by kernel_rfl) (by simp) ?_
          refine ReadyI.cons (noDefI_spec (by kernel_rfl)) (by rintro ⟨_, _, h⟩; exact h) (ops_at rfl) (fun K hK => ?_) ReadyI.nil
          go_simp
          refine hK.out _ _ ?_
          clear hK K
          refine anyI_ready (rs := [6]) (by kernel_rfl) (by simp) ?_
          refine ReadyI.cons (noDefI_spec (by kernel_rfl)) (by rintro ⟨_, _, h⟩; exact h) (ops_at rfl) (fun K hK => ?_) ReadyI.nil
          go_simp
          refine hK.out _ _ ?_
          clear hK K
          refine anyI_ready (rs := [7]) (by kernel_rfl) (by simp) ?_
          refine ReadyI.cons (noDefI_spec (by kernel_rfl)) (by rintro ⟨_, _, h⟩; exact h) (ops_at rfl) (fun K hK => ?_) ReadyI.nil
          go_simp
          refine hK.out _ _ ?_
          clear hK K
          refine anyI_ready (rs := [8]) (by kernel_rfl) (by simp) ?_
          refine ReadyI.cons (noDefI_spec (by kernel_rfl)) (by rintro ⟨_, _, h⟩; exact h) (ops_at rfl) (fun K hK => ?_) ReadyI.nil
          go_simp
          refine hK.out _ _ ?_
          clear hK K
          refine anyI_ready (rs := [9]) (by kernel_rfl) (by simp) ?_
          refine ReadyI.cons (noDefI_spec (by kernel_rfl)) (by rintro ⟨_, _, h⟩; exact h) (ops_at rfl) (fun K hK => ?_) ReadyI.nil
          go_simp
          refine hK.out _ _ ?_
          clear hK K
          refine anyI_done (by kernel_rfl) ?_ _
          gi_wp2
          refine ⟨KeepM.of_below (z1.mono (by omega)), fun b hb => ?_, ?_, p1, y1, s1⟩
          · subst hb; exact z1.block _ (by omega)
          · rw [HFL.out]; exact j1
        · go_simp
          refine hK.out _ _ ?_
          clear hK K
          refine anyI_ready (rs := [4, 6]) (by kernel_rfl) (by simp) ?_
          refine ReadyI.cons (noDefI_spec (by kernel_rfl)) (by rintro ⟨_, _, h⟩; exact h) (ops_at rfl) (fun K hK => ?_) (ReadyI.cons (noDefI_spec (by kernel_rfl)) (by rintro ⟨_, _, h⟩; exact h) (ops_at rfl) (fun K hK => ?_) ReadyI.nil)
          · go_simp
            refine hK.out _ _ ?_
            clear hK K
            refine anyI_ready (rs := [6]) (by kernel_rfl) (by simp) ?_
            refine ReadyI.cons (noDefI_spec (by kernel_rfl)) (by rintro ⟨_, _, h⟩; exact h) (ops_at rfl) (fun K hK => ?_) ReadyI.nil
            go_simp
            refine hK.out _ _ ?_
            clear hK K
            refine anyI_ready (rs := [7]) (by kernel_rfl) (by simp) ?_
            refine ReadyI.cons (noDefI_spec (by kernel_rfl)) (by rintro ⟨_, _, h⟩; exact h) (ops_at rfl) (fun K hK => ?_) ReadyI.nil
            go_simp
            refine hK.out _ _ ?_
            clear hK K
            refine anyI_ready (rs := [8]) (by kernel_rfl) (by simp) ?_
            refine ReadyI.cons (noDefI_spec (by kernel_rfl)) (by rintro ⟨_, _, h⟩; exact h) (ops_at rfl) (fun K hK => ?_) ReadyI.nil
            go_simp
            refine hK.out _ _ ?_
            clear hK K
            refine anyI_ready (rs := [9]) (by kernel_rfl) (by simp) ?_
            refine ReadyI.cons (noDefI_spec (by kernel_rfl)) (by rintro ⟨_, _, h⟩; exact h) (ops_at rfl) (fun K hK => ?_) ReadyI.nil
            go_simp
            refine hK.out _ _ ?_
            clear hK K
            refine anyI_done (by kernel_rfl) ?_ _
            gi_wp2
            refine ⟨KeepM.of_below (z1.mono (by omega)), fun b hb => ?_, ?_, p1, y1, s1⟩
            · subst hb; exact z1.block _ (by omega)
            · rw [HFL.out]; exact j1
          · go_simp
            refine hK.out _ _ ?_
            clear hK K
            refine anyI_ready (rs := [4]) (by kernel_rfl) (by simp) ?_
            refine ReadyI.cons (noDefI_spec (by kernel_rfl)) (by rintro ⟨_, _, h⟩; exact h) (ops_at rfl) (fun K hK => ?_) ReadyI.nil
            go_simp
            refine hK.out _ _ ?_
            clear hK K
            refine anyI_ready (rs := [7]) (by kernel_rfl) (by simp) ?_
            refine ReadyI.cons (noDefI_spec (by kernel_rfl)) (by rintro ⟨_, _, h⟩; exact h) (ops_at rfl) (fun K hK => ?_) ReadyI.nil
            go_simp
            refine hK.out _ _ ?_
            clear hK K
            refine anyI_ready (rs := [8]) (by kernel_rfl) (by simp) ?_
            refine ReadyI.cons (noDefI_spec (by kernel_rfl)) (by rintro ⟨_, _, h⟩; exact h) (ops_at rfl) (fun K hK => ?_) ReadyI.nil
            go_simp
            refine hK.out _ _ ?_
            clear hK K
            refine anyI_ready (rs := [9]) (by kernel_rfl) (by simp) ?_
            refine ReadyI.cons (noDefI_spec (by kernel_rfl)) (by rintro ⟨_, _, h⟩; exact h) (ops_at rfl) (fun K hK => ?_) ReadyI.nil
            go_simp
            refine hK.out _ _ ?_
            clear hK K
            refine anyI_done (by kernel_rfl) ?_ _
            gi_wp2
            refine ⟨KeepM.of_below (z1.mono (by omega)), fun b hb => ?_, ?_, p1, y1, s1⟩
            · subst hb; exact z1.block _ (by omega)
            · rw [HFL.out]; exact j1
    · have hfl : (pre ++ [x]).filter (fitB toldV cs) = pre.filter (fitB toldV cs) ++ [x] := by simp [List.filter_append, hq]
      have HFL := Lib.hid hfl
      have HQ := Lib.hid hq
      clear hfl hq
      gi_wp2
      refine wpIn_region_any (by kernel_rfl) ?_
      rw [show ({ W1 with drawn := W1.drawn + 1 } : World) = v0 from hv0]
      clear hv0
      refine anyI_ready (rs := [0, 1]) (by kernel_rfl) (by simp) ?_
      refine ReadyI.cons (noDefI_spec (by kernel_rfl)) (by rintro ⟨_, _, h⟩; exact h) (ops_at rfl) (fun K hK => ?_) (ReadyI.cons (noDefI_spec (by kernel_rfl)) (by rintro ⟨_, _, h⟩; exact h) (ops_at rfl) (fun K hK => ?_) ReadyI.nil)
      · have q0 := cell_of p0 0
        have q1 := cell_of p0 1
        simp only [List.getElem?_toArray, List.getElem?_cons_zero, List.getElem?_cons_succ] at q0 q1
        go_simp
        refine hK.out _ _ ?_
        clear hK K
        clear q0 q1
        refine anyI_ready (rs := [1]) (by kernel_rfl) (by simp) ?_
        refine ReadyI.cons (noDefI_spec (by kernel_rfl)) (by rintro ⟨_, _, h⟩; exact h) (ops_at rfl) (fun K hK => ?_) ReadyI.nil
        go_simp
        refine hK.out _ _ ?_
        clear hK K
        refine anyI_ready (rs := [2]) (by kernel_rfl) (by simp) ?_
        refine ReadyI.cons (noDefI_spec (by kernel_rfl)) (by rintro ⟨_, _, h⟩; exact h) (ops_at rfl) (fun K hK => ?_) ReadyI.nil
        go_simp
        refine (isFitBy_any (N : Int) A n c cs lo hi (some ⟨g, 0, none⟩) N N x g (g + 1) _ HN.out hlen s0 (by omega) HXL.out HH.out HCL.out sx0 (by omega)).mono ?_
        rintro e v1 ⟨he, hb1⟩
        rw [HQ.out] at he
        subst he
        have hz1 := hb1.size
        have p1 := (hb1.block _ (by omega)).trans p0
        have y1 := (hb1.block _ (by omega)).trans y0
        have s1 := s0.below hb1 (by omega)
        have sx1 := sx0.below hb1 (by omega)
        have j1 := hJ m (by omega) _ v0 v1 j0 (Only.of_below hb1 (Nat.le_refl _))
        have z1 := z0.trans (hb1.mono (by omega))
        have mm1 : m ≤ v1.heap.size := by omega
        refine hK.out _ _ ?_
        clear hK K
        refine anyI_ready (rs := [3]) (by kernel_rfl) (by simp) ?_
        refine ReadyI.cons (noDefI_spec (by kernel_rfl)) (by rintro ⟨_, _, h⟩; exact h) (ops_at rfl) (fun K hK => ?_) ReadyI.nil
        go_simp
        refine hK.out _ _ ?_
        clear hK K
        refine anyI_ready (rs := [4, 5]) (by kernel_rfl) (by simp) ?_
        refine ReadyI.cons (noDefI_spec (by kernel_rfl)) (by rintro ⟨_, _, h⟩; exact h) (ops_at rfl) (fun K hK => ?_) (ReadyI.cons (noDefI_spec (by kernel_rfl)) (by rintro ⟨_, _, h⟩; exact h) (ops_at rfl) (fun K hK => ?_) ReadyI.nil)
        · have q0 := cell_of y1 0
          simp only [List.getElem?_toArray, List.getElem?_cons_zero, List.getElem?_cons_succ] at q0
          go_simp
          refine hK.out _ _ ?_
          clear hK K
          clear q0
          refine anyI_ready (rs := [5]) (by kernel_rfl) (by simp) ?_
          refine ReadyI.cons (noDefI_spec (by kernel_rfl)) (by rintro ⟨_, _, h⟩; exact h) (ops_at rfl) (fun K hK => ?_) ReadyI.nil
          go_simp
          refine hK.out _ _ ?_
          clear hK K
          refine anyI_ready (rs := [6]) (by kernel_rfl) (by simp) ?_
          refine ReadyI.cons (noDefI_spec (by kernel_rfl)) (by rintro ⟨_, _, h⟩; exact h) (ops_at rfl) (fun K hK => ?_) ReadyI.nil
          go_simp
          refine (cloneI_any ⟨g, 0, none⟩ N N x g (g + 1) _ HXL.out (by omega) sx1 (by omega)).mono ?_
          rintro e v2 ⟨vv, rfl, hown, hb2⟩
          obtain ⟨g3, c3, rfl⟩ := ownsRow_form hown
          have hz2 := hb2.size
          have p2 := (hb2.block _ (by omega)).trans p1
          have y2 := (hb2.block _ (by omega)).trans y1
          have s2 := s1.below hb2 (by omega)
          have sx2 := sx1.below hb2 (by omega)
          have j2 := hJ m (by omega) _ v1 v2 j1 (Only.of_below hb2 (Nat.le_refl _))
          have z2 := z1.trans (hb2.mono (by omega))
          have mm2 : m ≤ v2.heap.size := by omega
          have jc := j1
          have hbc := hb2
          have mmc := mm1
          refine hK.out _ _ ?_
          clear hK K
          have hown2 := (ownsRow_own (ys := x) (by rw [HXL.out]; exact hown)).2
          refine anyI_ready (rs := [7]) (by kernel_rfl) (by simp) ?_
          refine ReadyI.yield (noDefI_spec (by kernel_rfl)) (ops_at rfl) (by go_simp) (args := #[.slice g3 N c3]) (by go_simp) (hY m (pre.filter (fitB toldV cs)) x _ v2 #[.slice g3 N c3] (by omega) mmc (filter_pre hpre HQ.out) jc (Only.of_below hbc (Nat.le_refl _)) ⟨_, _, by rw [HXL.out], hown2⟩) (fun K hK => ?_) ReadyI.nil
          rintro e W4 (⟨rfl, hJ4, hk4, hs4⟩ | ⟨rfl, hJx4, hk4⟩)
          · refine hK.out _ _ ?_
            clear hK K
            refine anyI_ready (rs := [8]) (by kernel_rfl) (by simp) ?_
            refine ReadyI.cons (noDefI_spec (by kernel_rfl)) (by rintro ⟨_, _, h⟩; exact h) (ops_at rfl) (fun K hK => ?_) ReadyI.nil
            go_simp
            refine hK.out _ _ ?_
            clear hK K
            refine anyI_ready (rs := [9]) (by kernel_rfl) (by simp) ?_
            refine ReadyI.cons (noDefI_spec (by kernel_rfl)) (by rintro ⟨_, _, h⟩; exact h) (ops_at rfl) (fun K hK => ?_) ReadyI.nil
            go_simp
            refine hK.out _ _ ?_
            clear hK K
            refine anyI_done (by kernel_rfl) ?_ _
            gi_wp2
            have hkk : KeepM V.heap.size m W1 W4 := (KeepM.of_below (z2.mono (by omega))).trans (hk4.more (by omega))
            refine ⟨hkk, fun b hb => ?_, ?_, (hs4 Pb (.inl rfl)).trans p2, (hk4.same _ (Nat.le_refl _) (by omega)).trans y2, seg_same s2 (fun b h1 h2 => hs4 b (.inr ⟨h1, h2⟩))⟩
            · subst hb; exact (hk4.same _ (by omega) (by omega)).trans (z2.block _ (by omega))
            · rw [HFL.out]; exact hJ4
          · refine hK.out _ _ ?_
            clear hK K
            refine anyI_ready (rs := [8]) (by kernel_rfl) (by simp) ?_
            refine ReadyI.cons (noDefI_spec (by kernel_rfl)) (by rintro ⟨_, _, h⟩; exact h) (ops_at rfl) (fun K hK => ?_) ReadyI.nil
            go_simp
            refine hK.out _ _ ?_
            clear hK K
            refine anyI_ready (rs := [9]) (by kernel_rfl) (by simp) ?_
            refine ReadyI.cons (noDefI_spec (by kernel_rfl)) (by rintro ⟨_, _, h⟩; exact h) (ops_at rfl) (fun K hK => ?_) ReadyI.nil
            go_simp
            refine hK.out _ _ ?_
            clear hK K
            refine anyI_done (by kernel_rfl) ?_ _
            gi_wp2
            have hkk : KeepM V.heap.size m W1 W4 := (KeepM.of_below (z2.mono (by omega))).trans (hk4.more (by omega))
            exact ⟨hkk, rfl, by rw [HFL.out]; exact hJx4⟩
        · go_simp
          refine hK.out _ _ ?_
          clear hK K
          refine anyI_ready (rs := [4, 6]) (by kernel_rfl) (by simp) ?_
          refine ReadyI.cons (noDefI_spec (by kernel_rfl)) (by rintro ⟨_, _, h⟩; exact h) (ops_at rfl) (fun K hK => ?_) (ReadyI.cons (noDefI_spec (by kernel_rfl)) (by rintro ⟨_, _, h⟩; exact h) (ops_at rfl) (fun K hK => ?_) ReadyI.nil)
          · have q0 := cell_of y1 0
            simp only [List.getElem?_toArray, List.getElem?_cons_zero, List.getElem?_cons_succ] at q0
            go_simp
            refine hK.out _ _ ?_
            clear hK K
            clear q0
            refine anyI_ready (rs := [6]) (by kernel_rfl) (by simp) ?_
            refine ReadyI.cons (noDefI_spec (by kernel_rfl)) (by rintro ⟨_, _, h⟩; exact h) (ops_at rfl) (fun K hK => ?_) ReadyI.nil
            go_simp
            refine (cloneI_any ⟨g, 0, none⟩ N N x g (g + 1) _ HXL.out (by omega) sx1 (by omega)).mono ?_
            rintro e v2 ⟨vv, rfl, hown, hb2⟩
            obtain ⟨g3, c3, rfl⟩ := ownsRow_form hown
            have hz2 := hb2.size
            have p2 := (hb2.block _ (by omega)).trans p1
            have y2 := (hb2.block _ (by omega)).trans y1
            have s2 := s1.below hb2 (by omega)
            have sx2 := sx1.below hb2 (by omega)
            have j2 := hJ m (by omega) _ v1 v2 j1 (Only.of_below hb2 (Nat.le_refl _))
            have z2 := z1.trans (hb2.mono (by omega))
            have mm2 : m ≤ v2.heap.size := by omega
            have jc := j1
            have hbc := hb2
            have mmc := mm1
            refine hK.out _ _ ?_
            clear hK K
            have hown2 := (ownsRow_own (ys := x) (by rw [HXL.out]; exact hown)).2
            refine anyI_ready (rs := [7]) (by kernel_rfl) (by simp) ?_
            refine ReadyI.yield (noDefI_spec (by kernel_rfl)) (ops_at rfl) (by go_simp) (args := #[.slice g3 N c3]) (by go_simp) (hY m (pre.filter (fitB toldV cs)) x _ v2 #[.slice g3 N c3] (by omega) mmc (filter_pre hpre HQ.out) jc (Only.of_below hbc (Nat.le_refl _)) ⟨_, _, by rw [HXL.out], hown2⟩) (fun K hK => ?_) ReadyI.nil
            rintro e W4 (⟨rfl, hJ4, hk4, hs4⟩ | ⟨rfl, hJx4, hk4⟩)
            · refine hK.out _ _ ?_
              clear hK K
              refine anyI_ready (rs := [8]) (by kernel_rfl) (by simp) ?_
              refine ReadyI.cons (noDefI_spec (by kernel_rfl)) (by rintro ⟨_, _, h⟩; exact h) (ops_at rfl) (fun K hK => ?_) ReadyI.nil
              go_simp
              refine hK.out _ _ ?_
              clear hK K
              refine anyI_ready (rs := [9]) (by kernel_rfl) (by simp) ?_
              refine ReadyI.cons (noDefI_spec (by kernel_rfl)) (by rintro ⟨_, _, h⟩; exact h) (ops_at rfl) (fun K hK => ?_) ReadyI.nil
              go_simp
              refine hK.out _ _ ?_
              clear hK K
              refine anyI_done (by kernel_rfl) ?_ _
              gi_wp2
              have hkk : KeepM V.heap.size m W1 W4 := (KeepM.of_below (z2.mono (by omega))).trans (hk4.more (by omega))
              refine ⟨hkk, fun b hb => ?_, ?_, (hs4 Pb (.inl rfl)).trans p2, (hk4.same _ (Nat.le_refl _) (by omega)).trans y2, seg_same s2 (fun b h1 h2 => hs4 b (.inr ⟨h1, h2⟩))⟩
              · subst hb; exact (hk4.same _ (by omega) (by omega)).trans (z2.block _ (by omega))
              · rw [HFL.out]; exact hJ4
            · refine hK.out _ _ ?_
              clear hK K
              refine anyI_ready (rs := [8]) (by kernel_rfl) (by simp) ?_
              refine ReadyI.cons (noDefI_spec (by kernel_rfl)) (by rintro ⟨_, _, h⟩; exact h) (ops_at rfl) (fun K hK => ?_) ReadyI.nil
              go_simp
              refine hK.out _ _ ?_
              clear hK K
              refine anyI_ready (rs := [9]) (by kernel_rfl) (by simp) ?_
              refine ReadyI.cons (noDefI_spec (by kernel_rfl)) (by rintro ⟨_, _, h⟩; exact h) (ops_at rfl) (fun K hK => ?_) ReadyI.nil
              go_simp
              refine hK.out _ _ ?_
              clear hK K
              refine anyI_done (by kernel_rfl) ?_ _
              gi_wp2
              have hkk : KeepM V.heap.size m W1 W4 := (KeepM.of_below (z2.mono (by omega))).trans (hk4.more (by omega))
              exact ⟨hkk, rfl, by rw [HFL.out]; exact hJx4⟩
          · go_simp
            refine (cloneI_any ⟨g, 0, none⟩ N N x g (g + 1) _ HXL.out (by omega) sx1 (by omega)).mono ?_
            rintro e v2 ⟨vv, rfl, hown, hb2⟩
            obtain ⟨g3, c3, rfl⟩ := ownsRow_form hown
            have hz2 := hb2.size
            have p2 := (hb2.block _ (by omega)).trans p1
            have y2 := (hb2.block _ (by omega)).trans y1
            have s2 := s1.below hb2 (by omega)
            have sx2 := sx1.below hb2 (by omega)
            have j2 := hJ m (by omega) _ v1 v2 j1 (Only.of_below hb2 (Nat.le_refl _))
            have z2 := z1.trans (hb2.mono (by omega))
            have mm2 : m ≤ v2.heap.size := by omega
            have jc := j1
            have hbc := hb2
            have mmc := mm1
            refine hK.out _ _ ?_
            clear hK K
            refine anyI_ready (rs := [4]) (by kernel_rfl) (by simp) ?_
            refine ReadyI.cons (noDefI_spec (by kernel_rfl)) (by rintro ⟨_, _, h⟩; exact h) (ops_at rfl) (fun K hK => ?_) ReadyI.nil
            have q0 := cell_of y2 0
            simp only [List.getElem?_toArray, List.getElem?_cons_zero, List.getElem?_cons_succ] at q0
            go_simp
            refine hK.out _ _ ?_
            clear hK K
            clear q0
            have hown2 := (ownsRow_own (ys := x) (by rw [HXL.out]; exact hown)).2
            refine anyI_ready (rs := [7]) (by kernel_rfl) (by simp) ?_
            refine ReadyI.yield (noDefI_spec (by kernel_rfl)) (ops_at rfl) (by go_simp) (args := #[.slice g3 N c3]) (by go_simp) (hY m (pre.filter (fitB toldV cs)) x _ v2 #[.slice g3 N c3] (by omega) mmc (filter_pre hpre HQ.out) jc (Only.of_below hbc (Nat.le_refl _)) ⟨_, _, by rw [HXL.out], hown2⟩) (fun K hK => ?_) ReadyI.nil
            rintro e W4 (⟨rfl, hJ4, hk4, hs4⟩ | ⟨rfl, hJx4, hk4⟩)
            · refine hK.out _ _ ?_
              clear hK K
              refine anyI_ready (rs := [8]) (by kernel_rfl) (by simp) ?_
              refine ReadyI.cons (noDefI_spec (by kernel_rfl)) (by rintro ⟨_, _, h⟩; exact h) (ops_at rfl) (fun K hK => ?_) ReadyI.nil
              go_simp
              refine hK.out _ _ ?_
              clear hK K
              refine anyI_ready (rs := [9]) (by kernel_rfl) (by simp) ?_
              refine ReadyI.cons (noDefI_spec (by kernel_rfl)) (by rintro ⟨_, _, h⟩; exact h) (ops_at rfl) (fun K hK => ?_) ReadyI.nil
              go_simp
              refine hK.out _ _ ?_
              clear hK K
              refine anyI_done (by kernel_rfl) ?_ _
              gi_wp2
              have hkk : KeepM V.heap.size m W1 W4 := (KeepM.of_below (z2.mono (by omega))).trans (hk4.more (by omega))
              refine ⟨hkk, fun b hb => ?_, ?_, (hs4 Pb (.inl rfl)).trans p2, (hk4.same _ (Nat.le_refl _) (by omega)).trans y2, seg_same s2 (fun b h1 h2 => hs4 b (.inr ⟨h1, h2⟩))⟩
              · subst hb; exact (hk4.same _ (by omega) (by omega)).trans (z2.block _ (by omega))
              · rw [HFL.out]; exact hJ4
            · refine hK.out _ _ ?_
              clear hK K
              refine anyI_ready (rs := [8]) (by kernel_rfl) (by simp) ?_
              refine ReadyI.cons (noDefI_spec (by kernel_rfl)) (by rintro ⟨_, _, h⟩; exact h) (ops_at rfl) (fun K hK => ?_) ReadyI.nil
              go_simp
              refine hK.out _ _ ?_
              clear hK K
              refine anyI_ready (rs := [9]) (by kernel_rfl) (by simp) ?_
              refine ReadyI.cons (noDefI_spec (by kernel_rfl)) (by rintro ⟨_, _, h⟩; exact h) (ops_at rfl) (fun K hK => ?_) ReadyI.nil
              go_simp
              refine hK.out _ _ ?_
              clear hK K
              refine anyI_done (by kernel_rfl) ?_ _
              gi_wp2
              have hkk : KeepM V.heap.size m W1 W4 := (KeepM.of_below (z2.mono (by omega))).trans (hk4.more (by omega))
              exact ⟨hkk, rfl, by rw [HFL.out]; exact hJx4⟩
      · go_simp
        refine hK.out _ _ ?_
        clear hK K
        refine anyI_ready (rs := [0]) (by kernel_rfl) (by simp) ?_
        refine ReadyI.cons (noDefI_spec (by kernel_rfl)) (by rintro ⟨_, _, h⟩; exact h) (ops_at rfl) (fun K hK => ?_) ReadyI.nil
        have q0 := cell_of p0 0
        have q1 := cell_of p0 1
        simp only [List.getElem?_toArray, List.getElem?_cons_zero, List.getElem?_cons_succ] at q0 q1
        go_simp
        refine hK.out _ _ ?_
        clear hK K
        clear q0 q1
        refine anyI_ready (rs := [2]) (by kernel_rfl) (by simp) ?_
        refine ReadyI.cons (noDefI_spec (by kernel_rfl)) (by rintro ⟨_, _, h⟩; exact h) (ops_at rfl) (fun K hK => ?_) ReadyI.nil
        go_simp
        refine (isFitBy_any (N : Int) A n c cs lo hi (some ⟨g, 0, none⟩) N N x g (g + 1) _ HN.out hlen s0 (by omega) HXL.out HH.out HCL.out sx0 (by omega)).mono ?_
        rintro e v1 ⟨he, hb1⟩
        rw [HQ.out] at he
        subst he
        have hz1 := hb1.size
        have p1 := (hb1.block _ (by omega)).trans p0
        have y1 := (hb1.block _ (by omega)).trans y0
        have s1 := s0.below hb1 (by omega)
        have sx1 := sx0.below hb1 (by omega)
        have j1 := hJ m (by omega) _ v0 v1 j0 (Only.of_below hb1 (Nat.le_refl _))
        have z1 := z0.trans (hb1.mono (by omega))
        have mm1 : m ≤ v1.heap.size := by omega
        refine hK.out _ _ ?_
        clear hK K
        refine anyI_ready (rs := [3]) (by kernel_rfl) (by simp) ?_
        refine ReadyI.cons (noDefI_spec (by kernel_rfl)) (by rintro ⟨_, _, h⟩; exact h) (ops_at rfl) (fun K hK => ?_) ReadyI.nil
        go_simp
        refine hK.out _ _ ?_
        clear hK K
        refine anyI_ready (rs := [4, 5]) (by kernel_rfl) (by simp) ?_
        refine ReadyI.cons (noDefI_spec (by kernel_rfl)) (by rintro ⟨_, _, h⟩; exact h) (ops_at rfl) (fun K hK => ?_) (ReadyI.cons (noDefI_spec (by kernel_rfl)) (by rintro ⟨_, _, h⟩; exact h) (ops_at rfl) (fun K hK => ?_) ReadyI.nil)
        · have q0 := cell_of y1 0
          simp only [List.getElem?_toArray, List.getElem?_cons_zero, List.getElem?_cons_succ] at q0
          go_simp
          refine hK.out _ _ ?_
          clear hK K
          clear q0
          refine anyI_ready (rs := [5]) (by kernel_rfl) (by simp) ?_
          refine ReadyI.cons (noDefI_spec (by kernel_rfl)) (by rintro ⟨_, _, h⟩; exact h) (ops_at rfl) (fun K hK => ?_) ReadyI.nil
          go_simp
          refine hK.out _ _ ?_
          clear hK K
          refine anyI_ready (rs := [6]) (by kernel_rfl) (by simp) ?_
          refine ReadyI.cons (noDefI_spec (by kernel_rfl)) (by rintro ⟨_, _, h⟩; exact h) (ops_at rfl) (fun K hK => ?_) ReadyI.nil
          go_simp
          refine (cloneI_any ⟨g, 0, none⟩ N N x g (g + 1) _ HXL.out (by omega) sx1 (by omega)).mono ?_
          rintro e v2 ⟨vv, rfl, hown, hb2⟩
          obtain ⟨g3, c3, rfl⟩ := ownsRow_form hown
          have hz2 := hb2.size
          have p2 := (hb2.block _ (by omega)).trans p1
          have y2 := (hb2.block _ (by omega)).trans y1
          have s2 := s1.below hb2 (by omega)
          have sx2 := sx1.below hb2 (by omega)
          have j2 := hJ m (by omega) _ v1 v2 j1 (Only.of_below hb2 (Nat.le_refl _))
          have z2 := z1.trans (hb2.mono (by omega))
          have mm2 : m ≤ v2.heap.size := by omega
          have jc := j1
          have hbc := hb2
          have mmc := mm1
          refine hK.out _ _ ?_
          clear hK K
          have hown2 := (ownsRow_own (ys := x) (by rw [HXL.out]; exact hown)).2
          refine anyI_ready (rs := [7]) (by kernel_rfl) (by simp) ?_
          refine ReadyI.yield (noDefI_spec (by kernel_rfl)) (ops_at rfl) (by go_simp) (args := #[.slice g3 N c3]) (by go_simp) (hY m (pre.filter (fitB toldV cs)) x _ v2 #[.slice g3 N c3] (by omega) mmc (filter_pre hpre HQ.out) jc (Only.of_below hbc (Nat.le_refl _)) ⟨_, _, by rw [HXL.out], hown2⟩) (fun K hK => ?_) ReadyI.nil
          rintro e W4 (⟨rfl, hJ4, hk4, hs4⟩ | ⟨rfl, hJx4, hk4⟩)
          · refine hK.out _ _ ?_
            clear hK K
            refine anyI_ready (rs := [8]) (by kernel_rfl) (by simp) ?_
            refine ReadyI.cons (noDefI_spec (by kernel_rfl)) (by rintro ⟨_, _, h⟩; exact h) (ops_at rfl) (fun K hK => ?_) ReadyI.nil
            go_simp
            refine hK.out _ _ ?_
            clear hK K
            refine anyI_ready (rs := [9]) (by kernel_rfl) (by simp) ?_
            refine ReadyI.cons (noDefI_spec (by kernel_rfl)) (by rintro ⟨_, _, h⟩; exact h) (ops_at rfl) (fun K hK => ?_) ReadyI.nil
            go_simp
            refine hK.out _ _ ?_
            clear hK K
            refine anyI_done (by kernel_rfl) ?_ _
            gi_wp2
            have hkk : KeepM V.heap.size m W1 W4 := (KeepM.of_below (z2.mono (by omega))).trans (hk4.more (by omega))
            refine ⟨hkk, fun b hb => ?_, ?_, (hs4 Pb (.inl rfl)).trans p2, (hk4.same _ (Nat.le_refl _) (by omega)).trans y2, seg_same s2 (fun b h1 h2 => hs4 b (.inr ⟨h1, h2⟩))⟩
            · subst hb; exact (hk4.same _ (by omega) (by omega)).trans (z2.block _ (by omega))
            · rw [HFL.out]; exact hJ4
          · refine hK.out _ _ ?_
            clear hK K
            refine anyI_ready (rs := [8]) (by kernel_rfl) (by simp) ?_
            refine ReadyI.cons (noDefI_spec (by kernel_rfl)) (by rintro ⟨_, _, h⟩; exact h) (ops_at rfl) (fun K hK => ?_) ReadyI.nil
            go_simp
            refine hK.out _ _ ?_
            clear hK K
            refine anyI_ready (rs := [9]) (by kernel_rfl) (by simp) ?_
            refine ReadyI.cons (noDefI_spec (by kernel_rfl)) (by rintro ⟨_, _, h⟩; exact h) (ops_at rfl) (fun K hK => ?_) ReadyI.nil
            go_simp
            refine hK.out _ _ ?_
            clear hK K
            refine anyI_done (by kernel_rfl) ?_ _
            gi_wp2
            have hkk : KeepM V.heap.size m W1 W4 := (KeepM.of_below (z2.mono (by omega))).trans (hk4.more (by omega))
            exact ⟨hkk, rfl, by rw [HFL.out]; exact hJx4⟩
        · go_simp
          refine hK.out _ _ ?_
          clear hK K
          refine anyI_ready (rs := [4, 6]) (by kernel_rfl) (by simp) ?_
          refine ReadyI.cons (noDefI_spec (by kernel_rfl)) (by rintro ⟨_, _, h⟩; exact h) (ops_at rfl) (fun K hK => ?_) (ReadyI.cons (noDefI_spec (by kernel_rfl)) (by rintro ⟨_, _, h⟩; exact h) (ops_at rfl) (fun K hK => ?_) ReadyI.nil)
          · have q0 := cell_of y1 0
            simp only [List.getElem?_toArray, List.getElem?_cons_zero, List.getElem?_cons_succ] at q0
            go_simp
            refine hK.out _ _ ?_
            clear hK K
            clear q0
            refine anyI_ready (rs := [6]) (by kernel_rfl) (by simp) ?_
            refine ReadyI.cons (noDefI_spec (by kernel_rfl)) (by rintro ⟨_, _, h⟩; exact h) (ops_at rfl) (fun K hK => ?_) ReadyI.nil
            go_simp
            refine (cloneI_any ⟨g, 0, none⟩ N N x g (g + 1) _ HXL.out (by omega) sx1 (by omega)).mono ?_
            rintro e v2 ⟨vv, rfl, hown, hb2⟩
            obtain ⟨g3, c3, rfl⟩ := ownsRow_form hown
            have hz2 := hb2.size
            have p2 := (hb2.block _ (by omega)).trans p1
            have y2 := (hb2.block _ (by omega)).trans y1
            have s2 := s1.below hb2 (by omega)
            have sx2 := sx1.below hb2 (by omega)
            have j2 := hJ m (by omega) _ v1 v2 j1 (Only.of_below hb2 (Nat.le_refl _))
            have z2 := z1.trans (hb2.mono (by omega))
            have mm2 : m ≤ v2.heap.size := by omega
            have jc := j1
            have hbc := hb2
            have mmc := mm1
            refine hK.out _ _ ?_
            clear hK K
            have hown2 := (ownsRow_own (ys := x) (by rw [HXL.out]; exact hown)).2
            refine anyI_ready (rs := [7]) (by kernel_rfl) (by simp) ?_
            refine ReadyI.yield (noDefI_spec (by kernel_rfl)) (ops_at rfl) (by go_simp) (args := #[.slice g3 N c3]) (by go_simp) (hY m (pre.filter (fitB toldV cs)) x _ v2 #[.slice g3 N c3] (by omega) mmc (filter_pre hpre HQ.out) jc (Only.of_below hbc (Nat.le_refl _)) ⟨_, _, by rw [HXL.out], hown2⟩) (fun K hK => ?_) ReadyI.nil
            rintro e W4 (⟨rfl, hJ4, hk4, hs4⟩ | ⟨rfl, hJx4, hk4⟩)
            · refine hK.out _ _ ?_
              clear hK K
              refine anyI_ready (rs := [8]) (by kernel_rfl) (by simp) ?_
              refine ReadyI.cons (noDefI_spec (by kernel_rfl)) (by rintro ⟨_, _, h⟩; exact h) (ops_at rfl) (fun K hK => ?_) ReadyI.nil
              go_simp
              refine hK.out _ _ ?_
              clear hK K
              refine anyI_ready (rs := [9]) (by kernel_rfl) (by simp) ?_
              refine ReadyI.cons (noDefI_spec (by kernel_rfl)) (by rintro ⟨_, _, h⟩; exact h) (ops_at rfl) (fun K hK => ?_) ReadyI.nil
              go_simp
              refine hK.out _ _ ?_
              clear hK K
              refine anyI_done (by kernel_rfl) ?_ _
              gi_wp2
              have hkk : KeepM V.heap.size m W1 W4 := (KeepM.of_below (z2.mono (by omega))).trans (hk4.more (by omega))
              refine ⟨hkk, fun b hb => ?_, ?_, (hs4 Pb (.inl rfl)).trans p2, (hk4.same _ (Nat.le_refl _) (by omega)).trans y2, seg_same s2 (fun b h1 h2 => hs4 b (.inr ⟨h1, h2⟩))⟩
              · subst hb; exact (hk4.same _ (by omega) (by omega)).trans (z2.block _ (by omega))
              · rw [HFL.out]; exact hJ4
            · refine hK.out _ _ ?_
              clear hK K
              refine anyI_ready (rs := [8]) (by kernel_rfl) (by simp) ?_
              refine ReadyI.cons (noDefI_spec (by kernel_rfl)) (by rintro ⟨_, _, h⟩; exact h) (ops_at rfl) (fun K hK => ?_) ReadyI.nil
              go_simp
              refine hK.out _ _ ?_
              clear hK K
              refine anyI_ready (rs := [9]) (by kernel_rfl) (by simp) ?_
              refine ReadyI.cons (noDefI_spec (by kernel_rfl)) (by rintro ⟨_, _, h⟩; exact h) (ops_at rfl) (fun K hK => ?_) ReadyI.nil
              go_simp
              refine hK.out _ _ ?_
              clear hK K
              refine anyI_done (by kernel_rfl) ?_ _
              gi_wp2
              have hkk : KeepM V.heap.size m W1 W4 := (KeepM.of_below (z2.mono (by omega))).trans (hk4.more (by omega))
              exact ⟨hkk, rfl, by rw [HFL.out]; exact hJx4⟩
          · go_simp
            refine (cloneI_any ⟨g, 0, none⟩ N N x g (g + 1) _ HXL.out (by omega) sx1 (by omega)).mono ?_
            rintro e v2 ⟨vv, rfl, hown, hb2⟩
            obtain ⟨g3, c3, rfl⟩ := ownsRow_form hown
            have hz2 := hb2.size
            have p2 := (hb2.block _ (by omega)).trans p1
            have y2 := (hb2.block _ (by omega)).trans y1
            have s2 := s1.below hb2 (by omega)
            have sx2 := sx1.below hb2 (by omega)
            have j2 := hJ m (by omega) _ v1 v2 j1 (Only.of_below hb2 (Nat.le_refl _))
            have z2 := z1.trans (hb2.mono (by omega))
            have mm2 : m ≤ v2.heap.size := by omega
            have jc := j1
            have hbc := hb2
            have mmc := mm1
            refine hK.out _ _ ?_
            clear hK K
            refine anyI_ready (rs := [4]) (by kernel_rfl) (by simp) ?_
            refine ReadyI.cons (noDefI_spec (by kernel_rfl)) (by rintro ⟨_, _, h⟩; exact h) (ops_at rfl) (fun K hK => ?_) ReadyI.nil
            have q0 := cell_of y2 0
            simp only [List.getElem?_toArray, List.getElem?_cons_zero, List.getElem?_cons_succ] at q0
            go_simp
            refine hK.out _ _ ?_
            clear hK K
            clear q0
            have hown2 := (ownsRow_own (ys := x) (by rw [HXL.out]; exact hown)).2
            refine anyI_ready (rs := [7]) (by kernel_rfl) (by simp) ?_
            refine ReadyI.yield (noDefI_spec (by kernel_rfl)) (ops_at rfl) (by go_simp) (args := #[.slice g3 N c3]) (by go_simp) (hY m (pre.filter (fitB toldV cs)) x _ v2 #[.slice g3 N c3] (by omega) mmc (filter_pre hpre HQ.out) jc (Only.of_below hbc (Nat.le_refl _)) ⟨_, _, by rw [HXL.out], hown2⟩) (fun K hK => ?_) ReadyI.nil
            rintro e W4 (⟨rfl, hJ4, hk4, hs4⟩ | ⟨rfl, hJx4, hk4⟩)
            · refine hK.out _ _ ?_
              clear hK K
              refine anyI_ready (rs := [8]) (by kernel_rfl) (by simp) ?_
              refine ReadyI.cons (noDefI_spec (by kernel_rfl)) (by rintro ⟨_, _, h⟩; exact h) (ops_at rfl) (fun K hK => ?_) ReadyI.nil
              go_simp
              refine hK.out _ _ ?_
              clear hK K
              refine anyI_ready (rs := [9]) (by kernel_rfl) (by simp) ?_
              refine ReadyI.cons (noDefI_spec (by kernel_rfl)) (by rintro ⟨_, _, h⟩; exact h) (ops_at rfl) (fun K hK => ?_) ReadyI.nil
              go_simp
              refine hK.out _ _ ?_
              clear hK K
              refine anyI_done (by kernel_rfl) ?_ _
              gi_wp2
              have hkk : KeepM V.heap.size m W1 W4 := (KeepM.of_below (z2.mono (by omega))).trans (hk4.more (by omega))
              refine ⟨hkk, fun b hb => ?_, ?_, (hs4 Pb (.inl rfl)).trans p2, (hk4.same _ (Nat.le_refl _) (by omega)).trans y2, seg_same s2 (fun b h1 h2 => hs4 b (.inr ⟨h1, h2⟩))⟩
              · subst hb; exact (hk4.same _ (by omega) (by omega)).trans (z2.block _ (by omega))
              · rw [HFL.out]; exact hJ4
            · refine hK.out _ _ ?_
              clear hK K
              refine anyI_ready (rs := [8]) (by kernel_rfl) (by simp) ?_
              refine ReadyI.cons (noDefI_spec (by kernel_rfl)) (by rintro ⟨_, _, h⟩; exact h) (ops_at rfl) (fun K hK => ?_) ReadyI.nil
              go_simp
              refine hK.out _ _ ?_
              clear hK K
              refine anyI_ready (rs := [9]) (by kernel_rfl) (by simp) ?_
              refine ReadyI.cons (noDefI_spec (by kernel_rfl)) (by rintro ⟨_, _, h⟩; exact h) (ops_at rfl) (fun K hK => ?_) ReadyI.nil
              go_simp
              refine hK.out _ _ ?_
              clear hK K
              refine anyI_done (by kernel_rfl) ?_ _
              gi_wp2
              have hkk : KeepM V.heap.size m W1 W4 := (KeepM.of_below (z2.mono (by omega))).trans (hk4.more (by omega))
              exact ⟨hkk, rfl, by rw [HFL.out]; exact hJx4⟩
  case hdone =>
    rintro m W' hm ⟨hj, _, _, _⟩ hD
    gi_wp2
    refine ⟨by simp, .inl ⟨_, _, rfl, run_takeDeferred hD, ?_⟩⟩
    refine ⟨_, results_none rfl _ _ _, ⟨_, rfl⟩, .inl ⟨m, by omega, hJ m (by omega) _ W' _ hj (only_putObj (Only.refl _ _) ⟨by omega, by omega⟩ _)⟩⟩
  case hstop =>
    rintro m cc pre W' hm hpre ⟨rfl, hj⟩ hD
    gi_wp2
    refine ⟨by simp, .inl ⟨_, _, rfl, run_takeDeferred hD, ?_⟩⟩
    refine ⟨_, results_none rfl _ _ _, ⟨_, rfl⟩, .inr ⟨m, _, by omega, filter_pre' hpre, hJx m (by omega) _ W' _ hj (only_putObj (Only.refl _ _) ⟨by omega, by omega⟩ _)⟩⟩
end Go.Proofs.Ytoheoojpmndhoaa

namespace Go.Proofs.Ytoheoojpmndhoaa
set_option linter.unusedVariables false
set_option linter.unusedSimpArgs false
open Go.RowKit Go.Shelf
attribute [local go_sem] Oper.semAt_some

theorem solutions_any (t : Int) (A : Option Addr) (n c : Nat) (w : World) :
    Calls Try.prog 75 #[pzV t A n c] w fun e w' => e = .returned (.func (.func 103) #[] #[.pointer (some ⟨w.heap.size, 0, none⟩)]) ∧ w' = w.alloc (.cells #[.int .i64 t, .slice A n c] 35) := by
  go_enter Try.func75, Try.ntmps75
  go_wp2
  go_ret
  exact ⟨rfl, rfl⟩

set_option maxRecDepth 100000 in
set_option maxHeartbeats 2000000 in
theorem countSolutions_any (N : Nat) (A : Option Addr) (n c : Nat) (cs : List Clu) (lo hi : Nat) (w : World) (hN : N = 2 ∨ N = 3 ∨ N = 4) (hn : cs.length = n) (hlen : n ≤ 1048576) (hcl : ∀ c ∈ cs, clueB (N : Int) c = true) (hs : Seg w lo hi A (flat4 cs)) (hB : hi ≤ w.heap.size) :
    Calls Try.prog 77 #[pzV (N : Int) A n c] w fun e w' => e = .returned (.int .i64 ((solF toldV N cs).length : Int)) ∧ Below w.heap.size w w' := by
  refine (callsIn_wide (n := 7)).1 ?_
  refine callsIn_of_wp_marks Try.func77 rfl trivial ?_ rfl
  simp only [Try.ntmps77, List.size_toArray, List.length_cons, List.length_nil, Nat.reduceAdd, Nat.reduceSub, Array.replicate_succ, Array.replicate_zero, List.push_toArray, List.append_toArray, List.nil_append, List.cons_append]
  have hle := solF_length toldV N cs
  have hb6 : (solF toldV N cs).length ≤ 1296 := by rcases hN with rfl | rfl | rfl <;> exact Nat.le_trans hle (by decide)
  have HCL := Lib.hid hcl
  have HN := Lib.hid hn
  have HLE := Lib.hid hb6
  clear hcl hn hle hb6
  gi_wp2
  refine ⟨trivial, (callsIn_wide.2 (solutions_any (N : Int) A n c _)).mono ?_⟩
  rintro e V ⟨rfl, hV⟩
  obtain ⟨X, hX, hXV⟩ : ∃ X, (w.alloc (.cells #[.int .i64 (N : Int), .slice A n c] 35)).alloc (.cells #[.int .i64 0] 3) = X ∧ X.alloc (.cells #[.int .i64 (N : Int), .slice A n c] 35) = V := ⟨_, rfl, hV.symm⟩
  have x1 : X.heap.size = w.heap.size + 2 := by rw [← hX]; simp
  have hVb : Below w.heap.size w V := by rw [← hXV, ← hX]; exact (((Below.refl _ _).alloc (Nat.le_refl _) _).alloc (by simp) _).alloc (by simp; omega) _
  have hVs : V.heap.size = w.heap.size + 3 := by rw [← hXV]; simp [x1]
  have hVc : V.heap[w.heap.size + 1]? = some (.cells #[.int .i64 0] 3 (0, 0)) := by rw [← hXV]; exact (alloc_old _ (by omega) _).trans (by rw [← hX]; exact new_at _ _ (by simp))
  have hVp : V.heap[w.heap.size + 2]? = some (.cells #[.int .i64 (N : Int), .slice A n c] 35 (0, 0)) := by rw [← hXV]; exact new_at _ _ (by omega)
  have hsV := hs.below hVb hB
  simp only [World.size_alloc]
  clear hX hXV x1 hV
  gi_wp2
  refine range_seq (gf := 103) (lb := #[.pointer (some ⟨w.heap.size + 2, 0, none⟩)]) rfl (enters_of Try.func103 (by kernel_rfl) rfl) (sol_seq (w.heap.size + 2) N A n c cs lo hi hN V hVp HN.out hlen HCL.out hsV (by omega)) (fun b hb => by show b < V.heap.size; omega) (Below.refl _ _) ?hps ?hput
    (fun m pre W' => W'.heap[w.heap.size + 1]? = some (.cells #[.int .i64 (pre.length : Int)] 3 (0, 0)) ∧ Below w.heap.size w W')
    (fun m cc pre W' => False) ?hI ?hIx ?h0
    (fun args => { tmps := #[.agg #[.int .i64 (N : Int), .slice A n c], .pointer (some ⟨w.heap.size, 0, none⟩), .int .i64 0, .pointer (some ⟨w.heap.size + 1, 0, none⟩), .agg #[.int .i64 (N : Int), .slice A n c], .func (.func 103) #[] #[.pointer (some ⟨w.heap.size + 2, 0, none⟩)], args.getD 0 undef, undef, undef, undef], defers := [] })
    ?hassign ?hbody ?hdone ?hstop
  case hps => rintro B m W0 x args W1 ⟨_, _, rfl, _⟩; rfl
  case hput =>
    rintro m W0 x args W1 o hm hR ⟨A', c', rfl, h3⟩
    exact ⟨A', c', rfl, by have hz : (W1.putObj (V.heap.size + 1) o).heap.size = W1.heap.size := (by simp); rw [hz]; exact h3.keep fun b h1 h2 => World.putObj_heap_other (by omega)⟩
  case hI =>
    rintro m hm s W' W2 ⟨h1, h2⟩ ho
    exact ⟨(ho.block _ (heap_lt h1) (fun hs => by have := hs.1; omega)).trans h1, h2.trans (ho.below h2.size (fun k hk => by have := hk.1; omega))⟩
  case hIx => rintro m cc hm s W' W2 h ho; exact h
  case h0 =>
    intro W' hbW hR
    exact ⟨(hbW.block _ (by omega)).trans hVc, hVb.trans (hbW.mono (by omega))⟩
  case hassign =>
    rintro l' args W' K hsz hK
    obtain ⟨v, rfl⟩ : ∃ v, args = #[v] := ⟨args[0]'(by rw [hsz]; decide), by apply Array.ext <;> simp_all⟩
    gi_wp2
    simpa [Nat.add_assoc] using hK
  case hbody =>
    rintro m pre x args W0 W1 hm hm0 hpre ⟨hc, hb⟩ ho ⟨A', c', rfl, hown⟩
    have hk := (ho.block _ (heap_lt hc) (fun hs => by have := hs.1; omega)).trans hc
    have hb1 : Below w.heap.size w W1 := hb.trans (ho.below hb.size (fun k hk => by have := hk.1; omega))
    have hl := hpre.length_le
    have hl2 := HLE.out
    rw [List.length_append] at hl
    simp at hl
    have q0 := cell_of hk 0
    have f0 := frozen_of hk 0
    have e1 := set_self hk 0 (.int .i64 ((pre.length : Int) + 1))
    have HE := Lib.hid e1
    simp only [List.getElem?_toArray, List.getElem?_cons_zero, List.getElem?_cons_succ] at q0
    clear e1 hc hk hown
    gi_wp2
    refine ⟨(KeepM.refl _ _ _).setCell (.inl (by show w.heap.size + 1 < V.heap.size; omega)) _, KeepS.setCell (fun _ _ => rfl) (by show ¬ (w.heap.size + 1 = w.heap.size + 2 ∨ (lo ≤ w.heap.size + 1 ∧ w.heap.size + 1 < hi)); omega) _, ?_, hb1.setCell (by show w.heap.size ≤ w.heap.size + 1; omega) _⟩
    rw [HE.out]
    simp
  case hdone =>
    rintro m W' hm ⟨hc, hb⟩ hD
    have q0 := cell_of hc 0
    simp only [List.getElem?_toArray, List.getElem?_cons_zero, List.getElem?_cons_succ] at q0
    gi_wp2
    refine ⟨by simp, .inl ⟨_, _, rfl, run_takeDeferred hD, ?_⟩⟩
    refine ⟨.int .i64 ((solF toldV N cs).length : Int), by simp [results, Try.results77, go_sem], rfl, ?_⟩
    exact hb.trans ((only_putObj (B := V.heap.size) (m := m) (Only.refl _ _) ⟨by omega, by omega⟩ _).below hb.size (fun k hk => by have := hk.1; omega))
  case hstop => rintro m cc pre W' hm hpre h hD; exact h.elim
end Go.Proofs.Ytoheoojpmndhoaa
