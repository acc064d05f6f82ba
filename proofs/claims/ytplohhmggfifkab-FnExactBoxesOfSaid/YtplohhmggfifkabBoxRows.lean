/-
  Things gathered by boxes: rows in memory that grow one at a time, each in a block of its own.
  Conditions: none.
-/
import Derived.Test.YtplohhmggfifkabNest
import Derived.Test.YtplohhmggfifkabAppend
import Derived.Test.YtplohhmggfifkabFollM
namespace Go.Proofs.Ytplohhmggfifkab
set_option linter.unusedVariables false
open Go.RowKit

/-- The things before 'i' in box 'b'. -/
def boxL (plan : List Int) (i b : Nat) : List Int := ((List.range i).filter fun j => plan.getD j (-1) == (b : Int)).map fun j : Nat => (j : Int)

theorem boxL_zero (plan : List Int) (b : Nat) : boxL plan 0 b = [] := rfl
theorem boxL_here {plan : List Int} {i b : Nat} (h : plan[i]? = some (b : Int)) : boxL plan (i + 1) b = boxL plan i b ++ [(i : Int)] := by
  have e : plan.getD i (-1) = (b : Int) := by simp [List.getD, h]
  have e2 : (plan.getD i (-1) == (b : Int)) = true := by rw [e]; exact beq_self_eq_true _
  rw [boxL, List.range_succ, List.filter_append, List.map_append, boxL]
  congr 1
  rw [List.filter_cons_of_pos (by exact e2)]
  rfl
theorem boxL_far {plan : List Int} {i b c : Nat} (h : plan[i]? = some (b : Int)) (hc : c ≠ b) : boxL plan (i + 1) c = boxL plan i c := by
  have e : plan.getD i (-1) = (b : Int) := by simp [List.getD, h]
  rw [boxL, List.range_succ, List.filter_append, List.map_append, boxL]
  have e2 : ¬ (plan.getD i (-1) == (c : Int)) = true := by rw [e]; simp; omega
  rw [List.filter_cons_of_neg (by exact e2)]
  simp
theorem boxL_length (plan : List Int) (i b : Nat) : (boxL plan i b).length ≤ i := by
  rw [boxL, List.length_map]
  exact Nat.le_trans (List.length_filter_le _ _) (by simp)

theorem foll_bounds {room : Int} {xs plan ls : List Int} {k : Nat} (h : foll room xs plan k = some ls) : ∀ (j : Nat) u, j < k → plan[j]? = some u → 0 ≤ u ∧ u < ls.length := by
  induction k generalizing ls with
  | zero => intro j u hj; omega
  | succ k ih =>
    rw [foll] at h
    rcases hf : foll room xs plan k with _ | l0
    · rw [hf] at h; cases h
    · rw [hf] at h
      simp only [Option.bind_some] at h
      unfold stepL at h
      split at h
      · next hc =>
        injection h with h
        have hl : ls.length = if (plan.getD k 0).toNat = l0.length then l0.length + 1 else l0.length := by rw [← h, addTo_length]
        intro j u hj hu
        by_cases e : j = k
        · subst e
          have : plan.getD j 0 = u := by simp [List.getD, hu]
          rw [this] at hc hl
          split at hl <;> omega
        · have := ih hf j u (by omega) hu
          split at hl <;> omega
      · cases h

theorem loads_bounds {room : Int} {xs plan ls : List Int} (h : loadsM room xs plan = some ls) : plan.length = xs.length ∧ ∀ (j : Nat) u, plan[j]? = some u → 0 ≤ u ∧ u < ls.length := by
  unfold loadsM at h
  split at h
  · next e => exact ⟨e, fun j u hu => foll_bounds h j u (by have := (List.getElem?_eq_some_iff.1 hu).1; omega) hu⟩
  · cases h

/-- Block 'G' holds 'n' slices, whose rows read as 'f' tells, in blocks of their own behind it. -/
def Rowz (w : World) (G T n : Nat) (f : Nat → List Int) : Prop :=
  ∃ (cs : Array Value) (vs : Nat → Value), w.heap[G]? = some (.cells cs T (0, 0)) ∧ cs.size = n ∧
    (∀ b, b < n → cs[b]? = some (vs b) ∧ w.ownsRow (G + 1) 3 1 (vs b) (f b).length ((f b).map (Value.int .i64))) ∧
    ∀ b b' g, b < n → b' < n → b ≠ b' → (vs b).ownBlock = some g → (vs b').ownBlock ≠ some g

theorem Rowz.lt {w : World} {G T n : Nat} {f : Nat → List Int} (h : Rowz w G T n f) : G < w.heap.size := by
  obtain ⟨cs, _, hb, _⟩ := h
  exact heap_lt hb

theorem rowz_new (w : World) (T n : Nat) (f : Nat → List Int) (hf : ∀ b, f b = []) : Rowz (w.alloc (.cells (madeCells #[.slice none 0 0] n) T)) w.heap.size T n f := by
  refine ⟨madeCells #[.slice none 0 0] n, fun _ => .slice none 0 0, heap_alloc_new w _, by simp [madeCells], fun b hb => ⟨?_, ?_⟩, fun b b' g _ _ _ h => by cases h⟩
  · simp [madeCells, hb, Nat.mod_one]
  · rw [hf b]
    exact World.ownsRow_nil _ _ _ _

/-- One number is appended: where the row lies then. -/
theorem run_append_ownB {P : Program} (w : World) (base : Nat) (t ty e : TypeId) (i : TypeInfo) (ht : P.underlying t = some (.slice e)) (hi : P.info? e = some i) (hz : i.zero = some (.int .i64 0)) (hsize : i.size = 1) (hby : i.bytes = 8)
    (v : Value) (n : Nat) (xs : List Value) (hown : w.ownsRow base e 1 v n xs) (gb : Nat) (c : Nat) (x : Value) (hnews : w.cell? ⟨gb, 0, none⟩ = some x) (h1 : x.oneCell' = true) (hn : n ≤ 1048576) (hbase : base ≤ w.heap.size) :
    ∃ v' w', (Builtin.append_ #[t, t] ty #[v, .slice (some ⟨gb, 0, none⟩) 1 c]).run P w = .ok v' w' ∧ w'.ownsRow base e 1 v' (n + 1) (xs ++ [x]) ∧ w.grownBy w' v.ownBlock ∧ (v'.ownBlock = v.ownBlock ∨ v'.ownBlock = some w.heap.size) := by
  have hnw : ∀ (j : Nat) (u : Value), [x][j]? = some u → w.cell? ((⟨gb, 0, none⟩ : Addr).add j) = some u := by
    intro j u hj
    match j, hj with
    | 0, hj => rw [Addr.add_lit]; simp at hj; rw [← hj]; exact hnews
  have h1' : ∀ u ∈ [x], u.oneCell' = true := by
    intro u hu
    obtain rfl := List.mem_singleton.1 hu
    exact h1
  obtain ⟨v', w', hr, h2, h3, _⟩ := run_append_own (P := P) w base t ty e i (.int .i64 0) 1 8 ht hi hz hsize hby rfl (by decide) v n xs hown ⟨gb, 0, none⟩ 1 c [x] rfl hnw h1' (by unfold maxLen; omega) (by omega) hbase
  refine ⟨v', w', hr, h2, h3, ?_⟩
  rcases hown.2 with ⟨rfl, rfl⟩ | ⟨g, cap, cur, rfl, hbg, hg, hnc, hcm, hcs, htake⟩
  · rw [run_append_nil (P := P) w t ty e i _ ht hi hz ⟨gb, 0, none⟩ 1 c [x] (by rw [hsize]; rfl) hnw (by omega) (by omega) (by omega)] at hr
    injection hr with hr _
    rw [← hr]
    exact .inr rfl
  · by_cases hroom : n + 1 ≤ cap
    · rw [run_append_room (P := P) w t ty e i ht hi g n cap cur hg ⟨gb, 0, none⟩ 1 c [x] (by rw [hsize]; rfl) hnw h1' hroom (by rw [hsize, hcs]; simp; omega)] at hr
      injection hr with hr _
      rw [← hr]
      exact .inl rfl
    · rw [run_append_grow (P := P) w t ty e i _ ht hi hz ⟨g, 0, none⟩ n cap xs (by rw [hsize]; exact hown.1) (hown.cells (g := g) rfl) ⟨gb, 0, none⟩ 1 c [x] (by rw [hsize]; rfl) hnw (by omega) (by omega) (growslice_fits (by omega) (by rw [hby]; omega))] at hr
      injection hr with hr _
      rw [← hr]
      exact .inr rfl

theorem wpList_append_ownB {P : Program} (w : World) {ops : Array Oper} {rest : List Oper} {o : Oper} {a : Act} {Q : Exit → Act → World → Prop} (hgd : o.guard = none) (s x : Operand) (t : TypeId)
    (ho : o.op = .call { callee := .builtin .append, args := #[s, x], argTypes := #[t, t] })
    (base : Nat) (e : TypeId) (i : TypeInfo) (ht : P.underlying t = some (.slice e)) (hi : P.info? e = some i) (hz : i.zero = some (.int .i64 0)) (hsize : i.size = 1) (hby : i.bytes = 8)
    (v : Value) (n : Nat) (xs : List Value) (hs : a.eval s = v) (hown : w.ownsRow base e 1 v n xs) (gb : Nat) (c : Nat) (u : Value) (hx : a.eval x = .slice (some ⟨gb, 0, none⟩) 1 c) (hnews : w.cell? ⟨gb, 0, none⟩ = some u) (h1 : u.oneCell' = true) (hn : n ≤ 1048576) (hbase : base ≤ w.heap.size)
    (h : ∀ v' w', w'.ownsRow base e 1 v' (n + 1) (xs ++ [u]) → w.grownBy w' v.ownBlock → (v'.ownBlock = v.ownBlock ∨ v'.ownBlock = some w.heap.size) → wpList P ops Q rest (a.put o.dst v') w') : wpList P ops Q (o :: rest) a w := by
  refine wpList_plain hgd fun K hK => ?_
  obtain ⟨v', w', hr, h2, h3, h4⟩ := run_append_ownB (P := P) w base t o.type e i ht hi hz hsize hby v n xs hown gb c u hnews h1 hn hbase
  unfold Oper.wp
  simp [execOp, ho, resolve, invoke, builtin, hs, hx, hr, Result.andThen]
  exact hK _ _ (h v' w' h2 h3 h4)

/-- One row is longer by one. -/
theorem Rowz.step {w w1 w2 : World} {G T n b : Nat} {f f' : Nat → List Int} {cs : Array Value} {vs : Nat → Value} {v' : Value} {x : Int} (hG : w.heap[G]? = some (.cells cs T (0, 0))) (hsz : cs.size = n)
    (hr : ∀ b, b < n → cs[b]? = some (vs b) ∧ w.ownsRow (G + 1) 3 1 (vs b) (f b).length ((f b).map (Value.int .i64)))
    (hd : ∀ b b' g, b < n → b' < n → b ≠ b' → (vs b).ownBlock = some g → (vs b').ownBlock ≠ some g)
    (hb : b < n) (o : Obj) (hw1 : w1 = w.alloc o) (hown : w2.ownsRow (G + 1) 3 1 v' ((f b).length + 1) ((f b).map (Value.int .i64) ++ [.int .i64 x])) (hgr : w1.grownBy w2 (vs b).ownBlock) (hv : v'.ownBlock = (vs b).ownBlock ∨ v'.ownBlock = some w1.heap.size)
    (hf : f' b = f b ++ [x]) (hf2 : ∀ c, c ≠ b → f' c = f c) :
    Rowz (w2.setCell ⟨G, b, none⟩ v') G T n f' := by
  have hGl := heap_lt hG
  have hlt := fun (c : Nat) (hc : c < n) => (hr c hc).2.lt
  have hG2 : w2.heap[G]? = some (.cells cs T (0, 0)) := by
    rw [hgr.block G (by rw [hw1]; simp; omega) (fun e => by have := hlt b hb G e.symm; omega), hw1, alloc_old w hGl]
    exact hG
  refine ⟨cs.setIfInBounds b v', fun c => if c = b then v' else vs c, set_self hG2 b v', by simpa using hsz, fun c hc => ?_, fun c c' g hc hc' hne hg => ?_⟩
  · by_cases e : c = b
    · subst e
      dsimp only
      rw [if_pos rfl]
      refine ⟨by rw [Array.getElem?_setIfInBounds_self_of_lt (by omega)], ?_⟩
      rw [hf, List.length_append, List.map_append]
      exact ownsRow_setCell_below hown (a := ⟨G, c, none⟩) (Nat.lt_succ_self G) _
    · dsimp only
      rw [if_neg e]
      refine ⟨by rw [Array.getElem?_setIfInBounds_ne (Ne.symm e)]; exact (hr c hc).1, ?_⟩
      rw [hf2 c e]
      refine ownsRow_setCell_below (World.ownsRow.kept (w := w1) (by rw [hw1]; exact (hr c hc).2.alloc o) hgr ?_) (a := ⟨G, b, none⟩) (Nat.lt_succ_self G) _
      cases hcb : (vs c).ownBlock with
      | none => exact .inl rfl
      | some g => exact .inr (fun h => hd c b g hc hb e hcb h.symm)
  · have hfr : ∀ c, c < n → c ≠ b → ∀ g, (vs c).ownBlock = some g → v'.ownBlock ≠ some g := by
      intro c hc hcb g hg h
      rcases hv with h' | h'
      · rw [h'] at h; exact hd c b g hc hb hcb hg h
      · rw [h'] at h
        injection h with h
        have := (hlt c hc g hg).2
        rw [hw1] at h
        simp at h
        omega
    dsimp only at hg ⊢
    by_cases e : c = b
    · rw [if_pos e] at hg
      have e' : c' ≠ b := fun h => hne (e.trans h.symm)
      rw [if_neg e']
      exact fun h => hfr c' hc' e' g h hg
    · rw [if_neg e] at hg
      by_cases e' : c' = b
      · rw [if_pos e']
        exact hfr c hc e g hg
      · rw [if_neg e']
        exact hd c c' g hc hc' hne hg

/-- The rows as lists of lists. -/
theorem Rowz.nest {w : World} {G T n lo : Nat} {f : Nat → List Int} (h : Rowz w G T n f) (hlo : lo ≤ G) : Nest w lo w.heap.size (some ⟨G, 0, none⟩) ((List.range n).map f) := by
  have hGl := h.lt
  obtain ⟨cs, vs, hb, hsz, hr, hd⟩ := h
  refine .inr ⟨G, cs, T, fun k => ((vs k).ownBlock).getD 0, rfl, hlo, hGl, hb, fun k xs hk => ?_, fun i j xs ys hi hj hx hy hij => ?_⟩
  · have hkn : k < n := by have := (List.getElem?_eq_some_iff.1 hk).1; simpa using this
    have e : xs = f k := by simp [hkn] at hk; exact hk.symm
    subst e
    obtain ⟨h1, h2⟩ := hr k hkn
    obtain ⟨A, c, hA⟩ := ownsRow_form h2
    rw [hA] at h1 h2
    obtain ⟨_, hown⟩ := ownsRow_own h2
    refine ⟨A, c, h1, hown.more (by omega) (Nat.le_refl _), fun hne => ?_⟩
    rcases hown with h | ⟨g, cs', T', rfl, hg1, hg2, _⟩
    · exact absurd h hne
    · dsimp only
      rw [hA]
      exact ⟨rfl, by show g ≠ G; omega⟩
  · have hin : i < n := by have := (List.getElem?_eq_some_iff.1 hi).1; simpa using this
    have hjn : j < n := by have := (List.getElem?_eq_some_iff.1 hj).1; simpa using this
    have ei : xs = f i := by simp [hin] at hi; exact hi.symm
    have ej : ys = f j := by simp [hjn] at hj; exact hj.symm
    subst ei
    subst ej
    have hsome : ∀ k, k < n → f k ≠ [] → ∃ g, (vs k).ownBlock = some g := by
      intro k hk hne
      obtain ⟨h1, h2⟩ := hr k hk
      obtain ⟨A, c, hA⟩ := ownsRow_form h2
      rw [hA] at h2 ⊢
      rcases (ownsRow_own h2).2 with h | ⟨g, cs', T', rfl, _⟩
      · exact absurd h hne
      · exact ⟨g, rfl⟩
    obtain ⟨gi, hgi⟩ := hsome i hin hx
    obtain ⟨gj, hgj⟩ := hsome j hjn hy
    dsimp only
    rw [hgi, hgj]
    intro h
    have h' : gi = gj := h
    subst h'
    exact hd i j gi hin hjn hij hgi hgj
end Go.Proofs.Ytplohhmggfifkab
