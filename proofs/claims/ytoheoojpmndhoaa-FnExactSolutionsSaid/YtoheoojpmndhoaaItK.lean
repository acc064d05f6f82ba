/-
  Loops over iterators: regions in a round, iterators with memory of their own, a step that hands on.
  Conditions: each part's own.
-/
import Derived.Test.YtoheoojpmndhoaaMem
import Derived.RangeFuncNested
import Derived.RangeFuncBound
import Derived.RangeFuncLeaves
import Derived.Shelf.Abstract
import Derived.Shelf.RegionOpen
import Derived.OwnWalkIn
import Derived.TacticsInMore
import Derived.LoopNIn
import Derived.LoopIn
import Derived.Deep.RegionHeld3
import Derived.RangeFuncCalls
import Derived.WalkKit
namespace Go.Proofs.Ytoheoojpmndhoaa
set_option linter.unusedVariables false
open Go.RowKit

section
variable {P : Program} {ops : Array Oper} {Q : Exit → Act → World → Prop} {md : Region.Mode} {l n : Nat}

/-- No operation defers a call. -/
def NoDefer (ops : Array Oper) : Prop := ∀ (i : Nat) (o : Oper), ops[i]? = some o → ∀ c, o.op ≠ .defer c

theorem upon_in {o : Oper} {a : Act} {K : Act → World → Prop} {r : Result Next} (h : o.upon P a K Q r) : o.uponIn (Fence.wide.inRound l) n P a K Q r := by
  cases r with
  | ok x w' =>
    cases x with
    | value v => exact h
    | skip => exact h
    | defer d => exact h
    | enter f args => exact ⟨fun hd => (by cases hd), CallsIn.inRound l ((callsIn_wide (n := n - 1)).2 h)⟩
    | row row args => exact ⟨fun hd => (by cases hd), fun c cs _ => by
        obtain ⟨v, w'', hr, hs⟩ := (show Rows P row args w' _ from h) c cs
        exact ⟨v, w'', hr, stepsIn_wide.2 hs⟩⟩
    | _ => exact h.elim
  | halt x w' => cases x <;> exact h

theorem wpOp_in (hnd : NoDefer ops) (hlo : ¬ LetsOut Q) {i : Nat} {K : Act → World → Prop} {a : Act} {w : World} (h : wpOp P ops Q i K a w) : wpOpIn (Fence.wide.inRound l) n P ops Q i K a w := by
  unfold wpOp at h
  unfold wpOpIn
  cases ho : ops[i]? with
  | none => rw [ho] at h; exact h
  | some o =>
    rw [ho] at h
    simp only [] at h ⊢
    split
    · rename_i hw
      rw [if_pos hw] at h
      rcases h with h | h
      · refine ⟨fun _ _ => trivial, ?_⟩
        have e : o.semAt (Fence.wide.inRound l).round a.eval = execOp a.eval o := Oper.semAt_eq _ _ _ (hnd i o ho)
        rw [e]
        exact upon_in h
      · exact absurd h.2 hlo
    · rename_i hw
      rw [if_neg hw] at h
      exact ⟨fun _ _ => trivial, h⟩

theorem wpAny_in (hnd : NoDefer ops) (hlo : ¬ LetsOut Q) : ∀ (fuel : Nat) (listed : Array Bool) (a : Act) (w : World), wpAny P md ops Q fuel listed a w → wpAnyIn (Fence.wide.inRound l) n P md ops Q fuel listed a w := by
  intro fuel
  induction fuel with
  | zero => intro listed a w h; exact h
  | succ fuel ih =>
    intro listed a w h
    exact ⟨h.1, fun i hi => wpOp_in hnd hlo (wpOp_mono (fun a' w' h' => ih _ _ _ h') (h.2 i hi))⟩

/-- The beginning of a region whose order is open, in a round. -/
theorem round_region_held {S : World → Prop} {id : Nat} {a : Act} {w : World} (hm : P.follows .mixedOrders = true) (hnd : NoDefer ops) (hlo : ¬ LetsOut Q) (hS : S w.drew)
    (h : S w.drew → wpAnyH P .any ops Q S ops.size (Array.replicate ops.size false) a w.drew) : (Code.region id ops true).wpIn (Fence.wide.inRound l) n P Q a w :=
  wpIn_region_any hm (wpAny_in hnd hlo _ _ _ _ (wpAny_of_held _ _ _ _ (h hS)))
end

/-- What an iterator's own new memory leaves. -/
theorem abides_below {β : Type} {B : Nat} {J : β → World → Prop} (hJ : AbidesFrom B J) {s : β} {W W' : World} (h : J s W) (hb : Below W.heap.size W W') : J s W' :=
  hJ s W W' none h ⟨hb.os, hb.tape, hb.output, hb.size, fun i hi _ => hb.block i hi⟩ (fun r e => by cases e)
end Go.Proofs.Ytoheoojpmndhoaa

namespace Go.Proofs.Ytoheoojpmndhoaa
set_option linter.unusedVariables false
set_option linter.unusedSimpArgs false
open Go.RowKit Go.Shelf

/-- The blocks from one on, below another one. -/
def Mid (B m : Nat) : Nat → Prop := fun b => B ≤ b ∧ b < m
/-- These blocks lie as they lay. -/
structure KeepM (B m : Nat) (W W' : World) : Prop where
  size : W.heap.size ≤ W'.heap.size
  same : ∀ k, B ≤ k → k < m → W'.heap[k]? = W.heap[k]?
theorem KeepM.refl (B m : Nat) (W : World) : KeepM B m W W := ⟨Nat.le_refl _, fun _ _ _ => rfl⟩
theorem KeepM.trans {B m : Nat} {A C D : World} (h : KeepM B m A C) (k : KeepM B m C D) : KeepM B m A D := ⟨Nat.le_trans h.size k.size, fun i h1 h2 => (k.same i h1 h2).trans (h.same i h1 h2)⟩
theorem KeepM.of_below {B m : Nat} {W W' : World} (h : Below m W W') : KeepM B m W W' := ⟨h.size, fun k _ h2 => h.block k h2⟩
theorem KeepM.more {B B' m : Nat} {W W' : World} (h : KeepM B m W W') (hB : B ≤ B') : KeepM B' m W W' := ⟨h.size, fun k h1 h2 => h.same k (by omega) h2⟩
theorem KeepM.setCell {B m : Nat} {W W' : World} (h : KeepM B m W W') {p : Addr} (hp : p.block < B ∨ m ≤ p.block) (v : Value) : KeepM B m W (W'.setCell p v) :=
  ⟨by simpa using h.size, fun k h1 h2 => (Below.heap_setCell W' p v k (by omega)).trans (h.same k h1 h2)⟩
theorem KeepM.grown {B m : Nat} {W W' W2 : World} (h : KeepM B m W W') {row : Option Nat} (hg : W'.grownBy W2 row) (hm : m ≤ W'.heap.size) (hr : ∀ g, row = some g → g < B ∨ m ≤ g) : KeepM B m W W2 :=
  ⟨Nat.le_trans h.size hg.size, fun k h1 h2 => (hg.block k (by omega) (fun e => by have := hr k e.symm; omega)).trans (h.same k h1 h2)⟩

/-- These blocks lie as they lay, wherever they are. -/
def KeepS (S : Nat → Prop) (W W' : World) : Prop := ∀ b, S b → W'.heap[b]? = W.heap[b]?
theorem KeepS.trans {S : Nat → Prop} {A C D : World} (h : KeepS S A C) (k : KeepS S C D) : KeepS S A D := fun b hb => (k b hb).trans (h b hb)
theorem KeepS.setCell {S : Nat → Prop} {W W' : World} (h : KeepS S W W') {p : Addr} (hp : ¬ S p.block) (v : Value) : KeepS S W (W'.setCell p v) :=
  fun b hb => (set_far _ (fun e => hp (e ▸ hb)) _).trans (h b hb)

theorem only_putObj {B m l : Nat} {W W' : World} (h : Only (Mid B m) W W') (hl : Mid B m l) (o : Obj) : Only (Mid B m) W (W'.putObj l o) :=
  ⟨h.os, h.tape, h.output, by simpa using h.size, fun k h1 h2 => (World.putObj_heap_other (fun e => h2 (by rw [e]; exact hl))).trans (h.block k h1 h2)⟩
theorem keep_putObj {B m l : Nat} {W W' : World} (h : KeepM B m W W') (hl : l < B) (o : Obj) : KeepM B m W (W'.putObj l o) :=
  ⟨by simpa using h.size, fun k h1 h2 => (World.putObj_heap_other (by omega)).trans (h.same k h1 h2)⟩

/-- What is said does not mind a turn of these blocks. -/
def Abide {α : Type} (B m : Nat) (J : List α → World → Prop) : Prop := ∀ s W W', J s W → Only (Mid B m) W W' → J s W'

abbrev EncT := Nat → Nat → World → List Int → Array Value → World → Prop

/-- What an iterator promises: the lists of L come, one behind the other; behind its first steps it turns no blocks but those that it had laid till then, and lays new ones. -/
def SeqC (P : Program) (g : Nat) (lb : Array Value) (S : Nat → Prop) (Enc : EncT) (L : List (List Int)) (w0 : World) : Prop :=
  ∀ (n l : Nat) (J Jx : Nat → List (List Int) → World → Prop) (W : World), Below w0.heap.size w0 W →
    (∀ m, W.heap.size ≤ m → Abide W.heap.size m (J m)) → (∀ m, W.heap.size ≤ m → Abide W.heap.size m (Jx m)) →
    (∀ W', Below W.heap.size W W' → J W'.heap.size [] W') →
    (∀ m pre x W0 W1 args, W.heap.size ≤ m → m ≤ W0.heap.size → pre ++ [x] <+: L → J m pre W0 → Only (Mid W.heap.size m) W0 W1 → Enc W.heap.size m W0 x args W1 →
      YieldAt Fence.wide (n - 1) P l args W1 fun e W' =>
        (e = .returned (.bool true) ∧ J m (pre ++ [x]) W' ∧ KeepM W.heap.size m W1 W' ∧ KeepS S W1 W') ∨ (e = .returned (.bool false) ∧ Jx m (pre ++ [x]) W' ∧ KeepM W.heap.size m W1 W')) →
    CallsIn Fence.wide n P g (#[.func (.yield l) #[] #[]] ++ lb) W fun e W' => (∃ v, e = .returned v) ∧ ((∃ m, W.heap.size ≤ m ∧ J m L W') ∨ (∃ m pre, W.heap.size ≤ m ∧ pre <+: L ∧ Jx m pre W'))

/-- How a round may be left. -/
def roundC (S : Nat → Prop) (B m : Nat) (I : Nat → List (List Int) → World → Prop) (Ix : Nat → Code → List (List Int) → World → Prop) (xs : List (List Int)) (W : World) : Exit → Act → World → Prop
  | .normal, _, W' => KeepM B m W W' ∧ KeepS S W W' ∧ I m xs W'
  | .ret, _, W' => KeepM B m W W' ∧ Ix m .ret xs W'
  | .exit id, _, W' => KeepM B m W W' ∧ Ix m (.exit id) xs W'
  | .goto t, _, W' => KeepM B m W W' ∧ Ix m (.goto t) xs W'
  | .panic _, _, _ => False
  | .outgrown, _, _ => False

theorem range_seq {P : Program} {n : Nat} {g : Operand} {ps : Array Tmp} {assign body : Code} {Q : Exit → Act → World → Prop} {a : Act} {w : World}
    {gf : Nat} {lb : Array Value} (hg : a.eval g = .func (.func gf) #[] lb) (eg : ∀ args w, (callFunc gf args).run P w = .ok (.enter gf args) w)
    {S : Nat → Prop} {Enc : EncT} {L : List (List Int)} {w0 : World} (hseq : SeqC P gf lb S Enc L w0) (hS : ∀ b, S b → b < w.heap.size) (hb0 : Below w0.heap.size w0 w)
    (hps : ∀ B m W0 x args W1, Enc B m W0 x args W1 → args.size = ps.size)
    (hput : ∀ m W0 x args W1 o, m ≤ W0.heap.size → w.heap.size + 2 ≤ m → Enc (w.heap.size + 2) m W0 x args W1 → Enc (w.heap.size + 2) m W0 x args (W1.putObj (w.heap.size + 1) o))
    (I : Nat → List (List Int) → World → Prop) (Ix : Nat → Code → List (List Int) → World → Prop)
    (hI : ∀ m, w.heap.size + 2 ≤ m → Abide w.heap.size m (I m)) (hIx : ∀ m c, w.heap.size + 2 ≤ m → Abide w.heap.size m (Ix m c))
    (h0 : ∀ W', Below w.heap.size w W' → w.heap.size + 2 ≤ W'.heap.size → I W'.heap.size [] W') (a₁ : Array Value → Act)
    (hassign : ∀ (l : Nat) (args : Array Value) (W : World) (K : Act → World → Prop), args.size = ps.size → K (a₁ args) W →
      assign.wpIn (Fence.wide.inRound l) (n - 1 - 1) P (Exit.then K (fun _ _ _ => False)) { tmps := (ps.zip args).foldl (fun t (p, v) => t.setIfInBounds p v) a.tmps, defers := [] } W)
    (hbody : ∀ (m : Nat) (pre : List (List Int)) (x : List Int) (args : Array Value) (W0 W1 : World), w.heap.size + 2 ≤ m → m ≤ W0.heap.size → pre ++ [x] <+: L → I m pre W0 → Only (Mid w.heap.size m) W0 W1 → Enc (w.heap.size + 2) m W0 x args W1 →
      body.wpIn (Fence.wide.inRound (w.heap.size + 1)) (n - 1 - 1) P (roundC S w.heap.size m I Ix (pre ++ [x]) W1) (a₁ args) W1)
    (hdone : ∀ (m : Nat) (W : World), w.heap.size + 2 ≤ m → I m L W → W.heap[w.heap.size]? = some (.deferred (some [])) → Q .normal { a with defers := { target := .collected w.heap.size, args := #[] } :: a.defers } W)
    (hstop : ∀ (m : Nat) (c : Code) (pre : List (List Int)) (W : World), w.heap.size + 2 ≤ m → pre <+: L → Ix m c pre W → W.heap[w.heap.size]? = some (.deferred (some [])) → c.wpIn Fence.wide n P Q { a with defers := { target := .collected w.heap.size, args := #[] } :: a.defers } W) :
    (Code.rangeFunc g ps assign body).wpIn Fence.wide n P Q a w := by
  refine wpIn_rangeFunc ?_
  intro fn hfn
  have hro : Fence.wide.round = none := rfl
  rw [hro]
  obtain ⟨rec, hrec⟩ : ∃ rec : LoopState → Option Code → Loop, ∀ st pe, rec st pe = { state := st, pending := pe, fn := fn, tmps := a.tmps, params := ps, assign := assign, body := body, defers := w.heap.size } := ⟨_, fun _ _ => rfl⟩
  obtain ⟨X, hX⟩ : ∃ X, (w.alloc (.deferred (some []))).alloc (.loop (rec .ready none)) = X := ⟨_, rfl⟩
  have xs : X.heap.size = w.heap.size + 2 := by rw [← hX]; simp
  have xd : X.heap[w.heap.size]? = some (.deferred (some [])) := by rw [← hX]; exact (alloc_old _ (by simp) _).trans (new_at _ _ rfl)
  have xl : X.heap[w.heap.size + 1]? = some (.loop (rec .ready none)) := by rw [← hX]; exact new_at _ _ (by simp)
  have xb : Below w.heap.size w X := by rw [← hX]; exact ((Below.refl _ _).alloc (Nat.le_refl _) _).alloc (by simp) _
  refine ⟨w.heap.size + 1, [{ target := .collected w.heap.size, args := #[] }], X, { target := .fn (.func gf) lb, args := #[.func (.yield (w.heap.size + 1)) #[] #[]] }, X, gf, #[.func (.yield (w.heap.size + 1)) #[] #[]] ++ lb, X, ?_, ?_, fun _ _ => trivial, ?_, (fun h => by cases h), ?_⟩
  · rw [← hX, hrec]; exact run_enterLoop_outer _ _ _ _ _
  · simp only [resolve, hg]; simp [go_sem]
  · simp [invoke, go_sem, eg]
  · refine (hseq (n - 1) (w.heap.size + 1)
      (fun m pre W => I m pre W ∧ W.heap[w.heap.size]? = some (.deferred (some [])) ∧ W.heap[w.heap.size + 1]? = some (.loop (rec .ready none)))
      (fun m pre W => ∃ c, Ix m c pre W ∧ W.heap[w.heap.size]? = some (.deferred (some [])) ∧ W.heap[w.heap.size + 1]? = some (.loop (rec .done (some c))))
      X (hb0.trans (xb.mono hb0.size)) ?_ ?_ ?_ ?_).mono ?_
    · rintro m hm s W W' ⟨h1, h2, h3⟩ ho
      have hk : ∀ k o, k < w.heap.size + 2 → W.heap[k]? = some o → W'.heap[k]? = some o := fun k o hk he => (ho.block k (heap_lt he) (fun hs => by have := hs.1; omega)).trans he
      exact ⟨hI m (by omega) s W W' h1 (ho.mono fun k hk => ⟨by have := hk.1; omega, hk.2⟩), hk _ _ (by omega) h2, hk _ _ (by omega) h3⟩
    · rintro m hm s W W' ⟨c, h1, h2, h3⟩ ho
      have hk : ∀ k o, k < w.heap.size + 2 → W.heap[k]? = some o → W'.heap[k]? = some o := fun k o hk he => (ho.block k (heap_lt he) (fun hs => by have := hs.1; omega)).trans he
      exact ⟨c, hIx m c (by omega) s W W' h1 (ho.mono fun k hk => ⟨by have := hk.1; omega, hk.2⟩), hk _ _ (by omega) h2, hk _ _ (by omega) h3⟩
    · intro W' hb
      have hz := hb.size
      exact ⟨h0 W' (xb.trans (hb.mono (by omega))) (by omega), (hb.block _ (by omega)).trans xd, (hb.block _ (by omega)).trans xl⟩
    · rintro m pre x W0 W1 args hm hm0 hpre ⟨i0, d0, l0⟩ ho henc
      have hk : ∀ k o, k < w.heap.size + 2 → W0.heap[k]? = some o → W1.heap[k]? = some o := fun k o hk he => (ho.block k (heap_lt he) (fun hs => by have := hs.1; omega)).trans he
      have d1 := hk _ _ (by omega) d0
      have l1 := hk _ _ (by omega) l0
      have hsz := hps _ _ _ _ _ _ henc
      have hy := run_yield (P := P) (args := args) l1 (by rw [hrec]; exact hsz)
      rw [hrec] at hy
      refine ⟨fn, _, assign, body, hy, roundIn_of_wpIn hfn (hassign _ args W1 _ hsz ?_)⟩
      have hlt := heap_lt l1
      refine ⟨_, run_beginRound l1 (by rw [hrec]), ?_⟩
      have mid : Mid w.heap.size m (w.heap.size + 1) := ⟨by omega, by omega⟩
      have ho' : Only (Mid w.heap.size m) W0 W1 := ho.mono fun k hk => ⟨by have := hk.1; omega, hk.2⟩
      rw [xs] at henc
      refine wpIn_mono (hbody m pre x args W0 _ (by omega) hm0 hpre i0 (only_putObj ho' mid _) (hput _ _ _ _ _ _ hm0 (by omega) henc)) ?_
      -- behind the round: the record is laid as the jump says
      have behind : ∀ (jump : Option Code) (W3 : World), KeepM w.heap.size m (W1.putObj (w.heap.size + 1) (.loop { rec .ready none with state := .busy })) W3 →
          (Instr.endRound (w.heap.size + 1) jump).run P W3 = .ok (.bool jump.isNone) (W3.putObj (w.heap.size + 1) (.loop (rec (if jump.isNone then .ready else .done) jump))) ∧
          (W3.putObj (w.heap.size + 1) (.loop (rec (if jump.isNone then .ready else .done) jump))).heap[w.heap.size]? = some (.deferred (some [])) ∧
          (W3.putObj (w.heap.size + 1) (.loop (rec (if jump.isNone then .ready else .done) jump))).heap[w.heap.size + 1]? = some (.loop (rec (if jump.isNone then .ready else .done) jump)) ∧
          KeepM X.heap.size m W1 (W3.putObj (w.heap.size + 1) (.loop (rec (if jump.isNone then .ready else .done) jump))) := by
        intro jump W3 hk3
        have l3 := (hk3.same (w.heap.size + 1) (by omega) (by omega)).trans (World.putObj_heap_same (o := .loop { rec .ready none with state := .busy }) hlt)
        have d3 := ((hk3.same w.heap.size (by omega) (by omega)).trans (World.putObj_heap_other (by omega))).trans d1
        have he := run_endRound (P := P) jump l3
        rw [hrec] at he
        refine ⟨?_, (World.putObj_heap_other (by omega)).trans d3, World.putObj_heap_same (heap_lt l3), ?_⟩
        · rw [hrec]; exact he
        · refine ⟨by have := hk3.size; simpa using this, fun k h1 h2 => ?_⟩
          exact (World.putObj_heap_other (by omega)).trans ((hk3.same k (by omega) h2).trans (World.putObj_heap_other (by omega)))
      rintro e a3 W3 hp
      cases e with
      | normal =>
        obtain ⟨hk3, hks, hi3⟩ := hp
        obtain ⟨hr, hd, hl, hkk⟩ := behind none W3 hk3
        exact ⟨_, _, hr, .inl ⟨rfl, ⟨hI m (by omega) _ W3 _ hi3 (only_putObj (Only.refl _ _) mid _), hd, hl⟩, hkk, fun b hb => (World.putObj_heap_other (by have := hS b hb; omega)).trans ((hks b hb).trans (World.putObj_heap_other (by have := hS b hb; omega)))⟩⟩
      | ret =>
        obtain ⟨hk3, hi3⟩ := hp
        obtain ⟨hr, hd, hl, hkk⟩ := behind (some .ret) W3 hk3
        exact ⟨_, _, hr, .inr ⟨rfl, ⟨.ret, hIx m _ (by omega) _ W3 _ hi3 (only_putObj (Only.refl _ _) mid _), hd, hl⟩, hkk⟩⟩
      | exit id =>
        obtain ⟨hk3, hi3⟩ := hp
        obtain ⟨hr, hd, hl, hkk⟩ := behind (some (.exit id)) W3 hk3
        exact ⟨_, _, hr, .inr ⟨rfl, ⟨.exit id, hIx m _ (by omega) _ W3 _ hi3 (only_putObj (Only.refl _ _) mid _), hd, hl⟩, hkk⟩⟩
      | goto t =>
        obtain ⟨hk3, hi3⟩ := hp
        obtain ⟨hr, hd, hl, hkk⟩ := behind (some (.goto t)) W3 hk3
        exact ⟨_, _, hr, .inr ⟨rfl, ⟨.goto t, hIx m _ (by omega) _ W3 _ hi3 (only_putObj (Only.refl _ _) mid _), hd, hl⟩, hkk⟩⟩
      | panic ch => exact hp.elim
      | outgrown => exact hp.elim
    · rintro e W2 ⟨⟨v, rfl⟩, ⟨m, hm, hi, hd, hl⟩ | ⟨m, pre, hm, hpre, c, hi, hd, hl⟩⟩
      · have he := run_endLoop (P := P) hl (by rw [hrec]; intro h; cases h)
        rw [hrec] at he
        refine ⟨none, _, he, hdone m _ (by omega) (hI m (by omega) _ W2 _ hi (only_putObj (Only.refl _ _) ⟨by omega, by omega⟩ _)) ((World.putObj_heap_other (by omega)).trans hd)⟩
      · have he := run_endLoop (P := P) hl (by rw [hrec]; intro h; cases h)
        rw [hrec] at he
        refine ⟨some c, _, he, hstop m c pre _ (by omega) hpre (hIx m c (by omega) _ W2 _ hi (only_putObj (Only.refl _ _) ⟨by omega, by omega⟩ _)) ((World.putObj_heap_other (by omega)).trans hd)⟩
end Go.Proofs.Ytoheoojpmndhoaa

namespace Go.Proofs.Ytoheoojpmndhoaa
set_option linter.unusedVariables false
open Go.RowKit Go.Shelf

/-- No operation defers a call, to decide. -/
def noDefI (ops : Array Oper) : Bool := ops.all fun o => match o.op with
  | .defer _ => false
  | _ => true
theorem noDefI_spec {ops : Array Oper} (h : noDefI ops = true) : NoDefer ops := by
  intro i o ho c e
  rw [noDefI, Array.all_eq_true] at h
  obtain ⟨hi, hv⟩ := Array.getElem?_eq_some_iff.1 ho
  have := h i hi
  rw [hv, e] at this
  cases this
/-- A step that hands something on to the loop around this one. -/
theorem yield_stepI {P : Program} {n n' l l' : Nat} {args : Array Value} {W : World} {R : Ending → World → Prop} {o : Oper} {a : Act} {K : Act → World → Prop} {Q : Exit → Act → World → Prop} (hy : YieldAt Fence.wide n' P l' args W R)
    (h : ∀ e w', R e w' → (match e with | .returned v => K (a.put o.dst v) w' | .panicked chain => Q (.panic chain) a w' | .outgrown => LetsOut Q)) : o.uponIn (Fence.wide.inRound l) n P a K Q (Sem.run P (Instr.yield l' args) W) := by
  obtain ⟨fn, tmps, assign, body, hy, hR⟩ := hy
  rw [show Sem.run P (Instr.yield l' args) W = _ from hy]
  refine ⟨fun hd => (by cases hd), ⟨trivial, fun c cs _ => ?_⟩⟩
  obtain ⟨e, w', hr, s⟩ := hR.2 c cs (fun d hd => by cases hd)
  exact ⟨e, w', by have := h e w' hr; cases e <;> exact this, s⟩

section
variable {P : Program} {ops : Array Oper} {Q : Exit → Act → World → Prop} {md : Region.Mode} {l n : Nat}

/-- Each of these operations comes up next; behind it the rest goes in whatever order. -/
def ReadyI (P : Program) (md : Region.Mode) (ops : Array Oper) (Q : Exit → Act → World → Prop) (l n fuel : Nat) (listed : Array Bool) (a : Act) (w : World) (rs : List Nat) : Prop :=
  ∀ i ∈ rs, wpOpIn (Fence.wide.inRound l) n P ops Q i (wpAnyIn (Fence.wide.inRound l) n P md ops Q fuel (listed.setIfInBounds i true)) a w
theorem ReadyI.nil {fuel : Nat} {listed : Array Bool} {a : Act} {w : World} : ReadyI P md ops Q l n fuel listed a w [] := fun _ h => by cases h
theorem ReadyI.cons {fuel : Nat} {listed : Array Bool} {a : Act} {w : World} {i : Nat} {o : Oper} {rs : List Nat} (hnd : NoDefer ops) (hlo : ¬ LetsOut Q) (ho : ops[i]? = some o)
    (h : ∀ K' : Act → World → Prop, Shut (∀ a w, wpAnyIn (Fence.wide.inRound l) n P md ops Q fuel (listed.setIfInBounds i true) a w → K' a w) → if Region.wanted o (yielded ops a.tmps) = true then Oper.wp P o a w K' Q else K' (a.put o.dst undef) w)
    (hs : ReadyI P md ops Q l n fuel listed a w rs) : ReadyI P md ops Q l n fuel listed a w (i :: rs) := fun j hj => by
  rcases List.mem_cons.1 hj with rfl | hj
  · exact wpOp_in hnd hlo (wpOp_step ho (fun K' hK => h K' hK))
  · exact hs j hj
theorem ReadyI.yield {fuel : Nat} {listed : Array Bool} {a : Act} {w : World} {i : Nat} {o : Oper} {rs : List Nat} (hnd : NoDefer ops) (ho : ops[i]? = some o) (hw : Region.wanted o (yielded ops a.tmps) = true)
    {n' l' : Nat} {args : Array Value} {R : Ending → World → Prop} (hsem : (execOp a.eval o).run P w = (Instr.yield l' args).run P w) (hy : YieldAt Fence.wide n' P l' args w R)
    (h : ∀ K' : Act → World → Prop, Shut (∀ a w, wpAnyIn (Fence.wide.inRound l) n P md ops Q fuel (listed.setIfInBounds i true) a w → K' a w) → ∀ e w', R e w' → (match e with | .returned v => K' (a.put o.dst v) w' | .panicked chain => Q (.panic chain) a w' | .outgrown => LetsOut Q))
    (hs : ReadyI P md ops Q l n fuel listed a w rs) : ReadyI P md ops Q l n fuel listed a w (i :: rs) := fun j hj => by
  rcases List.mem_cons.1 hj with rfl | hj
  · unfold wpOpIn
    rw [ho]
    show if Region.wanted o (yielded ops a.tmps) = true then _ else _
    rw [if_pos hw]
    refine ⟨fun _ _ => trivial, ?_⟩
    rw [Oper.semAt_eq _ _ _ (hnd _ o ho), hsem]
    exact yield_stepI hy (h _ (fun a w h => h))
  · exact hs j hj
theorem anyI_ready {rs : List Nat} {fuel : Nat} {listed : Array Bool} {a : Act} {w : World} (hr : Region.ready md ops listed = rs) (hne : rs ≠ [])
    (h : ReadyI P md ops Q l n fuel listed a w rs) : wpAnyIn (Fence.wide.inRound l) n P md ops Q (fuel + 1) listed a w := ⟨fun h0 => absurd (hr ▸ h0) hne, hr ▸ h⟩
theorem anyI_done {listed : Array Bool} {a : Act} {w : World} (hr : Region.ready md ops listed = []) (h : Q .normal a w) : ∀ fuel, wpAnyIn (Fence.wide.inRound l) n P md ops Q fuel listed a w
  | 0 => ⟨hr, h⟩
  | _ + 1 => ⟨fun _ => h, by rw [hr]; simp⟩
end
end Go.Proofs.Ytoheoojpmndhoaa
