import Derived.Test.YtpnamkpoapcgeaaDoorProg
import Derived.RangeFuncFrom
namespace Go.Proofs.YtpnamkpoapcgeaaDoor
open Go.RowKit
set_option linter.unusedVariables false
set_option linter.unusedSimpArgs false

/-- All blocks from B on, but the one that is named, lie as they lay. -/
structure Apart (B : Nat) (r : Option Nat) (W W' : World) : Prop where
  size : W.heap.size ≤ W'.heap.size
  same : ∀ k, B ≤ k → k < W.heap.size → r ≠ some k → W'.heap[k]? = W.heap[k]?

/-- What is said of a world, and of one block of it that it calls its own, bears new blocks, and the turn of a block from B on that is not its own. -/
def Bears {α : Type} (B : Nat) (J : Option Nat → List α → World → Prop) : Prop :=
  ∀ r s W W' row, J r s W → W.grownBy W' row → (∀ b, row = some b → B ≤ b ∧ r ≠ some b) → J r s W'

/-- Its own block, if it has one, is a row of that type. -/
def Tagged {α : Type} (t : TypeId) (J : Option Nat → List α → World → Prop) : Prop :=
  ∀ r s W, J r s W → ∀ k, r = some k → ∃ cur, W.heap[k]? = some (.cells cur t (0, 0))
theorem Bears.own {α : Type} {B : Nat} {t : TypeId} {J : Option Nat → List α → World → Prop} (h : Bears B J) (ht : Tagged t J) (r : Option Nat) : OwnFrom B (J r) := by
  intro s W W' row hs hg hr
  refine h r s W W' row hs hg fun b e => ?_
  obtain ⟨hb, o, ho, hc⟩ := hr b e
  refine ⟨hb, fun e' => ?_⟩
  obtain ⟨cur, hk⟩ := ht r s W hs b e'
  rw [ho] at hk
  cases hk
  cases hc

/-- The contract of an iterator that turns blocks of its own (cells, too) between two rounds. -/
def Tells {α : Type} (F : Fence) (n : Nat) (P : Program) (g : Nat) (lb : Array Value) (enc : α → Value) (S Sp : List α → Prop) (N : Nat) (t : TypeId) (w : World) : Prop :=
  ∀ (l : Nat) (J : Option Nat → List α → World → Prop) (Jx : List α → World → Prop) (W : World), Below w.heap.size w W → Bears W.heap.size J → Tagged t J →
    (∀ r pre x W1, J r pre W1 → pre.length < N → YieldAt F (n - 1) P l #[enc x] W1 fun e W' =>
      (e = .returned (.bool true) ∧ Apart W.heap.size r W1 W' ∧ ∃ r', J r' (pre ++ [x]) W') ∨ (e = .returned (.bool false) ∧ Jx (pre ++ [x]) W')) →
    J none [] W →
    CallsIn F n P g (#[.func (.yield l) #[] #[]] ++ lb) W fun e W' => (∃ v, e = .returned v) ∧ ((∃ r xs, S xs ∧ J r xs W') ∨ ∃ pre, Sp pre ∧ Jx pre W')

/-- How a round's body may end: it goes on, or it returns. -/
def bodyEnds {α : Type} (B : Nat) (r : Option Nat) (I : Option Nat → List α → World → Prop) (Ix : List α → World → Prop) (xs : List α) (W : World) : Exit → Act → World → Prop
  | .normal, _, W' => KeepsOthers W W' ∧ Apart B r W W' ∧ ∃ r', I r' xs W'
  | .ret, _, W' => KeepsOthers W W' ∧ Ix xs W'
  | _, _, _ => False

theorem Apart.put {B L : Nat} {r : Option Nat} {W W' : World} (h : Apart B r W W') (hL : L < B) (o : Obj) : Apart B r W (W'.putObj L o) :=
  ⟨by simpa using h.size, fun k h1 h2 h3 => (World.putObj_heap_other (by omega)).trans (h.same k h1 h2 h3)⟩
theorem Apart.ofPut {B L : Nat} {r : Option Nat} {W W' : World} {o : Obj} (h : Apart B r (W.putObj L o) W') (hL : L < B) : Apart B r W W' :=
  ⟨by simpa using h.size, fun k h1 h2 h3 => (h.same k h1 (by simpa using h2) h3).trans (World.putObj_heap_other (by omega))⟩

section
variable {F : Fence} {n : Nat} {P : Program}

/-- A range over such an iterator, whose body goes on or returns. -/
theorem range_tells {α : Type} {g : Operand} {ps : Array Tmp} {assign body : Code} {Q : Exit → Act → World → Prop} {a : Act} {w : World}
    (hro : F.round = none) (h1 : 1 ≤ n) {gf : Nat} {lb : Array Value} (hg : a.eval g = .func (.func gf) #[] lb) (hFg : F.fn gf) (eg : ∀ args w, (callFunc gf args).run P w = .ok (.enter gf args) w)
    {enc : α → Value} {S Sp : List α → Prop} {N : Nat} {t : TypeId} {w0 : World} (hseq : Tells F (n - 1) P gf lb enc S Sp N t w0) (hb0 : Below w0.heap.size w0 w) (hps : ps.size = 1)
    (I : Option Nat → List α → World → Prop) (Ix : List α → World → Prop) (hI : Bears w.heap.size I) (ht : Tagged t I) (hx : OwnFrom w.heap.size Ix) (h0 : I none [] w) (a₁ : α → Nat → Act) (ob : α → Obj)
    (hassign : ∀ (l : Nat) (x : α) (W : World) (K : Act → World → Prop), K (a₁ x W.heap.size) (W.alloc (ob x)) →
      assign.wpIn (F.inRound l) (n - 1 - 1) P (Exit.then K (fun _ _ _ => False)) { tmps := (ps.zip #[enc x]).foldl (fun t (p, v) => t.setIfInBounds p v) a.tmps, defers := [] } W)
    (hbody : ∀ (l : Nat) (r : Option Nat) (pre : List α) (x : α) (b : Nat) (W : World), I r pre W → W.heap[b]? = some (ob x) → w.heap.size + 2 ≤ b → r ≠ some b → pre.length < N → body.wpIn (F.inRound l) (n - 1 - 1) P (bodyEnds (w.heap.size + 2) r I Ix (pre ++ [x]) W) (a₁ x b) W)
    (hdone : ∀ (D : Nat) (r : Option Nat) (xs : List α) (W : World), w.heap.size ≤ D → S xs → I r xs W → W.heap[D]? = some (.deferred (some [])) → Q .normal { a with defers := { target := .collected D, args := #[] } :: a.defers } W)
    (hstop : ∀ (D : Nat) (pre : List α) (W : World), w.heap.size ≤ D → Sp pre → Ix pre W → W.heap[D]? = some (.deferred (some [])) → Code.ret.wpIn F n P Q { a with defers := { target := .collected D, args := #[] } :: a.defers } W) :
    (Code.rangeFunc g ps assign body).wpIn F n P Q a w := by
  have hO := hI.own ht
  apply wpIn_rangeFunc
  intro me hme
  rw [hro]
  -- the two blocks that the loop lays: the deferred calls' (D) and its record (L)
  generalize hR : (fun (st : LoopState) (pe : Option Code) => ({ state := st, pending := pe, fn := me, tmps := a.tmps, params := ps, assign, body, defers := w.heap.size } : Loop)) = R
  have hRf : ∀ st pe, R st pe = { state := st, pending := pe, fn := me, tmps := a.tmps, params := ps, assign, body, defers := w.heap.size } := fun st pe => by rw [← hR]
  generalize hV : (w.alloc (.deferred (some []))).alloc (.loop (R .ready none)) = V
  have hVs : V.heap.size = w.heap.size + 2 := by rw [← hV]; simp
  have hVb : Below w.heap.size w V := by rw [← hV]; exact ((Below.refl _ w).alloc (Nat.le_refl _) _).alloc (by simp) _
  have hVL : V.heap[w.heap.size + 1]? = some (.loop (R .ready none)) := by
    rw [← hV]
    simpa using World.alloc_heap_new (w.alloc (.deferred (some []))) (.loop (R .ready none))
  have hVD : V.heap[w.heap.size]? = some (.deferred (some [])) := by
    rw [← hV, Below.heap_alloc _ _ _ (by simp)]
    exact World.alloc_heap_new w _
  have hVI : I none [] V := by rw [← hV]; exact (hO none).alloc _ ((hO none).alloc _ h0)
  refine ⟨w.heap.size + 1, [⟨.collected w.heap.size, #[]⟩], V, ⟨.fn (.func gf) lb, #[.func (.yield (w.heap.size + 1)) #[] #[]]⟩, V, gf, #[.func (.yield (w.heap.size + 1)) #[] #[]] ++ lb, V, ?_, ?_, ?_, ?_, fun _ => h1, ?_⟩
  · rw [← hV, ← hR]; exact run_enterLoop_outer _ _ _ _ _
  · simp only [resolve, hg]
    simp [go_sem]
  · intro f' hf'
    simp [Target.leads] at hf'
    exact hf' ▸ hFg
  · simp [invoke, go_sem, eg]
  have call := hseq (w.heap.size + 1)
    (fun r pre W => I r pre W ∧ W.heap[w.heap.size + 1]? = some (.loop (R .ready none)) ∧ W.heap[w.heap.size]? = some (.deferred (some [])) ∧ w.heap.size + 2 ≤ W.heap.size)
    (fun pre W => Ix pre W ∧ W.heap[w.heap.size + 1]? = some (.loop (R .done (some .ret))) ∧ W.heap[w.heap.size]? = some (.deferred (some [])))
    V (hb0.trans (hVb.mono hb0.size)) ?bears (fun r s W h => ht r s W h.1) ?round ⟨hVI, hVL, hVD, by omega⟩
  case bears =>
    rintro r s A A' row ⟨hi, hl, hd, hs⟩ hg' hrow
    have keep : ∀ k, k < w.heap.size + 2 → A'.heap[k]? = A.heap[k]? := fun k hk => hg'.block k (by omega) (fun e => by have := (hrow k e.symm).1; omega)
    exact ⟨hI r s A A' row hi hg' (fun b e => ⟨by have := (hrow b e).1; omega, (hrow b e).2⟩), (keep _ (by omega)).trans hl, (keep _ (by omega)).trans hd, Nat.le_trans hs hg'.size⟩
  case round =>
    rintro r pre x W ⟨hi, hl, hd, hs⟩ hlen
    have hy := run_yield (P := P) (args := #[enc x]) hl (by rw [hRf]; simp [hps])
    rw [hRf] at hy
    have r0 : r ≠ some W.heap.size := fun e => by
      obtain ⟨cur, hk⟩ := ht r pre W hi _ e
      have := (Array.getElem?_eq_some_iff.1 hk).1
      omega
    -- the loop's variable lies in a new block
    generalize hU : W.alloc (ob x) = U
    have hUs : U.heap.size = W.heap.size + 1 := by rw [← hU]; simp
    have hUo : ∀ k, k < W.heap.size → U.heap[k]? = W.heap[k]? := fun k hk => by rw [← hU]; exact Below.heap_alloc _ _ _ hk
    have hUb : U.heap[W.heap.size]? = some (ob x) := by rw [← hU]; exact World.alloc_heap_new _ _
    have hi' : I r pre U := by rw [← hU]; exact (hO r).alloc _ hi
    have hl' := (hUo _ (by omega)).trans hl
    have hd' := (hUo _ (by omega)).trans hd
    refine ⟨me, _, assign, body, hy, roundIn_of_wpIn hme (hassign _ x W _ ⟨_, run_beginRound (w := W.alloc (ob x)) (by rw [hU]; exact hl') (by rw [hRf]), ?_⟩)⟩
    rw [hU]
    have back : ∀ {W3 : World}, Apart (w.heap.size + 2) r U W3 → Apart (w.heap.size + 2) r W W3 := fun h => ⟨by have := h.size; omega, fun k h1 h2 h3 => (h.same k h1 (by omega) h3).trans (hUo k h2)⟩
    generalize hsW : W.heap.size = b at *
    clear hU hi hl hd hUo hsW hy
    replace hi := hi'
    replace hl := hl'
    replace hd := hd'
    have hsb := hs
    replace hs : w.heap.size + 2 ≤ U.heap.size := by omega
    clear hi' hl' hd'
    generalize hB : ({ R .ready none with state := .busy } : Loop) = rb
    have i2 : I r pre (U.putObj (w.heap.size + 1) (.loop rb)) := (hO r).putObj _ hi (by omega) hl rfl
    have l2 : (U.putObj (w.heap.size + 1) (.loop rb)).heap[w.heap.size + 1]? = some (.loop rb) := World.putObj_heap_same (by omega)
    have d2 : (U.putObj (w.heap.size + 1) (.loop rb)).heap[w.heap.size]? = some (.deferred (some [])) := (World.putObj_heap_other (by omega)).trans hd
    refine wpIn_mono (hbody _ r pre x b _ i2 ((World.putObj_heap_other (by omega)).trans hUb) (by omega) r0 hlen) ?_
    have tail : ∀ (jump : Option Code) (W3 : World), KeepsOthers (U.putObj (w.heap.size + 1) (.loop rb)) W3 → W3.heap[w.heap.size + 1]? = some (.loop rb) ∧ W3.heap[w.heap.size]? = some (.deferred (some [])) ∧ w.heap.size + 2 ≤ W3.heap.size ∧
        (Instr.endRound (w.heap.size + 1) jump).run P W3 = .ok (.bool jump.isNone) (W3.putObj (w.heap.size + 1) (.loop (R (if jump.isNone then .ready else .done) jump))) := by
      intro jump W3 hk
      have l3 := hk.same _ _ l2 rfl
      refine ⟨l3, hk.same _ _ d2 rfl, Nat.le_trans hs (by simpa using hk.size), ?_⟩
      have e := run_endRound (P := P) jump l3
      rw [← hB] at e
      rw [hRf] at e ⊢
      exact e
    intro e a3 W3 post
    cases e with
    | normal =>
      obtain ⟨hk, hap, r', hi3⟩ := post
      obtain ⟨l3, d3, s3, run⟩ := tail none W3 hk
      refine ⟨_, _, run, .inl ⟨rfl, ?_, r', ⟨(hO r').putObj _ hi3 (by omega) l3 rfl, World.putObj_heap_same (by omega), (World.putObj_heap_other (by omega)).trans d3, by simpa using s3⟩⟩⟩
      rw [hVs]
      exact (back (hap.ofPut (by omega))).put (by omega) _
    | ret =>
      obtain ⟨hk, hi3⟩ := post
      obtain ⟨l3, d3, s3, run⟩ := tail (some .ret) W3 hk
      exact ⟨_, _, run, .inr ⟨rfl, hx.putObj _ hi3 (by omega) l3 rfl, World.putObj_heap_same (by omega), (World.putObj_heap_other (by omega)).trans d3⟩⟩
    | exit _ => exact post.elim
    | goto _ => exact post.elim
    | panic _ => exact post.elim
    | outgrown => exact post.elim
  refine call.mono ?_
  rintro e W2 ⟨⟨v, rfl⟩, ⟨r, xs, hS, hi, hl, hd, hs⟩ | ⟨pre, hSp, hi, hl, hd⟩⟩
  · have e := run_endLoop (P := P) hl (by rw [hRf]; simp)
    rw [hRf] at e
    exact ⟨none, _, e, hdone _ r xs _ (Nat.le_refl _) hS ((hO r).putObj _ hi (by omega) hl rfl) ((World.putObj_heap_other (by omega)).trans hd)⟩
  · have e := run_endLoop (P := P) hl (by rw [hRf]; simp)
    rw [hRf] at e
    exact ⟨some .ret, _, e, hstop _ pre _ (Nat.le_refl _) hSp (hx.putObj _ hi (by omega) hl rfl) ((World.putObj_heap_other (by omega)).trans hd)⟩
end
end Go.Proofs.YtpnamkpoapcgeaaDoor
