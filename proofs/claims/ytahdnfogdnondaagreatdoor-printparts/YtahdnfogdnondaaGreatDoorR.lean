import Derived.Test.YtahdnfogdnondaaGreatDoorProg
import Derived.Test.YtahdnfogdnondaaGreatDoorPb
import Derived.RangeFuncFrom
import Derived.Deep.QuietTactic
namespace Go.Proofs.YtahdnfogdnondaaGreatDoor
open Go.RowKit
set_option linter.unusedVariables false
set_option linter.unusedSimpArgs false

theorem grown_drewN (w : World) (n : Nat) (row : Option Nat) : w.grownBy (w.drewN n) row := ⟨rfl, rfl, rfl, Nat.le_refl _, fun _ _ _ => rfl⟩
theorem grown_of_below {w w1 : World} {r : Option Nat} (hb : Below w.heap.size w w1) : w.grownBy w1 r := ⟨hb.os, hb.tape, hb.output, hb.size, fun k hk _ => hb.block k hk⟩
theorem grown_trans {w w1 w2 : World} {r : Option Nat} (h : w.grownBy w1 r) (h' : w1.grownBy w2 r) : w.grownBy w2 r :=
  ⟨h'.os.trans h.os, h'.tape.trans h.tape, h'.output.trans h.output, Nat.le_trans h.size h'.size, fun k hk hne => (h'.block k (Nat.lt_of_lt_of_le hk h.size) hne).trans (h.block k hk hne)⟩
theorem grown_set {w w1 : World} {g : Nat} (h : w.grownBy w1 (some g)) (q : Nat) (u : Value) : w.grownBy (w1.setCell ⟨g, q, none⟩ u) (some g) :=
  ⟨h.os, h.tape, h.output, by simpa using h.size, fun k hk hr => (Below.heap_setCell w1 ⟨g, q, none⟩ u k (by simpa using hr)).trans (h.block k hk hr)⟩
theorem grown_refl (w : World) (r : Option Nat) : w.grownBy w r := ⟨rfl, rfl, rfl, Nat.le_refl _, fun _ _ _ => rfl⟩
/-- All blocks from B on lie as they lay. -/
structure Apart (B : Nat) (W W' : World) : Prop where
  size : W.heap.size ≤ W'.heap.size
  same : ∀ k, B ≤ k → k < W.heap.size → W'.heap[k]? = W.heap[k]?
/-- What is said of a world bears new blocks, and the turn of a block from B on. -/
def Bears {α : Type} (B : Nat) (J : α → World → Prop) : Prop :=
  ∀ s W W' row, J s W → W.grownBy W' row → (∀ b, row = some b → B ≤ b) → J s W'
theorem Bears.own {α : Type} {B : Nat} {J : α → World → Prop} (h : Bears B J) : OwnFrom B J := fun s W W' row hs hg hr => h s W W' row hs hg fun b e => (hr b e).1
theorem Bears.mono {α : Type} {B B' : Nat} {J : α → World → Prop} (h : Bears B J) (hB : B ≤ B') : Bears B' J := fun s W W' row hs hg hr => h s W W' row hs hg fun b e => Nat.le_trans hB (hr b e)
/-- The contract of the walk that tells a tree's children: it goes on as long as each is the next number. -/
def Tells (F : Fence) (n : Nat) (P : Program) (g : Nat) (lb : Array Value) (T : List Nd) (K : World → Prop) (w : World) : Prop :=
  ∀ (l : Nat) (J : Nat → World → Prop) (Jx : Nat × Nat → World → Prop) (W : World), Below w.heap.size w W → Bears W.heap.size J → (∀ i W1, J i W1 → K W1) →
    (∀ i p c s s' W1, J i W1 → stAt T i = some s → nxt T s = some ((p, c), s') → YieldAt F (n - 1) P l #[.int .i64 (p : Int), .int .i64 c] W1 fun e W' =>
      (e = .returned (.bool true) ∧ Apart W.heap.size W1 W' ∧ J (i + 1) W' ∧ c = ((i + 1 : Nat) : Int) ∧ i + 1 < T.length) ∨ (e = .returned (.bool false) ∧ Jx (i, p) W')) →
    J 0 W →
    CallsIn F n P g (#[.func (.yield l) #[] #[]] ++ lb) W fun e W' => (∃ v, e = .returned v) ∧ ((∃ i s, stAt T i = some s ∧ nxt T s = none ∧ J i W') ∨ ∃ x, Jx x W')

/-- How a round's body may end: it goes on, or it returns. -/
def bodyEnds (B : Nat) (T : List Nd) (I : Nat → World → Prop) (Ix : Nat × Nat → World → Prop) (i p : Nat) (c : Int) (W : World) : Exit → Act → World → Prop
  | .normal, _, W' => KeepsOthers W W' ∧ Apart B W W' ∧ I (i + 1) W' ∧ c = ((i + 1 : Nat) : Int) ∧ i + 1 < T.length
  | .ret, _, W' => KeepsOthers W W' ∧ Ix (i, p) W'
  | _, _, _ => False

theorem Apart.put {B L : Nat} {W W' : World} (h : Apart B W W') (hL : L < B) (o : Obj) : Apart B W (W'.putObj L o) :=
  ⟨by simpa using h.size, fun k h1 h2 => (World.putObj_heap_other (by omega)).trans (h.same k h1 h2)⟩
theorem Apart.ofPut {B L : Nat} {W W' : World} {o : Obj} (h : Apart B (W.putObj L o) W') (hL : L < B) : Apart B W W' :=
  ⟨by simpa using h.size, fun k h1 h2 => (h.same k h1 (by simpa using h2)).trans (World.putObj_heap_other (by omega))⟩

section
variable {F : Fence} {n : Nat} {P : Program}

/-- A range over such a walk, whose body goes on or returns. -/
theorem range_tells {T : List Nd} {g : Operand} {ps : Array Tmp} {assign body : Code} {Q : Exit → Act → World → Prop} {a : Act} {w : World}
    (hro : F.round = none) (h1 : 1 ≤ n) {gf : Nat} {lb : Array Value} (hg : a.eval g = .func (.func gf) #[] lb) (hFg : F.fn gf) (eg : ∀ args w, (callFunc gf args).run P w = .ok (.enter gf args) w)
    {K : World → Prop} {w0 : World} (hseq : Tells F (n - 1) P gf lb T K w0) (hb0 : Below w0.heap.size w0 w) (hps : ps.size = 2)
    (I : Nat → World → Prop) (Ix : Nat × Nat → World → Prop) (hI : Bears w.heap.size I) (hIK : ∀ i W, I i W → K W) (hx : OwnFrom w.heap.size Ix) (h0 : I 0 w) (a₁ : Nat → Int → Act)
    (hassign : ∀ (l : Nat) (p : Nat) (c : Int) (W : World) (K : Act → World → Prop), K (a₁ p c) W →
      assign.wpIn (F.inRound l) (n - 1 - 1) P (Exit.then K (fun _ _ _ => False)) { tmps := (ps.zip #[.int .i64 (p : Int), .int .i64 c]).foldl (fun t (p, v) => t.setIfInBounds p v) a.tmps, defers := [] } W)
    (hbody : ∀ (l : Nat) (i p : Nat) (c : Int) (s s' : List (Nat × Nat)) (W : World), I i W → stAt T i = some s → nxt T s = some ((p, c), s') → body.wpIn (F.inRound l) (n - 1 - 1) P (bodyEnds (w.heap.size + 2) T I Ix i p c W) (a₁ p c) W)
    (hdone : ∀ (D : Nat) (i : Nat) (s : List (Nat × Nat)) (W : World), w.heap.size ≤ D → stAt T i = some s → nxt T s = none → I i W → W.heap[D]? = some (.deferred (some [])) → Q .normal { a with defers := { target := .collected D, args := #[] } :: a.defers } W)
    (hstop : ∀ (D : Nat) (x : Nat × Nat) (W : World), w.heap.size ≤ D → Ix x W → W.heap[D]? = some (.deferred (some [])) → Code.ret.wpIn F n P Q { a with defers := { target := .collected D, args := #[] } :: a.defers } W) :
    (Code.rangeFunc g ps assign body).wpIn F n P Q a w := by
  have hO := hI.own
  apply wpIn_rangeFunc
  intro me hme
  rw [hro]
  generalize hR : (fun (st : LoopState) (pe : Option Code) => ({ state := st, pending := pe, fn := me, tmps := a.tmps, params := ps, assign, body, defers := w.heap.size } : Loop)) = R
  have hRf : ∀ st pe, R st pe = { state := st, pending := pe, fn := me, tmps := a.tmps, params := ps, assign, body, defers := w.heap.size } := fun st pe => by rw [← hR]
  generalize hV : (w.alloc (.deferred (some []))).alloc (.loop (R .ready none)) = V
  have hVs : V.heap.size = w.heap.size + 2 := by rw [← hV]; simp
  have hVb : Below w.heap.size w V := by rw [← hV]; exact ((Below.refl _ w).alloc (Nat.le_refl _) _).alloc (by simp) _
  have hVL : V.heap[w.heap.size + 1]? = some (.loop (R .ready none)) := by
    rw [← hV]
    simpa using World.alloc_heap_new (w.alloc (.deferred (some []))) (.loop (R .ready none))
  have hVD : V.heap[w.heap.size]? = some (.deferred (some [])) := by
    rw [← hV, Below.heap_alloc _ _ _ (by simp)]
    exact World.alloc_heap_new w _
  have hVI : I 0 V := by rw [← hV]; exact hO.alloc _ (hO.alloc _ h0)
  refine ⟨w.heap.size + 1, [⟨.collected w.heap.size, #[]⟩], V, ⟨.fn (.func gf) lb, #[.func (.yield (w.heap.size + 1)) #[] #[]]⟩, V, gf, #[.func (.yield (w.heap.size + 1)) #[] #[]] ++ lb, V, ?_, ?_, ?_, ?_, fun _ => h1, ?_⟩
  · rw [← hV, ← hR]; exact run_enterLoop_outer _ _ _ _ _
  · simp only [resolve, hg]
    simp [go_sem]
  · intro f' hf'
    simp [Target.leads] at hf'
    exact hf' ▸ hFg
  · simp [invoke, go_sem, eg]
  have call := hseq (w.heap.size + 1)
    (fun i W => I i W ∧ W.heap[w.heap.size + 1]? = some (.loop (R .ready none)) ∧ W.heap[w.heap.size]? = some (.deferred (some [])) ∧ w.heap.size + 2 ≤ W.heap.size)
    (fun x W => Ix x W ∧ W.heap[w.heap.size + 1]? = some (.loop (R .done (some .ret))) ∧ W.heap[w.heap.size]? = some (.deferred (some [])))
    V (hb0.trans (hVb.mono hb0.size)) ?bears (fun i W1 h => hIK i W1 h.1) ?round ⟨hVI, hVL, hVD, by omega⟩
  case bears =>
    rintro s A A' row ⟨hi, hl, hd, hs⟩ hg' hrow
    have keep : ∀ k, k < w.heap.size + 2 → A'.heap[k]? = A.heap[k]? := fun k hk => hg'.block k (by omega) (fun e => by have := hrow k e.symm; omega)
    exact ⟨hI s A A' row hi hg' (fun b e => by have := hrow b e; omega), (keep _ (by omega)).trans hl, (keep _ (by omega)).trans hd, Nat.le_trans hs hg'.size⟩
  case round =>
    rintro i p c s s' U ⟨hi, hl, hd, hs⟩ hst hnx
    have hy := run_yield (P := P) (args := #[.int .i64 (p : Int), .int .i64 c]) hl (by rw [hRf]; simp [hps])
    rw [hRf] at hy
    refine ⟨me, _, assign, body, hy, roundIn_of_wpIn hme (hassign _ p c U _ ⟨_, run_beginRound (w := U) hl (by rw [hRf]), ?_⟩)⟩
    clear hy
    generalize hB : ({ R .ready none with state := .busy } : Loop) = rb
    have i2 : I i (U.putObj (w.heap.size + 1) (.loop rb)) := hO.putObj _ hi (by omega) hl rfl
    have l2 : (U.putObj (w.heap.size + 1) (.loop rb)).heap[w.heap.size + 1]? = some (.loop rb) := World.putObj_heap_same (by omega)
    have d2 : (U.putObj (w.heap.size + 1) (.loop rb)).heap[w.heap.size]? = some (.deferred (some [])) := (World.putObj_heap_other (by omega)).trans hd
    refine wpIn_mono (hbody _ i p c s s' _ i2 hst hnx) ?_
    have tail : ∀ (jump : Option Code) (W3 : World), KeepsOthers (U.putObj (w.heap.size + 1) (.loop rb)) W3 → W3.heap[w.heap.size + 1]? = some (.loop rb) ∧ W3.heap[w.heap.size]? = some (.deferred (some [])) ∧ w.heap.size + 2 ≤ W3.heap.size ∧
        (Instr.endRound (w.heap.size + 1) jump).run P W3 = .ok (.bool jump.isNone) (W3.putObj (w.heap.size + 1) (.loop (R (if jump.isNone then .ready else .done) jump))) := by
      intro jump W3 hk
      have l3 := hk.same _ _ l2 rfl
      refine ⟨l3, hk.same _ _ d2 rfl, Nat.le_trans hs (by simpa using hk.size), ?_⟩
      have e := run_endRound (P := P) jump l3
      rw [← hB] at e
      rw [hRf] at e ⊢
      exact e
    intro e a3 W3 post
    cases e with
    | normal =>
      obtain ⟨hk, hap, hi3, hc1, hc2⟩ := post
      obtain ⟨l3, d3, s3, run⟩ := tail none W3 hk
      refine ⟨_, _, run, .inl ⟨rfl, ?_, ⟨hO.putObj _ hi3 (by omega) l3 rfl, World.putObj_heap_same (by omega), (World.putObj_heap_other (by omega)).trans d3, by simpa using s3⟩, hc1, hc2⟩⟩
      rw [hVs]
      exact (hap.ofPut (by omega)).put (by omega) _
    | ret =>
      obtain ⟨hk, hi3⟩ := post
      obtain ⟨l3, d3, s3, run⟩ := tail (some .ret) W3 hk
      exact ⟨_, _, run, .inr ⟨rfl, hx.putObj _ hi3 (by omega) l3 rfl, World.putObj_heap_same (by omega), (World.putObj_heap_other (by omega)).trans d3⟩⟩
    | exit _ => exact post.elim
    | goto _ => exact post.elim
    | panic _ => exact post.elim
    | outgrown => exact post.elim
  refine call.mono ?_
  rintro e W2 ⟨⟨v, rfl⟩, ⟨i, s, hS, hN, hi, hl, hd, hs⟩ | ⟨x, hi, hl, hd⟩⟩
  · have e := run_endLoop (P := P) hl (by rw [hRf]; simp)
    rw [hRf] at e
    exact ⟨none, _, e, hdone _ i s _ (Nat.le_refl _) hS hN (hO.putObj _ hi (by omega) hl rfl) ((World.putObj_heap_other (by omega)).trans hd)⟩
  · have e := run_endLoop (P := P) hl (by rw [hRf]; simp)
    rw [hRf] at e
    exact ⟨some .ret, _, e, hstop _ x _ (Nat.le_refl _) (hx.putObj _ hi (by omega) hl rfl) ((World.putObj_heap_other (by omega)).trans hd)⟩
end
end Go.Proofs.YtahdnfogdnondaaGreatDoor
