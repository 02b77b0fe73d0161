import Derived.Test.YtjchbclkdbojpaaDoorP
namespace Go.Proofs.YtjchbclkdbojpaaDoor
open Go.RowKit
set_option linter.unusedVariables false
set_option linter.unusedSimpArgs false

/-- A type in memory of its own, from a block on. -/
inductive Own (w : World) (lo : Nat) : Fv → Ch → Prop
  | leaf (k : Nat) (s : Int) : Own w lo ⟨k, false, 0, s, none, 0, 0⟩ (.leaf k s)
  | box (g : Nat) (f : Fv) (c : Ch) (hg : lo ≤ g) (h : At w g f.o) (hc : Own w lo f c) : Own w lo ⟨3, false, 0, 0, some ⟨g, 0, none⟩, 1, 1⟩ (.box c)
  | ref (m : Bool) (r : Int) (g : Nat) (f : Fv) (c : Ch) (hg : lo ≤ g) (h : At w g f.o) (hc : Own w lo f c) : Own w lo ⟨4, m, r, 0, some ⟨g, 0, none⟩, 1, 1⟩ (.ref m r c)
theorem Own.keep {w w' : World} {lo : Nat} (hk : ∀ g o, lo ≤ g → At w g o → At w' g o) {f : Fv} {c : Ch} (h : Own w lo f c) : Own w' lo f c := by
  induction h with
  | leaf k s => exact .leaf k s
  | box g f c hg h hc ih => exact .box g f c hg (hk g _ hg h) ih
  | ref m r g f c hg h hc ih => exact .ref m r g f c hg (hk g _ hg h) ih
theorem Own.low {w : World} {lo lo' : Nat} (hl : lo' ≤ lo) {f : Fv} {c : Ch} (h : Own w lo f c) : Own w lo' f c := by
  induction h with
  | leaf k s => exact .leaf k s
  | box g f c hg h hc ih => exact .box g f c (Nat.le_trans hl hg) h ih
  | ref m r g f c hg h hc ih => exact .ref m r g f c (Nat.le_trans hl hg) h ih
theorem Own.but {w w' : World} {b lo : Nat} {f : Fv} {c : Ch} (h : Own w lo f c) (k : But b w w') (hb : b < lo) : Own w' lo f c := h.keep fun g o hg hA => hA.but k (by omega)
theorem Own.bel {w w' : World} {lo : Nat} {f : Fv} {c : Ch} (h : Own w lo f c) (k : Below w.heap.size w w') : Own w' lo f c := h.keep fun g o hg hA => hA.below k
/-- Its numbers are numbers of Go's. -/
def Ch.rg : Ch → Prop
  | .leaf k s => k ≤ 255 ∧ -9223372036854775808 ≤ s ∧ s ≤ 9223372036854775807
  | .box c => c.rg
  | .ref _ r c => (-9223372036854775808 ≤ r ∧ r ≤ 9223372036854775807) ∧ c.rg
theorem Own.ty {w : World} {lo : Nat} {f : Fv} {c : Ch} (h : Own w lo f c) : c.rg → TyAt w f c.ty := by
  induction h with
  | leaf k s => exact fun hr => TyAt.mkLeaf k s hr.1 hr.2.1 hr.2.2 none 0
  | box g f c hg h hc ih => exact fun hr => TyAt.mkOne 3 false 0 0 (by omega) (by omega) (by omega) (by omega) (by omega) g 0 1 f _ h.ty (ih hr)
  | ref m r g f c hg h hc ih => exact fun hr => TyAt.mkOne 4 m r 0 (by omega) hr.1.1 hr.1.2 (by omega) (by omega) g 0 1 f _ h.ty (ih hr.2)
structure TPost (b : Nat) (S : List UInt8) (w : World) (R : Nat × Option Ch) (f : Fv) (w' : World) : Prop where
  rd : Rd b S R.1 114 w'
  but : But b w w'
  le : R.1 ≤ S.length
  own : ∀ c, R.2 = some c → Own w' w.heap.size f c
def TypC (n : Nat) : Prop := ∀ (b : Nat) (S : List UInt8) (p : Nat) (w : World) (deep : Int) (R : Nat × Option Ch), R = rdT S n p → deep = 49 - n → Rd b S p 114 w → p ≤ S.length → S.length ≤ 16384 →
  Calls Tryd.prog 78 #[.pointer (some ⟨b, 0, none⟩), .int .i64 deep] w fun e w' => ∃ f : Fv, e = .returned (.tuple #[f.v, .bool R.2.isSome]) ∧ TPost b S w R f w'
theorem Tryd.results92 : Tryd.f92.results = #[.cell 4 26, .tmp 5] := rfl
theorem Tryd.results93 : Tryd.f93.results = #[.cell 4 26, .tmp 5] := rfl
theorem Tryd.results78 : Tryd.f78.results = #[.cell 4 26, .tmp 5] := rfl
abbrev zT : Fv := ⟨0, false, 0, 0, none, 0, 0⟩
/-- Five cells are written over. -/
theorem At.set5 {w : World} {b : Nat} {f : Fv} (h : At w b f.o) (g : Fv) : At (((((w.setCell ⟨b, 0, none⟩ (.int .u8 (g.k : Int))).setCell ⟨b, 1, none⟩ (.bool g.m)).setCell ⟨b, 2, none⟩ (.int .i64 g.r)).setCell ⟨b, 3, none⟩ (.int .i64 g.s)).setCell ⟨b, 4, none⟩ (.slice g.a g.n g.cap)) b g.o := by
  have h1 := heap_setCell_same w b 0 _ 26 (.int .u8 (g.k : Int)) h
  have h2 := heap_setCell_same _ b 1 _ 26 (.bool g.m) h1
  have h3 := heap_setCell_same _ b 2 _ 26 (.int .i64 g.r) h2
  have h4 := heap_setCell_same _ b 3 _ 26 (.int .i64 g.s) h3
  have h5 := heap_setCell_same _ b 4 _ 26 (.slice g.a g.n g.cap) h4
  unfold At
  simpa using h5
theorem At.tyF {w : World} {b : Nat} {f : Fv} (h : At w b f.o) (o : Nat) : w.frozen? ⟨b, o, none⟩ = false := frozen_of_row w b o _ 26 h
/-- A type is laid into a variable. -/
abbrev S5 (w : World) (b : Nat) (g : Fv) : World := ((((w.setCell ⟨b, 0, none⟩ (.int .u8 (g.k : Int))).setCell ⟨b, 1, none⟩ (.bool g.m)).setCell ⟨b, 2, none⟩ (.int .i64 g.r)).setCell ⟨b, 3, none⟩ (.int .i64 g.s)).setCell ⟨b, 4, none⟩ (.slice g.a g.n g.cap)
theorem At.S5 {w : World} {b i : Nat} {o : Obj} (h : At w i o) (hi : i ≠ b) (g : Fv) : At (S5 w b g) i o := ((((h.set hi _).set hi _).set hi _).set hi _).set hi _
theorem but_hi {b j : Nat} {x y : World} (h : But b x y) (hj : x.heap.size ≤ j) (o : Nat) (u : Value) : But b x (y.setCell ⟨j, o, none⟩ u) :=
  have k : Below j y (y.setCell ⟨j, o, none⟩ u) := (Below.refl j y).setCell (p := ⟨j, o, none⟩) (Nat.le_refl _) u
  ⟨k.os.trans h.os, k.tape.trans h.tape, k.output.trans h.output, Nat.le_trans h.size k.size, fun i hi hn => (Below.heap_setCell y ⟨j, o, none⟩ u i (fun e => by simp only at e; omega)).trans (h.block i hi hn)⟩
theorem but_S5 {b j : Nat} {x y : World} (h : But b x y) (hj : x.heap.size ≤ j) (g : Fv) : But b x (S5 y j g) := but_hi (but_hi (but_hi (but_hi (but_hi h hj _ _) hj _ _) hj _ _) hj _ _) hj _ _
theorem fin5 {b : Nat} {S : List UInt8} {w w1 : World} {q b4 : Nat} {f4 : Fv} (g : Fv) (hA : At w1 b4 f4.o) (hb4 : w.heap.size ≤ b4) (hbl : b < w.heap.size) (hr : Rd b S q 114 w1) (hb : But b w w1) :
    Rd b S q 114 (S5 w1 b4 g) ∧ But b w (S5 w1 b4 g) ∧ C5 (S5 w1 b4 g) b4 0 g ∧ (∀ lo f c, b4 < lo → Own w1 lo f c → Own (S5 w1 b4 g) lo f c) :=
  ⟨At.S5 hr (by omega) g, but_S5 hb hb4 g, (hA.set5 g).ty, fun lo f c hlo ho => ho.keep fun i o hi hA => hA.S5 (by omega) g⟩
theorem size_S5 (w : World) (b : Nat) (g : Fv) : (S5 w b g).heap.size = w.heap.size := by simp [S5]
set_option maxRecDepth 100000 in
theorem results_ty {fn : Func} (h : fn.results = #[.cell 4 26, .tmp 5]) {tmps : Array Value} {W : World} {b4 : Nat} {g : Fv} (ht : tmps.getD 4 undef = .pointer (some ⟨b4, 0, none⟩)) (hC : C5 W b4 0 g) : (results fn tmps).run Tryd.prog W = .ok (.tuple #[g.v, tmps.getD 5 undef]) W := by
  obtain ⟨-, e0, e1, e2, e3, e4⟩ := hC
  simp only [Nat.zero_add] at e1 e2 e3 e4
  have ht2 : tmps[4]?.getD undef = .pointer (some ⟨b4, 0, none⟩) := by rw [← ht]; simp
  simp only [results, h]
  simp [go_sem, ht2, e0, e1, e2, e3, e4]
theorem C5.drew {w : World} {g o : Nat} {f : Fv} (h : C5 w g o f) : C5 w.drew g o f := h
theorem Own.drew {w : World} {lo : Nat} {f : Fv} {c : Ch} (h : Own w lo f c) : Own w.drew lo f c := Own.keep (w := w) (w' := w.drew) (fun _ _ _ h => h) h
/-- What is told at the end. -/
theorem fin_ret {fn : Func} {a : Act} {W w : World} {b b4 : Nat} {S : List UInt8} {R : Nat × Option Ch} {g : Fv} {x : Bool} (hf : fn.results = #[.cell 4 26, .tmp 5]) (hd : a.defers = []) (ht : a.tmps.getD 4 undef = .pointer (some ⟨b4, 0, none⟩)) (h5 : a.tmps.getD 5 undef = .bool x) (hC : C5 W b4 0 g) (hP : TPost b S w R g W) :
    bodyPost Tryd.prog fn (fun e w' => ∃ f : Fv, e = .returned (.tuple #[f.v, .bool x]) ∧ TPost b S w R f w') .ret a W :=
  bodyPost_ret (h5 ▸ results_ty hf ht hC) hd ⟨g, rfl, hP⟩
/-- .. and ahead of it a list of one was made. -/
theorem finB {b : Nat} {S : List UInt8} {w w1 : World} {q b4 : Nat} {f4 : Fv} (g f' : Fv) (hA : At w1 b4 f4.o) (hb4 : w.heap.size ≤ b4) (hbl : b < w.heap.size) (hr : Rd b S q 114 w1) (hb : But b w w1) :
    Rd b S q 114 ((S5 w1 b4 g).alloc f'.o) ∧ But b w ((S5 w1 b4 g).alloc f'.o) ∧ C5 ((S5 w1 b4 g).alloc f'.o) b4 0 g ∧ At ((S5 w1 b4 g).alloc f'.o) w1.heap.size f'.o ∧ (∀ lo f c, b4 < lo → Own w1 lo f c → Own ((S5 w1 b4 g).alloc f'.o) lo f c) := by
  obtain ⟨h1, h2, h3, h4⟩ := fin5 g hA hb4 hbl hr hb
  refine ⟨At.alloc h1 _, h2.alloc _, h3.below (belA (Below.refl _ _)), ?_, fun lo f c hlo ho => (h4 lo f c hlo ho).bel (belA (Below.refl _ _))⟩
  have := At.new (S5 w1 b4 g) f'.o
  rw [size_S5] at this
  exact this
set_option maxRecDepth 100000 in
set_option maxHeartbeats 4000000 in
theorem box_no (b : Nat) (S : List UInt8) (p : Nat) (w : World) (deep : Int) (q : Nat) (hq : tk S [66, 111, 120, 60] p = (q, false)) (h : Rd b S p 114 w) (hp : p ≤ S.length) (hS : S.length ≤ 16384) :
    Calls Tryd.prog 92 #[.pointer (some ⟨b, 0, none⟩), .int .i64 deep] w fun e w' => ∃ f : Fv, e = .returned (.tuple #[f.v, .bool false]) ∧ TPost b S w (q, none) f w' := by
  have CT : Hid (Calls Tryd.prog 90 #[.pointer (some ⟨b, 0, none⟩), .string (str [66, 111, 120, 60])] (w.alloc zT.o) fun e w' => e = .returned (.bool false) ∧ Rd b S q 114 w' ∧ But b (w.alloc zT.o) w' ∧ q ≤ S.length) := take_c b S [66, 111, 120, 60] p _ (At.alloc h _) hp hS (by simp) (by simp) q false hq
  have hbl : b < w.heap.size := h.lt
  have A4 : At (w.alloc zT.o) w.heap.size zT.o := At.new _ _
  clear h hq
  go_enter Tryd.func92, Tryd.ntmps92
  go_wp2_with (go_at_call 90; refine CT.out.mono ?_; rintro e w1 ⟨rfl, hr1, hb1, hi1⟩; have A5 := A4.but hb1 (by omega); obtain ⟨hl5, d0, d1, d2, d3, d4⟩ := A5.ty; have g0 := A5.tyF 0; have g1 := A5.tyF 1; have g2 := A5.tyF 2; have g3 := A5.tyF 3; have g4 := A5.tyF 4)
  obtain ⟨F1, F2, F3, -⟩ := fin5 zT A5 (Nat.le_refl _) hbl hr1 (((But.refl b w).alloc _).trans hb1)
  clear d0 d1 d2 d3 d4 g0 g1 g2 g3 g4
  exact fin_ret Tryd.results92 rfl rfl rfl F3 ⟨F1, F2, hi1, fun c hc => by cases hc⟩
set_option maxRecDepth 100000 in
set_option maxHeartbeats 4000000 in
theorem box_none (b : Nat) (S : List UInt8) (p : Nat) (w : World) (deep : Int) (n : Nat) (hdeep : deep + 1 = 49 - n) (hd0 : 0 ≤ deep) (hd1 : deep ≤ 48) (q q1 : Nat) (oc : Option Ch) (hq : tk S [66, 111, 120, 60] p = (q, true)) (hR : rdT S n q = (q1, oc)) (ih : TypC n) (hoc : oc = none) (h : Rd b S p 114 w) (hp : p ≤ S.length) (hS : S.length ≤ 16384) :
    Calls Tryd.prog 92 #[.pointer (some ⟨b, 0, none⟩), .int .i64 deep] w fun e w' => ∃ f : Fv, e = .returned (.tuple #[f.v, .bool false]) ∧ TPost b S w (q1, none) f w' := by
  have CT : Hid (Calls Tryd.prog 90 #[.pointer (some ⟨b, 0, none⟩), .string (str [66, 111, 120, 60])] (w.alloc zT.o) fun e w' => e = .returned (.bool true) ∧ Rd b S q 114 w' ∧ But b (w.alloc zT.o) w' ∧ q ≤ S.length) := take_c b S [66, 111, 120, 60] p _ (At.alloc h _) hp hS (by simp) (by simp) q true hq
  have CR : Hid (∀ W, Rd b S q 114 W → q ≤ S.length → Calls Tryd.prog 78 #[.pointer (some ⟨b, 0, none⟩), .int .i64 (deep + 1)] W fun e w' => ∃ f : Fv, e = .returned (.tuple #[f.v, .bool false]) ∧ TPost b S W (q1, oc) f w') := fun W h1 h2 => by
    have := ih b S q W (deep + 1) (q1, oc) hR.symm hdeep h1 h2 hS
    rw [hoc] at this ⊢
    exact this
  have hbl : b < w.heap.size := h.lt
  have A4 : At (w.alloc zT.o) w.heap.size zT.o := At.new _ _
  have w9 : IntKind.i64.wrap (deep + 1) = deep + 1 := by rw [IntKind.wrap_i64]; omega
  have q1l : True := trivial
  clear h hq hR ih hdeep
  go_enter Tryd.func92, Tryd.ntmps92
  go_wp2_with (first
    | (go_at_call 90; refine CT.out.mono ?_; rintro e w1 ⟨rfl, hr1, hb1, hi1⟩)
    | (go_at_call 78; refine (CR.out w1 hr1 hi1).mono ?_; rintro e w2 ⟨f', rfl, hp2⟩))
  have hs1 : w.heap.size + 1 ≤ w1.heap.size := by have := hb1.size; simp only [World.size_alloc] at this; exact this
  have hs2 : w1.heap.size ≤ w2.heap.size := hp2.but.size
  have B12 : But b w w2 := (((But.refl b w).alloc _).trans hb1).trans hp2.but
  have A4b : At w2 w.heap.size zT.o := (A4.but hb1 (by omega)).but hp2.but (by omega)
  change Code.wp _ _ _ _ (w2.alloc f'.o)
  have C6 : At (w2.alloc f'.o) w2.heap.size f'.o := At.new w2 f'.o
  have F1 : Rd b S q1 114 (w2.alloc f'.o) := At.alloc hp2.rd _
  have F2 : But b w (w2.alloc f'.o) := B12.alloc _
  have A4c : At (w2.alloc f'.o) w.heap.size zT.o := A4b.alloc _
  have hs3 : w2.heap.size < (w2.alloc f'.o).heap.size := C6.lt
  have O3 : ∀ c, oc = some c → Own (w2.alloc f'.o) (w.heap.size + 1) f' c := fun c hc => ((hp2.own c hc).bel (belA (Below.refl w2.heap.size w2))).low (by omega)
  have L3 := hp2.le
  obtain ⟨b6, hb6⟩ : ∃ b6, b6 = w2.heap.size := ⟨_, rfl⟩
  have hb6w : w.heap.size + 1 ≤ b6 := by omega
  rw [← hb6] at C6 hs3 ⊢
  generalize (w2.alloc f'.o) = w3 at *
  clear hb6 A4b B12 hp2 hb1 hr1 CT CR A4 hs1 hs2
  refine beginH (S := fun W' => At W' b6 f'.o) (fun _ _ _ _ _ h => h) (by kernel_rfl) C6.drew (fun hq hHeld => ?_)
  refine takeH (i := 0) (d := 19) f'.v hq rfl rfl (by kernel_rfl) (by kernel_rfl) (by kernel_rfl) (by rfl) (fun W hSw => by (obtain ⟨-, p0, p1, p2, p3, p4⟩ := At.ty hSw; go_simp; try rfl)) hHeld ?_
  try simp only [Act.put, List.setIfInBounds_toArray, List.set_cons_zero, List.set_cons_succ]
  refine takeH (i := 3) (d := 22) _ hq rfl rfl (by kernel_rfl) (by kernel_rfl) (by kernel_rfl) (by rfl) (fun W hSw => by (go_simp; try rfl)) hHeld ?_
  try simp only [Act.put, List.setIfInBounds_toArray, List.set_cons_zero, List.set_cons_succ]
  refine takeH (i := 4) (d := 23) _ hq rfl rfl (by kernel_rfl) (by kernel_rfl) (by kernel_rfl) (by rfl) (fun W hSw => by (go_simp; try rfl)) hHeld ?_
  try simp only [Act.put, List.setIfInBounds_toArray, List.set_cons_zero, List.set_cons_succ]
  refine skipH (i := 5) (d := 24) hq rfl rfl (by kernel_rfl) (by kernel_rfl) (by kernel_rfl) (by rfl) hHeld ?_
  try simp only [Act.put, List.setIfInBounds_toArray, List.set_cons_zero, List.set_cons_succ]
  refine skipH (i := 6) (d := 25) hq rfl rfl (by kernel_rfl) (by kernel_rfl) (by kernel_rfl) (by rfl) hHeld ?_
  try simp only [Act.put, List.setIfInBounds_toArray, List.set_cons_zero, List.set_cons_succ]
  refine takeH (i := 7) (d := 26) _ hq rfl rfl (by kernel_rfl) (by kernel_rfl) (by kernel_rfl) (by rfl) (fun W hSw => by (go_simp; try rfl)) hHeld ?_
  try simp only [Act.put, List.setIfInBounds_toArray, List.set_cons_zero, List.set_cons_succ]
  refine wpAnyH_ready (rs := [1]) (by kernel_rfl) (by simp) ?_
  refine AllReadyH.cons rfl (fun K hK => ?_) AllReadyH.nil
  go_simp
  go_wp2_with fail
  refine hK.out _ _ ?_ (fun hHeld => ?_)
  · with_reducible exact (C6.alloc _).drew
  clear hK K
  try simp only [Act.put, List.setIfInBounds_toArray, List.set_cons_zero, List.set_cons_succ]
  refine takeH (i := 2) (d := 21) (⟨3, false, 0, 0, some ⟨w3.heap.size, 0, none⟩, 1, 1⟩ : Fv).v hq rfl rfl (by kernel_rfl) (by kernel_rfl) (by kernel_rfl) (by rfl) (fun W hSw => by (go_simp; try rfl)) hHeld ?_
  try simp only [Act.put, List.setIfInBounds_toArray, List.set_cons_zero, List.set_cons_succ]
  obtain ⟨hl5, d0, d1, d2, d3, d4⟩ := A4c.ty
  have g0 := A4c.tyF 0
  have g1 := A4c.tyF 1
  have g2 := A4c.tyF 2
  have g3 := A4c.tyF 3
  have g4 := A4c.tyF 4
  obtain ⟨Z1, Z2, Z3, Z4, Z5⟩ := finB (S := S) (w := w) (q := q1) (⟨3, false, 0, 0, some ⟨w3.heap.size, 0, none⟩, 1, 1⟩ : Fv) f' A4c (Nat.le_refl _) hbl F1 F2
  have X8 : At ((S5 w3 w.heap.size (⟨3, false, 0, 0, some ⟨w3.heap.size, 0, none⟩, 1, 1⟩ : Fv)).alloc f'.o).drew b6 f'.o := ((At.S5 C6 (by omega) (⟨3, false, 0, 0, some ⟨w3.heap.size, 0, none⟩, 1, 1⟩ : Fv)).alloc f'.o).drew
  simp only [S5, Int.cast_ofNat_Int] at Z1 Z2 Z3 Z4 Z5 X8
  refine wpAnyH_ready (rs := [8]) (by kernel_rfl) (by simp) ?_
  refine AllReadyH.cons rfl (fun K hK => ?_) AllReadyH.nil
  go_simp
  go_wp2_with fail
  refine hK.out _ _ ?_ (fun hHeld => ?_)
  · with_reducible exact X8
  clear hK K
  try simp only [Act.put, List.setIfInBounds_toArray, List.set_cons_zero, List.set_cons_succ]
  refine takeH (i := 9) (d := 5) _ hq rfl rfl (by kernel_rfl) (by kernel_rfl) (by kernel_rfl) (by rfl) (fun W hSw => by (go_simp; try rfl)) hHeld ?_
  try simp only [Act.put, List.setIfInBounds_toArray, List.set_cons_zero, List.set_cons_succ]
  refine wpAnyH_done (by kernel_rfl) ?_ _
  clear hHeld hq d0 d1 d2 d3 d4 g0 g1 g2 g3 g4
  go_wp2_with fail
  exact fin_ret Tryd.results92 rfl rfl rfl Z3.drew ⟨At.drew Z1, Z2.drew, L3, fun c hc => by cases hc⟩
set_option maxRecDepth 100000 in
set_option maxHeartbeats 4000000 in
theorem box_some (b : Nat) (S : List UInt8) (p : Nat) (w : World) (deep : Int) (n : Nat) (hdeep : deep + 1 = 49 - n) (hd0 : 0 ≤ deep) (hd1 : deep ≤ 48) (q q1 : Nat) (oc : Option Ch) (hq : tk S [66, 111, 120, 60] p = (q, true)) (hR : rdT S n q = (q1, oc)) (ih : TypC n) (c : Ch) (hoc : oc = some c) (q2 : Nat) (ok2 : Bool) (hT : tk S [62] q1 = (q2, ok2)) (oc2 : Option Ch) (ho2 : oc2 = if ok2 then some (.box c) else none) (h : Rd b S p 114 w) (hp : p ≤ S.length) (hS : S.length ≤ 16384) :
    Calls Tryd.prog 92 #[.pointer (some ⟨b, 0, none⟩), .int .i64 deep] w fun e w' => ∃ f : Fv, e = .returned (.tuple #[f.v, .bool ok2]) ∧ TPost b S w (q2, oc2) f w' := by
  have CT : Hid (Calls Tryd.prog 90 #[.pointer (some ⟨b, 0, none⟩), .string (str [66, 111, 120, 60])] (w.alloc zT.o) fun e w' => e = .returned (.bool true) ∧ Rd b S q 114 w' ∧ But b (w.alloc zT.o) w' ∧ q ≤ S.length) := take_c b S [66, 111, 120, 60] p _ (At.alloc h _) hp hS (by simp) (by simp) q true hq
  have CR : Hid (∀ W, Rd b S q 114 W → q ≤ S.length → Calls Tryd.prog 78 #[.pointer (some ⟨b, 0, none⟩), .int .i64 (deep + 1)] W fun e w' => ∃ f : Fv, e = .returned (.tuple #[f.v, .bool true]) ∧ TPost b S W (q1, oc) f w') := fun W h1 h2 => by
    have := ih b S q W (deep + 1) (q1, oc) hR.symm hdeep h1 h2 hS
    rw [hoc] at this ⊢
    exact this
  have hbl : b < w.heap.size := h.lt
  have A4 : At (w.alloc zT.o) w.heap.size zT.o := At.new _ _
  have w9 : IntKind.i64.wrap (deep + 1) = deep + 1 := by rw [IntKind.wrap_i64]; omega
  have CG : Hid (∀ W, Rd b S q1 114 W → q1 ≤ S.length → Calls Tryd.prog 90 #[.pointer (some ⟨b, 0, none⟩), .string (str [62])] W fun e w' => e = .returned (.bool ok2) ∧ Rd b S q2 114 w' ∧ But b W w' ∧ q2 ≤ S.length) := fun W h1 h2 => take_c b S [62] q1 W h1 h2 hS (by simp) (by simp) q2 ok2 hT
  have HO2 : Hid (oc2 = if ok2 then some (.box c) else none) := ho2
  clear hT ho2
  clear h hq hR ih hdeep
  go_enter Tryd.func92, Tryd.ntmps92
  go_wp2_with (first
    | (go_at_call 90; refine CT.out.mono ?_; rintro e w1 ⟨rfl, hr1, hb1, hi1⟩)
    | (go_at_call 78; refine (CR.out w1 hr1 hi1).mono ?_; rintro e w2 ⟨f', rfl, hp2⟩))
  have hs1 : w.heap.size + 1 ≤ w1.heap.size := by have := hb1.size; simp only [World.size_alloc] at this; exact this
  have hs2 : w1.heap.size ≤ w2.heap.size := hp2.but.size
  have B12 : But b w w2 := (((But.refl b w).alloc _).trans hb1).trans hp2.but
  have A4b : At w2 w.heap.size zT.o := (A4.but hb1 (by omega)).but hp2.but (by omega)
  change Code.wp _ _ _ _ (w2.alloc f'.o)
  have C6 : At (w2.alloc f'.o) w2.heap.size f'.o := At.new w2 f'.o
  have F1 : Rd b S q1 114 (w2.alloc f'.o) := At.alloc hp2.rd _
  have F2 : But b w (w2.alloc f'.o) := B12.alloc _
  have A4c : At (w2.alloc f'.o) w.heap.size zT.o := A4b.alloc _
  have hs3 : w2.heap.size < (w2.alloc f'.o).heap.size := C6.lt
  have O3 : ∀ c, oc = some c → Own (w2.alloc f'.o) (w.heap.size + 1) f' c := fun c hc => ((hp2.own c hc).bel (belA (Below.refl w2.heap.size w2))).low (by omega)
  have L3 := hp2.le
  obtain ⟨b6, hb6⟩ : ∃ b6, b6 = w2.heap.size := ⟨_, rfl⟩
  have hb6w : w.heap.size + 1 ≤ b6 := by omega
  rw [← hb6] at C6 hs3 ⊢
  generalize (w2.alloc f'.o) = w3 at *
  clear hb6 A4b B12 hp2 hb1 hr1 CT CR A4 hs1 hs2
  have O3c := O3 c hoc
  clear O3 hoc
  have HL3 : Hid (q1 ≤ S.length) := L3
  refine beginH (S := fun W' => At W' b6 f'.o) (fun _ _ _ _ _ h => h) (by kernel_rfl) C6.drew (fun hq hHeld => ?_)
  refine takeH (i := 0) (d := 19) f'.v hq rfl rfl (by kernel_rfl) (by kernel_rfl) (by kernel_rfl) (by rfl) (fun W hSw => by (obtain ⟨-, p0, p1, p2, p3, p4⟩ := At.ty hSw; go_simp; try rfl)) hHeld ?_
  try simp only [Act.put, List.setIfInBounds_toArray, List.set_cons_zero, List.set_cons_succ]
  refine takeH (i := 3) (d := 22) _ hq rfl rfl (by kernel_rfl) (by kernel_rfl) (by kernel_rfl) (by rfl) (fun W hSw => by (go_simp; try rfl)) hHeld ?_
  try simp only [Act.put, List.setIfInBounds_toArray, List.set_cons_zero, List.set_cons_succ]
  refine takeH (i := 4) (d := 23) _ hq rfl rfl (by kernel_rfl) (by kernel_rfl) (by kernel_rfl) (by rfl) (fun W hSw => by (go_simp; try rfl)) hHeld ?_
  try simp only [Act.put, List.setIfInBounds_toArray, List.set_cons_zero, List.set_cons_succ]
  refine takeH (i := 5) (d := 24) _ hq rfl rfl (by kernel_rfl) (by kernel_rfl) (by kernel_rfl) (by rfl) (fun W hSw => by (go_simp; try rfl)) hHeld ?_
  try simp only [Act.put, List.setIfInBounds_toArray, List.set_cons_zero, List.set_cons_succ]
  refine wpAnyH_ready (rs := [1, 6]) (by kernel_rfl) (by simp) ?_
  refine AllReadyH.cons rfl (fun K hK => ?_) (AllReadyH.cons rfl (fun K hK => ?_) AllReadyH.nil)
  · go_simp
    go_wp2_with fail
    refine hK.out _ _ ?_ (fun hHeld => ?_)
    · with_reducible exact (C6.alloc _).drew
    clear hK K
    try simp only [Act.put, List.setIfInBounds_toArray, List.set_cons_zero, List.set_cons_succ]
    refine takeH (i := 2) (d := 21) (⟨3, false, 0, 0, some ⟨w3.heap.size, 0, none⟩, 1, 1⟩ : Fv).v hq rfl rfl (by kernel_rfl) (by kernel_rfl) (by kernel_rfl) (by rfl) (fun W hSw => by (go_simp; try rfl)) hHeld ?_
    try simp only [Act.put, List.setIfInBounds_toArray, List.set_cons_zero, List.set_cons_succ]
    refine wpAnyH_ready (rs := [6]) (by kernel_rfl) (by simp) ?_
    refine AllReadyH.cons rfl (fun K hK => ?_) AllReadyH.nil
    go_simp
    refine (CG.out (w3.alloc f'.o).drew (At.drew (At.alloc F1 _)) HL3.out).mono ?_
    rintro e w4 ⟨rfl, hr4, hb4, hi4⟩
    go_wp2_with fail
    have hs4 := hb4.size
    have C6d := ((C6.alloc f'.o).drew).but hb4 (by omega)
    have A4d := ((A4c.alloc f'.o).drew).but hb4 (by omega)
    have AN : At w4 w3.heap.size f'.o := ((At.new w3 f'.o).drew).but hb4 (by have := F1.lt; omega)
    have O4 : Own w4 (w.heap.size + 1) f' c := ((O3c.bel (belA (Below.refl w3.heap.size w3) (o := f'.o))).drew).but hb4 (by omega)
    have F24 : But b w w4 := (F2.alloc _).drew.trans hb4
    refine hK.out _ _ ?_ (fun hHeld => ?_)
    · with_reducible exact C6d
    clear hK K
    try simp only [Act.put, List.setIfInBounds_toArray, List.set_cons_zero, List.set_cons_succ]
    refine takeH (i := 7) (d := 26) (.bool ok2) hq rfl rfl (by kernel_rfl) (by kernel_rfl) (by kernel_rfl) (by rfl) (fun W hSw => by (go_simp; try rfl)) hHeld ?_
    try simp only [Act.put, List.setIfInBounds_toArray, List.set_cons_zero, List.set_cons_succ]
    obtain ⟨hl5, d0, d1, d2, d3, d4⟩ := A4d.ty
    have g0 := A4d.tyF 0
    have g1 := A4d.tyF 1
    have g2 := A4d.tyF 2
    have g3 := A4d.tyF 3
    have g4 := A4d.tyF 4
    obtain ⟨Z1, Z2, Z3, Z5⟩ := fin5 (S := S) (w := w) (q := q2) (⟨3, false, 0, 0, some ⟨w3.heap.size, 0, none⟩, 1, 1⟩ : Fv) A4d (Nat.le_refl _) hbl hr4 F24
    have ZN := AN.S5 (b := w.heap.size) (by have := F2.size; have := A4c.lt; omega) (⟨3, false, 0, 0, some ⟨w3.heap.size, 0, none⟩, 1, 1⟩ : Fv)
    have X8 := C6d.S5 (b := w.heap.size) (by omega) (⟨3, false, 0, 0, some ⟨w3.heap.size, 0, none⟩, 1, 1⟩ : Fv)
    simp only [S5, Int.cast_ofNat_Int] at Z1 Z2 Z3 Z5 X8 ZN
    refine wpAnyH_ready (rs := [8]) (by kernel_rfl) (by simp) ?_
    refine AllReadyH.cons rfl (fun K hK => ?_) AllReadyH.nil
    go_simp
    go_wp2_with fail
    refine hK.out _ _ ?_ (fun hHeld => ?_)
    · with_reducible exact X8
    clear hK K
    try simp only [Act.put, List.setIfInBounds_toArray, List.set_cons_zero, List.set_cons_succ]
    refine takeH (i := 9) (d := 5) _ hq rfl rfl (by kernel_rfl) (by kernel_rfl) (by kernel_rfl) (by rfl) (fun W hSw => by (go_simp; try rfl)) hHeld ?_
    try simp only [Act.put, List.setIfInBounds_toArray, List.set_cons_zero, List.set_cons_succ]
    refine wpAnyH_done (by kernel_rfl) ?_ _
    clear hHeld hq d0 d1 d2 d3 d4 g0 g1 g2 g3 g4
    have GE : w.heap.size ≤ w3.heap.size := (by have := A4c.lt; omega)
    have HGE := (show Hid (w.heap.size ≤ w3.heap.size) from GE)
    have HZ := (show Hid _ from And.intro Z1 (And.intro Z2 (And.intro Z3 (And.intro ZN (And.intro Z5 O4)))))
    clear Z1 Z2 Z3 Z5 ZN O4 X8 hs4 hr4 hb4 F24 A4d C6d GE
    go_wp2_with fail
    obtain ⟨Z1, Z2, Z3, ZNN, Z5, O4⟩ := HZ.out
    exact fin_ret Tryd.results92 rfl rfl rfl Z3 ⟨Z1, Z2, hi4, fun c' hc => by
      have e := HO2.out
      rw [show oc2 = some c' from hc] at e
      cases ok2 with
      | false => simp at e
      | true =>
        simp at e
        subst e
        exact .box w3.heap.size f' c HGE.out ZNN ((Z5 _ _ _ (Nat.lt_succ_self _) O4).low (by omega))⟩
  · go_simp
    refine (CG.out w3.drew (At.drew F1) HL3.out).mono ?_
    rintro e w4 ⟨rfl, hr4, hb4, hi4⟩
    go_wp2_with fail
    have hs4 := hb4.size
    have C6d := C6.drew.but hb4 (by omega)
    have A4d := A4c.drew.but hb4 (by omega)
    have O4 : Own w4 (w.heap.size + 1) f' c := O3c.drew.but hb4 (by omega)
    have F24 : But b w w4 := F2.drew.trans hb4
    refine hK.out _ _ ?_ (fun hHeld => ?_)
    · with_reducible exact C6d
    clear hK K
    try simp only [Act.put, List.setIfInBounds_toArray, List.set_cons_zero, List.set_cons_succ]
    refine takeH (i := 7) (d := 26) (.bool ok2) hq rfl rfl (by kernel_rfl) (by kernel_rfl) (by kernel_rfl) (by rfl) (fun W hSw => by (go_simp; try rfl)) hHeld ?_
    try simp only [Act.put, List.setIfInBounds_toArray, List.set_cons_zero, List.set_cons_succ]
    refine wpAnyH_ready (rs := [1]) (by kernel_rfl) (by simp) ?_
    refine AllReadyH.cons rfl (fun K hK => ?_) AllReadyH.nil
    go_simp
    go_wp2_with fail
    refine hK.out _ _ ?_ (fun hHeld => ?_)
    · with_reducible exact (C6d.alloc _)
    clear hK K
    try simp only [Act.put, List.setIfInBounds_toArray, List.set_cons_zero, List.set_cons_succ]
    refine takeH (i := 2) (d := 21) (⟨3, false, 0, 0, some ⟨w4.heap.size, 0, none⟩, 1, 1⟩ : Fv).v hq rfl rfl (by kernel_rfl) (by kernel_rfl) (by kernel_rfl) (by rfl) (fun W hSw => by (go_simp; try rfl)) hHeld ?_
    try simp only [Act.put, List.setIfInBounds_toArray, List.set_cons_zero, List.set_cons_succ]
    obtain ⟨hl5, d0, d1, d2, d3, d4⟩ := A4d.ty
    have g0 := A4d.tyF 0
    have g1 := A4d.tyF 1
    have g2 := A4d.tyF 2
    have g3 := A4d.tyF 3
    have g4 := A4d.tyF 4
    obtain ⟨Z1, Z2, Z3, Z4, Z5⟩ := finB (S := S) (w := w) (q := q2) (⟨3, false, 0, 0, some ⟨w4.heap.size, 0, none⟩, 1, 1⟩ : Fv) f' A4d (Nat.le_refl _) hbl hr4 F24
    have X8 := (C6d.S5 (b := w.heap.size) (by omega) (⟨3, false, 0, 0, some ⟨w4.heap.size, 0, none⟩, 1, 1⟩ : Fv)).alloc f'.o
    simp only [S5, Int.cast_ofNat_Int] at Z1 Z2 Z3 Z4 Z5 X8
    refine wpAnyH_ready (rs := [8]) (by kernel_rfl) (by simp) ?_
    refine AllReadyH.cons rfl (fun K hK => ?_) AllReadyH.nil
    go_simp
    go_wp2_with fail
    refine hK.out _ _ ?_ (fun hHeld => ?_)
    · with_reducible exact X8
    clear hK K
    try simp only [Act.put, List.setIfInBounds_toArray, List.set_cons_zero, List.set_cons_succ]
    refine takeH (i := 9) (d := 5) _ hq rfl rfl (by kernel_rfl) (by kernel_rfl) (by kernel_rfl) (by rfl) (fun W hSw => by (go_simp; try rfl)) hHeld ?_
    try simp only [Act.put, List.setIfInBounds_toArray, List.set_cons_zero, List.set_cons_succ]
    refine wpAnyH_done (by kernel_rfl) ?_ _
    clear hHeld hq d0 d1 d2 d3 d4 g0 g1 g2 g3 g4
    have GE : w.heap.size ≤ w4.heap.size := (by have := A4c.lt; have : w3.heap.size ≤ w4.heap.size := hs4; omega)
    have HGE := (show Hid (w.heap.size ≤ w4.heap.size) from GE)
    have HZ := (show Hid _ from And.intro Z1 (And.intro Z2 (And.intro Z3 (And.intro Z4 (And.intro Z5 O4)))))
    clear Z1 Z2 Z3 Z5 Z4 O4 X8 hs4 hr4 hb4 F24 A4d C6d GE
    go_wp2_with fail
    obtain ⟨Z1, Z2, Z3, ZNN, Z5, O4⟩ := HZ.out
    exact fin_ret Tryd.results92 rfl rfl rfl Z3 ⟨Z1, Z2, hi4, fun c' hc => by
      have e := HO2.out
      rw [show oc2 = some c' from hc] at e
      cases ok2 with
      | false => simp at e
      | true =>
        simp at e
        subst e
        exact .box w4.heap.size f' c HGE.out ZNN ((Z5 _ _ _ (Nat.lt_succ_self _) O4).low (by omega))⟩
end Go.Proofs.YtjchbclkdbojpaaDoor
