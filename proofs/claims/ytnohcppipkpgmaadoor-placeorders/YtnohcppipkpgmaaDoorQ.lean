import Derived.Test.YtnohcppipkpgmaaDoorP
namespace Go.Proofs.YtnohcppipkpgmaaDoor
open Go.RowKit
set_option linter.unusedVariables false
set_option linter.unusedSimpArgs false

/-- A type in memory of its own, from a block on. -/
inductive Own (w : World) (lo : Nat) : Fv → Ch → Prop
  | leaf (k : Nat) (s : Int) : Own w lo ⟨k, false, 0, s, none, 0, 0⟩ (.leaf k s)
  | box (g : Nat) (f : Fv) (c : Ch) (hg : lo ≤ g) (h : At w g f.o) (hc : Own w lo f c) : Own w lo ⟨3, false, 0, 0, some ⟨g, 0, none⟩, 1, 1⟩ (.box c)
  | ref (m : Bool) (r : Int) (g : Nat) (f : Fv) (c : Ch) (hg : lo ≤ g) (h : At w g f.o) (hc : Own w lo f c) : Own w lo ⟨4, m, r, 0, some ⟨g, 0, none⟩, 1, 1⟩ (.ref m r c)
theorem Own.keep {w w' : World} {lo : Nat} (hk : ∀ g o, lo ≤ g → At w g o → At w' g o) {f : Fv} {c : Ch} (h : Own w lo f c) : Own w' lo f c := by
  induction h with
  | leaf k s => exact .leaf k s
  | box g f c hg h hc ih => exact .box g f c hg (hk g _ hg h) ih
  | ref m r g f c hg h hc ih => exact .ref m r g f c hg (hk g _ hg h) ih
theorem Own.low {w : World} {lo lo' : Nat} (hl : lo' ≤ lo) {f : Fv} {c : Ch} (h : Own w lo f c) : Own w lo' f c := by
  induction h with
  | leaf k s => exact .leaf k s
  | box g f c hg h hc ih => exact .box g f c (Nat.le_trans hl hg) h ih
  | ref m r g f c hg h hc ih => exact .ref m r g f c (Nat.le_trans hl hg) h ih
theorem Own.but {w w' : World} {b lo : Nat} {f : Fv} {c : Ch} (h : Own w lo f c) (k : But b w w') (hb : b < lo) : Own w' lo f c := h.keep fun g o hg hA => hA.but k (by omega)
theorem Own.bel {w w' : World} {lo : Nat} {f : Fv} {c : Ch} (h : Own w lo f c) (k : Below w.heap.size w w') : Own w' lo f c := h.keep fun g o hg hA => hA.below k
/-- Its numbers are numbers of Go's. -/
def Ch.rg : Ch → Prop
  | .leaf k s => k ≤ 255 ∧ -9223372036854775808 ≤ s ∧ s ≤ 9223372036854775807
  | .box c => c.rg
  | .ref _ r c => (-9223372036854775808 ≤ r ∧ r ≤ 9223372036854775807) ∧ c.rg
theorem Own.ty {w : World} {lo : Nat} {f : Fv} {c : Ch} (h : Own w lo f c) : c.rg → TyAt w f c.ty := by
  induction h with
  | leaf k s => exact fun hr => TyAt.mkLeaf k s hr.1 hr.2.1 hr.2.2 none 0
  | box g f c hg h hc ih => exact fun hr => TyAt.mkOne 3 false 0 0 (by omega) (by omega) (by omega) (by omega) (by omega) g 0 1 f _ h.ty (ih hr)
  | ref m r g f c hg h hc ih => exact fun hr => TyAt.mkOne 4 m r 0 (by omega) hr.1.1 hr.1.2 (by omega) (by omega) g 0 1 f _ h.ty (ih hr.2)
structure TPost (b : Nat) (S : List UInt8) (w : World) (R : Nat × Option Ch) (f : Fv) (w' : World) : Prop where
  rd : Rd b S R.1 114 w'
  but : But b w w'
  le : R.1 ≤ S.length
  own : ∀ c, R.2 = some c → Own w' w.heap.size f c
abbrev zT : Fv := ⟨0, false, 0, 0, none, 0, 0⟩
/-- Five cells are written over. -/
theorem At.set5 {w : World} {b : Nat} {f : Fv} (h : At w b f.o) (g : Fv) : At (((((w.setCell ⟨b, 0, none⟩ (.int .u8 (g.k : Int))).setCell ⟨b, 1, none⟩ (.bool g.m)).setCell ⟨b, 2, none⟩ (.int .i64 g.r)).setCell ⟨b, 3, none⟩ (.int .i64 g.s)).setCell ⟨b, 4, none⟩ (.slice g.a g.n g.cap)) b g.o := by
  have h1 := heap_setCell_same w b 0 _ 32 (.int .u8 (g.k : Int)) h
  have h2 := heap_setCell_same _ b 1 _ 32 (.bool g.m) h1
  have h3 := heap_setCell_same _ b 2 _ 32 (.int .i64 g.r) h2
  have h4 := heap_setCell_same _ b 3 _ 32 (.int .i64 g.s) h3
  have h5 := heap_setCell_same _ b 4 _ 32 (.slice g.a g.n g.cap) h4
  unfold At
  simpa using h5
theorem At.tyF {w : World} {b : Nat} {f : Fv} (h : At w b f.o) (o : Nat) : w.frozen? ⟨b, o, none⟩ = false := frozen_of_row w b o _ 32 h
/-- A type is laid into a variable. -/
abbrev S5 (w : World) (b : Nat) (g : Fv) : World := ((((w.setCell ⟨b, 0, none⟩ (.int .u8 (g.k : Int))).setCell ⟨b, 1, none⟩ (.bool g.m)).setCell ⟨b, 2, none⟩ (.int .i64 g.r)).setCell ⟨b, 3, none⟩ (.int .i64 g.s)).setCell ⟨b, 4, none⟩ (.slice g.a g.n g.cap)
theorem At.S5 {w : World} {b i : Nat} {o : Obj} (h : At w i o) (hi : i ≠ b) (g : Fv) : At (S5 w b g) i o := ((((h.set hi _).set hi _).set hi _).set hi _).set hi _
theorem but_hi {b j : Nat} {x y : World} (h : But b x y) (hj : x.heap.size ≤ j) (o : Nat) (u : Value) : But b x (y.setCell ⟨j, o, none⟩ u) :=
  have k : Below j y (y.setCell ⟨j, o, none⟩ u) := (Below.refl j y).setCell (p := ⟨j, o, none⟩) (Nat.le_refl _) u
  ⟨k.os.trans h.os, k.tape.trans h.tape, k.output.trans h.output, Nat.le_trans h.size k.size, fun i hi hn => (Below.heap_setCell y ⟨j, o, none⟩ u i (fun e => by simp only at e; omega)).trans (h.block i hi hn)⟩
theorem but_S5 {b j : Nat} {x y : World} (h : But b x y) (hj : x.heap.size ≤ j) (g : Fv) : But b x (S5 y j g) := but_hi (but_hi (but_hi (but_hi (but_hi h hj _ _) hj _ _) hj _ _) hj _ _) hj _ _
theorem fin5 {b : Nat} {S : List UInt8} {w w1 : World} {q b4 : Nat} {f4 : Fv} (g : Fv) (hA : At w1 b4 f4.o) (hb4 : w.heap.size ≤ b4) (hbl : b < w.heap.size) (hr : Rd b S q 114 w1) (hb : But b w w1) :
    Rd b S q 114 (S5 w1 b4 g) ∧ But b w (S5 w1 b4 g) ∧ C5 (S5 w1 b4 g) b4 0 g ∧ (∀ lo f c, b4 < lo → Own w1 lo f c → Own (S5 w1 b4 g) lo f c) :=
  ⟨At.S5 hr (by omega) g, but_S5 hb hb4 g, (hA.set5 g).ty, fun lo f c hlo ho => ho.keep fun i o hi hA => hA.S5 (by omega) g⟩
theorem size_S5 (w : World) (b : Nat) (g : Fv) : (S5 w b g).heap.size = w.heap.size := by simp [S5]
set_option maxRecDepth 100000 in
theorem results_ty {fn : Func} (h : fn.results = #[.cell 4 32, .tmp 5]) {tmps : Array Value} {W : World} {b4 : Nat} {g : Fv} (ht : tmps.getD 4 undef = .pointer (some ⟨b4, 0, none⟩)) (hC : C5 W b4 0 g) : (results fn tmps).run Tryd.prog W = .ok (.tuple #[g.v, tmps.getD 5 undef]) W := by
  obtain ⟨-, e0, e1, e2, e3, e4⟩ := hC
  simp only [Nat.zero_add] at e1 e2 e3 e4
  have ht2 : tmps[4]?.getD undef = .pointer (some ⟨b4, 0, none⟩) := by rw [← ht]; simp
  simp only [results, h]
  simp [go_sem, ht2, e0, e1, e2, e3, e4]
theorem C5.drew {w : World} {g o : Nat} {f : Fv} (h : C5 w g o f) : C5 w.drew g o f := h
theorem Own.drew {w : World} {lo : Nat} {f : Fv} {c : Ch} (h : Own w lo f c) : Own w.drew lo f c := Own.keep (w := w) (w' := w.drew) (fun _ _ _ h => h) h
/-- What is told at the end. -/
theorem fin_ret {fn : Func} {a : Act} {W w : World} {b b4 : Nat} {S : List UInt8} {R : Nat × Option Ch} {g : Fv} {x : Bool} (hf : fn.results = #[.cell 4 32, .tmp 5]) (hd : a.defers = []) (ht : a.tmps.getD 4 undef = .pointer (some ⟨b4, 0, none⟩)) (h5 : a.tmps.getD 5 undef = .bool x) (hC : C5 W b4 0 g) (hP : TPost b S w R g W) :
    bodyPost Tryd.prog fn (fun e w' => ∃ f : Fv, e = .returned (.tuple #[f.v, .bool x]) ∧ TPost b S w R f w') .ret a W :=
  bodyPost_ret (h5 ▸ results_ty hf ht hC) hd ⟨g, rfl, hP⟩
/-- .. and ahead of it a list of one was made. -/
theorem finB {b : Nat} {S : List UInt8} {w w1 : World} {q b4 : Nat} {f4 : Fv} (g f' : Fv) (hA : At w1 b4 f4.o) (hb4 : w.heap.size ≤ b4) (hbl : b < w.heap.size) (hr : Rd b S q 114 w1) (hb : But b w w1) :
    Rd b S q 114 ((S5 w1 b4 g).alloc f'.o) ∧ But b w ((S5 w1 b4 g).alloc f'.o) ∧ C5 ((S5 w1 b4 g).alloc f'.o) b4 0 g ∧ At ((S5 w1 b4 g).alloc f'.o) w1.heap.size f'.o ∧ (∀ lo f c, b4 < lo → Own w1 lo f c → Own ((S5 w1 b4 g).alloc f'.o) lo f c) := by
  obtain ⟨h1, h2, h3, h4⟩ := fin5 g hA hb4 hbl hr hb
  refine ⟨At.alloc h1 _, h2.alloc _, h3.below (belA (Below.refl _ _)), ?_, fun lo f c hlo ho => (h4 lo f c hlo ho).bel (belA (Below.refl _ _))⟩
  have := At.new (S5 w1 b4 g) f'.o
  rw [size_S5] at this
  exact this
end Go.Proofs.YtnohcppipkpgmaaDoor
