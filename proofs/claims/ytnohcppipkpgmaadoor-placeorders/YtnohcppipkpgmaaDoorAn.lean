import Derived.Test.YtnohcppipkpgmaaDoorQ
namespace Go.Proofs.YtnohcppipkpgmaaDoor
open Go.RowKit
set_option linter.unusedVariables false
set_option linter.unusedSimpArgs false

/-- A type in blocks from one up to another. -/
inductive OwnL (w : World) (lo hi : Nat) : Fv → Ch → Prop
  | leaf (k : Nat) (s : Int) (a : Option Addr) (cap : Nat) : OwnL w lo hi ⟨k, false, 0, s, a, 0, cap⟩ (.leaf k s)
  | box (g : Nat) (f : Fv) (c : Ch) (hg : lo ≤ g) (hh : g < hi) (h : At w g f.o) (hc : OwnL w lo hi f c) : OwnL w lo hi ⟨3, false, 0, 0, some ⟨g, 0, none⟩, 1, 1⟩ (.box c)
  | ref (m : Bool) (r : Int) (g : Nat) (f : Fv) (c : Ch) (hg : lo ≤ g) (hh : g < hi) (h : At w g f.o) (hc : OwnL w lo hi f c) : OwnL w lo hi ⟨4, m, r, 0, some ⟨g, 0, none⟩, 1, 1⟩ (.ref m r c)
theorem OwnL.keep {w w' : World} {lo hi : Nat} (hk : ∀ g o, lo ≤ g → g < hi → At w g o → At w' g o) {f : Fv} {c : Ch} (h : OwnL w lo hi f c) : OwnL w' lo hi f c := by
  induction h with
  | leaf k s a cap => exact .leaf k s a cap
  | box g f c hg hh h hc ih => exact .box g f c hg hh (hk g _ hg hh h) ih
  | ref m r g f c hg hh h hc ih => exact .ref m r g f c hg hh (hk g _ hg hh h) ih
theorem OwnL.low {w : World} {lo lo' hi hi' : Nat} (hl : lo' ≤ lo) (hh : hi ≤ hi') {f : Fv} {c : Ch} (h : OwnL w lo hi f c) : OwnL w lo' hi' f c := by
  induction h with
  | leaf k s a cap => exact .leaf k s a cap
  | box g f c hg hh' h hc ih => exact .box g f c (Nat.le_trans hl hg) (Nat.lt_of_lt_of_le hh' hh) h ih
  | ref m r g f c hg hh' h hc ih => exact .ref m r g f c (Nat.le_trans hl hg) (Nat.lt_of_lt_of_le hh' hh) h ih
theorem OwnL.bel {w w' : World} {lo hi : Nat} {f : Fv} {c : Ch} (h : OwnL w lo hi f c) (k : Below w.heap.size w w') : OwnL w' lo hi f c := h.keep fun g o _ _ hA => hA.below k
theorem OwnL.ty {w : World} {lo hi : Nat} {f : Fv} {c : Ch} (h : OwnL w lo hi f c) : c.rg → TyAt w f c.ty := by
  induction h with
  | leaf k s a cap => exact fun hr => TyAt.mkLeaf k s hr.1 hr.2.1 hr.2.2 a cap
  | box g f c hg hh h hc ih => exact fun hr => TyAt.mkOne 3 false 0 0 (by omega) (by omega) (by omega) (by omega) (by omega) g 0 1 f _ h.ty (ih hr)
  | ref m r g f c hg hh h hc ih => exact fun hr => TyAt.mkOne 4 m r 0 (by omega) hr.1.1 hr.1.2 (by omega) (by omega) g 0 1 f _ h.ty (ih hr.2)
theorem Own.toL {w : World} {lo : Nat} {f : Fv} {c : Ch} (h : Own w lo f c) : OwnL w lo w.heap.size f c := by
  induction h with
  | leaf k s => exact .leaf k s none 0
  | box g f c hg h hc ih => exact .box g f c hg h.lt h ih
  | ref m r g f c hg h hc ih => exact .ref m r g f c hg h.lt h ih
/-- All but the blocks from one up to another is as it was. -/
structure Out (lo hi : Nat) (w w' : World) : Prop where
  bel : Below lo w w'
  hi : ∀ i, hi ≤ i → i < w.heap.size → w'.heap[i]? = w.heap[i]?
  form : ∀ i (f : Fv), At w i f.o → ∃ f' : Fv, At w' i f'.o
theorem Out.refl (lo hi : Nat) (w : World) : Out lo hi w w := ⟨Below.refl _ _, fun _ _ _ => rfl, fun i f h => ⟨f, h⟩⟩
theorem Out.trans {lo hi : Nat} {a b c : World} (h : Out lo hi a b) (k : Out lo hi b c) : Out lo hi a c :=
  ⟨h.bel.trans k.bel, fun i h1 h2 => (k.hi i h1 (Nat.lt_of_lt_of_le h2 h.bel.size)).trans (h.hi i h1 h2), fun i f hA => by obtain ⟨f', h'⟩ := h.form i f hA; exact k.form i f' h'⟩
theorem Out.of {lo hi : Nat} {a b : World} (h : Below a.heap.size a b) (hl : lo ≤ a.heap.size) : Out lo hi a b := ⟨h.mono hl, fun i _ hi => h.block i hi, fun i f hA => ⟨f, hA.below h⟩⟩
theorem Out.at {lo hi : Nat} {a b : World} (h : Out lo hi a b) {i : Nat} {o : Obj} (hA : At a i o) (hi' : i < lo ∨ hi ≤ i) : At b i o := by
  rcases hi' with h1 | h1
  · exact hA.belowB h.bel h1
  · exact (h.hi i h1 hA.lt).trans hA
theorem Out.alloc {lo hi : Nat} {a b : World} (h : Out lo hi a b) (hl : lo ≤ a.heap.size) (o : Obj) : Out lo hi a (b.alloc o) := h.trans (Out.of (belA (Below.refl _ _)) (Nat.le_trans hl h.bel.size))
theorem Out.S5 {lo hi : Nat} {a b : World} (h : Out lo hi a b) {g : Nat} (h1 : lo ≤ g) (h2 : g < hi) {f : Fv} (hA : At b g f.o) (f' : Fv) : Out lo hi a (S5 b g f') := by
  refine h.trans ⟨((((Below.refl _ _).setCell (p := ⟨g, 0, none⟩) h1 _).setCell (p := ⟨g, 1, none⟩) h1 _ |>.setCell (p := ⟨g, 2, none⟩) h1 _).setCell (p := ⟨g, 3, none⟩) h1 _).setCell (p := ⟨g, 4, none⟩) h1 _, fun i hi hlt => ?_, fun i f hi => ?_⟩
  · obtain ⟨o, ho⟩ : ∃ o, b.heap[i]? = some o := ⟨_, Array.getElem?_eq_getElem hlt⟩
    exact (At.S5 (b := g) (show At b i o from ho) (by omega) f').trans ho.symm
  · by_cases e : i = g
    · subst e
      exact ⟨f', hA.set5 f'⟩
    · exact ⟨f, hi.S5 e f'⟩
theorem OwnL.out {w w' : World} {lo hi lo' hi' : Nat} {f : Fv} {c : Ch} (h : OwnL w lo hi f c) (k : Out lo' hi' w w') (hd : hi ≤ lo' ∨ hi' ≤ lo) : OwnL w' lo hi f c := h.keep fun g o h1 h2 hA => k.at hA (by omega)
theorem out_one {w w1 : World} {lo hi : Nat} {f : Fv} (h : Out lo hi (w.alloc f.o) w1) (hh : lo ≤ w.heap.size) : Out lo hi w w1 := (Out.of (belA (Below.refl _ _)) hh).trans h
end Go.Proofs.YtnohcppipkpgmaaDoor
