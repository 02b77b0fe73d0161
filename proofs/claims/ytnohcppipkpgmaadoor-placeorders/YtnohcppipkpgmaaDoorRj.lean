import Derived.Test.YtnohcppipkpgmaaDoorRi
namespace Go.Proofs.YtnohcppipkpgmaaDoor
open Go.RowKit Go.Shelf
set_option linter.unusedVariables false
set_option linter.unusedSimpArgs false

/-- A way's six cells: the type to which it goes, how each step goes. -/
structure Wy where
  f : Fv
  ga : Option Addr
  gn : Nat
  gcap : Nat
abbrev wyV (f : Fv) (ga : Option Addr) (gn gcap : Nat) : Value := .agg #[.int .u8 (f.k : Int), .bool f.m, .int .i64 f.r, .int .i64 f.s, .slice f.a f.n f.cap, .slice ga gn gcap]
abbrev wyO (f : Fv) (ga : Option Addr) (gn gcap : Nat) : Obj := .cells #[.int .u8 (f.k : Int), .bool f.m, .int .i64 f.r, .int .i64 f.s, .slice f.a f.n f.cap, .slice ga gn gcap] 75 (0, 0)
abbrev Wy.v (y : Wy) : Value := wyV y.f y.ga y.gn y.gcap
abbrev Wy.o (y : Wy) : Obj := wyO y.f y.ga y.gn y.gcap
abbrev zW : Wy := ⟨zT, none, 0, 0⟩
theorem At.wy {w : World} {b : Nat} {y : Wy} (h : At w b y.o) : C5 w b 0 y.f ∧ w.cell? ⟨b, 5, none⟩ = some (.slice y.ga y.gn y.gcap) := by
  unfold At at h
  exact ⟨⟨lt_of_block h, by simp [World.cell?, h], by simp [World.cell?, h], by simp [World.cell?, h], by simp [World.cell?, h], by simp [World.cell?, h]⟩, by simp [World.cell?, h]⟩
theorem At.wyF {w : World} {b : Nat} {y : Wy} (h : At w b y.o) (o : Nat) : w.frozen? ⟨b, o, none⟩ = false := frozen_of_row w b o _ 75 h
theorem atWy5 {w : World} {b : Nat} {y : Wy} (h : At w b y.o) (g : Fv) : At (S5 w b g) b (Wy.o ⟨g, y.ga, y.gn, y.gcap⟩) := by
  have h1 := heap_setCell_same w b 0 _ 75 (.int .u8 (g.k : Int)) h
  have h2 := heap_setCell_same _ b 1 _ 75 (.bool g.m) h1
  have h3 := heap_setCell_same _ b 2 _ 75 (.int .i64 g.r) h2
  have h4 := heap_setCell_same _ b 3 _ 75 (.int .i64 g.s) h3
  have h5 := heap_setCell_same _ b 4 _ 75 (.slice g.a g.n g.cap) h4
  exact h5
theorem atWy1 {w : World} {b : Nat} {y : Wy} (h : At w b y.o) (ga : Option Addr) (gn gcap : Nat) : At (w.setCell ⟨b, 5, none⟩ (.slice ga gn gcap)) b (Wy.o ⟨y.f, ga, gn, gcap⟩) := heap_setCell_same w b 5 _ 75 (.slice ga gn gcap) h
abbrev S6 (w : World) (b : Nat) (y : Wy) : World := (S5 w b y.f).setCell ⟨b, 5, none⟩ (.slice y.ga y.gn y.gcap)
theorem atWy6 {w : World} {b : Nat} {y : Wy} (h : At w b y.o) (z : Wy) : At (S6 w b z) b z.o := atWy1 (atWy5 h z.f) z.ga z.gn z.gcap
theorem atS6 {w : World} {b i : Nat} {o : Obj} (h : At w i o) (hi : i ≠ b) (z : Wy) : At (S6 w b z) i o := (h.S5 hi z.f).set hi _
theorem but_s6 (w : World) (b : Nat) (z : Wy) : But b w (S6 w b z) := (but_s5 w b z.f).set 5 _
theorem below_S6 {w W : World} (h : Below w.heap.size w W) {b : Nat} (hb : w.heap.size ≤ b) (z : Wy) : Below w.heap.size w (S6 W b z) := h.grown (but_s6 W b z) h.size (fun k hk => by cases hk; exact hb)
/-- A way is laid into a variable: the walk goes on in whatever world that is. -/
theorem wpl_storeW {w : World} {ops : Array Oper} {rest : List Oper} {a : Act} {Q : Exit → Act → World → Prop} {x y : Nat} {ty : TypeId} {pos : String} {after : Array Edge} (b : Nat) (f0 f : Wy) (hA : At w b f0.o)
    (hx : a.eval (.tmp x) = .pointer (some ⟨b, 0, none⟩)) (hy : a.eval (.tmp y) = f.v) (h : ∀ w', w' = S6 w b f → wpList Tryd.prog ops Q rest a w') : wpList Tryd.prog ops Q (⟨none, .store 75 (.tmp x) (.tmp y), ty, pos, after, none⟩ :: rest) a w := by
  refine wpList_plain rfl fun K hK => ?_
  have g0 := hA.wyF 0
  have g1 := hA.wyF 1
  have g2 := hA.wyF 2
  have g3 := hA.wyF 3
  have g4 := hA.wyF 4
  have g5 := hA.wyF 5
  obtain ⟨⟨hl, q0, q1, q2, q3, q4⟩, q5⟩ := hA.wy
  simp only [Nat.zero_add] at q0 q1 q2 q3 q4 q5
  have hx2 : a.tmps[x]?.getD undef = .pointer (some ⟨b, 0, none⟩) := by rw [← hx]; simp [Act.eval]
  have hy2 : a.tmps[y]?.getD undef = f.v := by rw [← hy]; simp [Act.eval]
  unfold Oper.wp
  simp [execOp, hx2, hy2, go_sem, q0, q1, q2, q3, q4, q5, g0, g1, g2, g3, g4, g5]
  exact hK _ _ (h _ rfl)
/-- A type is laid into a way: at an operation of a region. -/
theorem wp_storeT5 {w : World} {o : Oper} {a : Act} {K : Act → World → Prop} {Q : Exit → Act → World → Prop} {x y : Nat} (b : Nat) (y0 : Wy) (f : Fv) (ho : o.op = .store 32 (.tmp x) (.tmp y)) (hd : o.dst = none) (hA : At w b y0.o)
    (hx : a.eval (.tmp x) = .pointer (some ⟨b, 0, none⟩)) (hy : a.eval (.tmp y) = f.v) (h : K a (S5 w b f)) : o.wp Tryd.prog a w K Q := by
  have g0 := hA.wyF 0
  have g1 := hA.wyF 1
  have g2 := hA.wyF 2
  have g3 := hA.wyF 3
  have g4 := hA.wyF 4
  obtain ⟨⟨hl, q0, q1, q2, q3, q4⟩, q5⟩ := hA.wy
  simp only [Nat.zero_add] at q0 q1 q2 q3 q4
  have hx2 : a.tmps[x]?.getD undef = .pointer (some ⟨b, 0, none⟩) := by rw [← hx]; simp [Act.eval]
  have hy2 : a.tmps[y]?.getD undef = f.v := by rw [← hy]; simp [Act.eval]
  unfold Oper.wp
  simp [execOp, ho, hd, hx2, hy2, go_sem, q0, q1, q2, q3, q4, g0, g1, g2, g3, g4]
  exact h
set_option maxRecDepth 100000 in
theorem results_w2 {fn : Func} {i j : Nat} (h : fn.results = #[.cell i 75, .tmp j]) {tmps : Array Value} {W : World} {b4 : Nat} {g : Wy} {v : Value} (ht : tmps.getD i undef = .pointer (some ⟨b4, 0, none⟩)) (hv : tmps.getD j undef = v) (hC : At W b4 g.o) : (results fn tmps).run Tryd.prog W = .ok (.tuple #[g.v, v]) W := by
  obtain ⟨⟨-, e0, e1, e2, e3, e4⟩, e5⟩ := hC.wy
  simp only [Nat.zero_add] at e0 e1 e2 e3 e4
  have ht2 : tmps[i]?.getD undef = .pointer (some ⟨b4, 0, none⟩) := by rw [← ht]; simp
  have hv2 : tmps[j]?.getD undef = v := by rw [← hv]; simp
  simp only [results, h]
  simp [go_sem, ht2, hv2, e0, e1, e2, e3, e4, e5]
theorem Tryd.results57 : Tryd.f57.results = #[.cell 6 75, .tmp 7] := rfl
/-- While a place is followed. -/
structure WyI (w0 w V : World) (b8 : Nat) (y : Wy) (c : Ch) (gs : List Int) : Prop where
  var : At V b8 y.o
  res : At V (w.heap.size + 1) zW.o
  ty : TyAt w0 y.f c.ty
  gn : y.gn = gs.length
  row : V.ownsRow w.heap.size 3 1 (.slice y.ga y.gn y.gcap) gs.length (iCells gs)
  bel : Below w.heap.size w V
  lo : w.heap.size + 1 < b8
theorem row3_ne {V : World} {B n cap b1 : Nat} {a : Option Addr} {xs : List Value} {cs : Array Value} {e : Nat} (he : e ≠ 3) (h : V.ownsRow B 3 1 (.slice a n cap) n xs) (hA : At V b1 (.cells cs e (0, 0))) : some b1 ≠ (Value.slice a n cap).ownBlock := by
  rcases h.2 with ⟨e0, h0⟩ | ⟨g, cap', cur, e0, h1, hg, h2, h3, h4, ht⟩
  · injection e0 with e1 e2 e3
    subst e1
    simp [Value.ownBlock]
  · injection e0 with e1 e2 e3
    subst e1
    intro e4
    have e2 : b1 = g := by simpa [Value.ownBlock] using e4
    subst e2
    unfold At at hA
    rw [hg] at hA
    simp at hA
    exact he hA.2.symm
/-- What wayOf tells of a place. -/
def wayP (fc : Nat → List Ch) (cl : List Ch) (l : Int) (p : List Int) : Option (Ch × List Int) := if 0 ≤ l ∧ p.length ≤ 8 then (cl[l.toNat]?).bind fun c => wayC fc c p else none
/-- A way in memory. -/
structure WayIs (w0 w V : World) (y : Wy) (c : Ch) (gs : List Int) : Prop where
  ty : TyAt w0 y.f c.ty
  gn : y.gn = gs.length
  row : V.ownsRow w.heap.size 3 1 (.slice y.ga y.gn y.gcap) gs.length (iCells gs)
def WayPost (R : Option (Ch × List Int)) (w0 w V : World) (e : Ending) : Prop := match R with
  | some x => ∃ y : Wy, e = .returned (.tuple #[y.v, .bool true]) ∧ WayIs w0 w V y x.1 x.2
  | none => e = .returned (.tuple #[zW.v, .bool false])
theorem wayC_step {fc : Nat → List Ch} {c : Ch} {p : List Int} {i : Nat} {s : Int} (hs : p[i]? = some s) (gs : List Int) : (wayC fc c (p.drop i)).map (fun z => (z.1, gs ++ z.2)) = (stepC fc c s).bind fun x => (wayC fc x.1 (p.drop (i + 1))).map (fun z => (z.1, (gs ++ [x.2]) ++ z.2)) := by
  obtain ⟨h1, rfl⟩ := List.getElem?_eq_some_iff.1 hs
  rw [List.drop_eq_getElem_cons h1, wayC]
  cases stepC fc c p[i] with
  | none => rfl
  | some x =>
    show Option.map _ (Option.map _ _) = Option.map _ _
    rw [Option.map_map]
    congr 1
    funext z
    simp
/-- Behind a step. -/
theorem WyI.next {w0 w V V2 : World} {b8 : Nat} {y : Wy} {c d : Ch} {gs : List Int} {s : Int} {f' : Fv} {ga' : Option Addr} {gcap' : Nat} (h : WyI w0 w V b8 y c gs) (ht : TyAt w0 f' d.ty) {Va : World} (hva : Below V.heap.size V Va) (ho : V2.ownsRow w.heap.size 3 1 (.slice ga' (gs.length + 1) gcap') (gs.length + 1) (iCells gs ++ [.int .i64 s])) (hg : Va.grownBy V2 (Value.slice y.ga y.gn y.gcap).ownBlock) :
    At V2 b8 y.o ∧ WyI w0 w ((S5 V2 b8 f').setCell ⟨b8, 5, none⟩ (.slice ga' (gs.length + 1) gcap')) b8 ⟨f', ga', gs.length + 1, gcap'⟩ d (gs ++ [s]) := by
  have hrow : V.ownsRow w.heap.size 3 1 (.slice y.ga y.gn y.gcap) y.gn (iCells gs) := by have := h.row; rw [← h.gn] at this; exact this
  have hv2 : At V2 b8 y.o := (h.var.below hva).grown hg (row3_ne (by decide) hrow h.var)
  have hr2 : At V2 (w.heap.size + 1) zW.o := (h.res.below hva).grown hg (row3_ne (by decide) hrow h.res)
  have hb2 : Below w.heap.size w V2 := by
    refine (below_aft h.bel hva).grown hg (Nat.le_trans h.bel.size hva.size) (fun g e => ?_)
    rcases hrow.2 with ⟨e1, h0⟩ | ⟨g', cap', cur, e1, h1, hg', -⟩
    · injection e1 with e2 e3 e4
      rw [e2] at e
      simp [Value.ownBlock] at e
    · injection e1 with e2 e3 e4
      rw [e2] at e
      simp [Value.ownBlock] at e
      omega
  refine ⟨hv2, atWy1 (atWy5 hv2 f') ga' (gs.length + 1) gcap', ?_, ht, by simp, ?_, ?_, h.lo⟩
  · exact (hr2.S5 (by have := h.lo; omega) f').set (by have := h.lo; simp; omega) _
  · rw [show (gs ++ [s]).length = gs.length + 1 by simp, show iCells (gs ++ [s]) = iCells gs ++ [.int .i64 s] by simp [iCells]]
    have hne := row3_ne (e := 75) (by decide) ho hv2
    exact own_grow ho ((but_s5 V2 b8 f').set 5 _) (fun g hgg e2 => hne (by rw [hgg, e2]))
  · exact hb2.grown ((but_s5 V2 b8 f').set 5 _) hb2.size (fun k hk => by cases hk; have := h.lo; omega)
end Go.Proofs.YtnohcppipkpgmaaDoor
