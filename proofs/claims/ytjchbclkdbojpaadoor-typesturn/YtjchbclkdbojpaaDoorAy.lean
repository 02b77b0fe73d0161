import Derived.Test.YtjchbclkdbojpaaDoorAv
namespace Go.Proofs.YtjchbclkdbojpaaDoor
open Go.RowKit Go.Shelf
set_option linter.unusedVariables false
set_option linter.unusedSimpArgs false

theorem ones77 : ∀ u ∈ ([.int .i64 77] : List Value), u.oneCell' = true := fun u hu => by simp at hu; subst hu; rfl
theorem news77 (W : World) : ∀ j u, ([Value.int .i64 77] : List Value)[j]? = some u → (W.alloc (.cells #[.int .i64 77] 3)).cell? ((⟨W.heap.size, 0, none⟩ : Addr).add j) = some u := fun j u hu => by
  cases j with
  | zero => simp at hu; subst hu; simp [Addr.add, cell_of_one (At.new W (One (.int .i64 77) 3))]
  | succ j => simp at hu
/-- The law's own row: the regions, and a mark behind them. -/
structure RowO (W : World) (go co n : Nat) (X : List Int) : Prop where
  lt : go < W.heap.size
  cells : ∀ i, i < n + 1 → W.cell? ⟨go, i, none⟩ = (iCells (X ++ [77]))[i]?
  len : X.length = n
  cap : n + 1 ≤ co
  max : co ≤ maxLen
theorem rowOwn {W : World} {B go co n : Nat} {X : List Int} (h : W.ownsRow B 3 1 (.slice (some ⟨go, 0, none⟩) (0 + n + 1) co) (0 + n + 1) ([] ++ iCells X ++ [.int .i64 77])) (hl : X.length = n) : RowO W go co n X := by
  obtain ⟨g, e, _, hg, hc, _⟩ := irow_at h (by omega)
  cases e
  refine ⟨hg, fun i hi => ?_, hl, ?_, ?_⟩
  · rw [hc i (by omega)]
    simp [iCells]
  · rcases h.2 with ⟨e, h0⟩ | ⟨g, cap', cur, e, _, _, h1, h2, _⟩
    · omega
    · injection e with _ _ e3; omega
  · rcases h.2 with ⟨e, h0⟩ | ⟨g, cap', cur, e, _, _, h1, h2, _⟩
    · omega
    · injection e with _ _ e3; subst e3; exact h2
theorem RowO.below {W W' : World} {go co n : Nat} {X : List Int} (h : RowO W go co n X) (k : Below W.heap.size W W') : RowO W' go co n X := ⟨Nat.lt_of_lt_of_le h.lt k.size, fun i hi => (k.cell (p := ⟨go, i, none⟩) h.lt).trans (h.cells i hi), h.len, h.cap, h.max⟩
theorem RowO.drew {W : World} {go co n : Nat} {X : List Int} (h : RowO W go co n X) : RowO W.drew go co n X := h.below (Below.refl _ _).drew
theorem RowO.but {W W' : World} {go co n b : Nat} {X : List Int} (h : RowO W go co n X) (k : But b W W') (hn : go ≠ b) : RowO W' go co n X := ⟨Nat.lt_of_lt_of_le h.lt k.size, fun i hi => (World.cell?_of_block (a := ⟨go, i, none⟩) (k.block go h.lt (fun e => hn (Option.some.inj e)))).trans (h.cells i hi), h.len, h.cap, h.max⟩
theorem RowO.s5 {W : World} {go co n b : Nat} {X : List Int} (h : RowO W go co n X) (hn : go ≠ b) (g : Fv) : RowO (S5 W b g) go co n X := h.but (but_s5 W b g) hn
theorem RowO.out {W W' : World} {go co n lo hi : Nat} {X : List Int} (h : RowO W go co n X) (k : Out lo hi W W') (hn : go < lo ∨ hi ≤ go) : RowO W' go co n X := ⟨Nat.lt_of_lt_of_le h.lt k.bel.size, fun i hi => (World.cell?_of_block (a := ⟨go, i, none⟩) (by rcases hn with h1 | h1; exact k.bel.block go h1; exact k.hi go h1 h.lt)).trans (h.cells i hi), h.len, h.cap, h.max⟩
theorem RowO.int {W : World} {go co n : Nat} {X : List Int} (h : RowO W go co n X) (hr : ∀ x ∈ X, -9223372036854775808 ≤ x ∧ x ≤ 9223372036854775807) : IntR W (some ⟨go, 0, none⟩) n co X :=
  ⟨h.len.symm, by have := h.cap; omega, h.max, fun _ => ⟨go, 0, rfl, h.lt, fun i x hx => by
    have hi := (List.getElem?_eq_some_iff.1 hx).1
    have hl := h.len
    rw [Nat.zero_add, h.cells i (by omega)]
    simp only [iCells, List.map_append]; rw [List.getElem?_append_left (by simpa using hi)]; simp [hx]⟩, hr, fun e => by cases e⟩
theorem RowO.at {W : World} {go co n i : Nat} {X : List Int} {x : Int} (h : RowO W go co n X) (hx : X[i]? = some x) : W.cell? ⟨go, i, none⟩ = some (.int .i64 x) := by
  have hi := (List.getElem?_eq_some_iff.1 hx).1
  have hl := h.len
  rw [h.cells i (by omega)]
  simp only [iCells, List.map_append]
  rw [List.getElem?_append_left (by simpa using hi)]
  simp [hx]
theorem RowO.last {W : World} {go co n : Nat} {X : List Int} (h : RowO W go co n X) : W.cell? ⟨go, n, none⟩ = some (.int .i64 77) := by
  rw [h.cells n (by omega), ← h.len]
  simp [iCells]
/-- A type is laid into a variable: the walk goes on in whatever world that is. -/
theorem wpl_store26 {w : World} {ops : Array Oper} {rest : List Oper} {a : Act} {Q : Exit → Act → World → Prop} {x y : Nat} {ty : TypeId} {pos : String} {after : Array Edge} (b : Nat) (f0 f : Fv) (hA : At w b f0.o)
    (hx : a.eval (.tmp x) = .pointer (some ⟨b, 0, none⟩)) (hy : a.eval (.tmp y) = f.v) (h : ∀ w', w' = S5 w b f → wpList Tryd.prog ops Q rest a w') : wpList Tryd.prog ops Q (⟨none, .store 26 (.tmp x) (.tmp y), ty, pos, after, none⟩ :: rest) a w := by
  refine wpList_plain rfl fun K hK => ?_
  have g0 := hA.tyF 0
  have g1 := hA.tyF 1
  have g2 := hA.tyF 2
  have g3 := hA.tyF 3
  have g4 := hA.tyF 4
  obtain ⟨hl, q0, q1, q2, q3, q4⟩ := hA.ty
  simp only [Nat.zero_add] at q0 q1 q2 q3 q4
  have hx2 : a.tmps[x]?.getD undef = .pointer (some ⟨b, 0, none⟩) := by rw [← hx]; simp [Act.eval]
  have hy2 : a.tmps[y]?.getD undef = f.v := by rw [← hy]; simp [Act.eval]
  unfold Oper.wp
  simp [execOp, hx2, hy2, go_sem, q0, q1, q2, q3, q4, g0, g1, g2, g3, g4]
  exact hK _ _ (h _ rfl)
end Go.Proofs.YtjchbclkdbojpaaDoor
