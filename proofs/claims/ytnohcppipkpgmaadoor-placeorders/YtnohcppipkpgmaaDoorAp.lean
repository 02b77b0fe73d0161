import Derived.Test.YtnohcppipkpgmaaDoorAo
import Derived.Test.YtnohcppipkpgmaaDoorK
namespace Go.Proofs.YtnohcppipkpgmaaDoor
open Go.RowKit
set_option linter.unusedVariables false
set_option linter.unusedSimpArgs false

/-- A type that may be with other regions, in order. -/
def layC : Ch → List Int → Ch
  | .leaf k s, _ => .leaf k s
  | .box c, l => .box (layC c l)
  | .ref m _ c, x :: l => .ref m x (layC c l)
  | .ref m r c, [] => .ref m r c
theorem turn_lay (X : List Int) : ∀ (c : Ch) (l : List Int), l.length + c.regs.length ≤ X.length → turnC (fun l _ => X[l.length]?.getD 0) l c = layC c (X.drop l.length)
  | .leaf k s, l, _ => rfl
  | .box c, l, h => by simp only [turnC, layC]; rw [turn_lay X c l h]
  | .ref m r c, l, h => by
    have hlt : l.length < X.length := by simp [Ch.regs] at h; omega
    rw [List.drop_eq_getElem_cons hlt]
    simp only [turnC, layC]
    rw [turn_lay X c (l ++ [r]) (by simp [Ch.regs] at h ⊢; omega)]
    simp [List.getElem?_eq_getElem hlt]
theorem turn_id : ∀ (c : Ch) (l : List Int), turnC (fun _ r => r) l c = c
  | .leaf k s, l => rfl
  | .box c, l => by simp only [turnC]; rw [turn_id c l]
  | .ref m r c, l => by simp only [turnC]; rw [turn_id c]
theorem lay_regs : ∀ (c : Ch) (X : List Int), c.regs.length = X.length → (layC c X).regs = X
  | .leaf k s, X, h => by cases X with | nil => rfl | cons => simp [Ch.regs] at h
  | .box c, X, h => by simp only [layC, Ch.regs]; exact lay_regs c X h
  | .ref m r c, [], h => by simp [Ch.regs] at h
  | .ref m r c, x :: X, h => by simp only [layC, Ch.regs]; rw [lay_regs c X (by simpa [Ch.regs] using h)]
theorem lay_rg : ∀ (c : Ch) (X : List Int), c.rg → (∀ x ∈ X, -9223372036854775808 ≤ x ∧ x ≤ 9223372036854775807) → (layC c X).rg
  | .leaf k s, X, h, _ => h
  | .box c, X, h, hX => lay_rg c X h hX
  | .ref m r c, [], h, hX => h
  | .ref m r c, x :: X, h, hX => ⟨hX x (by simp), lay_rg c X h.2 (fun y hy => hX y (by simp [hy]))⟩
/-- The same region again. -/
theorem turnO (w0 : World) (N : Nat) : Turn 73 [] N w0 (fun _ W => Below w0.heap.size w0 W) (fun _ r => r) where
  enters := fun args W => by kernel_rfl
  alloc := fun l W o h => h.alloc h.size o
  set := fun l W W' i f h hA hi hb => h.grown hb h.size (fun k hk => by cases hk; exact hi)
  bel := fun l W h => h
  call := by
    intro l r W hl r0 r1 hJ
    show Calls Tryd.prog 73 #[.int .i64 r] W _
    have HJ := (show Hid (Below w0.heap.size w0 W) from hJ)
    clear hJ
    go_enter Tryd.func73, Tryd.ntmps73
    go_wp2_with fail
    go_ret
    exact ⟨rfl, HJ.out, fun i f x => x, Nat.le_refl _⟩
/-- The next number. -/
def JN (w0 : World) (b : Nat) (fr : Int) (l : List Int) (W : World) : Prop := At W b (One (.int .i64 (fr + l.length)) 3) ∧ Below w0.heap.size w0 W ∧ w0.heap.size ≤ b
theorem one_ne {W : World} {b i t : Nat} {v : Value} {f : Fv} (h : At W b (One v t)) (hA : At W i f.o) : b ≠ i := fun e => by
  subst e
  unfold At at h hA
  rw [h] at hA
  simp [Fv.o] at hA
/-- A row of numbers in memory, whoever's it is. -/
structure IntR (w : World) (a : Option Addr) (n cap : Nat) (L : List Int) : Prop where
  len : n = L.length
  le : n ≤ cap
  big : cap ≤ maxLen
  cells : L ≠ [] → ∃ g off, a = some ⟨g, off, none⟩ ∧ g < w.heap.size ∧ ∀ i x, L[i]? = some x → w.cell? ⟨g, off + i, none⟩ = some (.int .i64 x)
  rng : ∀ x ∈ L, -9223372036854775808 ≤ x ∧ x ≤ 9223372036854775807
  nil : a = none → cap = 0
theorem IntR.bel {w w' : World} {a : Option Addr} {n cap : Nat} {L : List Int} (h : IntR w a n cap L) (hb : Below w.heap.size w w') : IntR w' a n cap L :=
  ⟨h.len, h.le, h.big, fun hne => by obtain ⟨g, off, h1, h2, h3⟩ := h.cells hne; exact ⟨g, off, h1, Nat.lt_of_lt_of_le h2 hb.size, fun i x hx => (hb.cell (p := ⟨g, off + i, none⟩) h2).trans (h3 i x hx)⟩, h.rng, h.nil⟩
/-- The next of a row. -/
def JAn (w0 : World) (b b2 : Nat) (a : Option Addr) (n cap : Nat) (l : List Int) (W : World) : Prop := At W b (One (.int .i64 l.length) 3) ∧ At W b2 (One (.slice a n cap) 36) ∧ Below w0.heap.size w0 W ∧ w0.heap.size ≤ b ∧ b ≠ b2
set_option maxRecDepth 100000 in
theorem results_c2 {fn : Func} {i j : Nat} (h : fn.results = #[.cell i 32, .tmp j]) {tmps : Array Value} {W : World} {b4 : Nat} {g : Fv} {v : Value} (ht : tmps.getD i undef = .pointer (some ⟨b4, 0, none⟩)) (hv : tmps.getD j undef = v) (hC : C5 W b4 0 g) : (results fn tmps).run Tryd.prog W = .ok (.tuple #[g.v, v]) W := by
  obtain ⟨-, e0, e1, e2, e3, e4⟩ := hC
  simp only [Nat.zero_add] at e1 e2 e3 e4
  have ht2 : tmps[i]?.getD undef = .pointer (some ⟨b4, 0, none⟩) := by rw [← ht]; simp
  have hv2 : tmps[j]?.getD undef = v := by rw [← hv]; simp
  simp only [results, h]
  simp [go_sem, ht2, hv2, e0, e1, e2, e3, e4]
set_option maxRecDepth 100000 in
theorem results_c3 {fn : Func} {i j l : Nat} (h : fn.results = #[.cell i 32, .tmp j, .tmp l]) {tmps : Array Value} {W : World} {b4 : Nat} {g : Fv} {v u : Value} (ht : tmps.getD i undef = .pointer (some ⟨b4, 0, none⟩)) (hv : tmps.getD j undef = v) (hu : tmps.getD l undef = u) (hC : C5 W b4 0 g) : (results fn tmps).run Tryd.prog W = .ok (.tuple #[g.v, v, u]) W := by
  obtain ⟨-, e0, e1, e2, e3, e4⟩ := hC
  simp only [Nat.zero_add] at e1 e2 e3 e4
  have ht2 : tmps[i]?.getD undef = .pointer (some ⟨b4, 0, none⟩) := by rw [← ht]; simp
  have hv2 : tmps[j]?.getD undef = v := by rw [← hv]; simp
  have hu2 : tmps[l]?.getD undef = u := by rw [← hu]; simp
  simp only [results, h]
  simp [go_sem, ht2, hv2, hu2, e0, e1, e2, e3, e4]
theorem Tryd.results59 : Tryd.f59.results = #[.cell 2 32] := rfl
theorem Tryd.results37 : Tryd.f37.results = #[.cell 2 32, .tmp 3] := rfl
/-- A type that was made anew. -/
structure New (W w' : World) (f : Fv) (X : Ch) : Prop where
  own : OwnL w' W.heap.size w'.heap.size f X
  bel : Below W.heap.size W w'
theorem below_s5 {w w1 : World} (h : Below w.heap.size w w1) {b : Nat} (hb : w.heap.size ≤ b) (g : Fv) : Below w.heap.size w (S5 w1 b g) := h.grown (but_s5 w1 b g) h.size (fun k hk => by cases hk; exact hb)
/-- .. laid into a variable of one's own. -/
theorem new_s5 {w w1 : World} {lo b : Nat} {f f4 : Fv} {X : Ch} (ho : Own w1 lo f X) (hB : Below w.heap.size w w1) (hb : w.heap.size ≤ b) (hlo : b < lo) (hA : At w1 b f4.o) : C5 (S5 w1 b f) b 0 f ∧ New w (S5 w1 b f) f X :=
  ⟨(hA.set5 f).ty, ⟨((ho.keep fun i o hi h => h.S5 (by omega) f).low (by omega)).toL, below_s5 hB hb f⟩⟩
theorem new_zero {w w1 : World} {b : Nat} {f4 : Fv} (hB : Below w.heap.size w w1) (hb : w.heap.size ≤ b) (hA : At w1 b f4.o) : C5 (S5 w1 b zT) b 0 zT ∧ New w (S5 w1 b zT) zT (.leaf 0 0) :=
  ⟨(hA.set5 zT).ty, ⟨.leaf 0 0 none 0, below_s5 hB hb zT⟩⟩
set_option maxRecDepth 100000 in
set_option maxHeartbeats 1000000 in
theorem owned_any (c : Ch) (f : Fv) (w : World) (hc : c.ok 32) (h : TyAt w f c.ty) : Calls Tryd.prog 59 #[f.v] w fun e w' => ∃ f' : Fv, e = .returned f'.v ∧ Own w' w.heap.size f' c ∧ Below w.heap.size w w' := by
  have CT : Hid (Calls Tryd.prog 72 #[f.v, fnZ 73] ((w.alloc f.o).alloc zT.o) fun e w' => ∃ f' : Fv, e = .returned f'.v ∧ TurnP ((w.alloc f.o).alloc zT.o) (fun _ W => Below w.heap.size w W) ([] ++ c.regs) c f' w') := by
    have := turned_any0 (turnO w c.regs.length) c f [] ((w.alloc f.o).alloc zT.o) hc (by simp) h (belA (belA (Below.refl _ _)))
    rw [turn_id] at this
    exact this
  have A4 : Hid (At ((w.alloc f.o).alloc zT.o) (w.heap.size + 1) zT.o) := at_snd _ _ _
  obtain ⟨k, m, r, s, a, n, cap⟩ := f
  show Calls Tryd.prog 59 #[tyV k m r s a n cap] w _
  clear h hc
  go_enter Tryd.func59, Tryd.ntmps59
  go_wp2_with (go_at_call 72; refine CT.out.mono ?_; rintro e w1 ⟨f2, rfl, hP⟩; have B4 := hP.keep _ _ A4.out; have g0 := B4.tyF 0; have g1 := B4.tyF 1; have g2 := B4.tyF 2; have g3 := B4.tyF 3; have g4 := B4.tyF 4; obtain ⟨hl4, q0, q1, q2, q3, q4⟩ := B4.ty; simp only [Nat.zero_add] at q0 q1 q2 q3 q4)
  obtain ⟨F1, F2⟩ := new_s5 hP.own hP.j (b := w.heap.size + 1) (by omega) (by simp) B4
  exact bodyPost_ret (results_c1 (g := f2) Tryd.results59 rfl F1) rfl ⟨f2, rfl, (hP.own.keep fun i o hi h => h.S5 (by simp at hi; omega) f2).low (by simp; omega), F2.bel⟩
set_option maxRecDepth 100000 in
set_option maxHeartbeats 1000000 in
theorem Own_yes (c : Ch) (f : Fv) (w : World) (hc : Ok c) (h : TyAt w f c.ty) : Calls Tryd.prog 37 #[f.v] w fun e w' => ∃ f' : Fv, e = .returned (.tuple #[f'.v, .int .i64 0]) ∧ New w w' f' c := by
  have CI : Hid (Calls Tryd.prog 58 #[f.v] ((w.alloc f.o).alloc zT.o) fun e w' => e = .returned (.bool true) ∧ Below ((w.alloc f.o).alloc zT.o).heap.size ((w.alloc f.o).alloc zT.o) w') := by
    have := some_any c.ty f _ (h.bel (belB w f zT))
    rw [hc.is] at this
    exact this
  have CO : Hid (∀ W, Below w.heap.size w W → Calls Tryd.prog 59 #[f.v] W fun e w' => ∃ f' : Fv, e = .returned f'.v ∧ Own w' W.heap.size f' c ∧ Below W.heap.size W w') := fun W hW => owned_any c f W hc.ok (h.bel hW)
  have A2 : Hid (At ((w.alloc f.o).alloc zT.o) w.heap.size f.o) := (At.new _ _).alloc _
  have A4 : Hid (At ((w.alloc f.o).alloc zT.o) (w.heap.size + 1) zT.o) := at_snd _ _ _
  obtain ⟨k, m, r, s, a, n, cap⟩ := f
  show Calls Tryd.prog 37 #[tyV k m r s a n cap] w _
  clear h hc
  go_enter Tryd.func37, Tryd.ntmps37
  go_wp2_with (first
    | (go_at_call 58; refine CI.out.mono ?_; rintro e w1 ⟨rfl, hb1⟩; obtain ⟨-, p0, p1, p2, p3, p4⟩ := (A2.out.below hb1).ty)
    | (go_at_call 59; refine (CO.out _ (below2 hb1)).mono ?_; rintro e w2 ⟨f2, rfl, ho2, hb2⟩; have B4 := (A4.out.below hb1).below hb2; have g0 := B4.tyF 0; have g1 := B4.tyF 1; have g2 := B4.tyF 2; have g3 := B4.tyF 3; have g4 := B4.tyF 4; obtain ⟨hl4, q0, q1, q2, q3, q4⟩ := B4.ty; simp only [Nat.zero_add] at q0 q1 q2 q3 q4))
  obtain ⟨F1, F2⟩ := new_s5 ho2 (below_aft (below2 hb1) hb2) (b := w.heap.size + 1) (by omega) (by have := hb1.size; simp only [World.size_alloc] at this; omega) B4
  exact bodyPost_ret (results_c2 (g := f2) Tryd.results37 rfl rfl F1) rfl ⟨f2, rfl, F2⟩
set_option maxRecDepth 100000 in
set_option maxHeartbeats 1000000 in
theorem Own_no (t : Ty) (f : Fv) (w : World) (hn : isT t = false) (h : TyAt w f t) : Calls Tryd.prog 37 #[f.v] w fun e w' => ∃ f' : Fv, e = .returned (.tuple #[f'.v, .int .i64 2]) ∧ New w w' f' (.leaf 0 0) := by
  have CI : Hid (Calls Tryd.prog 58 #[f.v] ((w.alloc f.o).alloc zT.o) fun e w' => e = .returned (.bool false) ∧ Below ((w.alloc f.o).alloc zT.o).heap.size ((w.alloc f.o).alloc zT.o) w') := by
    have := some_any t f _ (h.bel (belB w f zT))
    rw [hn] at this
    exact this
  have A4 : Hid (At ((w.alloc f.o).alloc zT.o) (w.heap.size + 1) zT.o) := at_snd _ _ _
  obtain ⟨k, m, r, s, a, n, cap⟩ := f
  show Calls Tryd.prog 37 #[tyV k m r s a n cap] w _
  clear h hn
  go_enter Tryd.func37, Tryd.ntmps37
  go_wp2_with (go_at_call 58; refine CI.out.mono ?_; rintro e w1 ⟨rfl, hb1⟩; have B4 := (A4.out.below hb1); have g0 := B4.tyF 0; have g1 := B4.tyF 1; have g2 := B4.tyF 2; have g3 := B4.tyF 3; have g4 := B4.tyF 4; obtain ⟨hl4, q0, q1, q2, q3, q4⟩ := B4.ty; simp only [Nat.zero_add] at q0 q1 q2 q3 q4)
  obtain ⟨F1, F2⟩ := new_zero (below2 hb1) (b := w.heap.size + 1) (by omega) B4
  exact bodyPost_ret (results_c2 (g := zT) Tryd.results37 rfl rfl F1) rfl ⟨zT, rfl, F2⟩
end Go.Proofs.YtnohcppipkpgmaaDoor
