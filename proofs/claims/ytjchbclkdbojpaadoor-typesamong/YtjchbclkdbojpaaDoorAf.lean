import Derived.Test.YtjchbclkdbojpaaDoorAe
import Derived.Test.YtjchbclkdbojpaaDoorE
import Derived.Test.YtjchbclkdbojpaaDoorAb
namespace Go.Proofs.YtjchbclkdbojpaaDoor
open Go.RowKit Go.Shelf
set_option linter.unusedVariables false
set_option linter.unusedSimpArgs false

/-- What one of the two 'Asks' gives: a new row, and a number. -/
def AskC (fn : Nat) (f f' : Fv) (X : List (Int × Int)) (no : Int) (w : World) : Prop :=
  ∀ W, Below w.heap.size w W → Calls Tryd.prog fn #[f.v, f'.v] W fun e w' => (∃ v, e = .returned (.tuple #[v, .int .i64 no]) ∧ w'.ownsRow W.heap.size 67 2 v X.length (cCells X)) ∧ Below W.heap.size W w'
theorem ask_none {fn : Nat} {f f' : Fv} {w : World} (h : ∀ W, Below w.heap.size w W → Calls Tryd.prog fn #[f.v, f'.v] W fun e w' => e = .returned (.tuple #[.slice none 0 0, .int .i64 2]) ∧ Below W.heap.size W w') : AskC fn f f' [] 2 w := by
  intro W hW
  refine (h W hW).mono ?_
  rintro e w' ⟨rfl, hb⟩
  exact ⟨⟨_, rfl, World.ownsRow_nil _ _ _ _⟩, hb⟩
theorem asks_both (t u : Ty) (f f' : Fv) (w : World) (h : TyAt w f t) (h' : TyAt w f' u) : ∃ X no, X.length ≤ 96 ∧ (no = 0 ∨ no = 2) ∧ AskC 38 f f' X no w ∧ AskC 39 f f' X no w := by
  by_cases hn : isT t = false ∨ isT u = false
  · exact ⟨[], 2, by simp, .inr rfl, ask_none fun W hW => Asks_no t u f f' W (h.bel hW) (h'.bel hW) false (fun W' hW' => Alike_no t u f f' W' ((h.bel hW).bel hW') ((h'.bel hW).bel hW') hn) (fun e => by cases e), ask_none fun W hW => rAsks_un f f' W fun W' hW' => rAlike_no t u f f' W' ((h.bel hW).bel hW') ((h'.bel hW).bel hW') hn⟩
  · have h1 : isT t = true := by cases e : isT t <;> simp_all
    have h2 : isT u = true := by cases e : isT u <;> simp_all
    obtain ⟨c, rfl, hc⟩ := ok_of h1
    obtain ⟨d, rfl, hd⟩ := ok_of h2
    cases ha : alikeB c d with
    | false =>
      exact ⟨[], 2, by simp, .inr rfl, ask_none fun W hW => Asks_no c.ty d.ty f f' W (h.bel hW) (h'.bel hW) false (fun W' hW' => ha ▸ Alike_yes c d f f' W' ((h.bel hW).bel hW') ((h'.bel hW).bel hW') hc hd) (fun e => by cases e), ask_none fun W hW => rAsks_un f f' W fun W' hW' => ha ▸ rAlike_yes c d f f' W' ((h.bel hW).bel hW') ((h'.bel hW).bel hW') hc hd⟩
    | true =>
      cases hb : (c.regs ++ d.regs).any (fun r => decide (r < 0)) with
      | true =>
        have hb' : bareB c = true ∨ bareB d = true := by
          rw [List.any_append, Bool.or_eq_true] at hb
          exact hb
        refine ⟨[], 2, by simp, .inr rfl, ask_none fun W hW => Asks_no c.ty d.ty f f' W (h.bel hW) (h'.bel hW) true (fun W' hW' => ha ▸ Alike_yes c d f f' W' ((h.bel hW).bel hW') ((h'.bel hW).bel hW') hc hd) (fun _ => ⟨c, d, rfl, rfl, hc, hd, hb'⟩), ask_none fun W hW => (rAsks_alike c d f f' W hc hd (h.bel hW) (h'.bel hW) ha).mono ?_⟩
        rintro e w' ⟨⟨_, he⟩ | ⟨hf, _⟩, hB⟩
        · exact ⟨he, hB⟩
        · rw [hb] at hf; cases hf
      | false =>
        have hb' := hb
        rw [List.any_append, Bool.or_eq_false_iff] at hb'
        refine ⟨asksL false c d, 0, ?_, .inl rfl, fun W hW => Asks_yes c d f f' W hc hd (h.bel hW) (h'.bel hW) ha hb'.1 hb'.2, fun W hW => (rAsks_alike c d f f' W hc hd (h.bel hW) (h'.bel hW) ha).mono ?_⟩
        · have := asksL_len false c d
          have := hc.deep
          omega
        · rintro e w' ⟨⟨hf, _⟩ | ⟨_, hv⟩, hB⟩
          · rw [hb] at hf; cases hf
          · exact ⟨hv, hB⟩
set_option maxRecDepth 100000 in
set_option maxHeartbeats 1000000 in
theorem ask_big1 (t u : Ty) (f f' : Fv) (w : World) (h : TyAt w f t) (h' : TyAt w f' u) (hF : FitC 60 t false) :
    Calls Tryd.prog 5 #[f.v, f'.v] w fun e w' => e = .returned (.bool true) ∧ Below w.heap.size w w' := by
  have CA : Hid (∀ W, Calls Tryd.prog 11 #[] W fun e w' => e = .returned (.bool true) ∧ Below W.heap.size W w') := awake_true
  have CF : Hid (Calls Tryd.prog 10 #[f.v, .int .i64 60] ((w.alloc f.o).alloc f'.o) fun e w' => e = .returned (.bool false) ∧ Below ((w.alloc f.o).alloc f'.o).heap.size ((w.alloc f.o).alloc f'.o) w') := hF f _ (h.bel (belB w f f'))
  obtain ⟨k, m, r, s, a, n, cap⟩ := f
  obtain ⟨k', m', r', s', a', n', cap'⟩ := f'
  show Calls Tryd.prog 5 #[tyV k m r s a n cap, tyV k' m' r' s' a' n' cap'] w _
  clear h h' hF
  go_enter Tryd.func5, Tryd.ntmps5
  go_wp2_with (first
    | (go_at_call 10; refine CF.out.mono ?_; rintro e w1 ⟨rfl, hb1⟩)
    | (go_at_call 11; refine (CA.out _).mono ?_; rintro e w7 ⟨rfl, hb7⟩))
  go_ret
  exact ⟨rfl, below_aft (below2 hb1) hb7⟩
set_option maxRecDepth 100000 in
set_option maxHeartbeats 1000000 in
theorem ask_big2 (t u : Ty) (f f' : Fv) (w : World) (h : TyAt w f t) (h' : TyAt w f' u) (hF : FitC 60 t true) (hF' : FitC 60 u false) :
    Calls Tryd.prog 5 #[f.v, f'.v] w fun e w' => e = .returned (.bool true) ∧ Below w.heap.size w w' := by
  have CA : Hid (∀ W, Calls Tryd.prog 11 #[] W fun e w' => e = .returned (.bool true) ∧ Below W.heap.size W w') := awake_true
  have CF : Hid (Calls Tryd.prog 10 #[f.v, .int .i64 60] ((w.alloc f.o).alloc f'.o) fun e w' => e = .returned (.bool true) ∧ Below ((w.alloc f.o).alloc f'.o).heap.size ((w.alloc f.o).alloc f'.o) w') := hF f _ (h.bel (belB w f f'))
  have CG : Hid (∀ W, Below w.heap.size w W → Calls Tryd.prog 10 #[f'.v, .int .i64 60] W fun e w' => e = .returned (.bool false) ∧ Below W.heap.size W w') := fun W hW => hF' f' _ (h'.bel hW)
  have HN2 : Hid (At ((w.alloc f.o).alloc f'.o) (w.heap.size + 1) f'.o) := at_snd w f.o f'.o
  obtain ⟨k, m, r, s, a, n, cap⟩ := f
  obtain ⟨k', m', r', s', a', n', cap'⟩ := f'
  show Calls Tryd.prog 5 #[tyV k m r s a n cap, tyV k' m' r' s' a' n' cap'] w _
  clear h h' hF hF'
  have st1 : Stg 1 := .mk 1
  go_enter Tryd.func5, Tryd.ntmps5
  go_wp2_with (first
    | (have _s := st1; clear st1 _s; go_at_call 10; refine CF.out.mono ?_; rintro e w1 ⟨rfl, hb1⟩; have st2 : Stg 2 := .mk 2; obtain ⟨-, p0, p1, p2, p3, p4⟩ := (HN2.out.below hb1).ty)
    | (have _s := st2; clear st2 _s; go_at_call 10; refine (CG.out _ (below2 hb1)).mono ?_; rintro e w2 ⟨rfl, hb2⟩)
    | (go_at_call 11; refine (CA.out _).mono ?_; rintro e w7 ⟨rfl, hb7⟩))
  go_ret
  exact ⟨rfl, below_aft (below_aft (below2 hb1) hb2) hb7⟩
theorem cCells_at : ∀ (X : List (Int × Int)) (j : Nat) (x : Int × Int), X[j]? = some x → (cCells X)[j * 2]? = some (.int .i64 x.1) ∧ (cCells X)[j * 2 + 1]? = some (.int .i64 x.2) := by
  intro X
  induction X with
  | nil => intro j x h; simp at h
  | cons y l ih =>
    intro j x h
    cases j with
    | zero => simp at h; subst h; simp [cCells]
    | succ j =>
      have h2 := ih j x (by simpa using h)
      have e1 : (j + 1) * 2 = j * 2 + 1 + 1 := by omega
      have e2 : (j + 1) * 2 + 1 = j * 2 + 1 + 1 + 1 := by omega
      rw [e1]
      simpa [cCells] using h2
/-- The three rows of the law, the first spoilt below j. -/
structure Askr (w : World) (B C : Nat) (a1 : Option Addr) (c1 : Nat) (a2 : Option Addr) (c2 : Nat) (a3 : Option Addr) (c3 : Nat) (X : List (Int × Int)) (j : Nat) (W : World) : Prop where
  one : ∃ ys, W.ownsRow B 67 2 (.slice a1 X.length c1) X.length ys ∧ ∀ t, j * 2 ≤ t → ys[t]? = (cCells X)[t]?
  two : W.ownsRow C 67 2 (.slice a2 X.length c2) X.length (cCells X)
  three : W.ownsRow C 67 2 (.slice a3 X.length c3) X.length (cCells X)
  low : w.heap.size ≤ B
  lt : ∀ k, (Value.slice a1 X.length c1).ownBlock = some k → k < C
  bel : Below w.heap.size w W
theorem Askr.drewN {w : World} {B C : Nat} {a1 : Option Addr} {c1 : Nat} {a2 : Option Addr} {c2 : Nat} {a3 : Option Addr} {c3 : Nat} {X : List (Int × Int)} {j : Nat} {W : World} (h : Askr w B C a1 c1 a2 c2 a3 c3 X j W) (n : Nat) : Askr w B C a1 c1 a2 c2 a3 c3 X j (W.drewN n) := ⟨h.one, h.two, h.three, h.low, h.lt, belN h.bel n⟩
theorem row_at {W : World} {B cap n : Nat} {a : Option Addr} {ys : List Value} (h : W.ownsRow B 67 2 (.slice a n cap) n ys) (hn : 0 < n) : ∃ g, a = some ⟨g, 0, none⟩ ∧ B ≤ g ∧ g < W.heap.size ∧ (∀ t, t < n * 2 → W.cell? ⟨g, t, none⟩ = ys[t]?) ∧ ∀ t, W.frozen? ⟨g, t, none⟩ = false := by
  obtain ⟨g, cap', e⟩ := own_is h hn
  injection e with e1 _ e3
  subst e1
  exact ⟨g, rfl, (h.lt g rfl).1, (h.lt g rfl).2, fun t ht => h.cellAt t ht, fun t => h.frozenAt t⟩
theorem Askr.cells {w : World} {B C : Nat} {a1 : Option Addr} {c1 : Nat} {a2 : Option Addr} {c2 : Nat} {a3 : Option Addr} {c3 : Nat} {X : List (Int × Int)} {j : Nat} {W : World} (h : Askr w B C a1 c1 a2 c2 a3 c3 X j W) {x : Int × Int} (hx : X[j]? = some x) :
    ∃ g1 g2 g3, a1 = some ⟨g1, 0, none⟩ ∧ a2 = some ⟨g2, 0, none⟩ ∧ a3 = some ⟨g3, 0, none⟩ ∧ (g1 < W.heap.size ∧ W.cell? ⟨g1, j * 2, none⟩ = some (.int .i64 x.1) ∧ W.cell? ⟨g1, j * 2 + 1, none⟩ = some (.int .i64 x.2) ∧ W.frozen? ⟨g1, j * 2, none⟩ = false ∧ W.frozen? ⟨g1, j * 2 + 1, none⟩ = false) ∧
      (g3 < W.heap.size ∧ W.cell? ⟨g3, j * 2, none⟩ = some (.int .i64 x.1) ∧ W.cell? ⟨g3, j * 2 + 1, none⟩ = some (.int .i64 x.2)) ∧
      ∀ W' : World, W' = (W.setCell ⟨g1, j * 2, none⟩ (.int .i64 (-9))).setCell ⟨g1, j * 2 + 1, none⟩ (.int .i64 0) → Askr w B C a1 c1 a2 c2 a3 c3 X (j + 1) W' := by
  have hj : j < X.length := (List.getElem?_eq_some_iff.1 hx).1
  obtain ⟨q1, q2⟩ := cCells_at X j x hx
  obtain ⟨ys, h1, hy⟩ := h.one
  obtain ⟨g1, rfl, b1, l1, k1, f1⟩ := row_at h1 (by omega)
  obtain ⟨g2, rfl, b2, l2, k2, f2⟩ := row_at h.two (by omega)
  obtain ⟨g3, rfl, b3, l3, k3, f3⟩ := row_at h.three (by omega)
  have hg1 := h.lt g1 rfl
  have n2 : (Value.slice (some ⟨g2, 0, none⟩) X.length c2).ownBlock ≠ some g1 := by simp [Value.ownBlock]; omega
  have n3 : (Value.slice (some ⟨g3, 0, none⟩) X.length c3).ownBlock ≠ some g1 := by simp [Value.ownBlock]; omega
  refine ⟨g1, g2, g3, rfl, rfl, rfl, ⟨l1, by rw [k1 _ (by omega), hy _ (by omega), q1], by rw [k1 _ (by omega), hy _ (by omega), q2], f1 _, f1 _⟩, ⟨l3, by rw [k3 _ (by omega), q1], by rw [k3 _ (by omega), q2]⟩, ?_⟩
  rintro W' rfl
  have s1 := h1.stored (j * 2) (.int .i64 (-9))
  have s2 := s1.1.stored (j * 2 + 1) (.int .i64 0)
  have lw := h.low
  exact ⟨⟨_, s2.1, fun t ht => by rw [List.getElem?_set_ne (by omega), List.getElem?_set_ne (by omega), hy t (by omega)]⟩, (h.two.kept s1.2 (.inr n2)).kept s2.2 (.inr n2), (h.three.kept s1.2 (.inr n3)).kept s2.2 (.inr n3), h.low, h.lt, (h.bel.setCell (p := ⟨g1, j * 2, none⟩) (by simp; omega) _).setCell (p := ⟨g1, j * 2 + 1, none⟩) (by simp; omega) _⟩
theorem Askr.cells2 {w : World} {B C : Nat} {a1 : Option Addr} {c1 : Nat} {a2 : Option Addr} {c2 : Nat} {a3 : Option Addr} {c3 : Nat} {X : List (Int × Int)} {i j : Nat} {W : World} (h : Askr w B C a1 c1 a2 c2 a3 c3 X i W) {x : Int × Int} (hx : X[j]? = some x) :
    ∃ g2 g3, a2 = some ⟨g2, 0, none⟩ ∧ a3 = some ⟨g3, 0, none⟩ ∧ (g2 < W.heap.size ∧ W.cell? ⟨g2, j * 2, none⟩ = some (.int .i64 x.1) ∧ W.cell? ⟨g2, j * 2 + 1, none⟩ = some (.int .i64 x.2)) ∧
      (g3 < W.heap.size ∧ W.cell? ⟨g3, j * 2, none⟩ = some (.int .i64 x.1) ∧ W.cell? ⟨g3, j * 2 + 1, none⟩ = some (.int .i64 x.2)) := by
  have hj : j < X.length := (List.getElem?_eq_some_iff.1 hx).1
  obtain ⟨q1, q2⟩ := cCells_at X j x hx
  obtain ⟨g2, rfl, b2, l2, k2, f2⟩ := row_at h.two (by omega)
  obtain ⟨g3, rfl, b3, l3, k3, f3⟩ := row_at h.three (by omega)
  exact ⟨g2, g3, rfl, rfl, ⟨l2, by rw [k2 _ (by omega), q1], by rw [k2 _ (by omega), q2]⟩, ⟨l3, by rw [k3 _ (by omega), q1], by rw [k3 _ (by omega), q2]⟩⟩
set_option maxRecDepth 100000 in
set_option maxHeartbeats 4000000 in
theorem ask_fit (t u : Ty) (f f' : Fv) (w : World) (h : TyAt w f t) (h' : TyAt w f' u) (hF : FitC 60 t true) (hF' : FitC 60 u true) (X : List (Int × Int)) (no : Int) (hX : X.length ≤ 96) (hA : AskC 38 f f' X no w) (hB : AskC 39 f f' X no w) :
    Calls Tryd.prog 5 #[f.v, f'.v] w fun e w' => e = .returned (.bool true) ∧ Below w.heap.size w w' := by
  have CA : Hid (∀ W, Calls Tryd.prog 11 #[] W fun e w' => e = .returned (.bool true) ∧ Below W.heap.size W w') := awake_true
  have CF : Hid (Calls Tryd.prog 10 #[f.v, .int .i64 60] ((w.alloc f.o).alloc f'.o) fun e w' => e = .returned (.bool true) ∧ Below ((w.alloc f.o).alloc f'.o).heap.size ((w.alloc f.o).alloc f'.o) w') := hF f _ (h.bel (belB w f f'))
  have CG : Hid (∀ W, Below w.heap.size w W → Calls Tryd.prog 10 #[f'.v, .int .i64 60] W fun e w' => e = .returned (.bool true) ∧ Below W.heap.size W w') := fun W hW => hF' f' _ (h'.bel hW)
  have HN1 : Hid (At ((w.alloc f.o).alloc f'.o) w.heap.size f.o) := (At.new w f.o).alloc f'.o
  have HN2 : Hid (At ((w.alloc f.o).alloc f'.o) (w.heap.size + 1) f'.o) := at_snd w f.o f'.o
  have HA : Hid (AskC 38 f f' X no w) := hA
  have HB : Hid (AskC 39 f f' X no w) := hB
  obtain ⟨n0, hn0⟩ : ∃ n0, n0 = X.length := ⟨_, rfl⟩
  obtain ⟨k, m, r, s, a, n, cap⟩ := f
  obtain ⟨k', m', r', s', a', n', cap'⟩ := f'
  show Calls Tryd.prog 5 #[tyV k m r s a n cap, tyV k' m' r' s' a' n' cap'] w _
  clear h h' hF hF' hA hB
  have st1 : Stg 1 := .mk 1
  go_enter Tryd.func5, Tryd.ntmps5
  go_wp2_with (first
    | (have _s := st1; clear st1 _s; go_at_call 10; refine CF.out.mono ?_; rintro e w1 ⟨rfl, hb1⟩; have st2 : Stg 2 := .mk 2; obtain ⟨-, p0, p1, p2, p3, p4⟩ := (HN2.out.below hb1).ty)
    | (have _s := st2; clear st2 _s; go_at_call 10; refine (CG.out _ (below2 hb1)).mono ?_; rintro e w2 ⟨rfl, hb2⟩; have K2 := below_aft hb1 hb2; clear p0 p1 p2 p3 p4; obtain ⟨-, p0, p1, p2, p3, p4⟩ := (HN1.out.below K2).ty; obtain ⟨-, q0, q1, q2, q3, q4⟩ := (HN2.out.below K2).ty; have st3 : Stg 3 := .mk 3)
    | (have _s := st3; clear st3 _s; go_at_call 38; refine (HA.out _ (below2 K2)).mono ?_; rintro e w3 ⟨⟨v1, rfl, o1⟩, hb3⟩; have K3 := below_aft K2 hb3; clear p0 p1 p2 p3 p4 q0 q1 q2 q3 q4; obtain ⟨-, p0, p1, p2, p3, p4⟩ := (HN1.out.below K3).ty; obtain ⟨-, q0, q1, q2, q3, q4⟩ := (HN2.out.below K3).ty; have st4 : Stg 4 := .mk 4)
    | (have _s := st4; clear st4 _s; go_at_call 38; refine (HA.out _ (below2 K3)).mono ?_; rintro e w4 ⟨⟨v2, rfl, o2⟩, hb4⟩; have K4 := below_aft K3 hb4; clear p0 p1 p2 p3 p4 q0 q1 q2 q3 q4; obtain ⟨-, p0, p1, p2, p3, p4⟩ := (HN1.out.below K4).ty; obtain ⟨-, q0, q1, q2, q3, q4⟩ := (HN2.out.below K4).ty; have HO1 := hid (own_below o1 hb4); have HL1 := hid o1.lt; clear o1)
    | (go_at_call 39; refine (HB.out _ (below2 K4)).mono ?_; rintro e w5 ⟨⟨v3, rfl, o3⟩, hb5⟩; have K5 := below_aft K4 hb5; clear p0 p1 p2 p3 p4 q0 q1 q2 q3 q4; have HO1b := hid (own_below HO1.out hb5); have HO2b := hid (own_below o2 hb5); have HO3 := hid o3; obtain ⟨a1, c1, rfl⟩ := own_sl HO1b.out; obtain ⟨a2, c2, rfl⟩ := own_sl HO2b.out; obtain ⟨a3, c3, rfl⟩ := own_sl HO3.out; clear o2 o3))
  have HK : Hid (Askr w w2.heap.size w3.heap.size a1 c1 a2 c2 a3 c3 X 0 w5) := ⟨⟨_, HO1b.out, fun _ _ => rfl⟩, HO2b.out, own_low HO3.out hb4.size, (below2 K2).size, fun k hk => (HL1.out k hk).2, below2 K5⟩
  clear HO1 HO1b HO2b HO3 HL1 HA HB CF CG HN1 HN2
  obtain ⟨B, hB⟩ : ∃ B, B = w2.heap.size := ⟨_, rfl⟩
  obtain ⟨C, hC⟩ : ∃ C, C = w3.heap.size := ⟨_, rfl⟩
  rw [← hB, ← hC] at HK
  clear hB hC K2 K3 K4 K5 hb1 hb2 hb3 hb4 hb5
  go_loopw [11] (fun i W => ∃ j : Nat, j ≤ X.length ∧ i = .int .i64 j ∧ Askr w B C a1 c1 a2 c2 a3 c3 X j W) (fun i _ => X.length - (intOf i).toNat)
  case atStart => exact ⟨0, Nat.zero_le _, rfl, HK.out⟩
  case round =>
    obtain ⟨j, hj, rfl, hA⟩ := hrel
    have HAr := hid hA
    clear hA HK
    by_cases hlt : j < X.length
    · obtain ⟨⟨xa, xb⟩, hx⟩ : ∃ x, X[j]? = some x := ⟨_, List.getElem?_eq_getElem hlt⟩
      obtain ⟨g1, g2, g3, e1, e2, e3, ⟨l1, x1, x2, f1, f2⟩, ⟨l3, x3, x4⟩, next⟩ := HAr.out.cells hx
      have HX := hid hx
      have HNX := hid next
      subst e1 e2 e3
      have k0 : (0 : Int) ≤ (j : Int) := by omega
      have k1 : (j : Int) < (X.length : Int) := by omega
      have w9 : IntKind.i64.wrap ((j : Int) + 1) = (j : Int) + 1 := by rw [IntKind.wrap_i64]; omega
      clear next hx HAr
      simp only at x1 x2 x3 x4
      go_wp2_with fail
      go_quiet (fail)
      go_wp2_with fail
      refine ⟨⟨j + 1, hlt, rfl, (HNX.out _ rfl).drewN nq⟩, ?_⟩
      show X.length - ((j : Int) + 1).toNat < X.length - (j : Int).toNat
      omega
    · obtain rfl : j = X.length := by omega
      have z1 : ¬ ((X.length : Int) < (X.length : Int)) := by omega
      go_wp2_with fail
      go_loopw [12] (fun i W => ∃ j : Nat, j ≤ X.length ∧ i = .int .i64 j ∧ Askr w B C a1 c1 a2 c2 a3 c3 X X.length W) (fun i _ => X.length - (intOf i).toNat)
      case atStart => exact ⟨0, Nat.zero_le _, rfl, HAr.out⟩
      case round =>
        obtain ⟨j, hj, rfl, hA⟩ := hrel
        have HAs := hid hA
        clear hA HAr
        by_cases hlt : j < X.length
        · obtain ⟨⟨xa, xb⟩, hx⟩ : ∃ x, X[j]? = some x := ⟨_, List.getElem?_eq_getElem hlt⟩
          obtain ⟨g2, g3, e2, e3, ⟨l2, x1, x2⟩, ⟨l3, x3, x4⟩⟩ := HAs.out.cells2 hx
          have HX := hid hx
          subst e2 e3
          have k0 : (0 : Int) ≤ (j : Int) := by omega
          have k1 : (j : Int) < (X.length : Int) := by omega
          have w9 : IntKind.i64.wrap ((j : Int) + 1) = (j : Int) + 1 := by rw [IntKind.wrap_i64]; omega
          clear hx
          simp only at x1 x2 x3 x4
          go_wp2_with fail
          go_quiet (fail)
          go_wp2_with fail
          refine ⟨⟨j + 1, hlt, rfl, HAs.out.drewN nq⟩, ?_⟩
          show X.length - ((j : Int) + 1).toNat < X.length - (j : Int).toNat
          omega
        · obtain rfl : j = X.length := by omega
          go_wp2_with (go_at_call 11; refine (CA.out _).mono ?_; rintro e w7 ⟨rfl, hb7⟩)
          go_ret
          exact ⟨rfl, below_aft HAs.out.bel hb7⟩
theorem ask_walk (t u : Ty) (f f' : Fv) (w : World) (h : TyAt w f t) (h' : TyAt w f' u) : Calls Tryd.prog 5 #[f.v, f'.v] w fun e w' => e = .returned (.bool true) ∧ Below w.heap.size w w' := by
  obtain ⟨b, hF⟩ := fits_ex 60 60 rfl (by omega) t
  obtain ⟨b', hF'⟩ := fits_ex 60 60 rfl (by omega) u
  cases b with
  | false => exact ask_big1 t u f f' w h h' hF
  | true =>
    cases b' with
    | false => exact ask_big2 t u f f' w h h' hF hF'
    | true =>
      obtain ⟨X, no, hX, _, hA, hB⟩ := asks_both t u f f' w h h'
      exact ask_fit t u f f' w h h' hF hF' X no hX hA hB
end Go.Proofs.YtjchbclkdbojpaaDoor
