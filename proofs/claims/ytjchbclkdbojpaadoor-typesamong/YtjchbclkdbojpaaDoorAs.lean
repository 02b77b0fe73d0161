import Derived.Test.YtjchbclkdbojpaaDoorAq
import Derived.Test.YtjchbclkdbojpaaDoorAc
namespace Go.Proofs.YtjchbclkdbojpaaDoor
open Go.RowKit
set_option linter.unusedVariables false
set_option linter.unusedSimpArgs false

theorem Tryd.results69 : Tryd.f69.results = #[.cell 4 26] := rfl
theorem lay_fin {W w2 : World} {c : Ch} {f2 fb f4 : Fv} (g : Fv) {lo hi : Nat} (u : Value) (own : OwnL w2 lo hi f2 c) (hlo : W.heap.size + 2 ≤ lo) (hhi : hi ≤ w2.heap.size) (bel : Below W.heap.size W w2) (B2 : At w2 W.heap.size fb.o) (B4 : At w2 (W.heap.size + 1) f4.o) :
    C5 ((S5 (w2.setCell ⟨W.heap.size, 4, none⟩ u) (W.heap.size + 1) g).alloc f2.o) (W.heap.size + 1) 0 g ∧ OwnL ((S5 (w2.setCell ⟨W.heap.size, 4, none⟩ u) (W.heap.size + 1) g).alloc f2.o) W.heap.size ((S5 (w2.setCell ⟨W.heap.size, 4, none⟩ u) (W.heap.size + 1) g).alloc f2.o).heap.size f2 c ∧ At ((S5 (w2.setCell ⟨W.heap.size, 4, none⟩ u) (W.heap.size + 1) g).alloc f2.o) w2.heap.size f2.o ∧ Below W.heap.size W ((S5 (w2.setCell ⟨W.heap.size, 4, none⟩ u) (W.heap.size + 1) g).alloc f2.o) ∧ W.heap.size ≤ w2.heap.size ∧ w2.heap.size < ((S5 (w2.setCell ⟨W.heap.size, 4, none⟩ u) (W.heap.size + 1) g).alloc f2.o).heap.size := by
  have hz : W.heap.size ≤ w2.heap.size := bel.size
  have B4' : At (w2.setCell ⟨W.heap.size, 4, none⟩ u) (W.heap.size + 1) f4.o := B4.set (by simp) u
  have own' : OwnL (w2.setCell ⟨W.heap.size, 4, none⟩ u) lo hi f2 c := own.keep fun i o hi _ hA => hA.set (by simp only; omega) u
  have bel' : Below W.heap.size W (w2.setCell ⟨W.heap.size, 4, none⟩ u) := bel.setCell (p := ⟨W.heap.size, 4, none⟩) (Nat.le_refl _) u
  have hs' : (w2.setCell ⟨W.heap.size, 4, none⟩ u).heap.size = w2.heap.size := by simp
  generalize (w2.setCell ⟨W.heap.size, 4, none⟩ u) = V at *
  refine ⟨((B4'.set5 g).alloc _).ty, ((own'.keep fun i o hi _ hA => (hA.S5 (by omega) g).alloc _).low (by omega) (by simp only [World.size_alloc, size_S5]; omega)), ?_, belA (below_s5 bel' (by omega) g), hz, by simp only [World.size_alloc, size_S5]; omega⟩
  have := At.new (S5 V (W.heap.size + 1) g) f2.o
  rw [size_S5, hs'] at this
  exact this
set_option maxRecDepth 100000 in
set_option maxHeartbeats 1000000 in
theorem laid_leaf (k : Nat) (s : Int) (a : Option Addr) (cap : Nat) (v : Value) (w : World) (k4 : ¬ (k : Int) = 4) : Calls Tryd.prog 69 #[tyV k false 0 s a 0 cap, v] w fun e w' => ∃ f' : Fv, e = .returned f'.v ∧ New w w' f' (.leaf k s) := by
  go_enter Tryd.func69, Tryd.ntmps69
  go_wp2_with fail
  exact bodyPost_ret (results_c1 (g := ⟨k, false, 0, s, a, 0, cap⟩) Tryd.results69 rfl (At.ty (f := ⟨k, false, 0, s, a, 0, cap⟩) (at_snd w (Fv.o ⟨k, false, 0, s, a, 0, cap⟩) (Fv.o ⟨k, false, 0, s, a, 0, cap⟩)))) rfl ⟨⟨k, false, 0, s, a, 0, cap⟩, rfl, ⟨.leaf k s a cap, belA (belA (Below.refl _ _))⟩⟩
set_option maxRecDepth 100000 in
set_option maxHeartbeats 2000000 in
theorem laid_box (g off cap : Nat) (x : Fv) (c : Ch) (v : Value) (w : World) (hx : C5 w g off x)
    (IH0 : ∀ V, Below w.heap.size w V → Calls Tryd.prog 69 #[x.v, v] V fun e w' => ∃ f' : Fv, e = .returned f'.v ∧ New V w' f' c) :
    Calls Tryd.prog 69 #[tyV 3 false 0 0 (some ⟨g, off, none⟩) 1 cap, v] w fun e w' => ∃ f' : Fv, e = .returned f'.v ∧ New w w' f' (.box c) := by
  have IH : Hid (Calls Tryd.prog 69 #[x.v, v] ((w.alloc (tyO 3 false 0 0 (some ⟨g, off, none⟩) 1 cap)).alloc zT.o) fun e w' => ∃ f' : Fv, e = .returned f'.v ∧ New ((w.alloc (tyO 3 false 0 0 (some ⟨g, off, none⟩) 1 cap)).alloc zT.o) w' f' c) := IH0 _ (belA (belA (Below.refl _ _)))
  have A2 : Hid (At ((w.alloc (tyO 3 false 0 0 (some ⟨g, off, none⟩) 1 cap)).alloc zT.o) w.heap.size (Fv.o ⟨3, false, 0, 0, some ⟨g, off, none⟩, 1, cap⟩)) := (At.new _ _).alloc _
  have A4 : Hid (At ((w.alloc (tyO 3 false 0 0 (some ⟨g, off, none⟩) 1 cap)).alloc zT.o) (w.heap.size + 1) zT.o) := at_snd _ _ _
  obtain ⟨hg, p0, p1, p2, p3, p4⟩ := hx
  clear IH0
  go_enter Tryd.func69, Tryd.ntmps69
  go_wp2_with (go_at_call 69; refine IH.out.mono ?_; rintro e w2 ⟨f2, rfl, hP⟩; clear p0 p1 p2 p3 p4; have B2 := A2.out.below hP.bel; have B4 := A4.out.below hP.bel; have g0 := B4.tyF 0; have g1 := B4.tyF 1; have g2 := B4.tyF 2; have g3 := B4.tyF 3; have g4 := B4.tyF 4; have k4 := B2.tyF 4; obtain ⟨hl4, q0, q1, q2, q3, q4⟩ := B4.ty; obtain ⟨hl2, p0, p1, p2, p3, p4⟩ := B2.ty; simp only [Nat.zero_add] at p0 p1 p2 p3 p4 q0 q1 q2 q3 q4)
  obtain ⟨F1, F2, F3, F4, F5, F6⟩ := lay_fin (W := w) ⟨3, false, 0, 0, some ⟨w2.heap.size, 0, none⟩, 1, 1⟩ (.slice (some ⟨w2.heap.size, 0, none⟩) 1 1) hP.own (by simp) (Nat.le_refl _) (below2 hP.bel) B2 B4
  exact bodyPost_ret (results_c1 (g := ⟨3, false, 0, 0, some ⟨w2.heap.size, 0, none⟩, 1, 1⟩) Tryd.results69 rfl F1) rfl ⟨⟨3, false, 0, 0, some ⟨w2.heap.size, 0, none⟩, 1, 1⟩, rfl, ⟨.box w2.heap.size f2 c F5 F6 F3 F2, F4⟩⟩
set_option maxRecDepth 100000 in
set_option maxHeartbeats 2000000 in
theorem laid_ref (m : Bool) (r : Int) (g off cap : Nat) (x : Fv) (c : Ch) (gr offr  nr capr : Nat) (y : Int) (w : World) (hx : C5 w g off x) (hgr : gr < w.heap.size) (hy : w.cell? ⟨gr, offr, none⟩ = some (.int .i64 y)) (hn0 : 0 < nr) (hn1 : nr ≤ capr) (hcap : capr ≤ maxLen) (hc1 : ¬ capr = 1) (n0 : (0 : Int) < (nr : Int)) (n1 : (nr : Int) ≤ (capr : Int)) (n2 : (1 : Int) ≤ (nr : Int))
    (IH0 : ∀ V, Below w.heap.size w V → Calls Tryd.prog 69 #[x.v, .slice (some ⟨gr, offr + 1, none⟩) (nr - 1) (capr - 1)] V fun e w' => ∃ f' : Fv, e = .returned f'.v ∧ New V w' f' c) :
    Calls Tryd.prog 69 #[tyV 4 m r 0 (some ⟨g, off, none⟩) 1 cap, .slice (some ⟨gr, offr, none⟩) nr capr] w fun e w' => ∃ f' : Fv, e = .returned f'.v ∧ New w w' f' (.ref m y c) := by
  have IH : Hid (∀ (_ : True), Calls Tryd.prog 69 #[x.v, .slice (some ⟨gr, offr + 1, none⟩) (nr - 1) (capr - 1)] ((w.alloc (tyO 4 m y 0 (some ⟨g, off, none⟩) 1 cap)).alloc zT.o) fun e w' => ∃ f' : Fv, e = .returned f'.v ∧ New ((w.alloc (tyO 4 m y 0 (some ⟨g, off, none⟩) 1 cap)).alloc zT.o) w' f' c) := fun _ => IH0 _ (belA (belA (Below.refl _ _)))
  have A2 : Hid (At ((w.alloc (tyO 4 m y 0 (some ⟨g, off, none⟩) 1 cap)).alloc zT.o) w.heap.size (Fv.o ⟨4, m, y, 0, some ⟨g, off, none⟩, 1, cap⟩)) := (At.new _ _).alloc _
  have A4 : Hid (At ((w.alloc (tyO 4 m y 0 (some ⟨g, off, none⟩) 1 cap)).alloc zT.o) (w.heap.size + 1) zT.o) := at_snd _ _ _
  obtain ⟨hg, p0, p1, p2, p3, p4⟩ := hx
  clear IH0
  go_enter Tryd.func69, Tryd.ntmps69
  go_wp2_with (go_at_call 69; refine (IH.out trivial).mono ?_; rintro e w2 ⟨f2, rfl, hP⟩; clear p0 p1 p2 p3 p4; have B2 := A2.out.below hP.bel; have B4 := A4.out.below hP.bel; have g0 := B4.tyF 0; have g1 := B4.tyF 1; have g2 := B4.tyF 2; have g3 := B4.tyF 3; have g4 := B4.tyF 4; have k4 := B2.tyF 4; obtain ⟨hl4, q0, q1, q2, q3, q4⟩ := B4.ty; obtain ⟨hl2, p0, p1, p2, p3, p4⟩ := B2.ty; simp only [Nat.zero_add] at p0 p1 p2 p3 p4 q0 q1 q2 q3 q4)
  obtain ⟨F1, F2, F3, F4, F5, F6⟩ := lay_fin (W := w) ⟨4, m, y, 0, some ⟨w2.heap.size, 0, none⟩, 1, 1⟩ (.slice (some ⟨w2.heap.size, 0, none⟩) 1 1) hP.own (by simp) (Nat.le_refl _) (below2 hP.bel) B2 B4
  exact bodyPost_ret (results_c1 (g := ⟨4, m, y, 0, some ⟨w2.heap.size, 0, none⟩, 1, 1⟩) Tryd.results69 rfl F1) rfl ⟨⟨4, m, y, 0, some ⟨w2.heap.size, 0, none⟩, 1, 1⟩, rfl, ⟨.ref m y w2.heap.size f2 c F5 F6 F3 F2, F4⟩⟩
set_option maxRecDepth 100000 in
set_option maxHeartbeats 2000000 in
theorem laid_ref1 (m : Bool) (r : Int) (g off cap : Nat) (x : Fv) (c : Ch) (gr offr : Nat) (y : Int) (w : World) (hx : C5 w g off x) (hgr : gr < w.heap.size) (hy : w.cell? ⟨gr, offr, none⟩ = some (.int .i64 y)) 
    (IH0 : ∀ a0 V, Below w.heap.size w V → Calls Tryd.prog 69 #[x.v, .slice a0 0 0] V fun e w' => ∃ f' : Fv, e = .returned f'.v ∧ New V w' f' c) :
    Calls Tryd.prog 69 #[tyV 4 m r 0 (some ⟨g, off, none⟩) 1 cap, .slice (some ⟨gr, offr, none⟩) 1 1] w fun e w' => ∃ f' : Fv, e = .returned f'.v ∧ New w w' f' (.ref m y c) := by
  have IH : Hid (∀ a0 (_ : True), Calls Tryd.prog 69 #[x.v, .slice a0 0 0] ((w.alloc (tyO 4 m y 0 (some ⟨g, off, none⟩) 1 cap)).alloc zT.o) fun e w' => ∃ f' : Fv, e = .returned f'.v ∧ New ((w.alloc (tyO 4 m y 0 (some ⟨g, off, none⟩) 1 cap)).alloc zT.o) w' f' c) := fun a0 _ => IH0 a0 _ (belA (belA (Below.refl _ _)))
  have A2 : Hid (At ((w.alloc (tyO 4 m y 0 (some ⟨g, off, none⟩) 1 cap)).alloc zT.o) w.heap.size (Fv.o ⟨4, m, y, 0, some ⟨g, off, none⟩, 1, cap⟩)) := (At.new _ _).alloc _
  have A4 : Hid (At ((w.alloc (tyO 4 m y 0 (some ⟨g, off, none⟩) 1 cap)).alloc zT.o) (w.heap.size + 1) zT.o) := at_snd _ _ _
  obtain ⟨hg, p0, p1, p2, p3, p4⟩ := hx
  clear IH0
  go_enter Tryd.func69, Tryd.ntmps69
  go_wp2_with (go_at_call 69; refine (IH.out _ trivial).mono ?_; rintro e w2 ⟨f2, rfl, hP⟩; clear p0 p1 p2 p3 p4; have B2 := A2.out.below hP.bel; have B4 := A4.out.below hP.bel; have g0 := B4.tyF 0; have g1 := B4.tyF 1; have g2 := B4.tyF 2; have g3 := B4.tyF 3; have g4 := B4.tyF 4; have k4 := B2.tyF 4; obtain ⟨hl4, q0, q1, q2, q3, q4⟩ := B4.ty; obtain ⟨hl2, p0, p1, p2, p3, p4⟩ := B2.ty; simp only [Nat.zero_add] at p0 p1 p2 p3 p4 q0 q1 q2 q3 q4)
  obtain ⟨F1, F2, F3, F4, F5, F6⟩ := lay_fin (W := w) ⟨4, m, y, 0, some ⟨w2.heap.size, 0, none⟩, 1, 1⟩ (.slice (some ⟨w2.heap.size, 0, none⟩) 1 1) hP.own (by simp) (Nat.le_refl _) (below2 hP.bel) B2 B4
  exact bodyPost_ret (results_c1 (g := ⟨4, m, y, 0, some ⟨w2.heap.size, 0, none⟩, 1, 1⟩) Tryd.results69 rfl F1) rfl ⟨⟨4, m, y, 0, some ⟨w2.heap.size, 0, none⟩, 1, 1⟩, rfl, ⟨.ref m y w2.heap.size f2 c F5 F6 F3 F2, F4⟩⟩
theorem laid_any : ∀ (c : Ch) (f : Fv) (a : Option Addr) (n cap : Nat) (L : List Int) (w : World), c.ok 32 → TyAt w f c.ty → IntR w a n cap L → c.regs.length ≤ L.length → Calls Tryd.prog 69 #[f.v, .slice a n cap] w fun e w' => ∃ f' : Fv, e = .returned f'.v ∧ New w w' f' (layC c L) := by
  intro c
  induction c with
  | leaf k s =>
    intro f a n cap L w hc h hr hl
    obtain ⟨a', cap', rfl, -⟩ := h.leaf
    have hk : ¬ (k : Int) = 4 := by
      have : (k = 1 ∨ k = 2) ∧ s = 0 ∨ k = 5 ∧ 0 ≤ s ∧ s < 32 := hc
      omega
    exact laid_leaf k s a' cap' _ w hk
  | box c ih =>
    intro f a n cap L w hc h hr hl
    obtain ⟨g, off, cap', x, rfl, hx, ht⟩ := h.box
    exact laid_box g off cap' x (layC c L) _ w hx (fun V hV => ih x a n cap L V hc (ht.bel hV) (hr.bel hV) hl)
  | ref m r c ih =>
    intro f a n cap L w hc h hr hl
    obtain ⟨g, off, cap', x, rfl, hx, ht, r0, r1⟩ := h.ref
    match L, hr, hl with
    | [], _, hl => simp [Ch.regs] at hl
    | y :: L, hr, hl =>
      obtain ⟨gr, offr, rfl, hgr, hcell⟩ := hr.cells (by simp)
      have hlen := hr.len
      simp at hlen
      have hle := hr.le
      have hbig := hr.big
      have hy : w.cell? ⟨gr, offr, none⟩ = some (.int .i64 y) := hcell 0 y rfl
      by_cases hc1 : cap = 1
      · subst hc1
        have hL : L = [] := by
          cases L with
          | nil => rfl
          | cons => simp at hlen; omega
        subst hL
        obtain rfl : n = 1 := by simpa using hlen
        refine laid_ref1 m r g off cap' x (layC c []) gr offr y w hx hgr hy (fun a0 V hV => ih x a0 0 0 [] V hc.2 (ht.bel hV) ⟨rfl, Nat.le_refl _, by simp, fun h => absurd rfl h, fun x hx => by simp at hx, fun _ => rfl⟩ (by simp [Ch.regs] at hl ⊢; exact hl))
      · refine laid_ref m r g off cap' x (layC c L) gr offr n cap y w hx hgr hy (by omega) hle hbig hc1 (by omega) (by omega) (by omega) (fun V hV => ih x _ _ _ L V hc.2 (ht.bel hV) ⟨by omega, by omega, by omega, fun hne => ⟨gr, offr + 1, rfl, Nat.lt_of_lt_of_le hgr hV.size, fun i z hz => ?_⟩, fun z hz => hr.rng z (by simp [hz]), fun e => by cases e⟩ (by simp [Ch.regs] at hl; exact hl))
        have := (hV.cell (p := ⟨gr, offr + (i + 1), none⟩) hgr).trans (hcell (i + 1) z (by simpa using hz))
        rw [show offr + 1 + i = offr + (i + 1) by omega]
        exact this
end Go.Proofs.YtjchbclkdbojpaaDoor
