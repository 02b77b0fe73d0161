import Derived.Test.YtnohcppipkpgmaaDoorVa
import Derived.Laws.AppendOwnNone
import Derived.Deep.DeepCutAuto
import Derived.Deep.Light
namespace Go.Proofs.YtnohcppipkpgmaaDoor
open Go.RowKit Go.Shelf
set_option linter.unusedVariables false
set_option linter.unusedSimpArgs false

theorem Tryd.results41 : Tryd.f41.results = #[.cell 6 32, .tmp 7, .tmp 8] := rfl
def RstPost (R : Option (Ch × Int)) (w : World) (e : Ending) : Prop := match R with
  | some x => ∃ f' : Fv, e = .returned (.tuple #[f'.v, .int .i64 x.2, .bool true]) ∧ TyAt w f' x.1.ty
  | none => ∃ f' : Fv, e = .returned (.tuple #[f'.v, .int .i64 0, .bool false])
set_option maxRecDepth 100000 in
set_option maxHeartbeats 8000000 in
/-- The reference's step. -/
theorem rstep_any {w0 w : World} (hB0 : Below w0.heap.size w0 w) {a : Option Addr} {n cap : Nat} {fc : Nat → List Ch} (h : SF w0 a n cap fc) (c : Ch) (f : Fv) (hc : c.ok n) (hT : TyAt w0 f c.ty) (s : Int) (s0 : -9223372036854775808 ≤ s) (s1 : s ≤ 9223372036854775807) (R : Option (Ch × Int)) (hR : R = stepC fc c s) :
    Calls Tryd.prog 41 #[.slice a n cap, f.v, .int .i64 s] w fun e w' => RstPost R w0 e ∧ Below w.heap.size w w' := by
  have A0 : At ((w.alloc f.o).alloc zT.o) w.heap.size f.o := (At.new _ _).alloc _
  have A4 : At ((w.alloc f.o).alloc zT.o) (w.heap.size + 1) zT.o := at_snd _ _ _
  have HA4 := hidD A4
  have hB : Below w.heap.size w ((w.alloc f.o).alloc zT.o) := belB w f zT
  have HB := hidD hB
  have g0 := A4.tyF 0
  have g1 := A4.tyF 1
  have g2 := A4.tyF 2
  have g3 := A4.tyF 3
  have g4 := A4.tyF 4
  have FIN : Hid (∀ f' : Fv, C5 (S5 ((w.alloc f.o).alloc zT.o) (w.heap.size + 1) f') (w.heap.size + 1) 0 f' ∧ Below w.heap.size w (S5 ((w.alloc f.o).alloc zT.o) (w.heap.size + 1) f')) := fun f' => ⟨(HA4.out.set5 f').ty, below_S5 HB.out (by omega) f'⟩
  cases c with
  | leaf k sn =>
    obtain ⟨fa0, fcap0, rfl, -⟩ := hT.leaf
    have hk5 : (k = 1 ∨ k = 2) ∧ sn = 0 ∨ k = 5 ∧ 0 ≤ sn ∧ sn < n := hc
    by_cases k5 : k = 5
    · subst k5
      obtain ⟨j, rfl⟩ : ∃ j : Nat, sn = (j : Int) := ⟨sn.toNat, by omega⟩
      have hj : j < n := by omega
      obtain ⟨g, off, fa, fcap, ea, hg, hcell, hF⟩ := h.st j hj
      replace hcell := (hB0.cell (p := ⟨g, off + j * 2 + 1, none⟩) hg).trans hcell
      replace hg := Nat.lt_of_lt_of_le hg hB0.size
      have hlen := h.len j hj
      subst ea
      have HF := hidD hF
      obtain ⟨m, hm⟩ : ∃ m, m = (fc j).length := ⟨_, rfl⟩
      rw [← hm] at hcell hlen
      have HM := hidD hm
      have e0 : stepC fc (.leaf 5 (j : Int)) s = if 0 ≤ s then ((fc j)[s.toNat]?).map (fun d => (d, 0)) else none := by
        rw [stepC_leaf]
        simp
      rw [e0] at hR
      have j0 : (0 : Int) ≤ (j : Int) := by omega
      have j1 : (j : Int) < (n : Int) := by omega
      have j2 : (j : Int) ≤ 32 := by have := h.le; omega
      have HBW := hidD hB
      clear hB A0 A4 hc hT hF hm hk5 e0
      show Calls Tryd.prog 41 #[.slice (some ⟨g, off, none⟩) n cap, tyV 5 false 0 (j : Int) fa0 0 fcap0, .int .i64 s] w _
      by_cases hs0 : s < 0
      · rw [if_neg (by omega)] at hR
        subst hR
        clear h HF
        by_cases hs1 : s = -1
        · subst hs1
          go_enter Tryd.func41, Tryd.ntmps41
          go_wp2_with (((with_reducible show wpList _ _ _ (Oper.mk none (Op.store 32 _ _) _ _ _ none :: _) _ _); refine wpl_storeT (w.heap.size + 1) zT ⟨5, false, 0, (j : Int), fa0, 0, fcap0⟩ HA4.out rfl rfl ?_; intro w9 hw9; have F9 : Hid (C5 w9 (w.heap.size + 1) 0 ⟨5, false, 0, (j : Int), fa0, 0, fcap0⟩ ∧ Below w.heap.size w w9) := (by rw [hw9]; exact FIN.out ⟨5, false, 0, (j : Int), fa0, 0, fcap0⟩); clear hw9))
          exact bodyPost_ret (results_c3 (g := ⟨5, false, 0, (j : Int), fa0, 0, fcap0⟩) Tryd.results41 rfl rfl rfl F9.out.1) rfl ⟨⟨_, rfl⟩, F9.out.2⟩
        · go_enter Tryd.func41, Tryd.ntmps41
          go_wp2_with (((with_reducible show wpList _ _ _ (Oper.mk none (Op.store 32 _ _) _ _ _ none :: _) _ _); refine wpl_storeT (w.heap.size + 1) zT ⟨5, false, 0, (j : Int), fa0, 0, fcap0⟩ HA4.out rfl rfl ?_; intro w9 hw9; have F9 : Hid (C5 w9 (w.heap.size + 1) 0 ⟨5, false, 0, (j : Int), fa0, 0, fcap0⟩ ∧ Below w.heap.size w w9) := (by rw [hw9]; exact FIN.out ⟨5, false, 0, (j : Int), fa0, 0, fcap0⟩); clear hw9))
          exact bodyPost_ret (results_c3 (g := ⟨5, false, 0, (j : Int), fa0, 0, fcap0⟩) Tryd.results41 rfl rfl rfl F9.out.1) rfl ⟨⟨_, rfl⟩, F9.out.2⟩
      · rw [if_pos (by omega)] at hR
        obtain ⟨i, rfl⟩ : ∃ i : Nat, s = (i : Int) := ⟨s.toNat, by omega⟩
        rw [Int.toNat_natCast] at hR
        by_cases hi : i < m
        · obtain ⟨d, hd⟩ : ∃ d, (fc j)[i]? = some d := ⟨_, List.getElem?_eq_getElem (by have := HM.out; omega)⟩
          rw [hd] at hR
          have hR2 : R = some (d, 0) := hR
          subst hR2
          have hd2 : ((fc j).map Ch.ty)[i]? = some d.ty := by rw [List.getElem?_map, hd]; rfl
          obtain ⟨g', off', ea', hk⟩ := HF.out.2 (fun e => by rw [e] at hd2; simp at hd2)
          obtain ⟨V, nm, -, hV5, hVt⟩ := hk i d.ty hd2
          subst ea'
          have HVT := hidD hVt
          obtain ⟨hg', p0, p1, p2, p3, p4⟩ := hV5.below hB0
          have i0 : (0 : Int) ≤ (i : Int) := by omega
          have i1 : (i : Int) < (m : Int) := by omega
          have i2 : ¬ (m : Int) ≤ (i : Int) := by omega
          have i3 : ¬ (i : Int) < 0 := by omega
          have i4 : ¬ (i : Int) = -1 := by omega
          have i5 : ((i : Int) == -1) = false := by first | (simp; done) | (simp; omega)
          clear h HF hd hd2 hR hk hVt hs0 hV5 hB0
          go_enter Tryd.func41, Tryd.ntmps41
          go_wp2_with (((with_reducible show wpList _ _ _ (Oper.mk none (Op.store 32 _ _) _ _ _ none :: _) _ _); refine wpl_storeT (w.heap.size + 1) zT V HA4.out rfl rfl ?_; intro w9 hw9; have F9 : Hid (C5 w9 (w.heap.size + 1) 0 V ∧ Below w.heap.size w w9) := (by rw [hw9]; exact FIN.out V); clear hw9))
          exact bodyPost_ret (results_c3 (g := V) Tryd.results41 rfl rfl rfl F9.out.1) rfl ⟨⟨V, rfl, HVT.out⟩, F9.out.2⟩
        · have hd : (fc j)[i]? = none := List.getElem?_eq_none (by have := HM.out; omega)
          rw [hd] at hR
          have hR2 : R = none := hR
          subst hR2
          have i2 : (m : Int) ≤ (i : Int) := by omega
          have i3 : ¬ (i : Int) < 0 := by omega
          have i4 : ¬ (i : Int) = -1 := by omega
          have i5 : ((i : Int) == -1) = false := by first | (simp; done) | (simp; omega)
          clear h HF hd hR hs0
          go_enter Tryd.func41, Tryd.ntmps41
          go_wp2_with (((with_reducible show wpList _ _ _ (Oper.mk none (Op.store 32 _ _) _ _ _ none :: _) _ _); refine wpl_storeT (w.heap.size + 1) zT ⟨5, false, 0, (j : Int), fa0, 0, fcap0⟩ HA4.out rfl rfl ?_; intro w9 hw9; have F9 : Hid (C5 w9 (w.heap.size + 1) 0 ⟨5, false, 0, (j : Int), fa0, 0, fcap0⟩ ∧ Below w.heap.size w w9) := (by rw [hw9]; exact FIN.out ⟨5, false, 0, (j : Int), fa0, 0, fcap0⟩); clear hw9))
          exact bodyPost_ret (results_c3 (g := ⟨5, false, 0, (j : Int), fa0, 0, fcap0⟩) Tryd.results41 rfl rfl rfl F9.out.1) rfl ⟨⟨_, rfl⟩, F9.out.2⟩
    · rw [stepC_leaf, if_neg (fun e => k5 e.1)] at hR
      subst hR
      have k1 : ¬ (k : Int) = 5 := by omega
      have k3 : ¬ (k : Int) = 3 := by omega
      have k4 : ¬ (k : Int) = 4 := by omega
      have k4b : ((k : Int) == 4) = false := by simpa using k4
      clear h hc hT hB A0 A4 hk5
      show Calls Tryd.prog 41 #[.slice a n cap, tyV k false 0 sn fa0 0 fcap0, .int .i64 s] w _
      by_cases hs : s = -1
      · subst hs
        go_enter Tryd.func41, Tryd.ntmps41
        go_wp2_with (((with_reducible show wpList _ _ _ (Oper.mk none (Op.store 32 _ _) _ _ _ none :: _) _ _); refine wpl_storeT (w.heap.size + 1) zT ⟨k, false, 0, sn, fa0, 0, fcap0⟩ HA4.out rfl rfl ?_; intro w9 hw9; have F9 : Hid (C5 w9 (w.heap.size + 1) 0 ⟨k, false, 0, sn, fa0, 0, fcap0⟩ ∧ Below w.heap.size w w9) := (by rw [hw9]; exact FIN.out ⟨k, false, 0, sn, fa0, 0, fcap0⟩); clear hw9))
        exact bodyPost_ret (results_c3 (g := ⟨k, false, 0, sn, fa0, 0, fcap0⟩) Tryd.results41 rfl rfl rfl F9.out.1) rfl ⟨⟨_, rfl⟩, F9.out.2⟩
      · go_enter Tryd.func41, Tryd.ntmps41
        go_wp2_with (((with_reducible show wpList _ _ _ (Oper.mk none (Op.store 32 _ _) _ _ _ none :: _) _ _); refine wpl_storeT (w.heap.size + 1) zT ⟨k, false, 0, sn, fa0, 0, fcap0⟩ HA4.out rfl rfl ?_; intro w9 hw9; have F9 : Hid (C5 w9 (w.heap.size + 1) 0 ⟨k, false, 0, sn, fa0, 0, fcap0⟩ ∧ Below w.heap.size w w9) := (by rw [hw9]; exact FIN.out ⟨k, false, 0, sn, fa0, 0, fcap0⟩); clear hw9))
        exact bodyPost_ret (results_c3 (g := ⟨k, false, 0, sn, fa0, 0, fcap0⟩) Tryd.results41 rfl rfl rfl F9.out.1) rfl ⟨⟨_, rfl⟩, F9.out.2⟩
  | box d =>
    obtain ⟨g, off, cap', f2, rfl, hc5, ht2⟩ := hT.box
    rw [stepC_box] at hR
    have HVT := hidD ht2
    obtain ⟨hg, p0, p1, p2, p3, p4⟩ := hc5.below hB0
    clear hc5
    clear h hc hT hB A0 A4 ht2 s0 s1 hB0
    show Calls Tryd.prog 41 #[.slice a n cap, tyV 3 false 0 0 (some ⟨g, off, none⟩) 1 cap', .int .i64 s] w _
    by_cases hs : s = -1
    · subst hs
      have hR2 : R = some (d, 1) := hR
      clear hR
      subst hR2
      go_enter Tryd.func41, Tryd.ntmps41
      go_wp2_with (((with_reducible show wpList _ _ _ (Oper.mk none (Op.store 32 _ _) _ _ _ none :: _) _ _); refine wpl_storeT (w.heap.size + 1) zT f2 HA4.out rfl rfl ?_; intro w9 hw9; have F9 : Hid (C5 w9 (w.heap.size + 1) 0 f2 ∧ Below w.heap.size w w9) := (by rw [hw9]; exact FIN.out f2); clear hw9))
      exact bodyPost_ret (results_c3 (g := f2) Tryd.results41 rfl rfl rfl F9.out.1) rfl ⟨⟨f2, rfl, HVT.out⟩, F9.out.2⟩
    · rw [if_neg hs] at hR
      subst hR
      go_enter Tryd.func41, Tryd.ntmps41
      go_wp2_with (((with_reducible show wpList _ _ _ (Oper.mk none (Op.store 32 _ _) _ _ _ none :: _) _ _); refine wpl_storeT (w.heap.size + 1) zT ⟨3, false, 0, 0, (some ⟨g, off, none⟩), 1, cap'⟩ HA4.out rfl rfl ?_; intro w9 hw9; have F9 : Hid (C5 w9 (w.heap.size + 1) 0 ⟨3, false, 0, 0, (some ⟨g, off, none⟩), 1, cap'⟩ ∧ Below w.heap.size w w9) := (by rw [hw9]; exact FIN.out ⟨3, false, 0, 0, (some ⟨g, off, none⟩), 1, cap'⟩); clear hw9))
      exact bodyPost_ret (results_c3 (g := ⟨3, false, 0, 0, (some ⟨g, off, none⟩), 1, cap'⟩) Tryd.results41 rfl rfl rfl F9.out.1) rfl ⟨⟨_, rfl⟩, F9.out.2⟩
  | ref m r d =>
    obtain ⟨g, off, cap', f2, rfl, hc5, ht2, r0, r1⟩ := hT.ref
    rw [stepC_ref] at hR
    have HVT := hidD ht2
    obtain ⟨hg, p0, p1, p2, p3, p4⟩ := hc5.below hB0
    clear hc5
    clear h hc hT hB A0 A4 ht2 s0 s1 hB0
    show Calls Tryd.prog 41 #[.slice a n cap, tyV 4 m r 0 (some ⟨g, off, none⟩) 1 cap', .int .i64 s] w _
    by_cases hs : s = -1
    · subst hs
      cases m with
      | true =>
        have hR2 : R = some (d, 2) := hR
        clear hR
        subst hR2
        go_enter Tryd.func41, Tryd.ntmps41
        go_wp2_with (((with_reducible show wpList _ _ _ (Oper.mk none (Op.store 32 _ _) _ _ _ none :: _) _ _); refine wpl_storeT (w.heap.size + 1) zT f2 HA4.out rfl rfl ?_; intro w9 hw9; have F9 : Hid (C5 w9 (w.heap.size + 1) 0 f2 ∧ Below w.heap.size w w9) := (by rw [hw9]; exact FIN.out f2); clear hw9))
        exact bodyPost_ret (results_c3 (g := f2) Tryd.results41 rfl rfl rfl F9.out.1) rfl ⟨⟨f2, rfl, HVT.out⟩, F9.out.2⟩
      | false =>
        have hR2 : R = some (d, 3) := hR
        clear hR
        subst hR2
        go_enter Tryd.func41, Tryd.ntmps41
        go_wp2_with (((with_reducible show wpList _ _ _ (Oper.mk none (Op.store 32 _ _) _ _ _ none :: _) _ _); refine wpl_storeT (w.heap.size + 1) zT f2 HA4.out rfl rfl ?_; intro w9 hw9; have F9 : Hid (C5 w9 (w.heap.size + 1) 0 f2 ∧ Below w.heap.size w w9) := (by rw [hw9]; exact FIN.out f2); clear hw9))
        exact bodyPost_ret (results_c3 (g := f2) Tryd.results41 rfl rfl rfl F9.out.1) rfl ⟨⟨f2, rfl, HVT.out⟩, F9.out.2⟩
    · rw [if_neg hs] at hR
      subst hR
      go_enter Tryd.func41, Tryd.ntmps41
      go_wp2_with (((with_reducible show wpList _ _ _ (Oper.mk none (Op.store 32 _ _) _ _ _ none :: _) _ _); refine wpl_storeT (w.heap.size + 1) zT ⟨4, m, r, 0, (some ⟨g, off, none⟩), 1, cap'⟩ HA4.out rfl rfl ?_; intro w9 hw9; have F9 : Hid (C5 w9 (w.heap.size + 1) 0 ⟨4, m, r, 0, (some ⟨g, off, none⟩), 1, cap'⟩ ∧ Below w.heap.size w w9) := (by rw [hw9]; exact FIN.out ⟨4, m, r, 0, (some ⟨g, off, none⟩), 1, cap'⟩); clear hw9))
      exact bodyPost_ret (results_c3 (g := ⟨4, m, r, 0, (some ⟨g, off, none⟩), 1, cap'⟩) Tryd.results41 rfl rfl rfl F9.out.1) rfl ⟨⟨_, rfl⟩, F9.out.2⟩
end Go.Proofs.YtnohcppipkpgmaaDoor
namespace Go.Proofs.YtnohcppipkpgmaaDoor
open Go.RowKit Go.Shelf
set_option linter.unusedVariables false
set_option linter.unusedSimpArgs false

/-- What the reference's Walk tells. -/
def RwPost (R : Option (Ch × List Int)) (w0 w V : World) (e : Ending) : Prop := match R with
  | some z => ∃ y : Wy, e = .returned (.tuple #[y.f.v, .slice y.ga y.gn y.gcap, .bool true]) ∧ WayIs w0 w V y z.1 z.2
  | none => e = .returned (.tuple #[zT.v, .slice none 0 0, .bool false])
/-- While a place is walked along. -/
structure RWI (w0 w V : World) (b9 : Nat) (x : Pt) (y : Wy) (c : Ch) (gs : List Int) : Prop where
  pl : At V w.heap.size x.o
  res : At V (w.heap.size + 1) zT.o
  var : At V b9 y.f.o
  ty : TyAt w0 y.f c.ty
  gn : y.gn = gs.length
  row : V.ownsRow w.heap.size 3 1 (.slice y.ga y.gn y.gcap) y.gn (iCells gs)
  bel : Below w.heap.size w V
  lo : w.heap.size + 1 < b9
theorem RWI.next {w0 w V V' w6 : World} {b9 : Nat} {x : Pt} {y : Wy} {c d : Ch} {gs : List Int} {f' : Fv} {g : Int} {ga' : Option Addr} {gcap' : Nat} {o : Obj} (h : RWI w0 w V b9 x y c gs) (hb : Below V.heap.size V V') (ht : TyAt w0 f' d.ty) (ho : w6.ownsRow w.heap.size 3 1 (.slice ga' (y.gn + 1) gcap') (y.gn + 1) (iCells gs ++ [.int .i64 g])) (hg : ((S5 V' b9 f').alloc o).grownBy w6 (Value.slice y.ga y.gn y.gcap).ownBlock) :
    RWI w0 w w6 b9 x ⟨f', ga', y.gn + 1, gcap'⟩ d (gs ++ [g]) := by
  have hlo := h.lo
  have hv := h.var.below hb
  have hp := h.pl.below hb
  have hr := h.res.below hb
  have hrow := own_bel h.row hb
  have n9 := row3_ne (e := 32) (by decide) hrow hv
  have np := row3_ne (e := 26) (by decide) hrow hp
  have nr := row3_ne (e := 32) (by decide) hrow hr
  refine ⟨((hp.S5 (by omega) f').alloc o).grown hg np, ((hr.S5 (by omega) f').alloc o).grown hg nr, ((hv.set5 f').alloc o).grown hg n9, ht, by simp [h.gn], ?_, ?_, hlo⟩
  · rw [show iCells (gs ++ [g]) = iCells gs ++ [.int .i64 g] by simp [iCells]]
    exact ho
  · have hB : Below w.heap.size w ((S5 V' b9 f').alloc o) := belA (below_S5 (below_aft h.bel hb) (by omega) f')
    refine hB.grown hg hB.size (fun k e => ?_)
    exact own_lo hrow k (by rw [← e])
/-- A type is laid into a variable: at an operation of a region. -/
theorem wp_storeT32 {w : World} {o : Oper} {a : Act} {K : Act → World → Prop} {Q : Exit → Act → World → Prop} {x y : Nat} (b : Nat) (f0 f : Fv) (ho : o.op = .store 32 (.tmp x) (.tmp y)) (hd : o.dst = none) (hA : At w b f0.o)
    (hx : a.eval (.tmp x) = .pointer (some ⟨b, 0, none⟩)) (hy : a.eval (.tmp y) = f.v) (h : K a (S5 w b f)) : o.wp Tryd.prog a w K Q := by
  have g0 := hA.tyF 0
  have g1 := hA.tyF 1
  have g2 := hA.tyF 2
  have g3 := hA.tyF 3
  have g4 := hA.tyF 4
  obtain ⟨hl, q0, q1, q2, q3, q4⟩ := hA.ty
  simp only [Nat.zero_add] at q0 q1 q2 q3 q4
  have hx2 : a.tmps[x]?.getD undef = .pointer (some ⟨b, 0, none⟩) := by rw [← hx]; simp [Act.eval]
  have hy2 : a.tmps[y]?.getD undef = f.v := by rw [← hy]; simp [Act.eval]
  unfold Oper.wp
  simp [execOp, ho, hd, hx2, hy2, go_sem, q0, q1, q2, q3, q4, g0, g1, g2, g3, g4]
  exact h
theorem Tryd.results15 : Tryd.f15.results = #[.cell 6 32, .tmp 7, .tmp 8] := rfl
set_option maxRecDepth 100000 in
set_option maxHeartbeats 16000000 in
/-- The reference's Walk. -/
theorem rWalk_any {w0 w : World} (hB0 : Below w0.heap.size w0 w) {a la : Option Addr} {n cap ln lcap : Nat} {ok : Bool} {fc : Nat → List Ch} {cl : List Ch} (hC : Cx w0 a la n cap ln lcap ok fc cl) (h40 : ∀ W, Below w0.heap.size w0 W → Calls Tryd.prog 40 #[.slice a n cap, .slice la ln lcap] W fun e w' => e = .returned (.bool ok) ∧ Below W.heap.size W w') {x : Pt} {p : List Int} (hP : PAt w x p) (R : Option (Ch × List Int)) (hR : R = wyX ok fc cl x.l p) :
    Calls Tryd.prog 15 #[.slice a n cap, .slice la ln lcap, x.v] w fun e w' => RwPost R w0 w w' e ∧ Below w.heap.size w w' := by
  have HA5 := hidD (At.new w x.o)
  have HA5' : Hid (At ((w.alloc x.o).alloc zT.o) w.heap.size x.o) := (At.new w x.o).alloc _
  have HA6 : Hid (At ((w.alloc x.o).alloc zT.o) (w.heap.size + 1) zT.o) := at_snd _ _ _
  have HB : Hid (Below w.heap.size w ((w.alloc x.o).alloc zT.o)) := bel2
  have C40 : Hid (Calls Tryd.prog 40 #[.slice a n cap, .slice la ln lcap] ((w.alloc x.o).alloc zT.o) fun e w' => e = .returned (.bool ok) ∧ Below ((w.alloc x.o).alloc zT.o).heap.size ((w.alloc x.o).alloc zT.o) w') := h40 _ (below_aft hB0 bel2)
  obtain ⟨l, pa, m, pcap⟩ := x
  have hm : m = p.length := hP.row.len
  show Calls Tryd.prog 15 #[.slice a n cap, .slice la ln lcap, plV l pa m pcap] w _
  have hlN : ok = true → ln = cl.length := fun hok => by have := (hC.lf hok).at_.len; simpa using this
  by_cases hbad : l < 0 ∨ (ln : Int) ≤ l ∨ 8 < m
  · have hRn : R = none := by
      rw [hR]
      unfold wyX
      split
      · rename_i hok
        have := hlN hok
        unfold wayP
        show (if 0 ≤ l ∧ p.length ≤ 8 then (cl[l.toNat]?).bind fun c => wayC fc c p else none) = none
        split
        · rename_i h
          rw [List.getElem?_eq_none (by omega)]
          rfl
        · rfl
      · rfl
    subst hRn
    clear hR hC h40 hP hm hlN C40
    by_cases h1 : l < 0
    · clear hbad
      go_enter Tryd.func15, Tryd.ntmps15
      go_wp2_with (((with_reducible show wpList _ _ _ (Oper.mk none (Op.store 32 _ _) _ _ _ none :: _) _ _); refine wpl_storeT (w.heap.size + 1) zT zT HA6.out rfl rfl ?_; intro w9 hw9; have F9 : Hid (C5 w9 (w.heap.size + 1) 0 zT ∧ Below w.heap.size w w9) := (by rw [hw9]; exact ⟨(HA6.out.set5 zT).ty, below_S5 HB.out (by omega) zT⟩); clear hw9))
      exact bodyPost_ret (results_c3 (g := zT) Tryd.results15 rfl rfl rfl F9.out.1) rfl ⟨rfl, F9.out.2⟩
    · by_cases h2 : (ln : Int) ≤ l
      · clear hbad
        go_enter Tryd.func15, Tryd.ntmps15
        go_wp2_with (((with_reducible show wpList _ _ _ (Oper.mk none (Op.store 32 _ _) _ _ _ none :: _) _ _); refine wpl_storeT (w.heap.size + 1) zT zT HA6.out rfl rfl ?_; intro w9 hw9; have F9 : Hid (C5 w9 (w.heap.size + 1) 0 zT ∧ Below w.heap.size w w9) := (by rw [hw9]; exact ⟨(HA6.out.set5 zT).ty, below_S5 HB.out (by omega) zT⟩); clear hw9))
        exact bodyPost_ret (results_c3 (g := zT) Tryd.results15 rfl rfl rfl F9.out.1) rfl ⟨rfl, F9.out.2⟩
      · have h3 : (8 : Int) < (m : Int) := by omega
        clear hbad
        go_enter Tryd.func15, Tryd.ntmps15
        go_wp2_with (((with_reducible show wpList _ _ _ (Oper.mk none (Op.store 32 _ _) _ _ _ none :: _) _ _); refine wpl_storeT (w.heap.size + 1) zT zT HA6.out rfl rfl ?_; intro w9 hw9; have F9 : Hid (C5 w9 (w.heap.size + 1) 0 zT ∧ Below w.heap.size w w9) := (by rw [hw9]; exact ⟨(HA6.out.set5 zT).ty, below_S5 HB.out (by omega) zT⟩); clear hw9))
        exact bodyPost_ret (results_c3 (g := zT) Tryd.results15 rfl rfl rfl F9.out.1) rfl ⟨rfl, F9.out.2⟩
  have j2 : ¬ (ln : Int) ≤ l := by omega
  have j3 : ¬ (8 : Int) < (m : Int) := by omega
  have j4 : ¬ l < 0 := by omega
  cases hok : ok with
  | false =>
    rw [hok] at hR C40
    have hRn : R = none := hR
    subst hRn
    clear hR hC h40 hP hm hlN hbad hok
    go_enter Tryd.func15, Tryd.ntmps15
    go_wp2_with (first
      | (go_at_call 40; refine C40.out.mono ?_; rintro e w1 ⟨rfl, hb1⟩; have HR1 := hidD (HA6.out.below hb1); have HB1 := hidD (below_aft HB.out hb1); clear hb1)
      | ((with_reducible show wpList _ _ _ (Oper.mk none (Op.store 32 _ _) _ _ _ none :: _) _ _); refine wpl_storeT (w.heap.size + 1) zT zT HR1.out rfl rfl ?_; intro w9 hw9; have F9 : Hid (C5 w9 (w.heap.size + 1) 0 zT ∧ Below w.heap.size w w9) := (by rw [hw9]; exact ⟨(HR1.out.set5 zT).ty, below_S5 HB1.out (by omega) zT⟩); clear hw9))
    exact bodyPost_ret (results_c3 (g := zT) Tryd.results15 rfl rfl rfl F9.out.1) rfl ⟨rfl, F9.out.2⟩
  | true =>
    rw [hok] at hR C40
    obtain ⟨j, rfl⟩ : ∃ j : Nat, l = (j : Int) := ⟨l.toNat, by omega⟩
    have hS := hC.sf hok
    have hL := hC.lf hok
    obtain ⟨c0, hc0⟩ : ∃ c, cl[j]? = some c := ⟨_, List.getElem?_eq_getElem (by have := hlN hok; omega)⟩
    have hR2 : R = (wayC fc c0 (p.drop 0)).map (fun z => (z.1, [] ++ z.2)) := by
      rw [hR]
      unfold wyX wayP
      show (if true = true then (if 0 ≤ (j : Int) ∧ p.length ≤ 8 then (cl[((j : Int)).toNat]?).bind fun c => wayC fc c p else none) else none) = _
      rw [if_pos rfl, if_pos ⟨by omega, by omega⟩, Int.toNat_natCast, hc0, List.drop_zero]
      simp
    have hty0 : (cl.map Ch.ty)[j]? = some c0.ty := by rw [List.getElem?_map, hc0]; rfl
    obtain ⟨g, off, V, ea, hc5, hT⟩ := hL.at_.one hty0
    subst ea
    have HR2 := hidD hR2
    have HS := hidD hS
    have HP := hidD hP
    have HM := hidD hm
    have HTT := hidD hT
    have HOK := hidD (hL.ok c0 (List.mem_of_getElem? hc0))
    have HB00 := hidD hB0
    have HC5 := hidD hc5
    have j0 : (0 : Int) ≤ (j : Int) := by omega
    have j1 : (j : Int) < (ln : Int) := by omega
    have j5 : (j : Int) ≤ 9223372036854775807 := by have := hP.l1; show (j : Int) ≤ 9223372036854775807; exact this
    have M8 : Hid (m ≤ 8) := (by omega : m ≤ 8)
    clear hR hR2 hS hL hP hm hlN hT hty0 hc0 hc5 hbad hB0 hC h40 hok
    obtain ⟨i3, hi3, hz3, hs3, hb3⟩ := info_parts Tryd.info3
    go_enter Tryd.func15, Tryd.ntmps15
    go_upto_region 5 with (first
      | (go_at_call 40; refine C40.out.mono ?_; rintro e w1 ⟨rfl, hb1⟩; have HR1 := hidD (HA6.out.below hb1); have HX1 := hidD (HA5'.out.below hb1); have HB1 := hidD (below_aft HB.out hb1); clear hb1; obtain ⟨x0, x1⟩ := HX1.out.pl; obtain ⟨hg, p0, p1, p2, p3, p4⟩ := HC5.out.below (below_aft HB00.out HB1.out))
      | ((with_reducible show wpList _ _ _ (Oper.mk none (Op.store 32 _ _) _ _ _ none :: _) _ _); refine wpl_storeT w1.heap.size zT V (At.new w1 _) rfl rfl ?_; intro w2 hw2))
    have W0 : Hid (RWI w0 w w2 w1.heap.size ⟨(j : Int), pa, m, pcap⟩ ⟨V, none, 0, 0⟩ c0 []) := by
      rw [hw2]
      have hlx := HR1.out.lt
      exact ⟨(HX1.out.alloc _).S5 (by omega) V, (HR1.out.alloc _).S5 (by omega) V, (At.new w1 zT.o).set5 V, HTT.out, rfl, World.ownsRow_nil _ _ _ _, below_S5 (belA HB1.out) HB1.out.size V, hlx⟩
    obtain ⟨b9, hb9⟩ : ∃ b9, b9 = w1.heap.size := ⟨_, rfl⟩
    rw [← hb9] at W0 ⊢
    clear hw2 hb9 p0 p1 p2 p3 p4 hg x0 x1 HX1 HR1 HB1 HA5 HA5' HA6 HB C40
    go_wp2_with fail
    go_loopw [10, 11] (fun u v V' => ∃ (i : Nat) (y : Wy) (c : Ch) (gs : List Int), v = .int .i64 i ∧ u = .slice y.ga y.gn y.gcap ∧ i ≤ m ∧ gs.length = i ∧ c.ok n ∧ R = (wayC fc c (p.drop i)).map (fun z => (z.1, gs ++ z.2)) ∧ RWI w0 w V' b9 ⟨(j : Int), pa, m, pcap⟩ y c gs) (fun _ v _ => m - (intOf v).toNat)
    case atStart => exact ⟨0, ⟨V, none, 0, 0⟩, c0, [], rfl, rfl, Nat.zero_le _, rfl, HOK.out, HR2.out, W0.out⟩
    case round =>
      clear W0 HR2 HOK
      obtain ⟨i, y, c, gs, rfl, rfl, hi, hgl, hokc, hRR, hW⟩ := hrel
      have HW := hidD hW
      have HRR := hidD hRR
      have HC := hidD hokc
      have HGL := hidD hgl
      obtain ⟨x0, x1⟩ := HW.out.pl.pl
      clear hW hRR hokc hgl
      by_cases hlt : i < m
      · obtain ⟨s, hs⟩ : ∃ s, p[i]? = some s := ⟨_, List.getElem?_eq_getElem (by have := HM.out; omega)⟩
        obtain ⟨g9, off9, ea, hg9, hc9, s0, s1⟩ := (HP.out.row.bel HW.out.bel).nth hs
        have ea2 : pa = some ⟨g9, off9, none⟩ := ea
        subst ea2
        have st := wayC_step (fc := fc) (c := c) hs gs
        rw [← HRR.out] at st
        have ST := hidD st
        have C := hidD (fun (W : World) (hW : Below wr.heap.size wr W) => rstep_any (below_aft HB00.out (below_aft HW.out.bel hW)) HS.out c y.f HC.out HW.out.ty s s0 s1 _ rfl)
        have HC9 : Hid (∀ W, Below wr.heap.size wr W → W.cell? ⟨g9, off9 + i, none⟩ = some (.int .i64 s)) := fun W hW => (hW.cell (p := ⟨g9, off9 + i, none⟩) hg9).trans hc9
        have i0 : (0 : Int) ≤ (i : Int) := by omega
        have i1 : (i : Int) < (m : Int) := by omega
        have i2 : (i : Int) ≤ 8 := by have := M8.out; omega
        have HG9 := hidD hg9
        clear hs ea st s0 s1 hc9 hg9
        cases hst : stepC fc c s with
        | none =>
          rw [hst] at C ST
          have hRn : R = none := ST.out
          subst hRn
          have C2 : Hid (∀ W, Below wr.heap.size wr W → Calls Tryd.prog 41 #[.slice a n cap, y.f.v, .int .i64 s] W fun e w' => (∃ f' : Fv, e = .returned (.tuple #[f'.v, .int .i64 0, .bool false])) ∧ Below W.heap.size W w') := C.out
          clear C ST hst
          go_upto_region 8 with fail
          refine beginH (S := fun W => Below wr.heap.size wr W) (fun _ _ _ _ _ h => h) (by kernel_rfl) (belN (Below.refl _ _) 1) (fun hq hHeld => ?_)
          refine takeH (i := 0) (d := 51) _ hq rfl rfl (by kernel_rfl) (by kernel_rfl) (by kernel_rfl) (by rfl) (fun W hSw => by (go_simp; try rfl)) hHeld ?_
          try simp only [Act.put, List.setIfInBounds_toArray, List.set_cons_zero, List.set_cons_succ]
          refine takeH (i := 1) (d := 52) y.f.v hq rfl rfl (by kernel_rfl) (by kernel_rfl) (by kernel_rfl) (by rfl) (fun W hSw => by (obtain ⟨-, z0, z1, z2, z3, z4⟩ := (HW.out.var.below hSw).ty; simp only [Nat.zero_add] at z0 z1 z2 z3 z4; go_simp; try rfl)) hHeld ?_
          try simp only [Act.put, List.setIfInBounds_toArray, List.set_cons_zero, List.set_cons_succ]
          refine takeH (i := 2) (d := 53) _ hq rfl rfl (by kernel_rfl) (by kernel_rfl) (by kernel_rfl) (by rfl) (fun W hSw => by (go_simp; try rfl)) hHeld ?_
          try simp only [Act.put, List.setIfInBounds_toArray, List.set_cons_zero, List.set_cons_succ]
          refine takeH (i := 3) (d := 54) (.slice (some ⟨g9, off9, none⟩) m pcap) hq rfl rfl (by kernel_rfl) (by kernel_rfl) (by kernel_rfl) (by rfl) (fun W hSw => by (obtain ⟨z0, z1⟩ := (HW.out.pl.below hSw).pl; go_simp; try rfl)) hHeld ?_
          try simp only [Act.put, List.setIfInBounds_toArray, List.set_cons_zero, List.set_cons_succ]
          refine takeH (i := 4) (d := 55) _ hq rfl rfl (by kernel_rfl) (by kernel_rfl) (by kernel_rfl) (by rfl) (fun W hSw => by (go_simp; try rfl)) hHeld ?_
          try simp only [Act.put, List.setIfInBounds_toArray, List.set_cons_zero, List.set_cons_succ]
          refine takeH (i := 5) (d := 56) _ hq rfl rfl (by kernel_rfl) (by kernel_rfl) (by kernel_rfl) (by rfl) (fun W hSw => by (go_simp; try rfl)) hHeld ?_
          try simp only [Act.put, List.setIfInBounds_toArray, List.set_cons_zero, List.set_cons_succ]
          refine takeH (i := 6) (d := 57) (.int .i64 s) hq rfl rfl (by kernel_rfl) (by kernel_rfl) (by kernel_rfl) (by rfl) (fun W hSw => by (have z0 := HC9.out W hSw; go_simp; try rfl)) hHeld ?_
          try simp only [Act.put, List.setIfInBounds_toArray, List.set_cons_zero, List.set_cons_succ]
          refine wpAnyH_ready (rs := [7, 12]) (by kernel_rfl) (by simp) ?_
          refine AllReadyH.cons rfl (fun K hK => ?_) (AllReadyH.cons rfl (fun K hK => ?_) AllReadyH.nil)
          · go_simp
            refine (C2.out _ (belN (Below.refl _ _) 1)).mono ?_
            rintro e v1 ⟨⟨f', rfl⟩, hb1⟩
            have hS1 : Below wr.heap.size wr v1 := below_aft (belN (Below.refl _ _) 1) hb1
            go_wp2_with fail
            refine hK.out _ _ hS1 (fun hHeld => ?_)
            clear hK K
            try simp only [Act.put, List.setIfInBounds_toArray, List.set_cons_zero, List.set_cons_succ]
            have HS1 := hidD hS1
            clear hb1 hS1
            refine takeH (i := 8) (d := 50) _ hq rfl rfl (by kernel_rfl) (by kernel_rfl) (by kernel_rfl) (by rfl) (fun W hSw => by (go_simp; try rfl)) hHeld ?_
            try simp only [Act.put, List.setIfInBounds_toArray, List.set_cons_zero, List.set_cons_succ]
            refine takeH (i := 9) (d := 59) f'.v hq rfl rfl (by kernel_rfl) (by kernel_rfl) (by kernel_rfl) (by rfl) (fun W hSw => by (go_simp; try rfl)) hHeld ?_
            try simp only [Act.put, List.setIfInBounds_toArray, List.set_cons_zero, List.set_cons_succ]
            refine takeH (i := 10) (d := 60) _ hq rfl rfl (by kernel_rfl) (by kernel_rfl) (by kernel_rfl) (by rfl) (fun W hSw => by (go_simp; try rfl)) hHeld ?_
            try simp only [Act.put, List.setIfInBounds_toArray, List.set_cons_zero, List.set_cons_succ]
            refine takeH (i := 11) (d := 61) _ hq rfl rfl (by kernel_rfl) (by kernel_rfl) (by kernel_rfl) (by rfl) (fun W hSw => by (go_simp; try rfl)) hHeld ?_
            try simp only [Act.put, List.setIfInBounds_toArray, List.set_cons_zero, List.set_cons_succ]
            refine wpAnyH_ready (rs := [12]) (by kernel_rfl) (by simp) ?_
            refine AllReadyH.cons rfl (fun K hK => ?_) AllReadyH.nil
            go_simp
            go_wp2_with fail
            refine hK.out _ _ (belA HS1.out) (fun hHeld => ?_)
            clear hK K
            try simp only [Act.put, List.setIfInBounds_toArray, List.set_cons_zero, List.set_cons_succ]
            refine wpAnyH_ready (rs := [13]) (by kernel_rfl) (by simp) ?_
            refine AllReadyH.cons rfl (fun K hK => ?_) AllReadyH.nil
            refine wp_storeT32 v1.heap.size zT f' rfl rfl (At.new v1 zT.o) rfl rfl ?_
            have HV : Hid (At (S5 (v1.alloc zT.o) v1.heap.size f') v1.heap.size f'.o ∧ Below wr.heap.size wr (S5 (v1.alloc zT.o) v1.heap.size f')) := ⟨(At.new v1 zT.o).set5 f', below_S5 (belA HS1.out) HS1.out.size f'⟩
            obtain ⟨bu, hbu⟩ : ∃ bu, bu = v1.heap.size := ⟨_, rfl⟩
            rw [← hbu] at HV ⊢
            obtain ⟨wv, hwv⟩ : ∃ wv, wv = S5 (v1.alloc zT.o) bu f' := ⟨_, rfl⟩
            show K _ (S5 (v1.alloc zT.o) bu f')
            rw [← hwv] at HV ⊢
            have hlow : wr.heap.size ≤ bu := by rw [hbu]; exact HS1.out.size
            have HLOW := hidD hlow
            clear hwv hbu hlow
            refine hK.out _ _ HV.out.2 (fun hHeld => ?_)
            clear hK K
            try simp only [Act.put, List.setIfInBounds_toArray, List.set_cons_zero, List.set_cons_succ]
            refine takeH (i := 14) (d := 13) _ hq rfl rfl (by kernel_rfl) (by kernel_rfl) (by kernel_rfl) (by rfl) (fun W hSw => by (go_simp; try rfl)) hHeld ?_
            try simp only [Act.put, List.setIfInBounds_toArray, List.set_cons_zero, List.set_cons_succ]
            refine takeH (i := 15) (d := 14) _ hq rfl rfl (by kernel_rfl) (by kernel_rfl) (by kernel_rfl) (by rfl) (fun W hSw => by (go_simp; try rfl)) hHeld ?_
            try simp only [Act.put, List.setIfInBounds_toArray, List.set_cons_zero, List.set_cons_succ]
            refine wpAnyH_done (by kernel_rfl) ?_ _
            have HR9 := hidD (HW.out.res.below HV.out.2)
            have HB9 := hidD (below_aft HW.out.bel HV.out.2)
            go_wp2_with (((with_reducible show wpList _ _ _ (Oper.mk none (Op.store 32 _ _) _ _ _ none :: _) _ _); refine wpl_storeT (w.heap.size + 1) zT zT HR9.out rfl rfl ?_; intro w9 hw9; have F9 : Hid (C5 w9 (w.heap.size + 1) 0 zT ∧ Below w.heap.size w w9) := (by rw [hw9]; exact ⟨(HR9.out.set5 zT).ty, below_S5 HB9.out (by omega) zT⟩); clear hw9))
            exact bodyPost_ret (results_c3 (g := zT) Tryd.results15 rfl rfl rfl F9.out.1) rfl ⟨rfl, F9.out.2⟩
          · go_simp
            go_wp2_with fail
            refine hK.out _ _ (belA (belN (Below.refl _ _) 1)) (fun hHeld => ?_)
            clear hK K
            try simp only [Act.put, List.setIfInBounds_toArray, List.set_cons_zero, List.set_cons_succ]
            refine wpAnyH_ready (rs := [7]) (by kernel_rfl) (by simp) ?_
            refine AllReadyH.cons rfl (fun K hK => ?_) AllReadyH.nil
            go_simp
            refine (C2.out _ (belA (belN (Below.refl _ _) 1))).mono ?_
            rintro e v1 ⟨⟨f', rfl⟩, hb1⟩
            have hS1 : Below wr.heap.size wr v1 := below_aft (belA (belN (Below.refl _ _) 1)) hb1
            have HZ1 : Hid (At v1 wr.heap.size zT.o) := (At.new wr.drew zT.o).below hb1
            go_wp2_with fail
            refine hK.out _ _ hS1 (fun hHeld => ?_)
            clear hK K
            try simp only [Act.put, List.setIfInBounds_toArray, List.set_cons_zero, List.set_cons_succ]
            have HS1 := hidD hS1
            clear hb1 hS1
            refine takeH (i := 8) (d := 50) _ hq rfl rfl (by kernel_rfl) (by kernel_rfl) (by kernel_rfl) (by rfl) (fun W hSw => by (go_simp; try rfl)) hHeld ?_
            try simp only [Act.put, List.setIfInBounds_toArray, List.set_cons_zero, List.set_cons_succ]
            refine takeH (i := 9) (d := 59) f'.v hq rfl rfl (by kernel_rfl) (by kernel_rfl) (by kernel_rfl) (by rfl) (fun W hSw => by (go_simp; try rfl)) hHeld ?_
            try simp only [Act.put, List.setIfInBounds_toArray, List.set_cons_zero, List.set_cons_succ]
            refine takeH (i := 10) (d := 60) _ hq rfl rfl (by kernel_rfl) (by kernel_rfl) (by kernel_rfl) (by rfl) (fun W hSw => by (go_simp; try rfl)) hHeld ?_
            try simp only [Act.put, List.setIfInBounds_toArray, List.set_cons_zero, List.set_cons_succ]
            refine takeH (i := 11) (d := 61) _ hq rfl rfl (by kernel_rfl) (by kernel_rfl) (by kernel_rfl) (by rfl) (fun W hSw => by (go_simp; try rfl)) hHeld ?_
            try simp only [Act.put, List.setIfInBounds_toArray, List.set_cons_zero, List.set_cons_succ]
            refine wpAnyH_ready (rs := [13]) (by kernel_rfl) (by simp) ?_
            refine AllReadyH.cons rfl (fun K hK => ?_) AllReadyH.nil
            refine wp_storeT32 wr.heap.size zT f' rfl rfl HZ1.out rfl rfl ?_
            have HV : Hid (At (S5 v1 wr.heap.size f') wr.heap.size f'.o ∧ Below wr.heap.size wr (S5 v1 wr.heap.size f')) := ⟨HZ1.out.set5 f', below_S5 HS1.out (Nat.le_refl _) f'⟩
            obtain ⟨wv, hwv⟩ : ∃ wv, wv = S5 v1 wr.heap.size f' := ⟨_, rfl⟩
            show K _ (S5 v1 wr.heap.size f')
            rw [← hwv] at HV ⊢
            clear hwv
            refine hK.out _ _ HV.out.2 (fun hHeld => ?_)
            clear hK K
            try simp only [Act.put, List.setIfInBounds_toArray, List.set_cons_zero, List.set_cons_succ]
            refine takeH (i := 14) (d := 13) _ hq rfl rfl (by kernel_rfl) (by kernel_rfl) (by kernel_rfl) (by rfl) (fun W hSw => by (go_simp; try rfl)) hHeld ?_
            try simp only [Act.put, List.setIfInBounds_toArray, List.set_cons_zero, List.set_cons_succ]
            refine takeH (i := 15) (d := 14) _ hq rfl rfl (by kernel_rfl) (by kernel_rfl) (by kernel_rfl) (by rfl) (fun W hSw => by (go_simp; try rfl)) hHeld ?_
            try simp only [Act.put, List.setIfInBounds_toArray, List.set_cons_zero, List.set_cons_succ]
            refine wpAnyH_done (by kernel_rfl) ?_ _
            have HR9 := hidD (HW.out.res.below HV.out.2)
            have HB9 := hidD (below_aft HW.out.bel HV.out.2)
            go_wp2_with (((with_reducible show wpList _ _ _ (Oper.mk none (Op.store 32 _ _) _ _ _ none :: _) _ _); refine wpl_storeT (w.heap.size + 1) zT zT HR9.out rfl rfl ?_; intro w9 hw9; have F9 : Hid (C5 w9 (w.heap.size + 1) 0 zT ∧ Below w.heap.size w w9) := (by rw [hw9]; exact ⟨(HR9.out.set5 zT).ty, below_S5 HB9.out (by omega) zT⟩); clear hw9))
            exact bodyPost_ret (results_c3 (g := zT) Tryd.results15 rfl rfl rfl F9.out.1) rfl ⟨rfl, F9.out.2⟩
        | some x =>
          obtain ⟨d, g⟩ := x
          rw [hst] at C ST
          have hd := stepC_ok HS.out HC.out hst
          have HD := hidD hd.1
          have C2 : Hid (∀ W, Below wr.heap.size wr W → Calls Tryd.prog 41 #[.slice a n cap, y.f.v, .int .i64 s] W fun e w' => (∃ f' : Fv, e = .returned (.tuple #[f'.v, .int .i64 g, .bool true]) ∧ TyAt w0 f' d.ty) ∧ Below W.heap.size W w') := C.out
          clear C hst hd
          go_upto_region 8 with fail
          refine beginH (S := fun W => Below wr.heap.size wr W) (fun _ _ _ _ _ h => h) (by kernel_rfl) (belN (Below.refl _ _) 1) (fun hq hHeld => ?_)
          refine takeH (i := 0) (d := 51) _ hq rfl rfl (by kernel_rfl) (by kernel_rfl) (by kernel_rfl) (by rfl) (fun W hSw => by (go_simp; try rfl)) hHeld ?_
          try simp only [Act.put, List.setIfInBounds_toArray, List.set_cons_zero, List.set_cons_succ]
          refine takeH (i := 1) (d := 52) y.f.v hq rfl rfl (by kernel_rfl) (by kernel_rfl) (by kernel_rfl) (by rfl) (fun W hSw => by (obtain ⟨-, z0, z1, z2, z3, z4⟩ := (HW.out.var.below hSw).ty; simp only [Nat.zero_add] at z0 z1 z2 z3 z4; go_simp; try rfl)) hHeld ?_
          try simp only [Act.put, List.setIfInBounds_toArray, List.set_cons_zero, List.set_cons_succ]
          refine takeH (i := 2) (d := 53) _ hq rfl rfl (by kernel_rfl) (by kernel_rfl) (by kernel_rfl) (by rfl) (fun W hSw => by (go_simp; try rfl)) hHeld ?_
          try simp only [Act.put, List.setIfInBounds_toArray, List.set_cons_zero, List.set_cons_succ]
          refine takeH (i := 3) (d := 54) (.slice (some ⟨g9, off9, none⟩) m pcap) hq rfl rfl (by kernel_rfl) (by kernel_rfl) (by kernel_rfl) (by rfl) (fun W hSw => by (obtain ⟨z0, z1⟩ := (HW.out.pl.below hSw).pl; go_simp; try rfl)) hHeld ?_
          try simp only [Act.put, List.setIfInBounds_toArray, List.set_cons_zero, List.set_cons_succ]
          refine takeH (i := 4) (d := 55) _ hq rfl rfl (by kernel_rfl) (by kernel_rfl) (by kernel_rfl) (by rfl) (fun W hSw => by (go_simp; try rfl)) hHeld ?_
          try simp only [Act.put, List.setIfInBounds_toArray, List.set_cons_zero, List.set_cons_succ]
          refine takeH (i := 5) (d := 56) _ hq rfl rfl (by kernel_rfl) (by kernel_rfl) (by kernel_rfl) (by rfl) (fun W hSw => by (go_simp; try rfl)) hHeld ?_
          try simp only [Act.put, List.setIfInBounds_toArray, List.set_cons_zero, List.set_cons_succ]
          refine takeH (i := 6) (d := 57) (.int .i64 s) hq rfl rfl (by kernel_rfl) (by kernel_rfl) (by kernel_rfl) (by rfl) (fun W hSw => by (have z0 := HC9.out W hSw; go_simp; try rfl)) hHeld ?_
          try simp only [Act.put, List.setIfInBounds_toArray, List.set_cons_zero, List.set_cons_succ]
          refine wpAnyH_ready (rs := [7, 12]) (by kernel_rfl) (by simp) ?_
          refine AllReadyH.cons rfl (fun K hK => ?_) (AllReadyH.cons rfl (fun K hK => ?_) AllReadyH.nil)
          · go_simp
            refine (C2.out _ (belN (Below.refl _ _) 1)).mono ?_
            rintro e v1 ⟨⟨f', rfl, hT'⟩, hb1⟩; have HT' := hidD hT'; clear hT'
            have hS1 : Below wr.heap.size wr v1 := below_aft (belN (Below.refl _ _) 1) hb1
            go_wp2_with fail
            refine hK.out _ _ hS1 (fun hHeld => ?_)
            clear hK K
            try simp only [Act.put, List.setIfInBounds_toArray, List.set_cons_zero, List.set_cons_succ]
            have HS1 := hidD hS1
            clear hb1 hS1
            refine takeH (i := 8) (d := 50) _ hq rfl rfl (by kernel_rfl) (by kernel_rfl) (by kernel_rfl) (by rfl) (fun W hSw => by (go_simp; try rfl)) hHeld ?_
            try simp only [Act.put, List.setIfInBounds_toArray, List.set_cons_zero, List.set_cons_succ]
            refine takeH (i := 9) (d := 59) f'.v hq rfl rfl (by kernel_rfl) (by kernel_rfl) (by kernel_rfl) (by rfl) (fun W hSw => by (go_simp; try rfl)) hHeld ?_
            try simp only [Act.put, List.setIfInBounds_toArray, List.set_cons_zero, List.set_cons_succ]
            refine takeH (i := 10) (d := 60) _ hq rfl rfl (by kernel_rfl) (by kernel_rfl) (by kernel_rfl) (by rfl) (fun W hSw => by (go_simp; try rfl)) hHeld ?_
            try simp only [Act.put, List.setIfInBounds_toArray, List.set_cons_zero, List.set_cons_succ]
            refine takeH (i := 11) (d := 61) _ hq rfl rfl (by kernel_rfl) (by kernel_rfl) (by kernel_rfl) (by rfl) (fun W hSw => by (go_simp; try rfl)) hHeld ?_
            try simp only [Act.put, List.setIfInBounds_toArray, List.set_cons_zero, List.set_cons_succ]
            refine wpAnyH_ready (rs := [12]) (by kernel_rfl) (by simp) ?_
            refine AllReadyH.cons rfl (fun K hK => ?_) AllReadyH.nil
            go_simp
            go_wp2_with fail
            refine hK.out _ _ (belA HS1.out) (fun hHeld => ?_)
            clear hK K
            try simp only [Act.put, List.setIfInBounds_toArray, List.set_cons_zero, List.set_cons_succ]
            refine wpAnyH_ready (rs := [13]) (by kernel_rfl) (by simp) ?_
            refine AllReadyH.cons rfl (fun K hK => ?_) AllReadyH.nil
            refine wp_storeT32 v1.heap.size zT f' rfl rfl (At.new v1 zT.o) rfl rfl ?_
            have HV : Hid (At (S5 (v1.alloc zT.o) v1.heap.size f') v1.heap.size f'.o ∧ Below wr.heap.size wr (S5 (v1.alloc zT.o) v1.heap.size f')) := ⟨(At.new v1 zT.o).set5 f', below_S5 (belA HS1.out) HS1.out.size f'⟩
            obtain ⟨bu, hbu⟩ : ∃ bu, bu = v1.heap.size := ⟨_, rfl⟩
            rw [← hbu] at HV ⊢
            obtain ⟨wv, hwv⟩ : ∃ wv, wv = S5 (v1.alloc zT.o) bu f' := ⟨_, rfl⟩
            show K _ (S5 (v1.alloc zT.o) bu f')
            rw [← hwv] at HV ⊢
            have hlow : wr.heap.size ≤ bu := by rw [hbu]; exact HS1.out.size
            have HLOW := hidD hlow
            clear hwv hbu hlow
            refine hK.out _ _ HV.out.2 (fun hHeld => ?_)
            clear hK K
            try simp only [Act.put, List.setIfInBounds_toArray, List.set_cons_zero, List.set_cons_succ]
            refine takeH (i := 14) (d := 13) _ hq rfl rfl (by kernel_rfl) (by kernel_rfl) (by kernel_rfl) (by rfl) (fun W hSw => by (go_simp; try rfl)) hHeld ?_
            try simp only [Act.put, List.setIfInBounds_toArray, List.set_cons_zero, List.set_cons_succ]
            refine takeH (i := 15) (d := 14) _ hq rfl rfl (by kernel_rfl) (by kernel_rfl) (by kernel_rfl) (by rfl) (fun W hSw => by (go_simp; try rfl)) hHeld ?_
            try simp only [Act.put, List.setIfInBounds_toArray, List.set_cons_zero, List.set_cons_succ]
            refine wpAnyH_done (by kernel_rfl) ?_ _
            obtain ⟨hlu, z0, z1, z2, z3, z4⟩ := HV.out.1.ty
            simp only [Nat.zero_add] at z0 z1 z2 z3 z4
            go_upto_region 12 with ((with_reducible show wpList _ _ _ (Oper.mk none (Op.store 32 _ _) _ _ _ none :: _) _ _); refine wpl_storeT b9 y.f f' (HW.out.var.below HV.out.2) rfl rfl ?_; intro w5 hw5)
            have HRW : Hid (w5.ownsRow w.heap.size 3 1 (.slice y.ga y.gn y.gcap) y.gn (iCells gs) ∧ w.heap.size ≤ w5.heap.size) := by
              rw [hw5]
              exact ⟨own_grow (own_bel HW.out.row HV.out.2) (but_s5 _ b9 f') (fun g hg e => row3_ne (e := 32) (by decide) (own_bel HW.out.row HV.out.2) (HW.out.var.below HV.out.2) (by rw [hg, e])), (below_S5 (below_aft HW.out.bel HV.out.2) (by have := HW.out.lo; omega) f').size⟩
            have NXT : Hid (∀ w6 a3 cap3, w6.ownsRow w.heap.size 3 1 (.slice a3 (y.gn + 1) cap3) (y.gn + 1) (iCells gs ++ [.int .i64 g]) → (w5.alloc (.cells #[.int .i64 g] 3)).grownBy w6 (Value.slice y.ga y.gn y.gcap).ownBlock → RWI w0 w w6 b9 ⟨(j : Int), some ⟨g9, off9, none⟩, m, pcap⟩ ⟨f', a3, y.gn + 1, cap3⟩ d (gs ++ [g])) := fun w6 a3 cap3 ho hg => HW.out.next (g := g) HV.out.2 HT'.out ho (by rw [hw5] at hg; exact hg)
            have HGN : Hid (y.gn ≤ 8) := (by have := HW.out.gn; have := HGL.out; omega : y.gn ≤ 8)
            obtain ⟨gn, hgn⟩ : ∃ gn, gn = y.gn := ⟨_, rfl⟩
            rw [← hgn] at HRW NXT HGN ⊢
            have HGG := hidD hgn
            clear hw5 z0 z1 z2 z3 z4 hlu HV HT' hgn
            go_wp2_with (at_builtin; refine wpList_append_own _ rfl (.tmp 66) (.tmp 68) 36 rfl w.heap.size 3 i3 (.int .i64 0) 1 8 Tryd.underlying36 hi3 hz3 hs3 hb3 rfl (by omega) (.slice y.ga gn y.gcap) gn (iCells gs) rfl (HRW.out.1.alloc _) ⟨w5.heap.size, 0, none⟩ 1 1 [.int .i64 g] rfl rfl (new1 _ _ _) (by intro u hu; simp at hu; subst hu; rfl) (by unfold maxLen; have := HGN.out; omega) (by have := HGN.out; omega) (by have := HRW.out.2; simp; omega) ?_; intro v3 w6 ho3 hg3 hn3; obtain ⟨a3, cap3, rfl⟩ := own_sl ho3; have HN := hidD (NXT.out w6 a3 cap3 ho3 hg3); clear ho3 hg3 hn3)
            have e := HGG.out
            subst e
            refine ⟨⟨i + 1, ⟨f', a3, y.gn + 1, cap3⟩, d, gs ++ [g], rfl, rfl, hlt, by have := HGL.out; simp; omega, HD.out, ST.out, HN.out⟩, ?_⟩
            show m - ((i : Int) + 1).toNat < m - (i : Int).toNat
            omega
          · go_simp
            go_wp2_with fail
            refine hK.out _ _ (belA (belN (Below.refl _ _) 1)) (fun hHeld => ?_)
            clear hK K
            try simp only [Act.put, List.setIfInBounds_toArray, List.set_cons_zero, List.set_cons_succ]
            refine wpAnyH_ready (rs := [7]) (by kernel_rfl) (by simp) ?_
            refine AllReadyH.cons rfl (fun K hK => ?_) AllReadyH.nil
            go_simp
            refine (C2.out _ (belA (belN (Below.refl _ _) 1))).mono ?_
            rintro e v1 ⟨⟨f', rfl, hT'⟩, hb1⟩; have HT' := hidD hT'; clear hT'
            have hS1 : Below wr.heap.size wr v1 := below_aft (belA (belN (Below.refl _ _) 1)) hb1
            have HZ1 : Hid (At v1 wr.heap.size zT.o) := (At.new wr.drew zT.o).below hb1
            go_wp2_with fail
            refine hK.out _ _ hS1 (fun hHeld => ?_)
            clear hK K
            try simp only [Act.put, List.setIfInBounds_toArray, List.set_cons_zero, List.set_cons_succ]
            have HS1 := hidD hS1
            clear hb1 hS1
            refine takeH (i := 8) (d := 50) _ hq rfl rfl (by kernel_rfl) (by kernel_rfl) (by kernel_rfl) (by rfl) (fun W hSw => by (go_simp; try rfl)) hHeld ?_
            try simp only [Act.put, List.setIfInBounds_toArray, List.set_cons_zero, List.set_cons_succ]
            refine takeH (i := 9) (d := 59) f'.v hq rfl rfl (by kernel_rfl) (by kernel_rfl) (by kernel_rfl) (by rfl) (fun W hSw => by (go_simp; try rfl)) hHeld ?_
            try simp only [Act.put, List.setIfInBounds_toArray, List.set_cons_zero, List.set_cons_succ]
            refine takeH (i := 10) (d := 60) _ hq rfl rfl (by kernel_rfl) (by kernel_rfl) (by kernel_rfl) (by rfl) (fun W hSw => by (go_simp; try rfl)) hHeld ?_
            try simp only [Act.put, List.setIfInBounds_toArray, List.set_cons_zero, List.set_cons_succ]
            refine takeH (i := 11) (d := 61) _ hq rfl rfl (by kernel_rfl) (by kernel_rfl) (by kernel_rfl) (by rfl) (fun W hSw => by (go_simp; try rfl)) hHeld ?_
            try simp only [Act.put, List.setIfInBounds_toArray, List.set_cons_zero, List.set_cons_succ]
            refine wpAnyH_ready (rs := [13]) (by kernel_rfl) (by simp) ?_
            refine AllReadyH.cons rfl (fun K hK => ?_) AllReadyH.nil
            refine wp_storeT32 wr.heap.size zT f' rfl rfl HZ1.out rfl rfl ?_
            have HV : Hid (At (S5 v1 wr.heap.size f') wr.heap.size f'.o ∧ Below wr.heap.size wr (S5 v1 wr.heap.size f')) := ⟨HZ1.out.set5 f', below_S5 HS1.out (Nat.le_refl _) f'⟩
            obtain ⟨wv, hwv⟩ : ∃ wv, wv = S5 v1 wr.heap.size f' := ⟨_, rfl⟩
            show K _ (S5 v1 wr.heap.size f')
            rw [← hwv] at HV ⊢
            clear hwv
            refine hK.out _ _ HV.out.2 (fun hHeld => ?_)
            clear hK K
            try simp only [Act.put, List.setIfInBounds_toArray, List.set_cons_zero, List.set_cons_succ]
            refine takeH (i := 14) (d := 13) _ hq rfl rfl (by kernel_rfl) (by kernel_rfl) (by kernel_rfl) (by rfl) (fun W hSw => by (go_simp; try rfl)) hHeld ?_
            try simp only [Act.put, List.setIfInBounds_toArray, List.set_cons_zero, List.set_cons_succ]
            refine takeH (i := 15) (d := 14) _ hq rfl rfl (by kernel_rfl) (by kernel_rfl) (by kernel_rfl) (by rfl) (fun W hSw => by (go_simp; try rfl)) hHeld ?_
            try simp only [Act.put, List.setIfInBounds_toArray, List.set_cons_zero, List.set_cons_succ]
            refine wpAnyH_done (by kernel_rfl) ?_ _
            obtain ⟨hlu, z0, z1, z2, z3, z4⟩ := HV.out.1.ty
            simp only [Nat.zero_add] at z0 z1 z2 z3 z4
            go_upto_region 12 with ((with_reducible show wpList _ _ _ (Oper.mk none (Op.store 32 _ _) _ _ _ none :: _) _ _); refine wpl_storeT b9 y.f f' (HW.out.var.below HV.out.2) rfl rfl ?_; intro w5 hw5)
            have HRW : Hid (w5.ownsRow w.heap.size 3 1 (.slice y.ga y.gn y.gcap) y.gn (iCells gs) ∧ w.heap.size ≤ w5.heap.size) := by
              rw [hw5]
              exact ⟨own_grow (own_bel HW.out.row HV.out.2) (but_s5 _ b9 f') (fun g hg e => row3_ne (e := 32) (by decide) (own_bel HW.out.row HV.out.2) (HW.out.var.below HV.out.2) (by rw [hg, e])), (below_S5 (below_aft HW.out.bel HV.out.2) (by have := HW.out.lo; omega) f').size⟩
            have NXT : Hid (∀ w6 a3 cap3, w6.ownsRow w.heap.size 3 1 (.slice a3 (y.gn + 1) cap3) (y.gn + 1) (iCells gs ++ [.int .i64 g]) → (w5.alloc (.cells #[.int .i64 g] 3)).grownBy w6 (Value.slice y.ga y.gn y.gcap).ownBlock → RWI w0 w w6 b9 ⟨(j : Int), some ⟨g9, off9, none⟩, m, pcap⟩ ⟨f', a3, y.gn + 1, cap3⟩ d (gs ++ [g])) := fun w6 a3 cap3 ho hg => HW.out.next (g := g) HV.out.2 HT'.out ho (by rw [hw5] at hg; exact hg)
            have HGN : Hid (y.gn ≤ 8) := (by have := HW.out.gn; have := HGL.out; omega : y.gn ≤ 8)
            obtain ⟨gn, hgn⟩ : ∃ gn, gn = y.gn := ⟨_, rfl⟩
            rw [← hgn] at HRW NXT HGN ⊢
            have HGG := hidD hgn
            clear hw5 z0 z1 z2 z3 z4 hlu HV HT' hgn
            go_wp2_with (at_builtin; refine wpList_append_own _ rfl (.tmp 66) (.tmp 68) 36 rfl w.heap.size 3 i3 (.int .i64 0) 1 8 Tryd.underlying36 hi3 hz3 hs3 hb3 rfl (by omega) (.slice y.ga gn y.gcap) gn (iCells gs) rfl (HRW.out.1.alloc _) ⟨w5.heap.size, 0, none⟩ 1 1 [.int .i64 g] rfl rfl (new1 _ _ _) (by intro u hu; simp at hu; subst hu; rfl) (by unfold maxLen; have := HGN.out; omega) (by have := HGN.out; omega) (by have := HRW.out.2; simp; omega) ?_; intro v3 w6 ho3 hg3 hn3; obtain ⟨a3, cap3, rfl⟩ := own_sl ho3; have HN := hidD (NXT.out w6 a3 cap3 ho3 hg3); clear ho3 hg3 hn3)
            have e := HGG.out
            subst e
            refine ⟨⟨i + 1, ⟨f', a3, y.gn + 1, cap3⟩, d, gs ++ [g], rfl, rfl, hlt, by have := HGL.out; simp; omega, HD.out, ST.out, HN.out⟩, ?_⟩
            show m - ((i : Int) + 1).toNat < m - (i : Int).toNat
            omega
      · obtain rfl : i = m := by omega
        have lt : ¬ (i : Int) < (i : Int) := by omega
        have hRe : R = some (c, gs) := by
          rw [HRR.out, List.drop_eq_nil_of_le (by have := HM.out; omega)]
          simp [wayC]
        subst hRe
        obtain ⟨hl9, z0, z1, z2, z3, z4⟩ := HW.out.var.ty
        simp only [Nat.zero_add] at z0 z1 z2 z3 z4
        go_wp2_with (((with_reducible show wpList _ _ _ (Oper.mk none (Op.store 32 _ _) _ _ _ none :: _) _ _); refine wpl_storeT (w.heap.size + 1) zT y.f HW.out.res rfl rfl ?_; intro w9 hw9; have F9 : Hid (C5 w9 (w.heap.size + 1) 0 y.f ∧ Below w.heap.size w w9 ∧ WayIs w0 w w9 y c gs) := (by rw [hw9]; exact ⟨(HW.out.res.set5 y.f).ty, below_S5 HW.out.bel (by omega) y.f, HW.out.ty, HW.out.gn, by have hr := own_grow HW.out.row (but_s5 _ (w.heap.size + 1) y.f) (fun g hg e => row3_ne (e := 32) (by decide) HW.out.row HW.out.res (by rw [hg, e])); rw [← HW.out.gn]; exact hr⟩); clear hw9))
        exact bodyPost_ret (results_c3 (g := y.f) Tryd.results15 rfl rfl rfl F9.out.1) rfl ⟨⟨y, rfl, F9.out.2.2⟩, F9.out.2.1⟩
end Go.Proofs.YtnohcppipkpgmaaDoor
namespace Go.Proofs.YtnohcppipkpgmaaDoor
open Go.RowKit Go.Shelf
set_option linter.unusedVariables false
set_option linter.unusedSimpArgs false

set_option maxRecDepth 100000 in
/-- The reference's within. -/
theorem rwithin_any (g : Int) (h0 : 0 ≤ g) (h3 : g ≤ 3) (d : Nat) (hd : 1 ≤ d ∧ d ≤ 3) (w : World) : Calls Tryd.prog 45 #[.int .i64 g, .int .u8 (d : Int)] w fun e w' => e = .returned (.bool (wi1 d g)) ∧ w' = w := by
  have hg : g = 0 ∨ g = 1 ∨ g = 2 ∨ g = 3 := by omega
  have hdd : d = 1 ∨ d = 2 ∨ d = 3 := by omega
  clear h0 h3 hd
  rcases hg with rfl | rfl | rfl | rfl <;> rcases hdd with rfl | rfl | rfl
  all_goals
    go_enter Tryd.func45, Tryd.ntmps45
    go_wp2_with fail
    go_ret
    exact ⟨rfl, rfl⟩
set_option maxRecDepth 100000 in
set_option maxHeartbeats 8000000 in
/-- The reference's Within, of places that may be. -/
theorem rWithin_any {w0 w : World} (hB0 : Below w0.heap.size w0 w) {a la : Option Addr} {n cap ln lcap : Nat} {ok : Bool} {fc : Nat → List Ch} {cl : List Ch} (hC : Cx w0 a la n cap ln lcap ok fc cl) (h40 : ∀ W, Below w0.heap.size w0 W → Calls Tryd.prog 40 #[.slice a n cap, .slice la ln lcap] W fun e w' => e = .returned (.bool ok) ∧ Below W.heap.size W w') {x y : Pt} {p q : List Int} (hP : PAt w x p) (hQ : PAt w y q) (d : Nat) (hd : 1 ≤ d ∧ d ≤ 3) {c : Ch} {gq : List Int} (hR : wyX ok fc cl y.l q = some (c, gq)) (b : Bool) (hb : b = true ↔ (x.l = y.l ∧ p <+: q) ∧ wiB d (gq.drop p.length) = true) :
    Calls Tryd.prog 23 #[.slice a n cap, .slice la ln lcap, x.v, y.v, .int .u8 (d : Int)] w fun e w' => e = .returned (.bool b) ∧ Below w.heap.size w w' := by
  have hok := wyX_ok hC hR
  have hgl : gq.length = q.length := hok.2.2.1
  have hq8 : q.length ≤ 8 := hok.2.2.2.1
  have hrng := hok.2.2.2.2.1
  have HT0 := hidD (T2.start hP hQ)
  have CW : Hid (Calls Tryd.prog 15 #[.slice a n cap, .slice la ln lcap, y.v] ((w.alloc x.o).alloc y.o) fun e w' => (∃ z : Wy, e = .returned (.tuple #[z.f.v, .slice z.ga z.gn z.gcap, .bool true]) ∧ WayIs w0 ((w.alloc x.o).alloc y.o) w' z c gq) ∧ Below ((w.alloc x.o).alloc y.o).heap.size ((w.alloc x.o).alloc y.o) w') := rWalk_any (below_aft hB0 bel2) hC h40 HT0.out.p2 _ hR.symm
  obtain ⟨fpq, hf⟩ := bool_of (x.l = y.l ∧ p <+: q)
  have CP : Hid (∀ V, T2 V w.heap.size x y p q → Calls Tryd.prog 25 #[x.v, y.v] V fun e w' => e = .returned (.bool fpq) ∧ Below V.heap.size V w') := fun V h => rPrefix_any h.p1 h.p2 fpq hf
  have C45 : Hid (∀ g, g ∈ gq → ∀ V, Calls Tryd.prog 45 #[.int .i64 g, .int .u8 (d : Int)] V fun e w' => e = .returned (.bool (wi1 d g)) ∧ w' = V) := fun g hg V => rwithin_any g (hrng g hg).1 (hrng g hg).2 d hd V
  have hpl : p.length = x.n := hP.row.len.symm
  obtain ⟨l, pa, m, pcap⟩ := x
  obtain ⟨l2, qa, m2, qcap⟩ := y
  have HPL : Hid (p.length = m) := hidD hpl
  have HRNG : Hid (∀ g ∈ gq, -9223372036854775808 ≤ g ∧ g ≤ 9223372036854775807) := fun g hg => by have := hrng g hg; omega
  have HG : Hid (gq.length = q.length ∧ q.length ≤ 8) := ⟨hgl, hq8⟩
  have HF := hidD hf
  have HBB := hidD hb
  show Calls Tryd.prog 23 #[.slice a n cap, .slice la ln lcap, plV l pa m pcap, plV l2 qa m2 qcap, .int .u8 (d : Int)] w _
  clear hok hgl hq8 hrng hC h40 hP hQ hR hb hf hpl hd hB0
  go_enter Tryd.func23, Tryd.ntmps23
  go_upto_region 2 with (first
    | (go_at_call 15; refine CW.out.mono ?_; rintro e w1 ⟨⟨z, rfl, hz⟩, hb1⟩; have HZ := hidD hz; have HB1 := hidD hb1; clear hz hb1)
    | ((with_reducible show wpList _ _ _ (Oper.mk none (Op.store 32 _ _) _ _ _ none :: _) _ _); refine wpl_storeT w1.heap.size zT z.f (At.new w1 _) rfl rfl ?_; intro w2 hw2))
  have HB2 : Hid (Below w1.heap.size w1 w2) := by rw [hw2]; exact below_S5 (belA (Below.refl _ _)) (Nat.le_refl _) _
  have HT : Hid (T2 w2 w.heap.size ⟨l, pa, m, pcap⟩ ⟨l2, qa, m2, qcap⟩ p q) := (HT0.out.bel HB1.out).bel HB2.out
  have HB : Hid (Below w.heap.size w w2) := below_aft (below_aft bel2 HB1.out) HB2.out
  have HI : Hid (IntR w2 z.ga z.gn z.gcap gq) := by
    have h1 := HZ.out.row
    have h2 := HZ.out.gn
    rw [h2] at h1 ⊢
    exact (own_int h1 HRNG.out).bel HB2.out
  have HZN : Hid (z.gn = gq.length) := HZ.out.gn
  obtain ⟨⟨zf, ga, gn, gcap⟩, rfl⟩ : ∃ z', z' = z := ⟨z, rfl⟩
  clear hw2 HB1 HB2 HT0 HZ CW
  obtain ⟨x0, x1, y0, y1⟩ := HT.out.cells
  cases fpq with
  | false =>
    have hbf : b = false := by
      cases hb : b with
      | false => rfl
      | true => have := HF.out.2 (HBB.out.1 hb).1; cases this
    subst hbf
    clear HF HBB
    go_wp2_with (go_at_call 25; refine (CP.out _ HT.out).mono ?_; rintro e w3 ⟨rfl, hb3⟩)
    go_ret
    exact ⟨rfl, below_aft HB.out hb3⟩
  | true =>
    have hpq : l = l2 ∧ p <+: q := HF.out.1 (by first | rfl | trivial)
    have hle : p.length ≤ gq.length := by have := hpq.2.length_le; have := HG.out; omega
    have hb2 : b = wiB d (gq.drop p.length) := by
      rw [Bool.eq_iff_iff, HBB.out]
      exact ⟨fun h => h.2, fun h => ⟨hpq, h⟩⟩
    have HB2 := hidD hb2
    have HLE := hidD hle
    clear HF HBB hpq hle hb2
    go_upto_region 5 with (go_at_call 25; refine (CP.out _ HT.out).mono ?_; rintro e w3 ⟨rfl, hb3⟩; have HT2 := hidD (HT.out.bel hb3); have HB3 := hidD (below_aft HB.out hb3); have HI2 := hidD (HI.out.bel hb3); clear HT HB HI x0 x1 y0 y1 hb3; have HT := HT2; have HB := HB3; have HI := HI2; clear HT2 HB3 HI2; obtain ⟨x0, x1, y0, y1⟩ := HT.out.cells)
    clear CP
    go_loopw [14] (fun v V => ∃ i : Nat, p.length ≤ i ∧ i ≤ gq.length ∧ v = .int .i64 (i : Int) ∧ b = wiB d (gq.drop i) ∧ V = w3) (fun v _ => gq.length - (intOf v).toNat)
    case atStart => exact ⟨p.length, Nat.le_refl _, HLE.out, by rw [HPL.out], HB2.out, rfl⟩
    case round =>
      clear HB2
      obtain ⟨i, hi, hi2, rfl, hbi, rfl⟩ := hrel
      have HBI := hidD hbi
      clear hbi
      have hzn : gn = gq.length := HZN.out
      by_cases hlt : i < gq.length
      · obtain ⟨g, hg⟩ : ∃ g, gq[i]? = some g := ⟨_, List.getElem?_eq_getElem hlt⟩
        obtain ⟨b1, off, ea, hgl, hc, -⟩ := HI.out.nth hg
        have ea2 : ga = some ⟨b1, off, none⟩ := ea
        subst ea2
        have C := hidD (C45.out g (List.mem_of_getElem? hg))
        have hst := HBI.out
        rw [wiB_cons d gq i g hg] at hst
        have HST := hidD hst
        have i0 : (0 : Int) ≤ (i : Int) := by omega
        have i1 : (i : Int) < (gn : Int) := by omega
        have i2 : (i : Int) ≤ 8 := by have := HG.out; omega
        have HLT := hidD hlt
        have HII := hidD hi
        clear hg ea hst hi hi2 hlt hzn
        obtain ⟨bt, hbt⟩ : ∃ bt, bt = wi1 d g := ⟨_, rfl⟩
        rw [← hbt] at C HST
        clear hbt
        cases bt with
        | true =>
          go_wp2_with (go_at_call 45; refine (C.out _).mono ?_; rintro e w4 ⟨rfl, hw4⟩; subst hw4)
          refine ⟨⟨i + 1, by have := HII.out; omega, HLT.out, rfl, ?_, trivial⟩, ?_⟩
          · have := HST.out
            simpa using this
          · show gq.length - ((i : Int) + 1).toNat < gq.length - (i : Int).toNat
            have := HLT.out
            omega
        | false =>
          have hbf : b = false := by have := HST.out; simpa using this
          subst hbf
          go_wp2_with (go_at_call 45; refine (C.out _).mono ?_; rintro e w4 ⟨rfl, hw4⟩; subst hw4)
          go_ret
          exact ⟨rfl, HB.out⟩
      · have hbt : b = true := by
          have := HBI.out
          rw [List.drop_eq_nil_of_le (by omega)] at this
          exact this
        subst hbt
        have z1 : ¬ (i : Int) < (gn : Int) := by omega
        go_wp2_with fail
        go_ret
        exact ⟨rfl, HB.out⟩
theorem row62_ne {V : World} {B n cap b1 : Nat} {a : Option Addr} {xs : List Value} {x : Pt} (h : V.ownsRow B 62 1 (.slice a n cap) n xs) (hA : At V b1 x.o) : some b1 ≠ (Value.slice a n cap).ownBlock := by
  rcases h.2 with ⟨e0, h0⟩ | ⟨g, cap', cur, e0, h1, hg, h2, h3, h4, ht⟩
  · injection e0 with e1 e2 e3
    subst e1
    simp [Value.ownBlock]
  · injection e0 with e1 e2 e3
    subst e1
    intro e4
    have e2 : b1 = g := by simpa [Value.ownBlock] using e4
    subst e2
    unfold At at hA
    rw [hg] at hA
    simp at hA
/-- A place in memory of its own, with a mark behind it. -/
def Lnt (V : World) (B g cap : Nat) (p : List Int) : Prop := V.ownsRow B 62 1 (.slice (some ⟨g, 0, none⟩) (p.length + 1) cap) (p.length + 1) ((p ++ [77]).map (.int .i64))
theorem Lnt.bel {V V' : World} {B g cap : Nat} {p : List Int} (h : Lnt V B g cap p) (hb : Below V.heap.size V V') : Lnt V' B g cap p := own_bel h hb
theorem Lnt.cap {V : World} {B g cap : Nat} {p : List Int} (h : Lnt V B g cap p) : p.length + 1 ≤ cap ∧ cap ≤ maxLen := by
  rcases h.2 with ⟨e, -⟩ | ⟨g', cap', cur, e, h1, hg, h2, h3, -⟩
  · cases e
  · cases e
    exact ⟨h2, h3⟩
theorem Lnt.pat {V : World} {B g cap : Nat} {p : List Int} {l : Int} (h : Lnt V B g cap p) (hl : -9223372036854775808 ≤ l ∧ l ≤ 9223372036854775807) (hr : ∀ x ∈ p, -9223372036854775808 ≤ x ∧ x ≤ 9223372036854775807) : PAt V ⟨l, some ⟨g, 0, none⟩, p.length, cap⟩ p := by
  have hc := h.cap
  refine ⟨⟨rfl, by show p.length ≤ cap; omega, hc.2, fun hne => ⟨g, 0, rfl, ?_, fun i x hx => ?_⟩, hr, fun e => by cases e⟩, hl.1, hl.2⟩
  · exact (own_cell h (j := p.length) (u := .int .i64 77) (by simp)).2
  · rw [Nat.zero_add]
    refine (own_cell h (j := i) (u := .int .i64 x) ?_).1
    rw [List.getElem?_map, List.getElem?_append_left (List.getElem?_eq_some_iff.1 hx).1, hx]
    rfl
theorem Lnt.mark {V : World} {B g cap : Nat} {p : List Int} (h : Lnt V B g cap p) : V.cell? ⟨g, p.length, none⟩ = some (.int .i64 77) ∧ g < V.heap.size := own_cell h (j := p.length) (u := .int .i64 77) (by simp)
theorem results_p1 {fn : Func} {i : Nat} (h : fn.results = #[.cell i 26]) {tmps : Array Value} {W : World} {b4 : Nat} {g : Pt} (ht : tmps.getD i undef = .pointer (some ⟨b4, 0, none⟩)) (hC : At W b4 g.o) : (results fn tmps).run Tryd.prog W = .ok g.v W := by
  obtain ⟨e0, e1⟩ := hC.pl
  have ht2 : tmps[i]?.getD undef = .pointer (some ⟨b4, 0, none⟩) := by rw [← ht]; simp
  simp only [results, h]
  simp [go_sem, ht2, e0, e1]
/-- A place is laid into a variable: at an operation of a region. -/
theorem wp_storeP26 {w : World} {o : Oper} {a : Act} {K : Act → World → Prop} {Q : Exit → Act → World → Prop} {x y : Nat} (b : Nat) (f0 f : Pt) (ho : o.op = .store 26 (.tmp x) (.tmp y)) (hd : o.dst = none) (hA : At w b f0.o)
    (hx : a.eval (.tmp x) = .pointer (some ⟨b, 0, none⟩)) (hy : a.eval (.tmp y) = f.v) (h : K a (S2 w b f)) : o.wp Tryd.prog a w K Q := by
  have g0 := hA.plF 0
  have g1 := hA.plF 1
  obtain ⟨q0, q1⟩ := hA.pl
  have hx2 : a.tmps[x]?.getD undef = .pointer (some ⟨b, 0, none⟩) := by rw [← hx]; simp [Act.eval]
  have hy2 : a.tmps[y]?.getD undef = f.v := by rw [← hy]; simp [Act.eval]
  unfold Oper.wp
  simp [execOp, ho, hd, hx2, hy2, go_sem, q0, q1, g0, g1]
  exact h
theorem Tryd.results11 : Tryd.f11.results = #[.cell 2 26] := rfl
set_option maxRecDepth 100000 in
set_option maxHeartbeats 4000000 in
/-- kept. -/
theorem kept_any {w : World} {B g cap' : Nat} {x : Pt} {p : List Int} (hP : PAt w x p) (hn : p.length ≤ 60) (hL : Lnt w B g cap' p) :
    Calls Tryd.prog 19 #[plV x.l (some ⟨g, 0, none⟩) p.length cap', x.v] w fun e w' => e = .returned (.bool true) ∧ Below w.heap.size w w' := by
  have hpa := hL.pat ⟨hP.l0, hP.l1⟩ hP.row.rng
  have HT0 := hidD (T2.start hpa hP)
  have hm : x.n = p.length := hP.row.len
  have hcap := hL.cap.1
  obtain ⟨l, pa, m, pcap⟩ := x
  have hm2 : m = p.length := hm
  have HLN : Hid (∀ V, Below w.heap.size w V → V.cell? ⟨g, m, none⟩ = some (.int .i64 77) ∧ g < V.heap.size) := fun V hV => by rw [hm2]; exact (hL.bel hV).mark
  have CS : Hid (∀ V, T2 V w.heap.size ⟨l, some ⟨g, 0, none⟩, p.length, cap'⟩ ⟨l, pa, m, pcap⟩ p p → Calls Tryd.prog 18 #[plV l (some ⟨g, 0, none⟩) p.length cap', plV l pa m pcap] V fun e w' => e = .returned (.bool true) ∧ Below V.heap.size V w') := fun V h => rSame_any h.p1 h.p2 true ⟨fun _ => ⟨rfl, rfl⟩, fun _ => rfl⟩
  show Calls Tryd.prog 19 #[plV l (some ⟨g, 0, none⟩) p.length cap', plV l pa m pcap] w _
  rw [← hm2] at HT0 CS hcap hn ⊢
  have k0 : (0 : Int) ≤ (m : Int) := by omega
  have k1 : (m : Int) + 1 ≤ (cap' : Int) := by omega
  have k2 : (m : Int) ≤ 60 := by omega
  have HB2 : Hid (Below w.heap.size w ((w.alloc (plO l (some ⟨g, 0, none⟩) m cap')).alloc (plO l pa m pcap))) := bel2
  clear hP hL hpa hm hm2 hn hcap
  go_enter Tryd.func19, Tryd.ntmps19
  go_upto_region 1 with fail
  obtain ⟨V0, hV0⟩ : ∃ V0, V0 = (w.alloc (plO l (some ⟨g, 0, none⟩) m cap')).alloc (plO l pa m pcap) := ⟨_, rfl⟩
  rw [← hV0] at HT0 HB2
  rw [show (w.alloc (Obj.cells #[Value.int IntKind.i64 l, Value.slice (some ⟨g, 0, none⟩) m cap'] 26)).alloc (Obj.cells #[Value.int IntKind.i64 l, Value.slice pa m pcap] 26) = V0 from hV0.symm]
  clear hV0
  refine beginH (S := fun W => Below V0.heap.size V0 W) (fun _ _ _ _ _ h => h) (by kernel_rfl) (belN (Below.refl _ _) 1) (fun hq hHeld => ?_)
  refine takeH (i := 0) (d := 5) (plV l (some ⟨g, 0, none⟩) m cap') hq rfl rfl (by kernel_rfl) (by kernel_rfl) (by kernel_rfl) (by rfl) (fun W hSw => by (obtain ⟨z0, z1, z2, z3⟩ := (HT0.out.bel hSw).cells; go_simp; try rfl)) hHeld ?_
  try simp only [Act.put, List.setIfInBounds_toArray, List.set_cons_zero, List.set_cons_succ]
  refine takeH (i := 1) (d := 6) (plV l pa m pcap) hq rfl rfl (by kernel_rfl) (by kernel_rfl) (by kernel_rfl) (by rfl) (fun W hSw => by (obtain ⟨z0, z1, z2, z3⟩ := (HT0.out.bel hSw).cells; go_simp; try rfl)) hHeld ?_
  try simp only [Act.put, List.setIfInBounds_toArray, List.set_cons_zero, List.set_cons_succ]
  refine wpAnyH_ready (rs := [2]) (by kernel_rfl) (by simp) ?_
  refine AllReadyH.cons rfl (fun K hK => ?_) AllReadyH.nil
  go_simp
  refine (CS.out _ (HT0.out.bel (belN (Below.refl _ _) 1))).mono ?_
  rintro e v1 ⟨rfl, hb1⟩
  have hS1 : Below V0.heap.size V0 v1 := below_aft (belN (Below.refl _ _) 1) hb1
  go_wp2_with fail
  refine hK.out _ _ hS1 (fun hHeld => ?_)
  clear hK K
  try simp only [Act.put, List.setIfInBounds_toArray, List.set_cons_zero, List.set_cons_succ]
  have HS1 := hidD hS1
  clear hb1 hS1
  refine takeH (i := 3) (d := 8) (.bool true) hq rfl rfl (by kernel_rfl) (by kernel_rfl) (by kernel_rfl) (by rfl) (fun W hSw => by (go_simp; try first | rfl | (rw [IntKind.wrap_i64]; omega) | (intro hh; exfalso; omega))) hHeld ?_
  try simp only [Act.put, List.setIfInBounds_toArray, List.set_cons_zero, List.set_cons_succ]
  refine takeH (i := 4) (d := 9) _ hq rfl rfl (by kernel_rfl) (by kernel_rfl) (by kernel_rfl) (by rfl) (fun W hSw => by (go_simp; try first | rfl | (rw [IntKind.wrap_i64]; omega) | (intro hh; exfalso; omega))) hHeld ?_
  try simp only [Act.put, List.setIfInBounds_toArray, List.set_cons_zero, List.set_cons_succ]
  refine takeH (i := 5) (d := 10) (.slice (some ⟨g, 0, none⟩) m cap') hq rfl rfl (by kernel_rfl) (by kernel_rfl) (by kernel_rfl) (by rfl) (fun W hSw => by (obtain ⟨z0, z1, z2, z3⟩ := (HT0.out.bel hSw).cells; go_simp; try rfl)) hHeld ?_
  try simp only [Act.put, List.setIfInBounds_toArray, List.set_cons_zero, List.set_cons_succ]
  refine takeH (i := 6) (d := 11) _ hq rfl rfl (by kernel_rfl) (by kernel_rfl) (by kernel_rfl) (by rfl) (fun W hSw => by (go_simp; try first | rfl | (rw [IntKind.wrap_i64]; omega) | (intro hh; exfalso; omega))) hHeld ?_
  try simp only [Act.put, List.setIfInBounds_toArray, List.set_cons_zero, List.set_cons_succ]
  refine takeH (i := 7) (d := 12) (.slice pa m pcap) hq rfl rfl (by kernel_rfl) (by kernel_rfl) (by kernel_rfl) (by rfl) (fun W hSw => by (obtain ⟨z0, z1, z2, z3⟩ := (HT0.out.bel hSw).cells; go_simp; try rfl)) hHeld ?_
  try simp only [Act.put, List.setIfInBounds_toArray, List.set_cons_zero, List.set_cons_succ]
  refine takeH (i := 8) (d := 13) (.int .i64 (m : Int)) hq rfl rfl (by kernel_rfl) (by kernel_rfl) (by kernel_rfl) (by rfl) (fun W hSw => by (go_simp; try first | rfl | (rw [IntKind.wrap_i64]; omega) | (intro hh; exfalso; omega))) hHeld ?_
  try simp only [Act.put, List.setIfInBounds_toArray, List.set_cons_zero, List.set_cons_succ]
  refine takeH (i := 9) (d := 14) (.int .i64 ((m : Int) + 1)) hq rfl rfl (by kernel_rfl) (by kernel_rfl) (by kernel_rfl) (by rfl) (fun W hSw => by (go_simp; try first | rfl | (rw [IntKind.wrap_i64]; omega) | (intro hh; exfalso; omega))) hHeld ?_
  try simp only [Act.put, List.setIfInBounds_toArray, List.set_cons_zero, List.set_cons_succ]
  refine takeH (i := 10) (d := 15) (.slice (some ⟨g, 0, none⟩) (m + 1) cap') hq rfl rfl (by kernel_rfl) (by kernel_rfl) (by kernel_rfl) (by rfl) (fun W hSw => by (go_simp; try first | rfl | (rw [IntKind.wrap_i64]; omega) | (intro hh; exfalso; omega))) hHeld ?_
  try simp only [Act.put, List.setIfInBounds_toArray, List.set_cons_zero, List.set_cons_succ]
  refine takeH (i := 11) (d := 16) _ hq rfl rfl (by kernel_rfl) (by kernel_rfl) (by kernel_rfl) (by rfl) (fun W hSw => by (go_simp; try first | rfl | (rw [IntKind.wrap_i64]; omega) | (intro hh; exfalso; omega))) hHeld ?_
  try simp only [Act.put, List.setIfInBounds_toArray, List.set_cons_zero, List.set_cons_succ]
  refine takeH (i := 12) (d := 17) (.slice pa m pcap) hq rfl rfl (by kernel_rfl) (by kernel_rfl) (by kernel_rfl) (by rfl) (fun W hSw => by (obtain ⟨z0, z1, z2, z3⟩ := (HT0.out.bel hSw).cells; go_simp; try rfl)) hHeld ?_
  try simp only [Act.put, List.setIfInBounds_toArray, List.set_cons_zero, List.set_cons_succ]
  refine takeH (i := 13) (d := 18) (.int .i64 (m : Int)) hq rfl rfl (by kernel_rfl) (by kernel_rfl) (by kernel_rfl) (by rfl) (fun W hSw => by (go_simp; try first | rfl | (rw [IntKind.wrap_i64]; omega) | (intro hh; exfalso; omega))) hHeld ?_
  try simp only [Act.put, List.setIfInBounds_toArray, List.set_cons_zero, List.set_cons_succ]
  refine takeH (i := 14) (d := 19) (.pointer (some ⟨g, m, none⟩)) hq rfl rfl (by kernel_rfl) (by kernel_rfl) (by kernel_rfl) (by rfl) (fun W hSw => by (go_simp; try first | rfl | (rw [IntKind.wrap_i64]; omega) | (intro hh; exfalso; omega))) hHeld ?_
  try simp only [Act.put, List.setIfInBounds_toArray, List.set_cons_zero, List.set_cons_succ]
  refine takeH (i := 15) (d := 20) (.int .i64 77) hq rfl rfl (by kernel_rfl) (by kernel_rfl) (by kernel_rfl) (by rfl) (fun W hSw => by (obtain ⟨z0, z1⟩ := HLN.out W (below_aft HB2.out hSw); go_simp; try rfl)) hHeld ?_
  try simp only [Act.put, List.setIfInBounds_toArray, List.set_cons_zero, List.set_cons_succ]
  refine takeH (i := 16) (d := 21) (.bool true) hq rfl rfl (by kernel_rfl) (by kernel_rfl) (by kernel_rfl) (by rfl) (fun W hSw => by (go_simp; try first | rfl | (rw [IntKind.wrap_i64]; omega) | (intro hh; exfalso; omega))) hHeld ?_
  try simp only [Act.put, List.setIfInBounds_toArray, List.set_cons_zero, List.set_cons_succ]
  refine takeH (i := 17) (d := 22) (.bool true) hq rfl rfl (by kernel_rfl) (by kernel_rfl) (by kernel_rfl) (by rfl) (fun W hSw => by (go_simp; try first | rfl | (rw [IntKind.wrap_i64]; omega) | (intro hh; exfalso; omega))) hHeld ?_
  try simp only [Act.put, List.setIfInBounds_toArray, List.set_cons_zero, List.set_cons_succ]
  refine takeH (i := 18) (d := 4) (.bool true) hq rfl rfl (by kernel_rfl) (by kernel_rfl) (by kernel_rfl) (by rfl) (fun W hSw => by (go_simp; try first | rfl | (rw [IntKind.wrap_i64]; omega) | (intro hh; exfalso; omega))) hHeld ?_
  try simp only [Act.put, List.setIfInBounds_toArray, List.set_cons_zero, List.set_cons_succ]
  refine wpAnyH_done (by kernel_rfl) ?_ _
  go_wp2_with fail
  go_ret
  exact ⟨rfl, below_aft HB2.out HS1.out⟩
set_option maxRecDepth 100000 in
set_option maxHeartbeats 4000000 in
/-- lent. -/
theorem lent_any {w : World} {x : Pt} {p : List Int} (hP : PAt w x p) (hn : p.length ≤ 60) :
    Calls Tryd.prog 11 #[x.v] w fun e w' => ∃ g cap', e = .returned (plV x.l (some ⟨g, 0, none⟩) p.length cap') ∧ Lnt w' w.heap.size g cap' p ∧ Below w.heap.size w w' := by
  have hm : x.n = p.length := hP.row.len
  have HA0 : Hid (At ((w.alloc x.o).alloc (plO 0 none 0 0)) w.heap.size x.o) := (At.new w x.o).alloc _
  have HR0 : Hid (At ((w.alloc x.o).alloc (plO 0 none 0 0)) (w.heap.size + 1) (plO 0 none 0 0)) := at_snd _ _ _
  have HB0 : Hid (Below w.heap.size w ((w.alloc x.o).alloc (plO 0 none 0 0))) := bel2
  have HP := hidD (hP.bel bel2 : PAt ((w.alloc x.o).alloc (plO 0 none 0 0)) x p)
  obtain ⟨l, pa, m, pcap⟩ := x
  have hm2 : m = p.length := hm
  obtain ⟨i62, hi62, hz62, hs62, hb62⟩ := info_parts Tryd.info62
  show Calls Tryd.prog 11 #[plV l pa m pcap] w _
  rw [← hm2] at hn
  have HM := hidD hm2
  have HN := hidD hn
  have k0 : (0 : Int) ≤ (m : Int) := by omega
  have k2 : (m : Int) ≤ 60 := by omega
  -- behind the first region
  have FIN : Hid (∀ (V : World) (g cap' : Nat), At V w.heap.size (plO l pa m pcap) → At V (w.heap.size + 1) (plO 0 none 0 0) → Below w.heap.size w V → Lnt V w.heap.size g cap' p → ∀ w9, w9 = S2 V (w.heap.size + 1) ⟨l, some ⟨g, 0, none⟩, m, cap'⟩ → At w9 (w.heap.size + 1) (plO l (some ⟨g, 0, none⟩) m cap') ∧ Lnt w9 w.heap.size g cap' p ∧ Below w.heap.size w w9) := fun V g cap' h1 h2 h3 h4 w9 hw => by
    rw [hw]
    refine ⟨h2.set2 (x := ⟨0, none, 0, 0⟩) ⟨l, some ⟨g, 0, none⟩, m, cap'⟩, ?_, below_s2 h3 (by omega) _⟩
    refine own_grow h4 (but_s2 V _ _) (fun k hk e => ?_)
    have e2 : w.heap.size + 1 = k := (Option.some.inj e).symm
    have hkg : g = k := by simpa [Value.ownBlock] using hk
    rcases h4.2 with ⟨e0, -⟩ | ⟨g', cap'', cur, e0, -, hg, -⟩
    · cases e0
    · cases e0
      have h5 := h2
      unfold At at h5
      rw [e2, ← hkg, hg] at h5
      simp at h5
  clear hP hm hm2 hn
  have REG : ∀ (V : World) (g cap' : Nat), At V w.heap.size (plO l pa m pcap) → At V (w.heap.size + 1) (plO 0 none 0 0) → Below w.heap.size w V → Lnt V w.heap.size g cap' p → True := fun _ _ _ _ _ _ _ => trivial
  clear REG
  cases pa with
  | none =>
    have hc0 : pcap = 0 := HP.out.row.nil rfl
    have hm0 : m = 0 := by have : m ≤ pcap := HP.out.row.le; omega
    have hp0 : p = [] := List.length_eq_zero_iff.1 (by have := HM.out; omega)
    subst hm0 hc0
    clear HP
    go_enter Tryd.func11, Tryd.ntmps11
    go_upto_region 2 with (first
      | (at_builtin; refine wpList_append_own_none rfl (.const (.slice none 0 0)) (.tmp 5) 24 rfl w.heap.size 62 i62 1 Tryd.underlying24 hi62 _ 0 [] rfl (World.ownsRow_nil _ _ _ _) rfl ?_)
      | (at_builtin; refine wpList_append_own _ rfl (.tmp 6) (.tmp 7) 24 rfl w.heap.size 62 i62 (.int .i64 0) 1 8 Tryd.underlying24 hi62 hz62 hs62 hb62 rfl (by omega) (.slice none 0 0) 0 [] rfl (World.ownsRow_nil _ _ _ _) ⟨w.heap.size + 1 + 1, 0, none⟩ 1 1 [.int .i64 77] rfl rfl (by have := new1 ((w.alloc (plO l none 0 0)).alloc (plO 0 none 0 0)) (.int .i64 77) 62; simpa only [World.size_alloc] using this) (by intro u hu; simp at hu; subst hu; rfl) (by unfold maxLen; omega) (by omega) (by simp; omega) ?_; intro v3 w3 ho3 hg3 hn3; obtain ⟨a3, cap3, rfl⟩ := own_sl ho3; have HO3 := hidD ho3; have HA : Hid (At w3 w.heap.size (plO l none 0 0)) := (HA0.out.alloc _).grown hg3 (fun e => by cases e); have HR : Hid (At w3 (w.heap.size + 1) (plO 0 none 0 0)) := (HR0.out.alloc _).grown hg3 (fun e => by cases e); have HB : Hid (Below w.heap.size w w3) := grow_bel (belA HB0.out) hg3 (by simp; omega) (fun k e => by cases e); clear ho3 hg3 hn3))
    have hne : ∃ g, a3 = some ⟨g, 0, none⟩ := by
      rcases HO3.out.2 with ⟨e0, h0⟩ | ⟨g, cap'', cur, e0, -⟩
      · omega
      · injection e0 with e1
        exact ⟨g, e1⟩
    obtain ⟨g, rfl⟩ := hne
    obtain ⟨cap', rfl⟩ : ∃ cap', cap' = cap3 := ⟨_, rfl⟩
    have HL : Hid (Lnt w3 w.heap.size g cap' p) := by rw [hp0]; exact HO3.out
    clear HO3 HA0 HR0 HB0 hp0
    obtain ⟨c0, c1⟩ := HA.out.pl
    obtain ⟨d0, d1⟩ := HR.out.pl
    have f0 := HR.out.plF (x := ⟨0, none, 0, 0⟩) 0
    have f1 := HR.out.plF (x := ⟨0, none, 0, 0⟩) 1
    have hcap := HL.out.cap.1
    rw [← HM.out] at hcap
    have k3 : (0 : Int) ≤ (cap' : Int) := by omega
    have k4 : 0 ≤ cap' := by omega
    clear hcap
    refine beginH (S := fun W => W.cell? ⟨w.heap.size, 0, none⟩ = some (.int .i64 l) ∧ W.cell? ⟨w.heap.size, 1, none⟩ = some (.slice none 0 0)) (fun _ _ _ _ _ h => h) (by kernel_rfl) ⟨c0, c1⟩ (fun hq hHeld => ?_)
    refine takeH (i := 0) (d := 9) _ hq rfl rfl (by kernel_rfl) (by kernel_rfl) (by kernel_rfl) (by rfl) (fun W hSw => by (go_simp; try first | rfl | (rw [IntKind.wrap_i64]; omega) | (intro hh; exfalso; omega))) hHeld ?_
    try simp only [Act.put, List.setIfInBounds_toArray, List.set_cons_zero, List.set_cons_succ]
    refine takeH (i := 1) (d := 10) (.int .i64 l) hq rfl rfl (by kernel_rfl) (by kernel_rfl) (by kernel_rfl) (by rfl) (fun W hSw => by (obtain ⟨z0, z1⟩ := hSw; go_simp; try rfl)) hHeld ?_
    try simp only [Act.put, List.setIfInBounds_toArray, List.set_cons_zero, List.set_cons_succ]
    refine takeH (i := 2) (d := 11) _ hq rfl rfl (by kernel_rfl) (by kernel_rfl) (by kernel_rfl) (by rfl) (fun W hSw => by (go_simp; try first | rfl | (rw [IntKind.wrap_i64]; omega) | (intro hh; exfalso; omega))) hHeld ?_
    try simp only [Act.put, List.setIfInBounds_toArray, List.set_cons_zero, List.set_cons_succ]
    refine takeH (i := 3) (d := 12) _ hq rfl rfl (by kernel_rfl) (by kernel_rfl) (by kernel_rfl) (by rfl) (fun W hSw => by (go_simp; try first | rfl | (rw [IntKind.wrap_i64]; omega) | (intro hh; exfalso; omega))) hHeld ?_
    try simp only [Act.put, List.setIfInBounds_toArray, List.set_cons_zero, List.set_cons_succ]
    refine takeH (i := 4) (d := 13) (.slice none 0 0) hq rfl rfl (by kernel_rfl) (by kernel_rfl) (by kernel_rfl) (by rfl) (fun W hSw => by (obtain ⟨z0, z1⟩ := hSw; go_simp; try rfl)) hHeld ?_
    try simp only [Act.put, List.setIfInBounds_toArray, List.set_cons_zero, List.set_cons_succ]
    refine takeH (i := 5) (d := 14) (.int .i64 (0 : Int)) hq rfl rfl (by kernel_rfl) (by kernel_rfl) (by kernel_rfl) (by rfl) (fun W hSw => by (go_simp; try first | rfl | (rw [IntKind.wrap_i64]; omega) | (intro hh; exfalso; omega))) hHeld ?_
    try simp only [Act.put, List.setIfInBounds_toArray, List.set_cons_zero, List.set_cons_succ]
    refine takeH (i := 6) (d := 15) (.slice (some ⟨g, 0, none⟩) 0 cap') hq rfl rfl (by kernel_rfl) (by kernel_rfl) (by kernel_rfl) (by rfl) (fun W hSw => by (go_simp; try first | rfl | (rw [IntKind.wrap_i64]; omega) | (intro hh; exfalso; omega))) hHeld ?_
    try simp only [Act.put, List.setIfInBounds_toArray, List.set_cons_zero, List.set_cons_succ]
    refine takeH (i := 7) (d := 16) (plV l (some ⟨g, 0, none⟩) 0 cap') hq rfl rfl (by kernel_rfl) (by kernel_rfl) (by kernel_rfl) (by rfl) (fun W hSw => by (go_simp; try first | rfl | (rw [IntKind.wrap_i64]; omega) | (intro hh; exfalso; omega))) hHeld ?_
    try simp only [Act.put, List.setIfInBounds_toArray, List.set_cons_zero, List.set_cons_succ]
    refine wpAnyH_ready (rs := [8]) (by kernel_rfl) (by simp) ?_
    refine AllReadyH.cons rfl (fun K hK => ?_) AllReadyH.nil
    refine wp_storeP26 (w.heap.size + 1) ⟨0, none, 0, 0⟩ ⟨l, some ⟨g, 0, none⟩, 0, cap'⟩ rfl rfl (HR.out.drew) rfl rfl ?_
    have F9 := hidD (FIN.out _ g cap' HA.out.drew HR.out.drew (belN HB.out 1) (HL.out.bel (belN (Below.refl _ _) 1)) _ rfl)
    refine hK.out _ _ ⟨(HA.out.drew.S2 (by omega) _).pl.1, (HA.out.drew.S2 (by omega) _).pl.2⟩ (fun hHeld => ?_)
    clear hK K
    try simp only [Act.put, List.setIfInBounds_toArray, List.set_cons_zero, List.set_cons_succ]
    refine wpAnyH_done (by kernel_rfl) ?_ _
    go_wp2_with fail
    refine bodyPost_ret (results_p1 (g := ⟨l, some ⟨g, 0, none⟩, 0, cap'⟩) Tryd.results11 rfl F9.out.1) rfl ⟨g, cap', ?_, F9.out.2.1, F9.out.2.2⟩
    rw [← HM.out]
  | some ad =>
    have L1 : Hid ((p.map (Value.int .i64)).length = m * 1) := (by rw [List.length_map, HM.out]; omega : (p.map (Value.int .i64)).length = m * 1)
    have C1 : Hid (∀ j u, (p.map (Value.int .i64))[j]? = some u → ((w.alloc (plO l (some ad) m pcap)).alloc (plO 0 none 0 0)).cell? (ad.add j) = some u) := fun j u hu => by
      rw [List.getElem?_map, Option.map_eq_some_iff] at hu
      obtain ⟨y, hy, rfl⟩ := hu
      obtain ⟨g', off', e', hg', hc', -⟩ := HP.out.row.nth hy
      have e2 : some ad = some ⟨g', off', none⟩ := e'
      cases e2
      rw [Addr.add_lit]
      exact hc'
    have O1 : Hid (∀ u ∈ p.map (Value.int .i64), u.oneCell' = true) := fun u hu => by
      obtain ⟨y, -, rfl⟩ := List.mem_map.1 hu
      rfl
    clear HP
    go_enter Tryd.func11, Tryd.ntmps11
    have st1 : Stg 1 := .mk 1
    go_upto_region 2 with (first
      | (have _s := st1; clear st1 _s; at_builtin; refine wpList_append_own _ rfl (.const (.slice none 0 0)) (.tmp 5) 24 rfl w.heap.size 62 i62 (.int .i64 0) 1 8 Tryd.underlying24 hi62 hz62 hs62 hb62 rfl (by omega) (.slice none 0 0) 0 [] rfl (World.ownsRow_nil _ _ _ _) ad m pcap (p.map (.int .i64)) rfl L1.out C1.out O1.out (by unfold maxLen; have := HN.out; omega) (by have := HN.out; omega) (by simp; omega) ?_; intro v2 w2 ho2 hg2 hn2; simp only [Nat.zero_add, List.nil_append] at ho2; obtain ⟨a2, cap2, rfl⟩ := own_sl ho2; have HO2 := hidD ho2; have HA2 : Hid (At w2 w.heap.size (plO l (some ad) m pcap)) := HA0.out.grown hg2 (fun e => by cases e); have HR2 : Hid (At w2 (w.heap.size + 1) (plO 0 none 0 0)) := HR0.out.grown hg2 (fun e => by cases e); have HB2 : Hid (Below w.heap.size w w2) := grow_bel HB0.out hg2 (by simp; omega) (fun k e => by cases e); have st2 : Stg 2 := .mk 2; clear ho2 hg2 hn2)
      | (have _s := st2; clear st2 _s; at_builtin; refine wpList_append_own _ rfl (.tmp 6) (.tmp 7) 24 rfl w.heap.size 62 i62 (.int .i64 0) 1 8 Tryd.underlying24 hi62 hz62 hs62 hb62 rfl (by omega) (.slice a2 m cap2) m (p.map (.int .i64)) rfl (HO2.out.alloc _) ⟨w2.heap.size, 0, none⟩ 1 1 [.int .i64 77] rfl rfl (new1 _ _ _) (by intro u hu; simp at hu; subst hu; rfl) (by unfold maxLen; have := HN.out; omega) (by have := HN.out; omega) (by have := HB2.out.size; simp; omega) ?_; intro v3 w3 ho3 hg3 hn3; obtain ⟨a3, cap3, rfl⟩ := own_sl ho3; have HO3 := hidD ho3; have HA : Hid (At w3 w.heap.size (plO l (some ad) m pcap)) := (HA2.out.alloc _).grown hg3 (row62_ne HO2.out (x := ⟨l, some ad, m, pcap⟩) HA2.out); have HR : Hid (At w3 (w.heap.size + 1) (plO 0 none 0 0)) := (HR2.out.alloc _).grown hg3 (row62_ne HO2.out (x := ⟨0, none, 0, 0⟩) HR2.out); have HB : Hid (Below w.heap.size w w3) := grow_bel (belA HB2.out) hg3 (by have := HB2.out.size; simp; omega) (fun k e => own_lo HO2.out k (by rw [← e])); clear ho3 hg3 hn3))
    have hne : ∃ g, a3 = some ⟨g, 0, none⟩ := by
      rcases HO3.out.2 with ⟨e0, h0⟩ | ⟨g, cap'', cur, e0, -⟩
      · omega
      · injection e0 with e1
        exact ⟨g, e1⟩
    obtain ⟨g, rfl⟩ := hne
    obtain ⟨cap', rfl⟩ : ∃ cap', cap' = cap3 := ⟨_, rfl⟩
    have HL : Hid (Lnt w3 w.heap.size g cap' p) := by
      have h := HO3.out
      unfold Lnt
      rw [← HM.out, List.map_append]
      exact h
    clear HO3 HA0 HR0 HB0 HO2 HA2 HR2 HB2 L1 C1 O1
    obtain ⟨c0, c1⟩ := HA.out.pl
    obtain ⟨d0, d1⟩ := HR.out.pl
    have f0 := HR.out.plF (x := ⟨0, none, 0, 0⟩) 0
    have f1 := HR.out.plF (x := ⟨0, none, 0, 0⟩) 1
    have hcap := HL.out.cap.1
    rw [← HM.out] at hcap
    have k3 : (m : Int) ≤ (cap' : Int) := by omega
    have k4 : m ≤ cap' := by omega
    clear hcap
    refine beginH (S := fun W => W.cell? ⟨w.heap.size, 0, none⟩ = some (.int .i64 l) ∧ W.cell? ⟨w.heap.size, 1, none⟩ = some (.slice (some ad) m pcap)) (fun _ _ _ _ _ h => h) (by kernel_rfl) ⟨c0, c1⟩ (fun hq hHeld => ?_)
    refine takeH (i := 0) (d := 9) _ hq rfl rfl (by kernel_rfl) (by kernel_rfl) (by kernel_rfl) (by rfl) (fun W hSw => by (go_simp; try first | rfl | (rw [IntKind.wrap_i64]; omega) | (intro hh; exfalso; omega))) hHeld ?_
    try simp only [Act.put, List.setIfInBounds_toArray, List.set_cons_zero, List.set_cons_succ]
    refine takeH (i := 1) (d := 10) (.int .i64 l) hq rfl rfl (by kernel_rfl) (by kernel_rfl) (by kernel_rfl) (by rfl) (fun W hSw => by (obtain ⟨z0, z1⟩ := hSw; go_simp; try rfl)) hHeld ?_
    try simp only [Act.put, List.setIfInBounds_toArray, List.set_cons_zero, List.set_cons_succ]
    refine takeH (i := 2) (d := 11) _ hq rfl rfl (by kernel_rfl) (by kernel_rfl) (by kernel_rfl) (by rfl) (fun W hSw => by (go_simp; try first | rfl | (rw [IntKind.wrap_i64]; omega) | (intro hh; exfalso; omega))) hHeld ?_
    try simp only [Act.put, List.setIfInBounds_toArray, List.set_cons_zero, List.set_cons_succ]
    refine takeH (i := 3) (d := 12) _ hq rfl rfl (by kernel_rfl) (by kernel_rfl) (by kernel_rfl) (by rfl) (fun W hSw => by (go_simp; try first | rfl | (rw [IntKind.wrap_i64]; omega) | (intro hh; exfalso; omega))) hHeld ?_
    try simp only [Act.put, List.setIfInBounds_toArray, List.set_cons_zero, List.set_cons_succ]
    refine takeH (i := 4) (d := 13) (.slice (some ad) m pcap) hq rfl rfl (by kernel_rfl) (by kernel_rfl) (by kernel_rfl) (by rfl) (fun W hSw => by (obtain ⟨z0, z1⟩ := hSw; go_simp; try rfl)) hHeld ?_
    try simp only [Act.put, List.setIfInBounds_toArray, List.set_cons_zero, List.set_cons_succ]
    refine takeH (i := 5) (d := 14) (.int .i64 (m : Int)) hq rfl rfl (by kernel_rfl) (by kernel_rfl) (by kernel_rfl) (by rfl) (fun W hSw => by (go_simp; try first | rfl | (rw [IntKind.wrap_i64]; omega) | (intro hh; exfalso; omega))) hHeld ?_
    try simp only [Act.put, List.setIfInBounds_toArray, List.set_cons_zero, List.set_cons_succ]
    refine takeH (i := 6) (d := 15) (.slice (some ⟨g, 0, none⟩) m cap') hq rfl rfl (by kernel_rfl) (by kernel_rfl) (by kernel_rfl) (by rfl) (fun W hSw => by (go_simp; try first | rfl | (rw [IntKind.wrap_i64]; omega) | (intro hh; exfalso; omega))) hHeld ?_
    try simp only [Act.put, List.setIfInBounds_toArray, List.set_cons_zero, List.set_cons_succ]
    refine takeH (i := 7) (d := 16) (plV l (some ⟨g, 0, none⟩) m cap') hq rfl rfl (by kernel_rfl) (by kernel_rfl) (by kernel_rfl) (by rfl) (fun W hSw => by (go_simp; try first | rfl | (rw [IntKind.wrap_i64]; omega) | (intro hh; exfalso; omega))) hHeld ?_
    try simp only [Act.put, List.setIfInBounds_toArray, List.set_cons_zero, List.set_cons_succ]
    refine wpAnyH_ready (rs := [8]) (by kernel_rfl) (by simp) ?_
    refine AllReadyH.cons rfl (fun K hK => ?_) AllReadyH.nil
    refine wp_storeP26 (w.heap.size + 1) ⟨0, none, 0, 0⟩ ⟨l, some ⟨g, 0, none⟩, m, cap'⟩ rfl rfl (HR.out.drew) rfl rfl ?_
    have F9 := hidD (FIN.out _ g cap' HA.out.drew HR.out.drew (belN HB.out 1) (HL.out.bel (belN (Below.refl _ _) 1)) _ rfl)
    refine hK.out _ _ ⟨(HA.out.drew.S2 (by omega) _).pl.1, (HA.out.drew.S2 (by omega) _).pl.2⟩ (fun hHeld => ?_)
    clear hK K
    try simp only [Act.put, List.setIfInBounds_toArray, List.set_cons_zero, List.set_cons_succ]
    refine wpAnyH_done (by kernel_rfl) ?_ _
    go_wp2_with fail
    refine bodyPost_ret (results_p1 (g := ⟨l, some ⟨g, 0, none⟩, m, cap'⟩) Tryd.results11 rfl F9.out.1) rfl ⟨g, cap', ?_, F9.out.2.1, F9.out.2.2⟩
    rw [← HM.out]
end Go.Proofs.YtnohcppipkpgmaaDoor
namespace Go.Proofs.YtnohcppipkpgmaaDoor
open Go.RowKit Go.Shelf
set_option linter.unusedVariables false
set_option linter.unusedSimpArgs false

/-- Two places in variables, and both lent. -/
structure L2 (w V : World) (b1 b2 g1 c1 g2 c2 : Nat) (x y : Pt) (p q : List Int) : Prop where
  t : T2 V w.heap.size x y p q
  a1 : At V b1 (plO x.l (some ⟨g1, 0, none⟩) p.length c1)
  a2 : At V b2 (plO y.l (some ⟨g2, 0, none⟩) q.length c2)
  l1 : Lnt V w.heap.size g1 c1 p
  l2 : Lnt V w.heap.size g2 c2 q
  b : Below w.heap.size w V
theorem L2.bel {w V V' : World} {b1 b2 g1 c1 g2 c2 : Nat} {x y : Pt} {p q : List Int} (h : L2 w V b1 b2 g1 c1 g2 c2 x y p q) (hb : Below V.heap.size V V') : L2 w V' b1 b2 g1 c1 g2 c2 x y p q := ⟨h.t.bel hb, h.a1.below hb, h.a2.below hb, h.l1.bel hb, h.l2.bel hb, below_aft h.b hb⟩
theorem L2.cells {w V : World} {b1 b2 g1 c1 g2 c2 : Nat} {x y : Pt} {p q : List Int} (h : L2 w V b1 b2 g1 c1 g2 c2 x y p q) : (V.cell? ⟨w.heap.size, 0, none⟩ = some (.int .i64 x.l) ∧ V.cell? ⟨w.heap.size, 1, none⟩ = some (.slice x.a x.n x.cap) ∧ V.cell? ⟨w.heap.size + 1, 0, none⟩ = some (.int .i64 y.l) ∧ V.cell? ⟨w.heap.size + 1, 1, none⟩ = some (.slice y.a y.n y.cap)) ∧ V.cell? ⟨b1, 0, none⟩ = some (.int .i64 x.l) ∧ V.cell? ⟨b1, 1, none⟩ = some (.slice (some ⟨g1, 0, none⟩) p.length c1) ∧ V.cell? ⟨b2, 0, none⟩ = some (.int .i64 y.l) ∧ V.cell? ⟨b2, 1, none⟩ = some (.slice (some ⟨g2, 0, none⟩) q.length c2) := ⟨h.t.cells, h.a1.pl.1, h.a1.pl.2, h.a2.pl.1, h.a2.pl.2⟩
/-- Which places the reference's Walk is asked of. -/
inductive P15 (s t x y : Value) (b1 b2 : Bool) : Array Value → Bool → Prop
  | p : P15 s t x y b1 b2 #[s, t, x] b1
  | q : P15 s t x y b1 b2 #[s, t, y] b2
/-- Which places kept is asked of. -/
inductive P19 (x y x' y' : Value) : Array Value → Prop
  | p : P19 x y x' y' #[x', x]
  | q : P19 x y x' y' #[y', y]
theorem rw_any {R : Option (Ch × List Int)} {w0 w V : World} {e : Ending} (h : RwPost R w0 w V e) {b : Bool} (hb : b = R.isSome) : ∃ (f : Fv) (ga : Option Addr) (gn gcap : Nat), e = .returned (.tuple #[f.v, .slice ga gn gcap, .bool b]) := by
  cases R with
  | none => subst hb; exact ⟨zT, none, 0, 0, h⟩
  | some z =>
    subst hb
    obtain ⟨y, h1, -⟩ := h
    exact ⟨y.f, y.ga, y.gn, y.gcap, h1⟩
theorem S2_low {V0 V : World} {b : Nat} {y : Pt} (h : Below V0.heap.size V0 V) (hb : V0.heap.size ≤ b) : Below V0.heap.size V0 (S2 V b y) := h.grown (but_s2 V b y) h.size (fun k hk => by cases hk; exact hb)
theorem Lnt.S2 {V : World} {B g cap b : Nat} {p : List Int} {x y : Pt} (h : Lnt V B g cap p) (hA : At V b x.o) : Lnt (S2 V b y) B g cap p := own_grow h (but_s2 V b y) (fun k hk e => row62_ne h hA (by rw [hk, e]))
set_option maxRecDepth 100000 in
set_option maxHeartbeats 16000000 in
/-- PlaceWithin. -/
theorem within_walk {w : World} {a la : Option Addr} {n cap ln lcap : Nat} {ok : Bool} {fc : Nat → List Ch} {cl : List Ch} (hC : Cx w a la n cap ln lcap ok fc cl) (h40 : ∀ W, Below w.heap.size w W → Calls Tryd.prog 40 #[.slice a n cap, .slice la ln lcap] W fun e w' => e = .returned (.bool ok) ∧ Below W.heap.size W w') {x y : Pt} {p q : List Int} (hP : PAt w x p) (hQ : PAt w y q) (d : Nat) (hd : d ≤ 255) {bf : Bool} (hf : FitA a n cap la ln lcap [p, q] bf w) (h60 : bf = true → p.length ≤ 60 ∧ q.length ≤ 60) :
    Calls Tryd.prog 4 #[.slice a n cap, .slice la ln lcap, x.v, y.v, .int .u8 (d : Int)] w fun e w' => e = .returned (.bool true) ∧ Below w.heap.size w w' := by
  have AW : Hid (∀ W, Calls Tryd.prog 10 #[] W fun e w' => e = .returned (.bool true) ∧ Below W.heap.size W w') := awake_true
  have CF := hidD (hf _ _ _ bel3 (ps_two hP hQ) rfl)
  have HT0 : Hid (T2 (((w.alloc x.o).alloc y.o).alloc (twoO x y)) w.heap.size x y p q) := (T2.start hP hQ).bel (belA (Below.refl _ _))
  have HB0 : Hid (Below w.heap.size w (((w.alloc x.o).alloc y.o).alloc (twoO x y))) := bel3
  have hl1 : -9223372036854775808 ≤ x.l ∧ x.l ≤ 9223372036854775807 := ⟨hP.l0, hP.l1⟩
  have hl2 : -9223372036854775808 ≤ y.l ∧ y.l ≤ 9223372036854775807 := ⟨hQ.l0, hQ.l1⟩
  have hr1 := hP.row.rng
  have hr2 := hQ.row.rng
  obtain ⟨R1, hR1⟩ : ∃ R, R = wyX ok fc cl x.l p := ⟨_, rfl⟩
  obtain ⟨R2, hR2⟩ : ∃ R, R = wyX ok fc cl y.l q := ⟨_, rfl⟩
  obtain ⟨ra, hra⟩ : ∃ b, b = R1.isSome := ⟨_, rfl⟩
  obtain ⟨rb, hrb⟩ : ∃ b, b = R2.isSome := ⟨_, rfl⟩
  obtain ⟨bb, hbb⟩ := bool_of ((x.l = y.l ∧ p <+: q) ∧ ∀ z, R2 = some z → wiB d (z.2.drop p.length) = true)
  obtain ⟨gd, hgd⟩ := bool_of (R1.isSome = true ∧ R2.isSome = true ∧ 1 ≤ d ∧ d ≤ 3)
  obtain ⟨is, his⟩ : ∃ is, is = (gd && bb) := ⟨_, rfl⟩
  obtain ⟨er, her⟩ : ∃ er : Int, er = if gd = true then 0 else 2 := ⟨_, rfl⟩
  have C22 : Hid (∀ V b1 b2 g1 c1 g2 c2, L2 w V b1 b2 g1 c1 g2 c2 x y p q → Calls Tryd.prog 22 #[.slice a n cap, .slice la ln lcap, plV x.l (some ⟨g1, 0, none⟩) p.length c1, plV y.l (some ⟨g2, 0, none⟩) q.length c2, .int .u8 (d : Int)] V fun e w' => e = .returned (.tuple #[.bool is, .int .i64 er]) ∧ Below V.heap.size V w') := fun V b1 b2 g1 c1 g2 c2 h => by
    refine (Within_any (x := ⟨x.l, some ⟨g1, 0, none⟩, p.length, c1⟩) (y := ⟨y.l, some ⟨g2, 0, none⟩, q.length, c2⟩) h.b hC (h.l1.pat hl1 hr1) (h.l2.pat hl2 hr2) d hd R1 R2 hR1 hR2).mono fun e w' k => ⟨?_, k.2⟩
    have k1 := k.1
    unfold WithPost at k1
    by_cases hg : R1.isSome = true ∧ R2.isSome = true ∧ 1 ≤ d ∧ d ≤ 3
    · rw [if_pos hg] at k1
      obtain ⟨b', rfl, hb'⟩ := k1
      have e1 : gd = true := hgd.2 hg
      have e2 : b' = bb := by rw [Bool.eq_iff_iff, hb', hbb]
      rw [his, her, e1, e2]
      rfl
    · rw [if_neg hg] at k1
      have e1 : gd = false := by
        cases hh : gd with
        | false => rfl
        | true => exact absurd (hgd.1 hh) hg
      rw [his, her, e1, k1]
      rfl
  have C15 : Hid (∀ V args b, T2 V w.heap.size x y p q → Below w.heap.size w V → P15 (.slice a n cap) (.slice la ln lcap) x.v y.v ra rb args b → Calls Tryd.prog 15 args V fun e w' => (∃ (f : Fv) (ga : Option Addr) (gn gcap : Nat), e = .returned (.tuple #[f.v, .slice ga gn gcap, .bool b])) ∧ Below V.heap.size V w') := fun V args b h hV k => by
    cases k
    · exact (rWalk_any hV hC h40 h.p1 R1 hR1).mono fun e w' k => ⟨rw_any k.1 hra, k.2⟩
    · exact (rWalk_any hV hC h40 h.p2 R2 hR2).mono fun e w' k => ⟨rw_any k.1 hrb, k.2⟩
  have C23 : Hid (gd = true → ∀ V, T2 V w.heap.size x y p q → Below w.heap.size w V → Calls Tryd.prog 23 #[.slice a n cap, .slice la ln lcap, x.v, y.v, .int .u8 (d : Int)] V fun e w' => e = .returned (.bool bb) ∧ Below V.heap.size V w') := fun hg V h hV => by
    obtain ⟨g1, g2, g3, g4⟩ := hgd.1 hg
    obtain ⟨⟨c, gq⟩, hz⟩ := Option.isSome_iff_exists.1 g2
    refine rWithin_any hV hC h40 h.p1 h.p2 d ⟨g3, g4⟩ (by rw [← hR2]; exact hz) bb (hbb.trans ?_)
    rw [hz]
    exact ⟨fun k => ⟨k.1, k.2 _ rfl⟩, fun k => ⟨k.1, fun z hz => by cases hz; exact k.2⟩⟩
  have CL1 : Hid (bf = true → ∀ V, T2 V w.heap.size x y p q → Below w.heap.size w V → Calls Tryd.prog 11 #[x.v] V fun e w' => ∃ g c, e = .returned (plV x.l (some ⟨g, 0, none⟩) p.length c) ∧ Lnt w' w.heap.size g c p ∧ Below V.heap.size V w') := fun hb V h hV => (lent_any h.p1 (h60 hb).1).mono fun e w' k => by obtain ⟨g, c, e1, e2, e3⟩ := k; exact ⟨g, c, e1, own_low e2 hV.size, e3⟩
  have CL2 : Hid (bf = true → ∀ V, T2 V w.heap.size x y p q → Below w.heap.size w V → Calls Tryd.prog 11 #[y.v] V fun e w' => ∃ g c, e = .returned (plV y.l (some ⟨g, 0, none⟩) q.length c) ∧ Lnt w' w.heap.size g c q ∧ Below V.heap.size V w') := fun hb V h hV => (lent_any h.p2 (h60 hb).2).mono fun e w' k => by obtain ⟨g, c, e1, e2, e3⟩ := k; exact ⟨g, c, e1, own_low e2 hV.size, e3⟩
  have C19 : Hid (bf = true → ∀ V args b1 b2 g1 c1 g2 c2, L2 w V b1 b2 g1 c1 g2 c2 x y p q → P19 x.v y.v (plV x.l (some ⟨g1, 0, none⟩) p.length c1) (plV y.l (some ⟨g2, 0, none⟩) q.length c2) args → Calls Tryd.prog 19 args V fun e w' => e = .returned (.bool true) ∧ Below V.heap.size V w') := fun hb V args b1 b2 g1 c1 g2 c2 h k => by
    cases k
    · exact kept_any h.t.p1 (h60 hb).1 h.l1
    · exact kept_any h.t.p2 (h60 hb).2 h.l2
  have RA : Hid (gd = true ↔ ra = true ∧ rb = true ∧ 1 ≤ d ∧ d ≤ 3) := by rw [hra, hrb]; exact hgd
  obtain ⟨l, pa, m, pcap⟩ := x
  obtain ⟨l2, qa, m2, qcap⟩ := y
  show Calls Tryd.prog 4 #[.slice a n cap, .slice la ln lcap, plV l pa m pcap, plV l2 qa m2 qcap, .int .u8 (d : Int)] w _
  have HD : Hid (d ≤ 255) := hd
  have HIS := hidD his
  have HER := hidD her
  clear hC h40 hP hQ hf h60 hl1 hl2 hr1 hr2 hR1 hR2 hra hrb hbb hgd his her hd
  cases bf with
  | false =>
    clear CL1 CL2 C19 C22 C15 C23
    go_enter Tryd.func4, Tryd.ntmps4
    go_wp2_with (first
      | (go_at_call 9; refine CF.out.mono ?_; rintro e w1 ⟨rfl, hb1⟩; have HB := hidD (below_aft HB0.out hb1); clear hb1)
      | (go_at_call 10; refine (AW.out _).mono ?_; rintro e w8 ⟨rfl, hb8⟩; have HB8 := hidD (below_aft HB.out hb8); clear hb8))
    go_ret
    exact ⟨rfl, HB8.out⟩
  | true =>
    have D1 := hidD (CL1.out rfl)
    have D2 := hidD (CL2.out rfl)
    have D19 := hidD (C19.out rfl)
    clear CL1 CL2 C19
    go_enter Tryd.func4, Tryd.ntmps4
    go_upto_region 3 with (go_at_call 9; refine CF.out.mono ?_; rintro e w1 ⟨rfl, hb1⟩; have HT := hidD (HT0.out.bel hb1); have HB := hidD (below_aft HB0.out hb1); clear hb1; obtain ⟨a0, a1, c0, c1⟩ := HT.out.cells)
    clear CF HT0 HB0
    go_cut [11, 12] (fun v u V => ∃ b1 b2 g1 c1 g2 c2, v = .pointer (some ⟨b1, 0, none⟩) ∧ u = .pointer (some ⟨b2, 0, none⟩) ∧ L2 w V b1 b2 g1 c1 g2 c2 ⟨l, pa, m, pcap⟩ ⟨l2, qa, m2, qcap⟩ p q)
    case first =>
      clear AW C22 C15 C23 D19 RA HIS HER
      refine beginH (S := fun W => Below w1.heap.size w1 W) (fun _ _ _ _ _ h => h) (by kernel_rfl) (belN (Below.refl _ _) 1) (fun hq hHeld => ?_)
      refine takeH (i := 0) (d := 29) (plV l pa m pcap) hq rfl rfl (by kernel_rfl) (by kernel_rfl) (by kernel_rfl) (by rfl) (fun W hSw => by (obtain ⟨z0, z1, z2, z3⟩ := (HT.out.bel hSw).cells; go_simp; try rfl)) hHeld ?_
      try simp only [Act.put, List.setIfInBounds_toArray, List.set_cons_zero, List.set_cons_succ]
      refine takeH (i := 2) (d := 31) (plV l2 qa m2 qcap) hq rfl rfl (by kernel_rfl) (by kernel_rfl) (by kernel_rfl) (by rfl) (fun W hSw => by (obtain ⟨z0, z1, z2, z3⟩ := (HT.out.bel hSw).cells; go_simp; try rfl)) hHeld ?_
      try simp only [Act.put, List.setIfInBounds_toArray, List.set_cons_zero, List.set_cons_succ]
      refine wpAnyH_ready (rs := [1, 4, 5]) (by kernel_rfl) (by simp) ?_
      refine AllReadyH.cons rfl (fun K hK => ?_) (AllReadyH.cons rfl (fun K hK => ?_) (AllReadyH.cons rfl (fun K hK => ?_) AllReadyH.nil))
      · go_simp
        refine (D1.out _ (HT.out.bel (belN (Below.refl _ _) 1)) (below_aft HB.out (belN (Below.refl _ _) 1))).mono ?_
        rintro e v1 ⟨g1, k1, rfl, hl, hbn⟩
        go_wp2_with fail
        have hS : Below w1.heap.size w1 v1 := below_aft (belN (Below.refl _ _) 1) hbn
        refine hK.out _ _ hS (fun hHeld => ?_)
        clear hK K
        try simp only [Act.put, List.setIfInBounds_toArray, List.set_cons_zero, List.set_cons_succ]
        have HL1 := hidD hl
        have HS := hidD hS
        clear hl hbn hS
        refine wpAnyH_ready (rs := [3, 4, 5]) (by kernel_rfl) (by simp) ?_
        refine AllReadyH.cons rfl (fun K hK => ?_) (AllReadyH.cons rfl (fun K hK => ?_) (AllReadyH.cons rfl (fun K hK => ?_) AllReadyH.nil))
        · go_simp
          refine (D2.out _ (HT.out.bel HS.out) (below_aft HB.out HS.out)).mono ?_
          rintro e v2 ⟨g2, k2, rfl, hl, hbn⟩
          go_wp2_with fail
          have hS : Below w1.heap.size w1 v2 := below_aft HS.out hbn
          refine hK.out _ _ hS (fun hHeld => ?_)
          clear hK K
          try simp only [Act.put, List.setIfInBounds_toArray, List.set_cons_zero, List.set_cons_succ]
          have HL1 := hidD (HL1.out.bel hbn)
          have HL2 := hidD hl
          have HS := hidD hS
          clear hl hbn hS
          refine wpAnyH_ready (rs := [4, 5]) (by kernel_rfl) (by simp) ?_
          refine AllReadyH.cons rfl (fun K hK => ?_) (AllReadyH.cons rfl (fun K hK => ?_) AllReadyH.nil)
          · go_simp
            go_wp2_with fail
            obtain ⟨b11, hb11⟩ : ∃ b, b = (v2).heap.size := ⟨_, rfl⟩
            rw [← hb11]
            obtain ⟨v3, hvn⟩ : ∃ u, u = (v2).alloc (plO 0 none 0 0) := ⟨_, rfl⟩
            show K _ ((v2).alloc (plO 0 none 0 0))
            rw [← hvn]
            have hbn : Below (v2).heap.size (v2) v3 := by rw [hvn]; exact belA (Below.refl _ _)
            have hS : Below w1.heap.size w1 v3 := below_aft HS.out hbn
            refine hK.out _ _ hS (fun hHeld => ?_)
            clear hK K
            try simp only [Act.put, List.setIfInBounds_toArray, List.set_cons_zero, List.set_cons_succ]
            have HL1 := hidD (HL1.out.bel hbn)
            have HL2 := hidD (HL2.out.bel hbn)
            have HA1 : Hid (At v3 b11 (plO 0 none 0 0)) := (by rw [hvn, hb11]; exact At.new _ _ : At v3 b11 (plO 0 none 0 0))
            have HLO1 : Hid (w1.heap.size ≤ b11) := (by have := (show Below w1.heap.size w1 (v2) from HS.out).size; omega : w1.heap.size ≤ b11)
            have HS := hidD hS
            clear hbn hS hvn hb11
            refine wpAnyH_ready (rs := [5]) (by kernel_rfl) (by simp) ?_
            refine AllReadyH.cons rfl (fun K hK => ?_) AllReadyH.nil
            go_simp
            go_wp2_with fail
            obtain ⟨b12, hb12⟩ : ∃ b, b = (v3).heap.size := ⟨_, rfl⟩
            rw [← hb12]
            obtain ⟨v4, hvn⟩ : ∃ u, u = (v3).alloc (plO 0 none 0 0) := ⟨_, rfl⟩
            show K _ ((v3).alloc (plO 0 none 0 0))
            rw [← hvn]
            have hbn : Below (v3).heap.size (v3) v4 := by rw [hvn]; exact belA (Below.refl _ _)
            have hS : Below w1.heap.size w1 v4 := below_aft HS.out hbn
            refine hK.out _ _ hS (fun hHeld => ?_)
            clear hK K
            try simp only [Act.put, List.setIfInBounds_toArray, List.set_cons_zero, List.set_cons_succ]
            have NE : Hid (b11 ≠ b12) := (by have := HA1.out.lt; omega : b11 ≠ b12)
            have HL1 := hidD (HL1.out.bel hbn)
            have HL2 := hidD (HL2.out.bel hbn)
            have HA1 := hidD (HA1.out.below hbn)
            have HA2 : Hid (At v4 b12 (plO 0 none 0 0)) := (by rw [hvn, hb12]; exact At.new _ _ : At v4 b12 (plO 0 none 0 0))
            have HLO2 : Hid (w1.heap.size ≤ b12) := (by have := (show Below w1.heap.size w1 (v3) from HS.out).size; omega : w1.heap.size ≤ b12)
            have HS := hidD hS
            clear hbn hS hvn hb12
            refine wpAnyH_ready (rs := [6]) (by kernel_rfl) (by simp) ?_
            refine AllReadyH.cons rfl (fun K hK => ?_) AllReadyH.nil
            refine wp_storeP26 b11 ⟨0, none, 0, 0⟩ ⟨l, some ⟨g1, 0, none⟩, p.length, k1⟩ rfl rfl HA1.out rfl rfl ?_
            have hS : Below w1.heap.size w1 (S2 v4 b11 ⟨l, some ⟨g1, 0, none⟩, p.length, k1⟩) := S2_low HS.out HLO1.out
            have HL1' := hidD (Lnt.S2 (y := ⟨l, some ⟨g1, 0, none⟩, p.length, k1⟩) HL1.out (x := ⟨0, none, 0, 0⟩) HA1.out)
            have HL2' := hidD (Lnt.S2 (y := ⟨l, some ⟨g1, 0, none⟩, p.length, k1⟩) HL2.out (x := ⟨0, none, 0, 0⟩) HA1.out)
            have HA2' := hidD (HA2.out.S2 (b := b11) (fun e => NE.out e.symm) ⟨l, some ⟨g1, 0, none⟩, p.length, k1⟩)
            have HA1' := hidD (HA1.out.set2 (x := ⟨0, none, 0, 0⟩) ⟨l, some ⟨g1, 0, none⟩, p.length, k1⟩)
            obtain ⟨v5, hvn⟩ : ∃ u, u = S2 v4 b11 ⟨l, some ⟨g1, 0, none⟩, p.length, k1⟩ := ⟨_, rfl⟩
            rw [← hvn] at hS HL1' HL2' HA1' HA2' ⊢
            clear hvn
            refine hK.out _ _ hS (fun hHeld => ?_)
            clear hK K
            try simp only [Act.put, List.setIfInBounds_toArray, List.set_cons_zero, List.set_cons_succ]
            have HL1 := HL1'
            have HL2 := HL2'
            have HA1 := HA1'
            have HA2 := HA2'
            have HS := hidD hS
            clear hS
            refine wpAnyH_ready (rs := [7]) (by kernel_rfl) (by simp) ?_
            refine AllReadyH.cons rfl (fun K hK => ?_) AllReadyH.nil
            refine wp_storeP26 b12 ⟨0, none, 0, 0⟩ ⟨l2, some ⟨g2, 0, none⟩, q.length, k2⟩ rfl rfl HA2.out rfl rfl ?_
            have hS : Below w1.heap.size w1 (S2 v5 b12 ⟨l2, some ⟨g2, 0, none⟩, q.length, k2⟩) := S2_low HS.out HLO2.out
            have HL1' := hidD (Lnt.S2 (y := ⟨l2, some ⟨g2, 0, none⟩, q.length, k2⟩) HL1.out (x := ⟨0, none, 0, 0⟩) HA2.out)
            have HL2' := hidD (Lnt.S2 (y := ⟨l2, some ⟨g2, 0, none⟩, q.length, k2⟩) HL2.out (x := ⟨0, none, 0, 0⟩) HA2.out)
            have HA1' := hidD (HA1.out.S2 (b := b12) NE.out ⟨l2, some ⟨g2, 0, none⟩, q.length, k2⟩)
            have HA2' := hidD (HA2.out.set2 (x := ⟨0, none, 0, 0⟩) ⟨l2, some ⟨g2, 0, none⟩, q.length, k2⟩)
            obtain ⟨v6, hvn⟩ : ∃ u, u = S2 v5 b12 ⟨l2, some ⟨g2, 0, none⟩, q.length, k2⟩ := ⟨_, rfl⟩
            rw [← hvn] at hS HL1' HL2' HA2' HA1' ⊢
            clear hvn
            refine hK.out _ _ hS (fun hHeld => ?_)
            clear hK K
            try simp only [Act.put, List.setIfInBounds_toArray, List.set_cons_zero, List.set_cons_succ]
            have HL1 := HL1'
            have HL2 := HL2'
            have HA2 := HA2'
            have HA1 := HA1'
            have HS := hidD hS
            clear hS
            refine wpAnyH_done (by kernel_rfl) ?_ _
            go_wp2_with fail
            go_meet
            exact ⟨b11, b12, g1, k1, g2, k2, rfl, rfl, HT.out.bel HS.out, HA1.out, HA2.out, HL1.out, HL2.out, below_aft HB.out HS.out⟩
          · go_simp
            go_wp2_with fail
            obtain ⟨b12, hb12⟩ : ∃ b, b = (v2).heap.size := ⟨_, rfl⟩
            rw [← hb12]
            obtain ⟨v3, hvn⟩ : ∃ u, u = (v2).alloc (plO 0 none 0 0) := ⟨_, rfl⟩
            show K _ ((v2).alloc (plO 0 none 0 0))
            rw [← hvn]
            have hbn : Below (v2).heap.size (v2) v3 := by rw [hvn]; exact belA (Below.refl _ _)
            have hS : Below w1.heap.size w1 v3 := below_aft HS.out hbn
            refine hK.out _ _ hS (fun hHeld => ?_)
            clear hK K
            try simp only [Act.put, List.setIfInBounds_toArray, List.set_cons_zero, List.set_cons_succ]
            have HL1 := hidD (HL1.out.bel hbn)
            have HL2 := hidD (HL2.out.bel hbn)
            have HA2 : Hid (At v3 b12 (plO 0 none 0 0)) := (by rw [hvn, hb12]; exact At.new _ _ : At v3 b12 (plO 0 none 0 0))
            have HLO2 : Hid (w1.heap.size ≤ b12) := (by have := (show Below w1.heap.size w1 (v2) from HS.out).size; omega : w1.heap.size ≤ b12)
            have HS := hidD hS
            clear hbn hS hvn hb12
            refine wpAnyH_ready (rs := [4]) (by kernel_rfl) (by simp) ?_
            refine AllReadyH.cons rfl (fun K hK => ?_) AllReadyH.nil
            go_simp
            go_wp2_with fail
            obtain ⟨b11, hb11⟩ : ∃ b, b = (v3).heap.size := ⟨_, rfl⟩
            rw [← hb11]
            obtain ⟨v4, hvn⟩ : ∃ u, u = (v3).alloc (plO 0 none 0 0) := ⟨_, rfl⟩
            show K _ ((v3).alloc (plO 0 none 0 0))
            rw [← hvn]
            have hbn : Below (v3).heap.size (v3) v4 := by rw [hvn]; exact belA (Below.refl _ _)
            have hS : Below w1.heap.size w1 v4 := below_aft HS.out hbn
            refine hK.out _ _ hS (fun hHeld => ?_)
            clear hK K
            try simp only [Act.put, List.setIfInBounds_toArray, List.set_cons_zero, List.set_cons_succ]
            have NE : Hid (b11 ≠ b12) := (by have := HA2.out.lt; omega : b11 ≠ b12)
            have HL1 := hidD (HL1.out.bel hbn)
            have HL2 := hidD (HL2.out.bel hbn)
            have HA2 := hidD (HA2.out.below hbn)
            have HA1 : Hid (At v4 b11 (plO 0 none 0 0)) := (by rw [hvn, hb11]; exact At.new _ _ : At v4 b11 (plO 0 none 0 0))
            have HLO1 : Hid (w1.heap.size ≤ b11) := (by have := (show Below w1.heap.size w1 (v3) from HS.out).size; omega : w1.heap.size ≤ b11)
            have HS := hidD hS
            clear hbn hS hvn hb11
            refine wpAnyH_ready (rs := [6]) (by kernel_rfl) (by simp) ?_
            refine AllReadyH.cons rfl (fun K hK => ?_) AllReadyH.nil
            refine wp_storeP26 b11 ⟨0, none, 0, 0⟩ ⟨l, some ⟨g1, 0, none⟩, p.length, k1⟩ rfl rfl HA1.out rfl rfl ?_
            have hS : Below w1.heap.size w1 (S2 v4 b11 ⟨l, some ⟨g1, 0, none⟩, p.length, k1⟩) := S2_low HS.out HLO1.out
            have HL1' := hidD (Lnt.S2 (y := ⟨l, some ⟨g1, 0, none⟩, p.length, k1⟩) HL1.out (x := ⟨0, none, 0, 0⟩) HA1.out)
            have HL2' := hidD (Lnt.S2 (y := ⟨l, some ⟨g1, 0, none⟩, p.length, k1⟩) HL2.out (x := ⟨0, none, 0, 0⟩) HA1.out)
            have HA2' := hidD (HA2.out.S2 (b := b11) (fun e => NE.out e.symm) ⟨l, some ⟨g1, 0, none⟩, p.length, k1⟩)
            have HA1' := hidD (HA1.out.set2 (x := ⟨0, none, 0, 0⟩) ⟨l, some ⟨g1, 0, none⟩, p.length, k1⟩)
            obtain ⟨v5, hvn⟩ : ∃ u, u = S2 v4 b11 ⟨l, some ⟨g1, 0, none⟩, p.length, k1⟩ := ⟨_, rfl⟩
            rw [← hvn] at hS HL1' HL2' HA1' HA2' ⊢
            clear hvn
            refine hK.out _ _ hS (fun hHeld => ?_)
            clear hK K
            try simp only [Act.put, List.setIfInBounds_toArray, List.set_cons_zero, List.set_cons_succ]
            have HL1 := HL1'
            have HL2 := HL2'
            have HA1 := HA1'
            have HA2 := HA2'
            have HS := hidD hS
            clear hS
            refine wpAnyH_ready (rs := [7]) (by kernel_rfl) (by simp) ?_
            refine AllReadyH.cons rfl (fun K hK => ?_) AllReadyH.nil
            refine wp_storeP26 b12 ⟨0, none, 0, 0⟩ ⟨l2, some ⟨g2, 0, none⟩, q.length, k2⟩ rfl rfl HA2.out rfl rfl ?_
            have hS : Below w1.heap.size w1 (S2 v5 b12 ⟨l2, some ⟨g2, 0, none⟩, q.length, k2⟩) := S2_low HS.out HLO2.out
            have HL1' := hidD (Lnt.S2 (y := ⟨l2, some ⟨g2, 0, none⟩, q.length, k2⟩) HL1.out (x := ⟨0, none, 0, 0⟩) HA2.out)
            have HL2' := hidD (Lnt.S2 (y := ⟨l2, some ⟨g2, 0, none⟩, q.length, k2⟩) HL2.out (x := ⟨0, none, 0, 0⟩) HA2.out)
            have HA1' := hidD (HA1.out.S2 (b := b12) NE.out ⟨l2, some ⟨g2, 0, none⟩, q.length, k2⟩)
            have HA2' := hidD (HA2.out.set2 (x := ⟨0, none, 0, 0⟩) ⟨l2, some ⟨g2, 0, none⟩, q.length, k2⟩)
            obtain ⟨v6, hvn⟩ : ∃ u, u = S2 v5 b12 ⟨l2, some ⟨g2, 0, none⟩, q.length, k2⟩ := ⟨_, rfl⟩
            rw [← hvn] at hS HL1' HL2' HA2' HA1' ⊢
            clear hvn
            refine hK.out _ _ hS (fun hHeld => ?_)
            clear hK K
            try simp only [Act.put, List.setIfInBounds_toArray, List.set_cons_zero, List.set_cons_succ]
            have HL1 := HL1'
            have HL2 := HL2'
            have HA2 := HA2'
            have HA1 := HA1'
            have HS := hidD hS
            clear hS
            refine wpAnyH_done (by kernel_rfl) ?_ _
            go_wp2_with fail
            go_meet
            exact ⟨b11, b12, g1, k1, g2, k2, rfl, rfl, HT.out.bel HS.out, HA1.out, HA2.out, HL1.out, HL2.out, below_aft HB.out HS.out⟩
        · go_simp
          go_wp2_with fail
          obtain ⟨b11, hb11⟩ : ∃ b, b = (v1).heap.size := ⟨_, rfl⟩
          rw [← hb11]
          obtain ⟨v2, hvn⟩ : ∃ u, u = (v1).alloc (plO 0 none 0 0) := ⟨_, rfl⟩
          show K _ ((v1).alloc (plO 0 none 0 0))
          rw [← hvn]
          have hbn : Below (v1).heap.size (v1) v2 := by rw [hvn]; exact belA (Below.refl _ _)
          have hS : Below w1.heap.size w1 v2 := below_aft HS.out hbn
          refine hK.out _ _ hS (fun hHeld => ?_)
          clear hK K
          try simp only [Act.put, List.setIfInBounds_toArray, List.set_cons_zero, List.set_cons_succ]
          have HL1 := hidD (HL1.out.bel hbn)
          have HA1 : Hid (At v2 b11 (plO 0 none 0 0)) := (by rw [hvn, hb11]; exact At.new _ _ : At v2 b11 (plO 0 none 0 0))
          have HLO1 : Hid (w1.heap.size ≤ b11) := (by have := (show Below w1.heap.size w1 (v1) from HS.out).size; omega : w1.heap.size ≤ b11)
          have HS := hidD hS
          clear hbn hS hvn hb11
          refine wpAnyH_ready (rs := [3, 5]) (by kernel_rfl) (by simp) ?_
          refine AllReadyH.cons rfl (fun K hK => ?_) (AllReadyH.cons rfl (fun K hK => ?_) AllReadyH.nil)
          · go_simp
            refine (D2.out _ (HT.out.bel HS.out) (below_aft HB.out HS.out)).mono ?_
            rintro e v3 ⟨g2, k2, rfl, hl, hbn⟩
            go_wp2_with fail
            have hS : Below w1.heap.size w1 v3 := below_aft HS.out hbn
            refine hK.out _ _ hS (fun hHeld => ?_)
            clear hK K
            try simp only [Act.put, List.setIfInBounds_toArray, List.set_cons_zero, List.set_cons_succ]
            have HL1 := hidD (HL1.out.bel hbn)
            have HA1 := hidD (HA1.out.below hbn)
            have HL2 := hidD hl
            have HS := hidD hS
            clear hl hbn hS
            refine wpAnyH_ready (rs := [5]) (by kernel_rfl) (by simp) ?_
            refine AllReadyH.cons rfl (fun K hK => ?_) AllReadyH.nil
            go_simp
            go_wp2_with fail
            obtain ⟨b12, hb12⟩ : ∃ b, b = (v3).heap.size := ⟨_, rfl⟩
            rw [← hb12]
            obtain ⟨v4, hvn⟩ : ∃ u, u = (v3).alloc (plO 0 none 0 0) := ⟨_, rfl⟩
            show K _ ((v3).alloc (plO 0 none 0 0))
            rw [← hvn]
            have hbn : Below (v3).heap.size (v3) v4 := by rw [hvn]; exact belA (Below.refl _ _)
            have hS : Below w1.heap.size w1 v4 := below_aft HS.out hbn
            refine hK.out _ _ hS (fun hHeld => ?_)
            clear hK K
            try simp only [Act.put, List.setIfInBounds_toArray, List.set_cons_zero, List.set_cons_succ]
            have NE : Hid (b11 ≠ b12) := (by have := HA1.out.lt; omega : b11 ≠ b12)
            have HL1 := hidD (HL1.out.bel hbn)
            have HL2 := hidD (HL2.out.bel hbn)
            have HA1 := hidD (HA1.out.below hbn)
            have HA2 : Hid (At v4 b12 (plO 0 none 0 0)) := (by rw [hvn, hb12]; exact At.new _ _ : At v4 b12 (plO 0 none 0 0))
            have HLO2 : Hid (w1.heap.size ≤ b12) := (by have := (show Below w1.heap.size w1 (v3) from HS.out).size; omega : w1.heap.size ≤ b12)
            have HS := hidD hS
            clear hbn hS hvn hb12
            refine wpAnyH_ready (rs := [6]) (by kernel_rfl) (by simp) ?_
            refine AllReadyH.cons rfl (fun K hK => ?_) AllReadyH.nil
            refine wp_storeP26 b11 ⟨0, none, 0, 0⟩ ⟨l, some ⟨g1, 0, none⟩, p.length, k1⟩ rfl rfl HA1.out rfl rfl ?_
            have hS : Below w1.heap.size w1 (S2 v4 b11 ⟨l, some ⟨g1, 0, none⟩, p.length, k1⟩) := S2_low HS.out HLO1.out
            have HL1' := hidD (Lnt.S2 (y := ⟨l, some ⟨g1, 0, none⟩, p.length, k1⟩) HL1.out (x := ⟨0, none, 0, 0⟩) HA1.out)
            have HL2' := hidD (Lnt.S2 (y := ⟨l, some ⟨g1, 0, none⟩, p.length, k1⟩) HL2.out (x := ⟨0, none, 0, 0⟩) HA1.out)
            have HA2' := hidD (HA2.out.S2 (b := b11) (fun e => NE.out e.symm) ⟨l, some ⟨g1, 0, none⟩, p.length, k1⟩)
            have HA1' := hidD (HA1.out.set2 (x := ⟨0, none, 0, 0⟩) ⟨l, some ⟨g1, 0, none⟩, p.length, k1⟩)
            obtain ⟨v5, hvn⟩ : ∃ u, u = S2 v4 b11 ⟨l, some ⟨g1, 0, none⟩, p.length, k1⟩ := ⟨_, rfl⟩
            rw [← hvn] at hS HL1' HL2' HA1' HA2' ⊢
            clear hvn
            refine hK.out _ _ hS (fun hHeld => ?_)
            clear hK K
            try simp only [Act.put, List.setIfInBounds_toArray, List.set_cons_zero, List.set_cons_succ]
            have HL1 := HL1'
            have HL2 := HL2'
            have HA1 := HA1'
            have HA2 := HA2'
            have HS := hidD hS
            clear hS
            refine wpAnyH_ready (rs := [7]) (by kernel_rfl) (by simp) ?_
            refine AllReadyH.cons rfl (fun K hK => ?_) AllReadyH.nil
            refine wp_storeP26 b12 ⟨0, none, 0, 0⟩ ⟨l2, some ⟨g2, 0, none⟩, q.length, k2⟩ rfl rfl HA2.out rfl rfl ?_
            have hS : Below w1.heap.size w1 (S2 v5 b12 ⟨l2, some ⟨g2, 0, none⟩, q.length, k2⟩) := S2_low HS.out HLO2.out
            have HL1' := hidD (Lnt.S2 (y := ⟨l2, some ⟨g2, 0, none⟩, q.length, k2⟩) HL1.out (x := ⟨0, none, 0, 0⟩) HA2.out)
            have HL2' := hidD (Lnt.S2 (y := ⟨l2, some ⟨g2, 0, none⟩, q.length, k2⟩) HL2.out (x := ⟨0, none, 0, 0⟩) HA2.out)
            have HA1' := hidD (HA1.out.S2 (b := b12) NE.out ⟨l2, some ⟨g2, 0, none⟩, q.length, k2⟩)
            have HA2' := hidD (HA2.out.set2 (x := ⟨0, none, 0, 0⟩) ⟨l2, some ⟨g2, 0, none⟩, q.length, k2⟩)
            obtain ⟨v6, hvn⟩ : ∃ u, u = S2 v5 b12 ⟨l2, some ⟨g2, 0, none⟩, q.length, k2⟩ := ⟨_, rfl⟩
            rw [← hvn] at hS HL1' HL2' HA2' HA1' ⊢
            clear hvn
            refine hK.out _ _ hS (fun hHeld => ?_)
            clear hK K
            try simp only [Act.put, List.setIfInBounds_toArray, List.set_cons_zero, List.set_cons_succ]
            have HL1 := HL1'
            have HL2 := HL2'
            have HA2 := HA2'
            have HA1 := HA1'
            have HS := hidD hS
            clear hS
            refine wpAnyH_done (by kernel_rfl) ?_ _
            go_wp2_with fail
            go_meet
            exact ⟨b11, b12, g1, k1, g2, k2, rfl, rfl, HT.out.bel HS.out, HA1.out, HA2.out, HL1.out, HL2.out, below_aft HB.out HS.out⟩
          · go_simp
            go_wp2_with fail
            obtain ⟨b12, hb12⟩ : ∃ b, b = (v2).heap.size := ⟨_, rfl⟩
            rw [← hb12]
            obtain ⟨v3, hvn⟩ : ∃ u, u = (v2).alloc (plO 0 none 0 0) := ⟨_, rfl⟩
            show K _ ((v2).alloc (plO 0 none 0 0))
            rw [← hvn]
            have hbn : Below (v2).heap.size (v2) v3 := by rw [hvn]; exact belA (Below.refl _ _)
            have hS : Below w1.heap.size w1 v3 := below_aft HS.out hbn
            refine hK.out _ _ hS (fun hHeld => ?_)
            clear hK K
            try simp only [Act.put, List.setIfInBounds_toArray, List.set_cons_zero, List.set_cons_succ]
            have NE : Hid (b11 ≠ b12) := (by have := HA1.out.lt; omega : b11 ≠ b12)
            have HL1 := hidD (HL1.out.bel hbn)
            have HA1 := hidD (HA1.out.below hbn)
            have HA2 : Hid (At v3 b12 (plO 0 none 0 0)) := (by rw [hvn, hb12]; exact At.new _ _ : At v3 b12 (plO 0 none 0 0))
            have HLO2 : Hid (w1.heap.size ≤ b12) := (by have := (show Below w1.heap.size w1 (v2) from HS.out).size; omega : w1.heap.size ≤ b12)
            have HS := hidD hS
            clear hbn hS hvn hb12
            refine wpAnyH_ready (rs := [3]) (by kernel_rfl) (by simp) ?_
            refine AllReadyH.cons rfl (fun K hK => ?_) AllReadyH.nil
            go_simp
            refine (D2.out _ (HT.out.bel HS.out) (below_aft HB.out HS.out)).mono ?_
            rintro e v4 ⟨g2, k2, rfl, hl, hbn⟩
            go_wp2_with fail
            have hS : Below w1.heap.size w1 v4 := below_aft HS.out hbn
            refine hK.out _ _ hS (fun hHeld => ?_)
            clear hK K
            try simp only [Act.put, List.setIfInBounds_toArray, List.set_cons_zero, List.set_cons_succ]
            have HL1 := hidD (HL1.out.bel hbn)
            have HA1 := hidD (HA1.out.below hbn)
            have HA2 := hidD (HA2.out.below hbn)
            have HL2 := hidD hl
            have HS := hidD hS
            clear hl hbn hS
            refine wpAnyH_ready (rs := [6]) (by kernel_rfl) (by simp) ?_
            refine AllReadyH.cons rfl (fun K hK => ?_) AllReadyH.nil
            refine wp_storeP26 b11 ⟨0, none, 0, 0⟩ ⟨l, some ⟨g1, 0, none⟩, p.length, k1⟩ rfl rfl HA1.out rfl rfl ?_
            have hS : Below w1.heap.size w1 (S2 v4 b11 ⟨l, some ⟨g1, 0, none⟩, p.length, k1⟩) := S2_low HS.out HLO1.out
            have HL1' := hidD (Lnt.S2 (y := ⟨l, some ⟨g1, 0, none⟩, p.length, k1⟩) HL1.out (x := ⟨0, none, 0, 0⟩) HA1.out)
            have HL2' := hidD (Lnt.S2 (y := ⟨l, some ⟨g1, 0, none⟩, p.length, k1⟩) HL2.out (x := ⟨0, none, 0, 0⟩) HA1.out)
            have HA2' := hidD (HA2.out.S2 (b := b11) (fun e => NE.out e.symm) ⟨l, some ⟨g1, 0, none⟩, p.length, k1⟩)
            have HA1' := hidD (HA1.out.set2 (x := ⟨0, none, 0, 0⟩) ⟨l, some ⟨g1, 0, none⟩, p.length, k1⟩)
            obtain ⟨v5, hvn⟩ : ∃ u, u = S2 v4 b11 ⟨l, some ⟨g1, 0, none⟩, p.length, k1⟩ := ⟨_, rfl⟩
            rw [← hvn] at hS HL1' HL2' HA1' HA2' ⊢
            clear hvn
            refine hK.out _ _ hS (fun hHeld => ?_)
            clear hK K
            try simp only [Act.put, List.setIfInBounds_toArray, List.set_cons_zero, List.set_cons_succ]
            have HL1 := HL1'
            have HL2 := HL2'
            have HA1 := HA1'
            have HA2 := HA2'
            have HS := hidD hS
            clear hS
            refine wpAnyH_ready (rs := [7]) (by kernel_rfl) (by simp) ?_
            refine AllReadyH.cons rfl (fun K hK => ?_) AllReadyH.nil
            refine wp_storeP26 b12 ⟨0, none, 0, 0⟩ ⟨l2, some ⟨g2, 0, none⟩, q.length, k2⟩ rfl rfl HA2.out rfl rfl ?_
            have hS : Below w1.heap.size w1 (S2 v5 b12 ⟨l2, some ⟨g2, 0, none⟩, q.length, k2⟩) := S2_low HS.out HLO2.out
            have HL1' := hidD (Lnt.S2 (y := ⟨l2, some ⟨g2, 0, none⟩, q.length, k2⟩) HL1.out (x := ⟨0, none, 0, 0⟩) HA2.out)
            have HL2' := hidD (Lnt.S2 (y := ⟨l2, some ⟨g2, 0, none⟩, q.length, k2⟩) HL2.out (x := ⟨0, none, 0, 0⟩) HA2.out)
            have HA1' := hidD (HA1.out.S2 (b := b12) NE.out ⟨l2, some ⟨g2, 0, none⟩, q.length, k2⟩)
            have HA2' := hidD (HA2.out.set2 (x := ⟨0, none, 0, 0⟩) ⟨l2, some ⟨g2, 0, none⟩, q.length, k2⟩)
            obtain ⟨v6, hvn⟩ : ∃ u, u = S2 v5 b12 ⟨l2, some ⟨g2, 0, none⟩, q.length, k2⟩ := ⟨_, rfl⟩
            rw [← hvn] at hS HL1' HL2' HA2' HA1' ⊢
            clear hvn
            refine hK.out _ _ hS (fun hHeld => ?_)
            clear hK K
            try simp only [Act.put, List.setIfInBounds_toArray, List.set_cons_zero, List.set_cons_succ]
            have HL1 := HL1'
            have HL2 := HL2'
            have HA2 := HA2'
            have HA1 := HA1'
            have HS := hidD hS
            clear hS
            refine wpAnyH_done (by kernel_rfl) ?_ _
            go_wp2_with fail
            go_meet
            exact ⟨b11, b12, g1, k1, g2, k2, rfl, rfl, HT.out.bel HS.out, HA1.out, HA2.out, HL1.out, HL2.out, below_aft HB.out HS.out⟩
        · go_simp
          go_wp2_with fail
          obtain ⟨b12, hb12⟩ : ∃ b, b = (v1).heap.size := ⟨_, rfl⟩
          rw [← hb12]
          obtain ⟨v2, hvn⟩ : ∃ u, u = (v1).alloc (plO 0 none 0 0) := ⟨_, rfl⟩
          show K _ ((v1).alloc (plO 0 none 0 0))
          rw [← hvn]
          have hbn : Below (v1).heap.size (v1) v2 := by rw [hvn]; exact belA (Below.refl _ _)
          have hS : Below w1.heap.size w1 v2 := below_aft HS.out hbn
          refine hK.out _ _ hS (fun hHeld => ?_)
          clear hK K
          try simp only [Act.put, List.setIfInBounds_toArray, List.set_cons_zero, List.set_cons_succ]
          have HL1 := hidD (HL1.out.bel hbn)
          have HA2 : Hid (At v2 b12 (plO 0 none 0 0)) := (by rw [hvn, hb12]; exact At.new _ _ : At v2 b12 (plO 0 none 0 0))
          have HLO2 : Hid (w1.heap.size ≤ b12) := (by have := (show Below w1.heap.size w1 (v1) from HS.out).size; omega : w1.heap.size ≤ b12)
          have HS := hidD hS
          clear hbn hS hvn hb12
          refine wpAnyH_ready (rs := [3, 4]) (by kernel_rfl) (by simp) ?_
          refine AllReadyH.cons rfl (fun K hK => ?_) (AllReadyH.cons rfl (fun K hK => ?_) AllReadyH.nil)
          · go_simp
            refine (D2.out _ (HT.out.bel HS.out) (below_aft HB.out HS.out)).mono ?_
            rintro e v3 ⟨g2, k2, rfl, hl, hbn⟩
            go_wp2_with fail
            have hS : Below w1.heap.size w1 v3 := below_aft HS.out hbn
            refine hK.out _ _ hS (fun hHeld => ?_)
            clear hK K
            try simp only [Act.put, List.setIfInBounds_toArray, List.set_cons_zero, List.set_cons_succ]
            have HL1 := hidD (HL1.out.bel hbn)
            have HA2 := hidD (HA2.out.below hbn)
            have HL2 := hidD hl
            have HS := hidD hS
            clear hl hbn hS
            refine wpAnyH_ready (rs := [4]) (by kernel_rfl) (by simp) ?_
            refine AllReadyH.cons rfl (fun K hK => ?_) AllReadyH.nil
            go_simp
            go_wp2_with fail
            obtain ⟨b11, hb11⟩ : ∃ b, b = (v3).heap.size := ⟨_, rfl⟩
            rw [← hb11]
            obtain ⟨v4, hvn⟩ : ∃ u, u = (v3).alloc (plO 0 none 0 0) := ⟨_, rfl⟩
            show K _ ((v3).alloc (plO 0 none 0 0))
            rw [← hvn]
            have hbn : Below (v3).heap.size (v3) v4 := by rw [hvn]; exact belA (Below.refl _ _)
            have hS : Below w1.heap.size w1 v4 := below_aft HS.out hbn
            refine hK.out _ _ hS (fun hHeld => ?_)
            clear hK K
            try simp only [Act.put, List.setIfInBounds_toArray, List.set_cons_zero, List.set_cons_succ]
            have NE : Hid (b11 ≠ b12) := (by have := HA2.out.lt; omega : b11 ≠ b12)
            have HL1 := hidD (HL1.out.bel hbn)
            have HL2 := hidD (HL2.out.bel hbn)
            have HA2 := hidD (HA2.out.below hbn)
            have HA1 : Hid (At v4 b11 (plO 0 none 0 0)) := (by rw [hvn, hb11]; exact At.new _ _ : At v4 b11 (plO 0 none 0 0))
            have HLO1 : Hid (w1.heap.size ≤ b11) := (by have := (show Below w1.heap.size w1 (v3) from HS.out).size; omega : w1.heap.size ≤ b11)
            have HS := hidD hS
            clear hbn hS hvn hb11
            refine wpAnyH_ready (rs := [6]) (by kernel_rfl) (by simp) ?_
            refine AllReadyH.cons rfl (fun K hK => ?_) AllReadyH.nil
            refine wp_storeP26 b11 ⟨0, none, 0, 0⟩ ⟨l, some ⟨g1, 0, none⟩, p.length, k1⟩ rfl rfl HA1.out rfl rfl ?_
            have hS : Below w1.heap.size w1 (S2 v4 b11 ⟨l, some ⟨g1, 0, none⟩, p.length, k1⟩) := S2_low HS.out HLO1.out
            have HL1' := hidD (Lnt.S2 (y := ⟨l, some ⟨g1, 0, none⟩, p.length, k1⟩) HL1.out (x := ⟨0, none, 0, 0⟩) HA1.out)
            have HL2' := hidD (Lnt.S2 (y := ⟨l, some ⟨g1, 0, none⟩, p.length, k1⟩) HL2.out (x := ⟨0, none, 0, 0⟩) HA1.out)
            have HA2' := hidD (HA2.out.S2 (b := b11) (fun e => NE.out e.symm) ⟨l, some ⟨g1, 0, none⟩, p.length, k1⟩)
            have HA1' := hidD (HA1.out.set2 (x := ⟨0, none, 0, 0⟩) ⟨l, some ⟨g1, 0, none⟩, p.length, k1⟩)
            obtain ⟨v5, hvn⟩ : ∃ u, u = S2 v4 b11 ⟨l, some ⟨g1, 0, none⟩, p.length, k1⟩ := ⟨_, rfl⟩
            rw [← hvn] at hS HL1' HL2' HA1' HA2' ⊢
            clear hvn
            refine hK.out _ _ hS (fun hHeld => ?_)
            clear hK K
            try simp only [Act.put, List.setIfInBounds_toArray, List.set_cons_zero, List.set_cons_succ]
            have HL1 := HL1'
            have HL2 := HL2'
            have HA1 := HA1'
            have HA2 := HA2'
            have HS := hidD hS
            clear hS
            refine wpAnyH_ready (rs := [7]) (by kernel_rfl) (by simp) ?_
            refine AllReadyH.cons rfl (fun K hK => ?_) AllReadyH.nil
            refine wp_storeP26 b12 ⟨0, none, 0, 0⟩ ⟨l2, some ⟨g2, 0, none⟩, q.length, k2⟩ rfl rfl HA2.out rfl rfl ?_
            have hS : Below w1.heap.size w1 (S2 v5 b12 ⟨l2, some ⟨g2, 0, none⟩, q.length, k2⟩) := S2_low HS.out HLO2.out
            have HL1' := hidD (Lnt.S2 (y := ⟨l2, some ⟨g2, 0, none⟩, q.length, k2⟩) HL1.out (x := ⟨0, none, 0, 0⟩) HA2.out)
            have HL2' := hidD (Lnt.S2 (y := ⟨l2, some ⟨g2, 0, none⟩, q.length, k2⟩) HL2.out (x := ⟨0, none, 0, 0⟩) HA2.out)
            have HA1' := hidD (HA1.out.S2 (b := b12) NE.out ⟨l2, some ⟨g2, 0, none⟩, q.length, k2⟩)
            have HA2' := hidD (HA2.out.set2 (x := ⟨0, none, 0, 0⟩) ⟨l2, some ⟨g2, 0, none⟩, q.length, k2⟩)
            obtain ⟨v6, hvn⟩ : ∃ u, u = S2 v5 b12 ⟨l2, some ⟨g2, 0, none⟩, q.length, k2⟩ := ⟨_, rfl⟩
            rw [← hvn] at hS HL1' HL2' HA2' HA1' ⊢
            clear hvn
            refine hK.out _ _ hS (fun hHeld => ?_)
            clear hK K
            try simp only [Act.put, List.setIfInBounds_toArray, List.set_cons_zero, List.set_cons_succ]
            have HL1 := HL1'
            have HL2 := HL2'
            have HA2 := HA2'
            have HA1 := HA1'
            have HS := hidD hS
            clear hS
            refine wpAnyH_done (by kernel_rfl) ?_ _
            go_wp2_with fail
            go_meet
            exact ⟨b11, b12, g1, k1, g2, k2, rfl, rfl, HT.out.bel HS.out, HA1.out, HA2.out, HL1.out, HL2.out, below_aft HB.out HS.out⟩
          · go_simp
            go_wp2_with fail
            obtain ⟨b11, hb11⟩ : ∃ b, b = (v2).heap.size := ⟨_, rfl⟩
            rw [← hb11]
            obtain ⟨v3, hvn⟩ : ∃ u, u = (v2).alloc (plO 0 none 0 0) := ⟨_, rfl⟩
            show K _ ((v2).alloc (plO 0 none 0 0))
            rw [← hvn]
            have hbn : Below (v2).heap.size (v2) v3 := by rw [hvn]; exact belA (Below.refl _ _)
            have hS : Below w1.heap.size w1 v3 := below_aft HS.out hbn
            refine hK.out _ _ hS (fun hHeld => ?_)
            clear hK K
            try simp only [Act.put, List.setIfInBounds_toArray, List.set_cons_zero, List.set_cons_succ]
            have NE : Hid (b11 ≠ b12) := (by have := HA2.out.lt; omega : b11 ≠ b12)
            have HL1 := hidD (HL1.out.bel hbn)
            have HA2 := hidD (HA2.out.below hbn)
            have HA1 : Hid (At v3 b11 (plO 0 none 0 0)) := (by rw [hvn, hb11]; exact At.new _ _ : At v3 b11 (plO 0 none 0 0))
            have HLO1 : Hid (w1.heap.size ≤ b11) := (by have := (show Below w1.heap.size w1 (v2) from HS.out).size; omega : w1.heap.size ≤ b11)
            have HS := hidD hS
            clear hbn hS hvn hb11
            refine wpAnyH_ready (rs := [3]) (by kernel_rfl) (by simp) ?_
            refine AllReadyH.cons rfl (fun K hK => ?_) AllReadyH.nil
            go_simp
            refine (D2.out _ (HT.out.bel HS.out) (below_aft HB.out HS.out)).mono ?_
            rintro e v4 ⟨g2, k2, rfl, hl, hbn⟩
            go_wp2_with fail
            have hS : Below w1.heap.size w1 v4 := below_aft HS.out hbn
            refine hK.out _ _ hS (fun hHeld => ?_)
            clear hK K
            try simp only [Act.put, List.setIfInBounds_toArray, List.set_cons_zero, List.set_cons_succ]
            have HL1 := hidD (HL1.out.bel hbn)
            have HA1 := hidD (HA1.out.below hbn)
            have HA2 := hidD (HA2.out.below hbn)
            have HL2 := hidD hl
            have HS := hidD hS
            clear hl hbn hS
            refine wpAnyH_ready (rs := [6]) (by kernel_rfl) (by simp) ?_
            refine AllReadyH.cons rfl (fun K hK => ?_) AllReadyH.nil
            refine wp_storeP26 b11 ⟨0, none, 0, 0⟩ ⟨l, some ⟨g1, 0, none⟩, p.length, k1⟩ rfl rfl HA1.out rfl rfl ?_
            have hS : Below w1.heap.size w1 (S2 v4 b11 ⟨l, some ⟨g1, 0, none⟩, p.length, k1⟩) := S2_low HS.out HLO1.out
            have HL1' := hidD (Lnt.S2 (y := ⟨l, some ⟨g1, 0, none⟩, p.length, k1⟩) HL1.out (x := ⟨0, none, 0, 0⟩) HA1.out)
            have HL2' := hidD (Lnt.S2 (y := ⟨l, some ⟨g1, 0, none⟩, p.length, k1⟩) HL2.out (x := ⟨0, none, 0, 0⟩) HA1.out)
            have HA2' := hidD (HA2.out.S2 (b := b11) (fun e => NE.out e.symm) ⟨l, some ⟨g1, 0, none⟩, p.length, k1⟩)
            have HA1' := hidD (HA1.out.set2 (x := ⟨0, none, 0, 0⟩) ⟨l, some ⟨g1, 0, none⟩, p.length, k1⟩)
            obtain ⟨v5, hvn⟩ : ∃ u, u = S2 v4 b11 ⟨l, some ⟨g1, 0, none⟩, p.length, k1⟩ := ⟨_, rfl⟩
            rw [← hvn] at hS HL1' HL2' HA1' HA2' ⊢
            clear hvn
            refine hK.out _ _ hS (fun hHeld => ?_)
            clear hK K
            try simp only [Act.put, List.setIfInBounds_toArray, List.set_cons_zero, List.set_cons_succ]
            have HL1 := HL1'
            have HL2 := HL2'
            have HA1 := HA1'
            have HA2 := HA2'
            have HS := hidD hS
            clear hS
            refine wpAnyH_ready (rs := [7]) (by kernel_rfl) (by simp) ?_
            refine AllReadyH.cons rfl (fun K hK => ?_) AllReadyH.nil
            refine wp_storeP26 b12 ⟨0, none, 0, 0⟩ ⟨l2, some ⟨g2, 0, none⟩, q.length, k2⟩ rfl rfl HA2.out rfl rfl ?_
            have hS : Below w1.heap.size w1 (S2 v5 b12 ⟨l2, some ⟨g2, 0, none⟩, q.length, k2⟩) := S2_low HS.out HLO2.out
            have HL1' := hidD (Lnt.S2 (y := ⟨l2, some ⟨g2, 0, none⟩, q.length, k2⟩) HL1.out (x := ⟨0, none, 0, 0⟩) HA2.out)
            have HL2' := hidD (Lnt.S2 (y := ⟨l2, some ⟨g2, 0, none⟩, q.length, k2⟩) HL2.out (x := ⟨0, none, 0, 0⟩) HA2.out)
            have HA1' := hidD (HA1.out.S2 (b := b12) NE.out ⟨l2, some ⟨g2, 0, none⟩, q.length, k2⟩)
            have HA2' := hidD (HA2.out.set2 (x := ⟨0, none, 0, 0⟩) ⟨l2, some ⟨g2, 0, none⟩, q.length, k2⟩)
            obtain ⟨v6, hvn⟩ : ∃ u, u = S2 v5 b12 ⟨l2, some ⟨g2, 0, none⟩, q.length, k2⟩ := ⟨_, rfl⟩
            rw [← hvn] at hS HL1' HL2' HA2' HA1' ⊢
            clear hvn
            refine hK.out _ _ hS (fun hHeld => ?_)
            clear hK K
            try simp only [Act.put, List.setIfInBounds_toArray, List.set_cons_zero, List.set_cons_succ]
            have HL1 := HL1'
            have HL2 := HL2'
            have HA2 := HA2'
            have HA1 := HA1'
            have HS := hidD hS
            clear hS
            refine wpAnyH_done (by kernel_rfl) ?_ _
            go_wp2_with fail
            go_meet
            exact ⟨b11, b12, g1, k1, g2, k2, rfl, rfl, HT.out.bel HS.out, HA1.out, HA2.out, HL1.out, HL2.out, below_aft HB.out HS.out⟩
      · go_simp
        go_wp2_with fail
        obtain ⟨b11, hb11⟩ : ∃ b, b = (w1.drew).heap.size := ⟨_, rfl⟩
        have hb11' : b11 = w1.heap.size := hb11
        rw [← hb11']
        obtain ⟨v1, hvn⟩ : ∃ u, u = (w1.drew).alloc (plO 0 none 0 0) := ⟨_, rfl⟩
        show K _ ((w1.drew).alloc (plO 0 none 0 0))
        rw [← hvn]
        have hbn : Below (w1.drew).heap.size (w1.drew) v1 := by rw [hvn]; exact belA (Below.refl _ _)
        have hS : Below w1.heap.size w1 v1 := below_aft (belN (Below.refl _ _) 1) hbn
        refine hK.out _ _ hS (fun hHeld => ?_)
        clear hK K
        try simp only [Act.put, List.setIfInBounds_toArray, List.set_cons_zero, List.set_cons_succ]
        have HA1 : Hid (At v1 b11 (plO 0 none 0 0)) := (by rw [hvn, hb11]; exact At.new _ _ : At v1 b11 (plO 0 none 0 0))
        have HLO1 : Hid (w1.heap.size ≤ b11) := (by have := (show Below w1.heap.size w1 (w1.drew) from (belN (Below.refl _ _) 1)).size; omega : w1.heap.size ≤ b11)
        have HS := hidD hS
        clear hbn hS hvn hb11 hb11'
        refine wpAnyH_ready (rs := [1, 5]) (by kernel_rfl) (by simp) ?_
        refine AllReadyH.cons rfl (fun K hK => ?_) (AllReadyH.cons rfl (fun K hK => ?_) AllReadyH.nil)
        · go_simp
          refine (D1.out _ (HT.out.bel HS.out) (below_aft HB.out HS.out)).mono ?_
          rintro e v2 ⟨g1, k1, rfl, hl, hbn⟩
          go_wp2_with fail
          have hS : Below w1.heap.size w1 v2 := below_aft HS.out hbn
          refine hK.out _ _ hS (fun hHeld => ?_)
          clear hK K
          try simp only [Act.put, List.setIfInBounds_toArray, List.set_cons_zero, List.set_cons_succ]
          have HA1 := hidD (HA1.out.below hbn)
          have HL1 := hidD hl
          have HS := hidD hS
          clear hl hbn hS
          refine wpAnyH_ready (rs := [3, 5]) (by kernel_rfl) (by simp) ?_
          refine AllReadyH.cons rfl (fun K hK => ?_) (AllReadyH.cons rfl (fun K hK => ?_) AllReadyH.nil)
          · go_simp
            refine (D2.out _ (HT.out.bel HS.out) (below_aft HB.out HS.out)).mono ?_
            rintro e v3 ⟨g2, k2, rfl, hl, hbn⟩
            go_wp2_with fail
            have hS : Below w1.heap.size w1 v3 := below_aft HS.out hbn
            refine hK.out _ _ hS (fun hHeld => ?_)
            clear hK K
            try simp only [Act.put, List.setIfInBounds_toArray, List.set_cons_zero, List.set_cons_succ]
            have HL1 := hidD (HL1.out.bel hbn)
            have HA1 := hidD (HA1.out.below hbn)
            have HL2 := hidD hl
            have HS := hidD hS
            clear hl hbn hS
            refine wpAnyH_ready (rs := [5]) (by kernel_rfl) (by simp) ?_
            refine AllReadyH.cons rfl (fun K hK => ?_) AllReadyH.nil
            go_simp
            go_wp2_with fail
            obtain ⟨b12, hb12⟩ : ∃ b, b = (v3).heap.size := ⟨_, rfl⟩
            rw [← hb12]
            obtain ⟨v4, hvn⟩ : ∃ u, u = (v3).alloc (plO 0 none 0 0) := ⟨_, rfl⟩
            show K _ ((v3).alloc (plO 0 none 0 0))
            rw [← hvn]
            have hbn : Below (v3).heap.size (v3) v4 := by rw [hvn]; exact belA (Below.refl _ _)
            have hS : Below w1.heap.size w1 v4 := below_aft HS.out hbn
            refine hK.out _ _ hS (fun hHeld => ?_)
            clear hK K
            try simp only [Act.put, List.setIfInBounds_toArray, List.set_cons_zero, List.set_cons_succ]
            have NE : Hid (b11 ≠ b12) := (by have := HA1.out.lt; omega : b11 ≠ b12)
            have HL1 := hidD (HL1.out.bel hbn)
            have HL2 := hidD (HL2.out.bel hbn)
            have HA1 := hidD (HA1.out.below hbn)
            have HA2 : Hid (At v4 b12 (plO 0 none 0 0)) := (by rw [hvn, hb12]; exact At.new _ _ : At v4 b12 (plO 0 none 0 0))
            have HLO2 : Hid (w1.heap.size ≤ b12) := (by have := (show Below w1.heap.size w1 (v3) from HS.out).size; omega : w1.heap.size ≤ b12)
            have HS := hidD hS
            clear hbn hS hvn hb12
            refine wpAnyH_ready (rs := [6]) (by kernel_rfl) (by simp) ?_
            refine AllReadyH.cons rfl (fun K hK => ?_) AllReadyH.nil
            refine wp_storeP26 b11 ⟨0, none, 0, 0⟩ ⟨l, some ⟨g1, 0, none⟩, p.length, k1⟩ rfl rfl HA1.out rfl rfl ?_
            have hS : Below w1.heap.size w1 (S2 v4 b11 ⟨l, some ⟨g1, 0, none⟩, p.length, k1⟩) := S2_low HS.out HLO1.out
            have HL1' := hidD (Lnt.S2 (y := ⟨l, some ⟨g1, 0, none⟩, p.length, k1⟩) HL1.out (x := ⟨0, none, 0, 0⟩) HA1.out)
            have HL2' := hidD (Lnt.S2 (y := ⟨l, some ⟨g1, 0, none⟩, p.length, k1⟩) HL2.out (x := ⟨0, none, 0, 0⟩) HA1.out)
            have HA2' := hidD (HA2.out.S2 (b := b11) (fun e => NE.out e.symm) ⟨l, some ⟨g1, 0, none⟩, p.length, k1⟩)
            have HA1' := hidD (HA1.out.set2 (x := ⟨0, none, 0, 0⟩) ⟨l, some ⟨g1, 0, none⟩, p.length, k1⟩)
            obtain ⟨v5, hvn⟩ : ∃ u, u = S2 v4 b11 ⟨l, some ⟨g1, 0, none⟩, p.length, k1⟩ := ⟨_, rfl⟩
            rw [← hvn] at hS HL1' HL2' HA1' HA2' ⊢
            clear hvn
            refine hK.out _ _ hS (fun hHeld => ?_)
            clear hK K
            try simp only [Act.put, List.setIfInBounds_toArray, List.set_cons_zero, List.set_cons_succ]
            have HL1 := HL1'
            have HL2 := HL2'
            have HA1 := HA1'
            have HA2 := HA2'
            have HS := hidD hS
            clear hS
            refine wpAnyH_ready (rs := [7]) (by kernel_rfl) (by simp) ?_
            refine AllReadyH.cons rfl (fun K hK => ?_) AllReadyH.nil
            refine wp_storeP26 b12 ⟨0, none, 0, 0⟩ ⟨l2, some ⟨g2, 0, none⟩, q.length, k2⟩ rfl rfl HA2.out rfl rfl ?_
            have hS : Below w1.heap.size w1 (S2 v5 b12 ⟨l2, some ⟨g2, 0, none⟩, q.length, k2⟩) := S2_low HS.out HLO2.out
            have HL1' := hidD (Lnt.S2 (y := ⟨l2, some ⟨g2, 0, none⟩, q.length, k2⟩) HL1.out (x := ⟨0, none, 0, 0⟩) HA2.out)
            have HL2' := hidD (Lnt.S2 (y := ⟨l2, some ⟨g2, 0, none⟩, q.length, k2⟩) HL2.out (x := ⟨0, none, 0, 0⟩) HA2.out)
            have HA1' := hidD (HA1.out.S2 (b := b12) NE.out ⟨l2, some ⟨g2, 0, none⟩, q.length, k2⟩)
            have HA2' := hidD (HA2.out.set2 (x := ⟨0, none, 0, 0⟩) ⟨l2, some ⟨g2, 0, none⟩, q.length, k2⟩)
            obtain ⟨v6, hvn⟩ : ∃ u, u = S2 v5 b12 ⟨l2, some ⟨g2, 0, none⟩, q.length, k2⟩ := ⟨_, rfl⟩
            rw [← hvn] at hS HL1' HL2' HA2' HA1' ⊢
            clear hvn
            refine hK.out _ _ hS (fun hHeld => ?_)
            clear hK K
            try simp only [Act.put, List.setIfInBounds_toArray, List.set_cons_zero, List.set_cons_succ]
            have HL1 := HL1'
            have HL2 := HL2'
            have HA2 := HA2'
            have HA1 := HA1'
            have HS := hidD hS
            clear hS
            refine wpAnyH_done (by kernel_rfl) ?_ _
            go_wp2_with fail
            go_meet
            exact ⟨b11, b12, g1, k1, g2, k2, rfl, rfl, HT.out.bel HS.out, HA1.out, HA2.out, HL1.out, HL2.out, below_aft HB.out HS.out⟩
          · go_simp
            go_wp2_with fail
            obtain ⟨b12, hb12⟩ : ∃ b, b = (v2).heap.size := ⟨_, rfl⟩
            rw [← hb12]
            obtain ⟨v3, hvn⟩ : ∃ u, u = (v2).alloc (plO 0 none 0 0) := ⟨_, rfl⟩
            show K _ ((v2).alloc (plO 0 none 0 0))
            rw [← hvn]
            have hbn : Below (v2).heap.size (v2) v3 := by rw [hvn]; exact belA (Below.refl _ _)
            have hS : Below w1.heap.size w1 v3 := below_aft HS.out hbn
            refine hK.out _ _ hS (fun hHeld => ?_)
            clear hK K
            try simp only [Act.put, List.setIfInBounds_toArray, List.set_cons_zero, List.set_cons_succ]
            have NE : Hid (b11 ≠ b12) := (by have := HA1.out.lt; omega : b11 ≠ b12)
            have HL1 := hidD (HL1.out.bel hbn)
            have HA1 := hidD (HA1.out.below hbn)
            have HA2 : Hid (At v3 b12 (plO 0 none 0 0)) := (by rw [hvn, hb12]; exact At.new _ _ : At v3 b12 (plO 0 none 0 0))
            have HLO2 : Hid (w1.heap.size ≤ b12) := (by have := (show Below w1.heap.size w1 (v2) from HS.out).size; omega : w1.heap.size ≤ b12)
            have HS := hidD hS
            clear hbn hS hvn hb12
            refine wpAnyH_ready (rs := [3]) (by kernel_rfl) (by simp) ?_
            refine AllReadyH.cons rfl (fun K hK => ?_) AllReadyH.nil
            go_simp
            refine (D2.out _ (HT.out.bel HS.out) (below_aft HB.out HS.out)).mono ?_
            rintro e v4 ⟨g2, k2, rfl, hl, hbn⟩
            go_wp2_with fail
            have hS : Below w1.heap.size w1 v4 := below_aft HS.out hbn
            refine hK.out _ _ hS (fun hHeld => ?_)
            clear hK K
            try simp only [Act.put, List.setIfInBounds_toArray, List.set_cons_zero, List.set_cons_succ]
            have HL1 := hidD (HL1.out.bel hbn)
            have HA1 := hidD (HA1.out.below hbn)
            have HA2 := hidD (HA2.out.below hbn)
            have HL2 := hidD hl
            have HS := hidD hS
            clear hl hbn hS
            refine wpAnyH_ready (rs := [6]) (by kernel_rfl) (by simp) ?_
            refine AllReadyH.cons rfl (fun K hK => ?_) AllReadyH.nil
            refine wp_storeP26 b11 ⟨0, none, 0, 0⟩ ⟨l, some ⟨g1, 0, none⟩, p.length, k1⟩ rfl rfl HA1.out rfl rfl ?_
            have hS : Below w1.heap.size w1 (S2 v4 b11 ⟨l, some ⟨g1, 0, none⟩, p.length, k1⟩) := S2_low HS.out HLO1.out
            have HL1' := hidD (Lnt.S2 (y := ⟨l, some ⟨g1, 0, none⟩, p.length, k1⟩) HL1.out (x := ⟨0, none, 0, 0⟩) HA1.out)
            have HL2' := hidD (Lnt.S2 (y := ⟨l, some ⟨g1, 0, none⟩, p.length, k1⟩) HL2.out (x := ⟨0, none, 0, 0⟩) HA1.out)
            have HA2' := hidD (HA2.out.S2 (b := b11) (fun e => NE.out e.symm) ⟨l, some ⟨g1, 0, none⟩, p.length, k1⟩)
            have HA1' := hidD (HA1.out.set2 (x := ⟨0, none, 0, 0⟩) ⟨l, some ⟨g1, 0, none⟩, p.length, k1⟩)
            obtain ⟨v5, hvn⟩ : ∃ u, u = S2 v4 b11 ⟨l, some ⟨g1, 0, none⟩, p.length, k1⟩ := ⟨_, rfl⟩
            rw [← hvn] at hS HL1' HL2' HA1' HA2' ⊢
            clear hvn
            refine hK.out _ _ hS (fun hHeld => ?_)
            clear hK K
            try simp only [Act.put, List.setIfInBounds_toArray, List.set_cons_zero, List.set_cons_succ]
            have HL1 := HL1'
            have HL2 := HL2'
            have HA1 := HA1'
            have HA2 := HA2'
            have HS := hidD hS
            clear hS
            refine wpAnyH_ready (rs := [7]) (by kernel_rfl) (by simp) ?_
            refine AllReadyH.cons rfl (fun K hK => ?_) AllReadyH.nil
            refine wp_storeP26 b12 ⟨0, none, 0, 0⟩ ⟨l2, some ⟨g2, 0, none⟩, q.length, k2⟩ rfl rfl HA2.out rfl rfl ?_
            have hS : Below w1.heap.size w1 (S2 v5 b12 ⟨l2, some ⟨g2, 0, none⟩, q.length, k2⟩) := S2_low HS.out HLO2.out
            have HL1' := hidD (Lnt.S2 (y := ⟨l2, some ⟨g2, 0, none⟩, q.length, k2⟩) HL1.out (x := ⟨0, none, 0, 0⟩) HA2.out)
            have HL2' := hidD (Lnt.S2 (y := ⟨l2, some ⟨g2, 0, none⟩, q.length, k2⟩) HL2.out (x := ⟨0, none, 0, 0⟩) HA2.out)
            have HA1' := hidD (HA1.out.S2 (b := b12) NE.out ⟨l2, some ⟨g2, 0, none⟩, q.length, k2⟩)
            have HA2' := hidD (HA2.out.set2 (x := ⟨0, none, 0, 0⟩) ⟨l2, some ⟨g2, 0, none⟩, q.length, k2⟩)
            obtain ⟨v6, hvn⟩ : ∃ u, u = S2 v5 b12 ⟨l2, some ⟨g2, 0, none⟩, q.length, k2⟩ := ⟨_, rfl⟩
            rw [← hvn] at hS HL1' HL2' HA2' HA1' ⊢
            clear hvn
            refine hK.out _ _ hS (fun hHeld => ?_)
            clear hK K
            try simp only [Act.put, List.setIfInBounds_toArray, List.set_cons_zero, List.set_cons_succ]
            have HL1 := HL1'
            have HL2 := HL2'
            have HA2 := HA2'
            have HA1 := HA1'
            have HS := hidD hS
            clear hS
            refine wpAnyH_done (by kernel_rfl) ?_ _
            go_wp2_with fail
            go_meet
            exact ⟨b11, b12, g1, k1, g2, k2, rfl, rfl, HT.out.bel HS.out, HA1.out, HA2.out, HL1.out, HL2.out, below_aft HB.out HS.out⟩
        · go_simp
          go_wp2_with fail
          obtain ⟨b12, hb12⟩ : ∃ b, b = (v1).heap.size := ⟨_, rfl⟩
          rw [← hb12]
          obtain ⟨v2, hvn⟩ : ∃ u, u = (v1).alloc (plO 0 none 0 0) := ⟨_, rfl⟩
          show K _ ((v1).alloc (plO 0 none 0 0))
          rw [← hvn]
          have hbn : Below (v1).heap.size (v1) v2 := by rw [hvn]; exact belA (Below.refl _ _)
          have hS : Below w1.heap.size w1 v2 := below_aft HS.out hbn
          refine hK.out _ _ hS (fun hHeld => ?_)
          clear hK K
          try simp only [Act.put, List.setIfInBounds_toArray, List.set_cons_zero, List.set_cons_succ]
          have NE : Hid (b11 ≠ b12) := (by have := HA1.out.lt; omega : b11 ≠ b12)
          have HA1 := hidD (HA1.out.below hbn)
          have HA2 : Hid (At v2 b12 (plO 0 none 0 0)) := (by rw [hvn, hb12]; exact At.new _ _ : At v2 b12 (plO 0 none 0 0))
          have HLO2 : Hid (w1.heap.size ≤ b12) := (by have := (show Below w1.heap.size w1 (v1) from HS.out).size; omega : w1.heap.size ≤ b12)
          have HS := hidD hS
          clear hbn hS hvn hb12
          refine wpAnyH_ready (rs := [1]) (by kernel_rfl) (by simp) ?_
          refine AllReadyH.cons rfl (fun K hK => ?_) AllReadyH.nil
          go_simp
          refine (D1.out _ (HT.out.bel HS.out) (below_aft HB.out HS.out)).mono ?_
          rintro e v3 ⟨g1, k1, rfl, hl, hbn⟩
          go_wp2_with fail
          have hS : Below w1.heap.size w1 v3 := below_aft HS.out hbn
          refine hK.out _ _ hS (fun hHeld => ?_)
          clear hK K
          try simp only [Act.put, List.setIfInBounds_toArray, List.set_cons_zero, List.set_cons_succ]
          have HA1 := hidD (HA1.out.below hbn)
          have HA2 := hidD (HA2.out.below hbn)
          have HL1 := hidD hl
          have HS := hidD hS
          clear hl hbn hS
          refine wpAnyH_ready (rs := [3]) (by kernel_rfl) (by simp) ?_
          refine AllReadyH.cons rfl (fun K hK => ?_) AllReadyH.nil
          go_simp
          refine (D2.out _ (HT.out.bel HS.out) (below_aft HB.out HS.out)).mono ?_
          rintro e v4 ⟨g2, k2, rfl, hl, hbn⟩
          go_wp2_with fail
          have hS : Below w1.heap.size w1 v4 := below_aft HS.out hbn
          refine hK.out _ _ hS (fun hHeld => ?_)
          clear hK K
          try simp only [Act.put, List.setIfInBounds_toArray, List.set_cons_zero, List.set_cons_succ]
          have HL1 := hidD (HL1.out.bel hbn)
          have HA1 := hidD (HA1.out.below hbn)
          have HA2 := hidD (HA2.out.below hbn)
          have HL2 := hidD hl
          have HS := hidD hS
          clear hl hbn hS
          refine wpAnyH_ready (rs := [6]) (by kernel_rfl) (by simp) ?_
          refine AllReadyH.cons rfl (fun K hK => ?_) AllReadyH.nil
          refine wp_storeP26 b11 ⟨0, none, 0, 0⟩ ⟨l, some ⟨g1, 0, none⟩, p.length, k1⟩ rfl rfl HA1.out rfl rfl ?_
          have hS : Below w1.heap.size w1 (S2 v4 b11 ⟨l, some ⟨g1, 0, none⟩, p.length, k1⟩) := S2_low HS.out HLO1.out
          have HL1' := hidD (Lnt.S2 (y := ⟨l, some ⟨g1, 0, none⟩, p.length, k1⟩) HL1.out (x := ⟨0, none, 0, 0⟩) HA1.out)
          have HL2' := hidD (Lnt.S2 (y := ⟨l, some ⟨g1, 0, none⟩, p.length, k1⟩) HL2.out (x := ⟨0, none, 0, 0⟩) HA1.out)
          have HA2' := hidD (HA2.out.S2 (b := b11) (fun e => NE.out e.symm) ⟨l, some ⟨g1, 0, none⟩, p.length, k1⟩)
          have HA1' := hidD (HA1.out.set2 (x := ⟨0, none, 0, 0⟩) ⟨l, some ⟨g1, 0, none⟩, p.length, k1⟩)
          obtain ⟨v5, hvn⟩ : ∃ u, u = S2 v4 b11 ⟨l, some ⟨g1, 0, none⟩, p.length, k1⟩ := ⟨_, rfl⟩
          rw [← hvn] at hS HL1' HL2' HA1' HA2' ⊢
          clear hvn
          refine hK.out _ _ hS (fun hHeld => ?_)
          clear hK K
          try simp only [Act.put, List.setIfInBounds_toArray, List.set_cons_zero, List.set_cons_succ]
          have HL1 := HL1'
          have HL2 := HL2'
          have HA1 := HA1'
          have HA2 := HA2'
          have HS := hidD hS
          clear hS
          refine wpAnyH_ready (rs := [7]) (by kernel_rfl) (by simp) ?_
          refine AllReadyH.cons rfl (fun K hK => ?_) AllReadyH.nil
          refine wp_storeP26 b12 ⟨0, none, 0, 0⟩ ⟨l2, some ⟨g2, 0, none⟩, q.length, k2⟩ rfl rfl HA2.out rfl rfl ?_
          have hS : Below w1.heap.size w1 (S2 v5 b12 ⟨l2, some ⟨g2, 0, none⟩, q.length, k2⟩) := S2_low HS.out HLO2.out
          have HL1' := hidD (Lnt.S2 (y := ⟨l2, some ⟨g2, 0, none⟩, q.length, k2⟩) HL1.out (x := ⟨0, none, 0, 0⟩) HA2.out)
          have HL2' := hidD (Lnt.S2 (y := ⟨l2, some ⟨g2, 0, none⟩, q.length, k2⟩) HL2.out (x := ⟨0, none, 0, 0⟩) HA2.out)
          have HA1' := hidD (HA1.out.S2 (b := b12) NE.out ⟨l2, some ⟨g2, 0, none⟩, q.length, k2⟩)
          have HA2' := hidD (HA2.out.set2 (x := ⟨0, none, 0, 0⟩) ⟨l2, some ⟨g2, 0, none⟩, q.length, k2⟩)
          obtain ⟨v6, hvn⟩ : ∃ u, u = S2 v5 b12 ⟨l2, some ⟨g2, 0, none⟩, q.length, k2⟩ := ⟨_, rfl⟩
          rw [← hvn] at hS HL1' HL2' HA2' HA1' ⊢
          clear hvn
          refine hK.out _ _ hS (fun hHeld => ?_)
          clear hK K
          try simp only [Act.put, List.setIfInBounds_toArray, List.set_cons_zero, List.set_cons_succ]
          have HL1 := HL1'
          have HL2 := HL2'
          have HA2 := HA2'
          have HA1 := HA1'
          have HS := hidD hS
          clear hS
          refine wpAnyH_done (by kernel_rfl) ?_ _
          go_wp2_with fail
          go_meet
          exact ⟨b11, b12, g1, k1, g2, k2, rfl, rfl, HT.out.bel HS.out, HA1.out, HA2.out, HL1.out, HL2.out, below_aft HB.out HS.out⟩
      · go_simp
        go_wp2_with fail
        obtain ⟨b12, hb12⟩ : ∃ b, b = (w1.drew).heap.size := ⟨_, rfl⟩
        have hb12' : b12 = w1.heap.size := hb12
        rw [← hb12']
        obtain ⟨v1, hvn⟩ : ∃ u, u = (w1.drew).alloc (plO 0 none 0 0) := ⟨_, rfl⟩
        show K _ ((w1.drew).alloc (plO 0 none 0 0))
        rw [← hvn]
        have hbn : Below (w1.drew).heap.size (w1.drew) v1 := by rw [hvn]; exact belA (Below.refl _ _)
        have hS : Below w1.heap.size w1 v1 := below_aft (belN (Below.refl _ _) 1) hbn
        refine hK.out _ _ hS (fun hHeld => ?_)
        clear hK K
        try simp only [Act.put, List.setIfInBounds_toArray, List.set_cons_zero, List.set_cons_succ]
        have HA2 : Hid (At v1 b12 (plO 0 none 0 0)) := (by rw [hvn, hb12]; exact At.new _ _ : At v1 b12 (plO 0 none 0 0))
        have HLO2 : Hid (w1.heap.size ≤ b12) := (by have := (show Below w1.heap.size w1 (w1.drew) from (belN (Below.refl _ _) 1)).size; omega : w1.heap.size ≤ b12)
        have HS := hidD hS
        clear hbn hS hvn hb12 hb12'
        refine wpAnyH_ready (rs := [1, 4]) (by kernel_rfl) (by simp) ?_
        refine AllReadyH.cons rfl (fun K hK => ?_) (AllReadyH.cons rfl (fun K hK => ?_) AllReadyH.nil)
        · go_simp
          refine (D1.out _ (HT.out.bel HS.out) (below_aft HB.out HS.out)).mono ?_
          rintro e v2 ⟨g1, k1, rfl, hl, hbn⟩
          go_wp2_with fail
          have hS : Below w1.heap.size w1 v2 := below_aft HS.out hbn
          refine hK.out _ _ hS (fun hHeld => ?_)
          clear hK K
          try simp only [Act.put, List.setIfInBounds_toArray, List.set_cons_zero, List.set_cons_succ]
          have HA2 := hidD (HA2.out.below hbn)
          have HL1 := hidD hl
          have HS := hidD hS
          clear hl hbn hS
          refine wpAnyH_ready (rs := [3, 4]) (by kernel_rfl) (by simp) ?_
          refine AllReadyH.cons rfl (fun K hK => ?_) (AllReadyH.cons rfl (fun K hK => ?_) AllReadyH.nil)
          · go_simp
            refine (D2.out _ (HT.out.bel HS.out) (below_aft HB.out HS.out)).mono ?_
            rintro e v3 ⟨g2, k2, rfl, hl, hbn⟩
            go_wp2_with fail
            have hS : Below w1.heap.size w1 v3 := below_aft HS.out hbn
            refine hK.out _ _ hS (fun hHeld => ?_)
            clear hK K
            try simp only [Act.put, List.setIfInBounds_toArray, List.set_cons_zero, List.set_cons_succ]
            have HL1 := hidD (HL1.out.bel hbn)
            have HA2 := hidD (HA2.out.below hbn)
            have HL2 := hidD hl
            have HS := hidD hS
            clear hl hbn hS
            refine wpAnyH_ready (rs := [4]) (by kernel_rfl) (by simp) ?_
            refine AllReadyH.cons rfl (fun K hK => ?_) AllReadyH.nil
            go_simp
            go_wp2_with fail
            obtain ⟨b11, hb11⟩ : ∃ b, b = (v3).heap.size := ⟨_, rfl⟩
            rw [← hb11]
            obtain ⟨v4, hvn⟩ : ∃ u, u = (v3).alloc (plO 0 none 0 0) := ⟨_, rfl⟩
            show K _ ((v3).alloc (plO 0 none 0 0))
            rw [← hvn]
            have hbn : Below (v3).heap.size (v3) v4 := by rw [hvn]; exact belA (Below.refl _ _)
            have hS : Below w1.heap.size w1 v4 := below_aft HS.out hbn
            refine hK.out _ _ hS (fun hHeld => ?_)
            clear hK K
            try simp only [Act.put, List.setIfInBounds_toArray, List.set_cons_zero, List.set_cons_succ]
            have NE : Hid (b11 ≠ b12) := (by have := HA2.out.lt; omega : b11 ≠ b12)
            have HL1 := hidD (HL1.out.bel hbn)
            have HL2 := hidD (HL2.out.bel hbn)
            have HA2 := hidD (HA2.out.below hbn)
            have HA1 : Hid (At v4 b11 (plO 0 none 0 0)) := (by rw [hvn, hb11]; exact At.new _ _ : At v4 b11 (plO 0 none 0 0))
            have HLO1 : Hid (w1.heap.size ≤ b11) := (by have := (show Below w1.heap.size w1 (v3) from HS.out).size; omega : w1.heap.size ≤ b11)
            have HS := hidD hS
            clear hbn hS hvn hb11
            refine wpAnyH_ready (rs := [6]) (by kernel_rfl) (by simp) ?_
            refine AllReadyH.cons rfl (fun K hK => ?_) AllReadyH.nil
            refine wp_storeP26 b11 ⟨0, none, 0, 0⟩ ⟨l, some ⟨g1, 0, none⟩, p.length, k1⟩ rfl rfl HA1.out rfl rfl ?_
            have hS : Below w1.heap.size w1 (S2 v4 b11 ⟨l, some ⟨g1, 0, none⟩, p.length, k1⟩) := S2_low HS.out HLO1.out
            have HL1' := hidD (Lnt.S2 (y := ⟨l, some ⟨g1, 0, none⟩, p.length, k1⟩) HL1.out (x := ⟨0, none, 0, 0⟩) HA1.out)
            have HL2' := hidD (Lnt.S2 (y := ⟨l, some ⟨g1, 0, none⟩, p.length, k1⟩) HL2.out (x := ⟨0, none, 0, 0⟩) HA1.out)
            have HA2' := hidD (HA2.out.S2 (b := b11) (fun e => NE.out e.symm) ⟨l, some ⟨g1, 0, none⟩, p.length, k1⟩)
            have HA1' := hidD (HA1.out.set2 (x := ⟨0, none, 0, 0⟩) ⟨l, some ⟨g1, 0, none⟩, p.length, k1⟩)
            obtain ⟨v5, hvn⟩ : ∃ u, u = S2 v4 b11 ⟨l, some ⟨g1, 0, none⟩, p.length, k1⟩ := ⟨_, rfl⟩
            rw [← hvn] at hS HL1' HL2' HA1' HA2' ⊢
            clear hvn
            refine hK.out _ _ hS (fun hHeld => ?_)
            clear hK K
            try simp only [Act.put, List.setIfInBounds_toArray, List.set_cons_zero, List.set_cons_succ]
            have HL1 := HL1'
            have HL2 := HL2'
            have HA1 := HA1'
            have HA2 := HA2'
            have HS := hidD hS
            clear hS
            refine wpAnyH_ready (rs := [7]) (by kernel_rfl) (by simp) ?_
            refine AllReadyH.cons rfl (fun K hK => ?_) AllReadyH.nil
            refine wp_storeP26 b12 ⟨0, none, 0, 0⟩ ⟨l2, some ⟨g2, 0, none⟩, q.length, k2⟩ rfl rfl HA2.out rfl rfl ?_
            have hS : Below w1.heap.size w1 (S2 v5 b12 ⟨l2, some ⟨g2, 0, none⟩, q.length, k2⟩) := S2_low HS.out HLO2.out
            have HL1' := hidD (Lnt.S2 (y := ⟨l2, some ⟨g2, 0, none⟩, q.length, k2⟩) HL1.out (x := ⟨0, none, 0, 0⟩) HA2.out)
            have HL2' := hidD (Lnt.S2 (y := ⟨l2, some ⟨g2, 0, none⟩, q.length, k2⟩) HL2.out (x := ⟨0, none, 0, 0⟩) HA2.out)
            have HA1' := hidD (HA1.out.S2 (b := b12) NE.out ⟨l2, some ⟨g2, 0, none⟩, q.length, k2⟩)
            have HA2' := hidD (HA2.out.set2 (x := ⟨0, none, 0, 0⟩) ⟨l2, some ⟨g2, 0, none⟩, q.length, k2⟩)
            obtain ⟨v6, hvn⟩ : ∃ u, u = S2 v5 b12 ⟨l2, some ⟨g2, 0, none⟩, q.length, k2⟩ := ⟨_, rfl⟩
            rw [← hvn] at hS HL1' HL2' HA2' HA1' ⊢
            clear hvn
            refine hK.out _ _ hS (fun hHeld => ?_)
            clear hK K
            try simp only [Act.put, List.setIfInBounds_toArray, List.set_cons_zero, List.set_cons_succ]
            have HL1 := HL1'
            have HL2 := HL2'
            have HA2 := HA2'
            have HA1 := HA1'
            have HS := hidD hS
            clear hS
            refine wpAnyH_done (by kernel_rfl) ?_ _
            go_wp2_with fail
            go_meet
            exact ⟨b11, b12, g1, k1, g2, k2, rfl, rfl, HT.out.bel HS.out, HA1.out, HA2.out, HL1.out, HL2.out, below_aft HB.out HS.out⟩
          · go_simp
            go_wp2_with fail
            obtain ⟨b11, hb11⟩ : ∃ b, b = (v2).heap.size := ⟨_, rfl⟩
            rw [← hb11]
            obtain ⟨v3, hvn⟩ : ∃ u, u = (v2).alloc (plO 0 none 0 0) := ⟨_, rfl⟩
            show K _ ((v2).alloc (plO 0 none 0 0))
            rw [← hvn]
            have hbn : Below (v2).heap.size (v2) v3 := by rw [hvn]; exact belA (Below.refl _ _)
            have hS : Below w1.heap.size w1 v3 := below_aft HS.out hbn
            refine hK.out _ _ hS (fun hHeld => ?_)
            clear hK K
            try simp only [Act.put, List.setIfInBounds_toArray, List.set_cons_zero, List.set_cons_succ]
            have NE : Hid (b11 ≠ b12) := (by have := HA2.out.lt; omega : b11 ≠ b12)
            have HL1 := hidD (HL1.out.bel hbn)
            have HA2 := hidD (HA2.out.below hbn)
            have HA1 : Hid (At v3 b11 (plO 0 none 0 0)) := (by rw [hvn, hb11]; exact At.new _ _ : At v3 b11 (plO 0 none 0 0))
            have HLO1 : Hid (w1.heap.size ≤ b11) := (by have := (show Below w1.heap.size w1 (v2) from HS.out).size; omega : w1.heap.size ≤ b11)
            have HS := hidD hS
            clear hbn hS hvn hb11
            refine wpAnyH_ready (rs := [3]) (by kernel_rfl) (by simp) ?_
            refine AllReadyH.cons rfl (fun K hK => ?_) AllReadyH.nil
            go_simp
            refine (D2.out _ (HT.out.bel HS.out) (below_aft HB.out HS.out)).mono ?_
            rintro e v4 ⟨g2, k2, rfl, hl, hbn⟩
            go_wp2_with fail
            have hS : Below w1.heap.size w1 v4 := below_aft HS.out hbn
            refine hK.out _ _ hS (fun hHeld => ?_)
            clear hK K
            try simp only [Act.put, List.setIfInBounds_toArray, List.set_cons_zero, List.set_cons_succ]
            have HL1 := hidD (HL1.out.bel hbn)
            have HA1 := hidD (HA1.out.below hbn)
            have HA2 := hidD (HA2.out.below hbn)
            have HL2 := hidD hl
            have HS := hidD hS
            clear hl hbn hS
            refine wpAnyH_ready (rs := [6]) (by kernel_rfl) (by simp) ?_
            refine AllReadyH.cons rfl (fun K hK => ?_) AllReadyH.nil
            refine wp_storeP26 b11 ⟨0, none, 0, 0⟩ ⟨l, some ⟨g1, 0, none⟩, p.length, k1⟩ rfl rfl HA1.out rfl rfl ?_
            have hS : Below w1.heap.size w1 (S2 v4 b11 ⟨l, some ⟨g1, 0, none⟩, p.length, k1⟩) := S2_low HS.out HLO1.out
            have HL1' := hidD (Lnt.S2 (y := ⟨l, some ⟨g1, 0, none⟩, p.length, k1⟩) HL1.out (x := ⟨0, none, 0, 0⟩) HA1.out)
            have HL2' := hidD (Lnt.S2 (y := ⟨l, some ⟨g1, 0, none⟩, p.length, k1⟩) HL2.out (x := ⟨0, none, 0, 0⟩) HA1.out)
            have HA2' := hidD (HA2.out.S2 (b := b11) (fun e => NE.out e.symm) ⟨l, some ⟨g1, 0, none⟩, p.length, k1⟩)
            have HA1' := hidD (HA1.out.set2 (x := ⟨0, none, 0, 0⟩) ⟨l, some ⟨g1, 0, none⟩, p.length, k1⟩)
            obtain ⟨v5, hvn⟩ : ∃ u, u = S2 v4 b11 ⟨l, some ⟨g1, 0, none⟩, p.length, k1⟩ := ⟨_, rfl⟩
            rw [← hvn] at hS HL1' HL2' HA1' HA2' ⊢
            clear hvn
            refine hK.out _ _ hS (fun hHeld => ?_)
            clear hK K
            try simp only [Act.put, List.setIfInBounds_toArray, List.set_cons_zero, List.set_cons_succ]
            have HL1 := HL1'
            have HL2 := HL2'
            have HA1 := HA1'
            have HA2 := HA2'
            have HS := hidD hS
            clear hS
            refine wpAnyH_ready (rs := [7]) (by kernel_rfl) (by simp) ?_
            refine AllReadyH.cons rfl (fun K hK => ?_) AllReadyH.nil
            refine wp_storeP26 b12 ⟨0, none, 0, 0⟩ ⟨l2, some ⟨g2, 0, none⟩, q.length, k2⟩ rfl rfl HA2.out rfl rfl ?_
            have hS : Below w1.heap.size w1 (S2 v5 b12 ⟨l2, some ⟨g2, 0, none⟩, q.length, k2⟩) := S2_low HS.out HLO2.out
            have HL1' := hidD (Lnt.S2 (y := ⟨l2, some ⟨g2, 0, none⟩, q.length, k2⟩) HL1.out (x := ⟨0, none, 0, 0⟩) HA2.out)
            have HL2' := hidD (Lnt.S2 (y := ⟨l2, some ⟨g2, 0, none⟩, q.length, k2⟩) HL2.out (x := ⟨0, none, 0, 0⟩) HA2.out)
            have HA1' := hidD (HA1.out.S2 (b := b12) NE.out ⟨l2, some ⟨g2, 0, none⟩, q.length, k2⟩)
            have HA2' := hidD (HA2.out.set2 (x := ⟨0, none, 0, 0⟩) ⟨l2, some ⟨g2, 0, none⟩, q.length, k2⟩)
            obtain ⟨v6, hvn⟩ : ∃ u, u = S2 v5 b12 ⟨l2, some ⟨g2, 0, none⟩, q.length, k2⟩ := ⟨_, rfl⟩
            rw [← hvn] at hS HL1' HL2' HA2' HA1' ⊢
            clear hvn
            refine hK.out _ _ hS (fun hHeld => ?_)
            clear hK K
            try simp only [Act.put, List.setIfInBounds_toArray, List.set_cons_zero, List.set_cons_succ]
            have HL1 := HL1'
            have HL2 := HL2'
            have HA2 := HA2'
            have HA1 := HA1'
            have HS := hidD hS
            clear hS
            refine wpAnyH_done (by kernel_rfl) ?_ _
            go_wp2_with fail
            go_meet
            exact ⟨b11, b12, g1, k1, g2, k2, rfl, rfl, HT.out.bel HS.out, HA1.out, HA2.out, HL1.out, HL2.out, below_aft HB.out HS.out⟩
        · go_simp
          go_wp2_with fail
          obtain ⟨b11, hb11⟩ : ∃ b, b = (v1).heap.size := ⟨_, rfl⟩
          rw [← hb11]
          obtain ⟨v2, hvn⟩ : ∃ u, u = (v1).alloc (plO 0 none 0 0) := ⟨_, rfl⟩
          show K _ ((v1).alloc (plO 0 none 0 0))
          rw [← hvn]
          have hbn : Below (v1).heap.size (v1) v2 := by rw [hvn]; exact belA (Below.refl _ _)
          have hS : Below w1.heap.size w1 v2 := below_aft HS.out hbn
          refine hK.out _ _ hS (fun hHeld => ?_)
          clear hK K
          try simp only [Act.put, List.setIfInBounds_toArray, List.set_cons_zero, List.set_cons_succ]
          have NE : Hid (b11 ≠ b12) := (by have := HA2.out.lt; omega : b11 ≠ b12)
          have HA2 := hidD (HA2.out.below hbn)
          have HA1 : Hid (At v2 b11 (plO 0 none 0 0)) := (by rw [hvn, hb11]; exact At.new _ _ : At v2 b11 (plO 0 none 0 0))
          have HLO1 : Hid (w1.heap.size ≤ b11) := (by have := (show Below w1.heap.size w1 (v1) from HS.out).size; omega : w1.heap.size ≤ b11)
          have HS := hidD hS
          clear hbn hS hvn hb11
          refine wpAnyH_ready (rs := [1]) (by kernel_rfl) (by simp) ?_
          refine AllReadyH.cons rfl (fun K hK => ?_) AllReadyH.nil
          go_simp
          refine (D1.out _ (HT.out.bel HS.out) (below_aft HB.out HS.out)).mono ?_
          rintro e v3 ⟨g1, k1, rfl, hl, hbn⟩
          go_wp2_with fail
          have hS : Below w1.heap.size w1 v3 := below_aft HS.out hbn
          refine hK.out _ _ hS (fun hHeld => ?_)
          clear hK K
          try simp only [Act.put, List.setIfInBounds_toArray, List.set_cons_zero, List.set_cons_succ]
          have HA1 := hidD (HA1.out.below hbn)
          have HA2 := hidD (HA2.out.below hbn)
          have HL1 := hidD hl
          have HS := hidD hS
          clear hl hbn hS
          refine wpAnyH_ready (rs := [3]) (by kernel_rfl) (by simp) ?_
          refine AllReadyH.cons rfl (fun K hK => ?_) AllReadyH.nil
          go_simp
          refine (D2.out _ (HT.out.bel HS.out) (below_aft HB.out HS.out)).mono ?_
          rintro e v4 ⟨g2, k2, rfl, hl, hbn⟩
          go_wp2_with fail
          have hS : Below w1.heap.size w1 v4 := below_aft HS.out hbn
          refine hK.out _ _ hS (fun hHeld => ?_)
          clear hK K
          try simp only [Act.put, List.setIfInBounds_toArray, List.set_cons_zero, List.set_cons_succ]
          have HL1 := hidD (HL1.out.bel hbn)
          have HA1 := hidD (HA1.out.below hbn)
          have HA2 := hidD (HA2.out.below hbn)
          have HL2 := hidD hl
          have HS := hidD hS
          clear hl hbn hS
          refine wpAnyH_ready (rs := [6]) (by kernel_rfl) (by simp) ?_
          refine AllReadyH.cons rfl (fun K hK => ?_) AllReadyH.nil
          refine wp_storeP26 b11 ⟨0, none, 0, 0⟩ ⟨l, some ⟨g1, 0, none⟩, p.length, k1⟩ rfl rfl HA1.out rfl rfl ?_
          have hS : Below w1.heap.size w1 (S2 v4 b11 ⟨l, some ⟨g1, 0, none⟩, p.length, k1⟩) := S2_low HS.out HLO1.out
          have HL1' := hidD (Lnt.S2 (y := ⟨l, some ⟨g1, 0, none⟩, p.length, k1⟩) HL1.out (x := ⟨0, none, 0, 0⟩) HA1.out)
          have HL2' := hidD (Lnt.S2 (y := ⟨l, some ⟨g1, 0, none⟩, p.length, k1⟩) HL2.out (x := ⟨0, none, 0, 0⟩) HA1.out)
          have HA2' := hidD (HA2.out.S2 (b := b11) (fun e => NE.out e.symm) ⟨l, some ⟨g1, 0, none⟩, p.length, k1⟩)
          have HA1' := hidD (HA1.out.set2 (x := ⟨0, none, 0, 0⟩) ⟨l, some ⟨g1, 0, none⟩, p.length, k1⟩)
          obtain ⟨v5, hvn⟩ : ∃ u, u = S2 v4 b11 ⟨l, some ⟨g1, 0, none⟩, p.length, k1⟩ := ⟨_, rfl⟩
          rw [← hvn] at hS HL1' HL2' HA1' HA2' ⊢
          clear hvn
          refine hK.out _ _ hS (fun hHeld => ?_)
          clear hK K
          try simp only [Act.put, List.setIfInBounds_toArray, List.set_cons_zero, List.set_cons_succ]
          have HL1 := HL1'
          have HL2 := HL2'
          have HA1 := HA1'
          have HA2 := HA2'
          have HS := hidD hS
          clear hS
          refine wpAnyH_ready (rs := [7]) (by kernel_rfl) (by simp) ?_
          refine AllReadyH.cons rfl (fun K hK => ?_) AllReadyH.nil
          refine wp_storeP26 b12 ⟨0, none, 0, 0⟩ ⟨l2, some ⟨g2, 0, none⟩, q.length, k2⟩ rfl rfl HA2.out rfl rfl ?_
          have hS : Below w1.heap.size w1 (S2 v5 b12 ⟨l2, some ⟨g2, 0, none⟩, q.length, k2⟩) := S2_low HS.out HLO2.out
          have HL1' := hidD (Lnt.S2 (y := ⟨l2, some ⟨g2, 0, none⟩, q.length, k2⟩) HL1.out (x := ⟨0, none, 0, 0⟩) HA2.out)
          have HL2' := hidD (Lnt.S2 (y := ⟨l2, some ⟨g2, 0, none⟩, q.length, k2⟩) HL2.out (x := ⟨0, none, 0, 0⟩) HA2.out)
          have HA1' := hidD (HA1.out.S2 (b := b12) NE.out ⟨l2, some ⟨g2, 0, none⟩, q.length, k2⟩)
          have HA2' := hidD (HA2.out.set2 (x := ⟨0, none, 0, 0⟩) ⟨l2, some ⟨g2, 0, none⟩, q.length, k2⟩)
          obtain ⟨v6, hvn⟩ : ∃ u, u = S2 v5 b12 ⟨l2, some ⟨g2, 0, none⟩, q.length, k2⟩ := ⟨_, rfl⟩
          rw [← hvn] at hS HL1' HL2' HA2' HA1' ⊢
          clear hvn
          refine hK.out _ _ hS (fun hHeld => ?_)
          clear hK K
          try simp only [Act.put, List.setIfInBounds_toArray, List.set_cons_zero, List.set_cons_succ]
          have HL1 := HL1'
          have HL2 := HL2'
          have HA2 := HA2'
          have HA1 := HA1'
          have HS := hidD hS
          clear hS
          refine wpAnyH_done (by kernel_rfl) ?_ _
          go_wp2_with fail
          go_meet
          exact ⟨b11, b12, g1, k1, g2, k2, rfl, rfl, HT.out.bel HS.out, HA1.out, HA2.out, HL1.out, HL2.out, below_aft HB.out HS.out⟩
    case rest =>
    obtain ⟨b1, b2, g1, k1, g2, k2, rfl, rfl, hL⟩ := hcut
    have H := hidD hL
    clear hL D1 D2 a0 a1 c0 c1 HT HB
    obtain ⟨⟨a0, a1, c0, c1⟩, z0, z1, z2, z3⟩ := H.out.cells
    go_upto_region 5 with (go_at_call 22; refine (C22.out _ b1 b2 g1 k1 g2 k2 H.out).mono ?_; rintro e wn ⟨rfl, hbn⟩; have H2 := hidD (H.out.bel hbn); clear H a0 a1 c0 c1 z0 z1 z2 z3 hbn; have H := H2; clear H2; obtain ⟨⟨a0, a1, c0, c1⟩, z0, z1, z2, z3⟩ := H.out.cells)
    clear C22
    go_upto_region 7 with (first
      | (go_at_call 15; refine (C15.out _ _ _ H.out.t H.out.b (by first | exact .p | exact .q)).mono ?_; rintro e wn ⟨⟨f, ga, gn, gcap, rfl⟩, hbn⟩; have H2 := hidD (H.out.bel hbn); clear H a0 a1 c0 c1 z0 z1 z2 z3 hbn; have H := H2; clear H2; obtain ⟨⟨a0, a1, c0, c1⟩, z0, z1, z2, z3⟩ := H.out.cells)
      | ((with_reducible show wpList _ _ _ (Oper.mk none (Op.store 32 _ _) _ _ _ none :: _) _ _); refine wpl_storeT wn.heap.size zT f (At.new wn _) rfl rfl ?_; intro wm hwm; have hbn : Below wn.heap.size wn wm := (by rw [hwm]; exact below_S5 (belA (Below.refl _ _)) (Nat.le_refl _) _); clear hwm; have H2 := hidD (H.out.bel hbn); clear H a0 a1 c0 c1 z0 z1 z2 z3 hbn; have H := H2; clear H2; obtain ⟨⟨a0, a1, c0, c1⟩, z0, z1, z2, z3⟩ := H.out.cells))
    clear C15
    have his := HIS.out
    have her := HER.out
    clear HIS HER
    cases hg : gd with
    | true =>
      have D23 := hidD (C23.out hg)
      obtain ⟨rfl, rfl, d1, d3⟩ := RA.out.1 hg
      rw [hg] at his her
      have e1 : is = bb := by rw [his]; rfl
      have e2 : er = 0 := by rw [her]; rfl
      subst e1 e2
      have j1 : ¬ (d : Int) < 1 := by omega
      have j2 : ¬ (3 : Int) < (d : Int) := by omega
      clear his her C23 RA hg d1 d3
      cases is
      all_goals as_aux_lemma =>
        go_wp2_with (first
          | (go_at_call 23; refine (D23.out _ H.out.t H.out.b).mono ?_; rintro e wn ⟨rfl, hbn⟩; have H2 := hidD (H.out.bel hbn); clear H a0 a1 c0 c1 z0 z1 z2 z3 hbn; have H := H2; clear H2; obtain ⟨⟨a0, a1, c0, c1⟩, z0, z1, z2, z3⟩ := H.out.cells)
          | (go_at_call 19; refine (D19.out _ _ b1 b2 g1 k1 g2 k2 H.out (by first | exact .p | exact .q)).mono ?_; rintro e wn ⟨rfl, hbn⟩; have H2 := hidD (H.out.bel hbn); clear H a0 a1 c0 c1 z0 z1 z2 z3 hbn; have H := H2; clear H2; obtain ⟨⟨a0, a1, c0, c1⟩, z0, z1, z2, z3⟩ := H.out.cells)
          | (go_at_call 10; refine (AW.out _).mono ?_; rintro e w8 ⟨rfl, hb8⟩; have HB8 := hidD (below_aft H.out.b hb8); clear hb8))
        go_ret
        exact ⟨rfl, HB8.out⟩
    | false =>
      have hno : ¬ (ra = true ∧ rb = true ∧ 1 ≤ d ∧ d ≤ 3) := fun h => by have := RA.out.2 h; rw [hg] at this; cases this
      rw [hg] at his her
      have e1 : is = false := by rw [his]; rfl
      have e2 : er = 2 := by rw [her]; rfl
      subst e1 e2
      clear his her C23 RA hg
      cases ra with
      | false =>
        clear hno
        go_wp2_with (first
          | (go_at_call 19; refine (D19.out _ _ b1 b2 g1 k1 g2 k2 H.out (by first | exact .p | exact .q)).mono ?_; rintro e wn ⟨rfl, hbn⟩; have H2 := hidD (H.out.bel hbn); clear H a0 a1 c0 c1 z0 z1 z2 z3 hbn; have H := H2; clear H2; obtain ⟨⟨a0, a1, c0, c1⟩, z0, z1, z2, z3⟩ := H.out.cells)
          | (go_at_call 10; refine (AW.out _).mono ?_; rintro e w8 ⟨rfl, hb8⟩; have HB8 := hidD (below_aft H.out.b hb8); clear hb8))
        go_ret
        exact ⟨rfl, HB8.out⟩
      | true =>
        cases rb with
        | false =>
          clear hno
          go_wp2_with (first
            | (go_at_call 19; refine (D19.out _ _ b1 b2 g1 k1 g2 k2 H.out (by first | exact .p | exact .q)).mono ?_; rintro e wn ⟨rfl, hbn⟩; have H2 := hidD (H.out.bel hbn); clear H a0 a1 c0 c1 z0 z1 z2 z3 hbn; have H := H2; clear H2; obtain ⟨⟨a0, a1, c0, c1⟩, z0, z1, z2, z3⟩ := H.out.cells)
            | (go_at_call 10; refine (AW.out _).mono ?_; rintro e w8 ⟨rfl, hb8⟩; have HB8 := hidD (below_aft H.out.b hb8); clear hb8))
          go_ret
          exact ⟨rfl, HB8.out⟩
        | true =>
          by_cases d1 : 1 ≤ d
          · have j1 : ¬ (d : Int) < 1 := by omega
            have j2 : (3 : Int) < (d : Int) := by
              have : ¬ d ≤ 3 := fun h => hno ⟨rfl, rfl, d1, h⟩
              omega
            clear hno d1
            go_wp2_with (first
              | (go_at_call 19; refine (D19.out _ _ b1 b2 g1 k1 g2 k2 H.out (by first | exact .p | exact .q)).mono ?_; rintro e wn ⟨rfl, hbn⟩; have H2 := hidD (H.out.bel hbn); clear H a0 a1 c0 c1 z0 z1 z2 z3 hbn; have H := H2; clear H2; obtain ⟨⟨a0, a1, c0, c1⟩, z0, z1, z2, z3⟩ := H.out.cells)
              | (go_at_call 10; refine (AW.out _).mono ?_; rintro e w8 ⟨rfl, hb8⟩; have HB8 := hidD (below_aft H.out.b hb8); clear hb8))
            go_ret
            exact ⟨rfl, HB8.out⟩
          · have j1 : (d : Int) < 1 := by omega
            clear hno d1
            go_wp2_with (first
              | (go_at_call 19; refine (D19.out _ _ b1 b2 g1 k1 g2 k2 H.out (by first | exact .p | exact .q)).mono ?_; rintro e wn ⟨rfl, hbn⟩; have H2 := hidD (H.out.bel hbn); clear H a0 a1 c0 c1 z0 z1 z2 z3 hbn; have H := H2; clear H2; obtain ⟨⟨a0, a1, c0, c1⟩, z0, z1, z2, z3⟩ := H.out.cells)
              | (go_at_call 10; refine (AW.out _).mono ?_; rintro e w8 ⟨rfl, hb8⟩; have HB8 := hidD (below_aft H.out.b hb8); clear hb8))
            go_ret
            exact ⟨rfl, HB8.out⟩
end Go.Proofs.YtnohcppipkpgmaaDoor
