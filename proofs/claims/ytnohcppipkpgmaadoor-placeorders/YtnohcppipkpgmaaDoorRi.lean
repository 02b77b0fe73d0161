import Derived.Test.YtnohcppipkpgmaaDoorRh
namespace Go.Proofs.YtnohcppipkpgmaaDoor
open Go.RowKit Go.Shelf
set_option linter.unusedVariables false
set_option linter.unusedSimpArgs false

/-- Where a step goes, and how. -/
def stepC (fc : Nat → List Ch) : Ch → Int → Option (Ch × Int)
  | .leaf k sn, s => if k = 5 ∧ 0 ≤ s then ((fc sn.toNat)[s.toNat]?).map (fun d => (d, 0)) else none
  | .box c, s => if s = -1 then some (c, 1) else none
  | .ref m _ c, s => if s = -1 then some (c, if m then 2 else 3) else none
theorem stepC_leaf (fc : Nat → List Ch) (k : Nat) (sn s : Int) : stepC fc (.leaf k sn) s = if k = 5 ∧ 0 ≤ s then ((fc sn.toNat)[s.toNat]?).map (fun d => (d, 0)) else none := rfl
theorem stepC_box (fc : Nat → List Ch) (c : Ch) (s : Int) : stepC fc (.box c) s = if s = -1 then some (c, 1) else none := rfl
theorem stepC_ref (fc : Nat → List Ch) (m : Bool) (r : Int) (c : Ch) (s : Int) : stepC fc (.ref m r c) s = if s = -1 then some (c, if m then 2 else 3) else none := rfl
/-- Where steps go, and how each one goes. -/
def wayC (fc : Nat → List Ch) : Ch → List Int → Option (Ch × List Int)
  | c, [] => some (c, [])
  | c, s :: p => (stepC fc c s).bind fun x => (wayC fc x.1 p).map fun y => (y.1, x.2 :: y.2)
/-- Structs that may be, their fields as chains. -/
structure SF (w : World) (a : Option Addr) (n cap : Nat) (fc : Nat → List Ch) : Prop where
  st : ∀ j, j < n → ∃ g off fa fcap, a = some ⟨g, off, none⟩ ∧ g < w.heap.size ∧ w.cell? ⟨g, off + j * 2 + 1, none⟩ = some (.slice fa (fc j).length fcap) ∧ FdAt w fa ((fc j).map Ch.ty)
  ok : ∀ j, j < n → ∀ c ∈ fc j, c.ok n
  le : n ≤ 32
  len : ∀ j, j < n → (fc j).length ≤ 8
theorem SF.bel {w w' : World} {a : Option Addr} {n cap : Nat} {fc : Nat → List Ch} (h : SF w a n cap fc) (hb : Below w.heap.size w w') : SF w' a n cap fc where
  st := fun j hj => by
    obtain ⟨g, off, fa, fcap, e, hg, h1, h2⟩ := h.st j hj
    exact ⟨g, off, fa, fcap, e, Nat.lt_of_lt_of_le hg hb.size, (hb.cell (p := ⟨g, off + j * 2 + 1, none⟩) hg).trans h1, h2.bel hb⟩
  ok := h.ok
  le := h.le
  len := h.len
theorem stepC_ok {w : World} {a : Option Addr} {n cap : Nat} {fc : Nat → List Ch} (h : SF w a n cap fc) {c d : Ch} {s g : Int} (hc : c.ok n) (hs : stepC fc c s = some (d, g)) : d.ok n ∧ (0 ≤ g ∧ g ≤ 3) := by
  cases c with
  | leaf k sn =>
    rw [stepC_leaf] at hs
    split at hs
    · rename_i hk
      rw [Option.map_eq_some_iff] at hs
      obtain ⟨x, hx, e⟩ := hs
      cases e
      have hk5 : (k = 1 ∨ k = 2) ∧ sn = 0 ∨ k = 5 ∧ 0 ≤ sn ∧ sn < n := hc
      exact ⟨h.ok sn.toNat (by omega) d (List.mem_of_getElem? hx), by omega⟩
    · cases hs
  | box c =>
    rw [stepC_box] at hs
    split at hs
    · cases hs; exact ⟨hc, by omega⟩
    · cases hs
  | ref m r c =>
    rw [stepC_ref] at hs
    split at hs
    · cases hs
      refine ⟨hc.2, ?_⟩
      cases m <;> simp
    · cases hs
/-- A type is laid into a variable: the walk goes on in whatever world that is. -/
theorem wpl_storeT {w : World} {ops : Array Oper} {rest : List Oper} {a : Act} {Q : Exit → Act → World → Prop} {x y : Nat} {ty : TypeId} {pos : String} {after : Array Edge} (b : Nat) (f0 f : Fv) (hA : At w b f0.o)
    (hx : a.eval (.tmp x) = .pointer (some ⟨b, 0, none⟩)) (hy : a.eval (.tmp y) = f.v) (h : ∀ w', w' = S5 w b f → wpList Tryd.prog ops Q rest a w') : wpList Tryd.prog ops Q (⟨none, .store 32 (.tmp x) (.tmp y), ty, pos, after, none⟩ :: rest) a w := by
  refine wpList_plain rfl fun K hK => ?_
  have g0 := hA.tyF 0
  have g1 := hA.tyF 1
  have g2 := hA.tyF 2
  have g3 := hA.tyF 3
  have g4 := hA.tyF 4
  obtain ⟨hl, q0, q1, q2, q3, q4⟩ := hA.ty
  simp only [Nat.zero_add] at q0 q1 q2 q3 q4
  have hx2 : a.tmps[x]?.getD undef = .pointer (some ⟨b, 0, none⟩) := by rw [← hx]; simp [Act.eval]
  have hy2 : a.tmps[y]?.getD undef = f.v := by rw [← hy]; simp [Act.eval]
  unfold Oper.wp
  simp [execOp, hx2, hy2, go_sem, q0, q1, q2, q3, q4, g0, g1, g2, g3, g4]
  exact hK _ _ (h _ rfl)
theorem Tryd.results70 : Tryd.f70.results = #[.cell 6 32, .tmp 7, .tmp 8] := rfl
def StfPost (R : Option (Ch × Int)) (w : World) (e : Ending) : Prop := match R with
  | some x => ∃ f' : Fv, e = .returned (.tuple #[f'.v, .int .i64 x.2, .bool true]) ∧ TyAt w f' x.1.ty
  | none => e = .returned (.tuple #[zT.v, .int .i64 0, .bool false])
set_option maxRecDepth 100000 in
set_option maxHeartbeats 8000000 in
/-- stepFrom. -/
theorem stepFrom_any {w0 w : World} (hB0 : Below w0.heap.size w0 w) {a : Option Addr} {n cap : Nat} {fc : Nat → List Ch} (h : SF w0 a n cap fc) (c : Ch) (f : Fv) (hc : c.ok n) (hT : TyAt w0 f c.ty) (s : Int) (s0 : -9223372036854775808 ≤ s) (s1 : s ≤ 9223372036854775807) (R : Option (Ch × Int)) (hR : R = stepC fc c s) :
    Calls Tryd.prog 70 #[.slice a n cap, f.v, .int .i64 s] w fun e w' => StfPost R w0 e ∧ Below w.heap.size w w' := by
  have A0 : At ((w.alloc f.o).alloc zT.o) w.heap.size f.o := (At.new _ _).alloc _
  have A4 : At ((w.alloc f.o).alloc zT.o) (w.heap.size + 1) zT.o := at_snd _ _ _
  have HA4 := hidD A4
  have hB : Below w.heap.size w ((w.alloc f.o).alloc zT.o) := belB w f zT
  have HB := hidD hB
  have g0 := A4.tyF 0
  have g1 := A4.tyF 1
  have g2 := A4.tyF 2
  have g3 := A4.tyF 3
  have g4 := A4.tyF 4
  have FIN : Hid (∀ f' : Fv, C5 (S5 ((w.alloc f.o).alloc zT.o) (w.heap.size + 1) f') (w.heap.size + 1) 0 f' ∧ Below w.heap.size w (S5 ((w.alloc f.o).alloc zT.o) (w.heap.size + 1) f')) := fun f' => ⟨(HA4.out.set5 f').ty, below_S5 HB.out (by omega) f'⟩
  cases c with
  | leaf k sn =>
    obtain ⟨fa0, fcap0, rfl, -⟩ := hT.leaf
    have hk5 : (k = 1 ∨ k = 2) ∧ sn = 0 ∨ k = 5 ∧ 0 ≤ sn ∧ sn < n := hc
    by_cases k5 : k = 5
    · subst k5
      obtain ⟨j, rfl⟩ : ∃ j : Nat, sn = (j : Int) := ⟨sn.toNat, by omega⟩
      have hj : j < n := by omega
      obtain ⟨g, off, fa, fcap, ea, hg, hcell, hF⟩ := h.st j hj
      replace hcell := (hB0.cell (p := ⟨g, off + j * 2 + 1, none⟩) hg).trans hcell
      replace hg := Nat.lt_of_lt_of_le hg hB0.size
      have hlen := h.len j hj
      subst ea
      have HF := hidD hF
      obtain ⟨m, hm⟩ : ∃ m, m = (fc j).length := ⟨_, rfl⟩
      rw [← hm] at hcell hlen
      have HM := hidD hm
      have e0 : stepC fc (.leaf 5 (j : Int)) s = if 0 ≤ s then ((fc j)[s.toNat]?).map (fun d => (d, 0)) else none := by
        rw [stepC_leaf]
        simp
      rw [e0] at hR
      have j0 : (0 : Int) ≤ (j : Int) := by omega
      have j1 : (j : Int) < (n : Int) := by omega
      have j2 : (j : Int) ≤ 32 := by have := h.le; omega
      have HBW := hidD hB
      clear hB A0 A4 hc hT hF hm hk5 e0
      show Calls Tryd.prog 70 #[.slice (some ⟨g, off, none⟩) n cap, tyV 5 false 0 (j : Int) fa0 0 fcap0, .int .i64 s] w _
      by_cases hs0 : s < 0
      · rw [if_neg (by omega)] at hR
        subst hR
        clear h HF
        go_enter Tryd.func70, Tryd.ntmps70
        go_wp2_with fail
        exact bodyPost_ret (results_c3 (g := zT) Tryd.results70 rfl rfl rfl HA4.out.ty) rfl ⟨rfl, HB.out⟩
      · rw [if_pos (by omega)] at hR
        obtain ⟨i, rfl⟩ : ∃ i : Nat, s = (i : Int) := ⟨s.toNat, by omega⟩
        rw [Int.toNat_natCast] at hR
        by_cases hi : i < m
        · obtain ⟨d, hd⟩ : ∃ d, (fc j)[i]? = some d := ⟨_, List.getElem?_eq_getElem (by have := HM.out; omega)⟩
          rw [hd] at hR
          have hR2 : R = some (d, 0) := hR
          subst hR2
          have hd2 : ((fc j).map Ch.ty)[i]? = some d.ty := by rw [List.getElem?_map, hd]; rfl
          obtain ⟨g', off', ea', hk⟩ := HF.out.2 (fun e => by rw [e] at hd2; simp at hd2)
          obtain ⟨V, nm, -, hV5, hVt⟩ := hk i d.ty hd2
          subst ea'
          have HVT := hidD hVt
          obtain ⟨hg', p0, p1, p2, p3, p4⟩ := hV5.below hB0
          have i0 : (0 : Int) ≤ (i : Int) := by omega
          have i1 : (i : Int) < (m : Int) := by omega
          have i2 : ¬ (m : Int) ≤ (i : Int) := by omega
          have i3 : ¬ (i : Int) < 0 := by omega
          clear h HF hd hd2 hR hk hVt hs0 hV5 hB0
          go_enter Tryd.func70, Tryd.ntmps70
          go_wp2_with (((with_reducible show wpList _ _ _ (Oper.mk none (Op.store 32 _ _) _ _ _ none :: _) _ _); refine wpl_storeT (w.heap.size + 1) zT V HA4.out rfl rfl ?_; intro w9 hw9; have F9 : Hid (C5 w9 (w.heap.size + 1) 0 V ∧ Below w.heap.size w w9) := (by rw [hw9]; exact FIN.out V); clear hw9))
          exact bodyPost_ret (results_c3 (g := V) Tryd.results70 rfl rfl rfl F9.out.1) rfl ⟨⟨V, rfl, HVT.out⟩, F9.out.2⟩
        · have hd : (fc j)[i]? = none := List.getElem?_eq_none (by have := HM.out; omega)
          rw [hd] at hR
          have hR2 : R = none := hR
          subst hR2
          have i2 : (m : Int) ≤ (i : Int) := by omega
          have i3 : ¬ (i : Int) < 0 := by omega
          clear h HF hd hR hs0
          go_enter Tryd.func70, Tryd.ntmps70
          go_wp2_with fail
          exact bodyPost_ret (results_c3 (g := zT) Tryd.results70 rfl rfl rfl HA4.out.ty) rfl ⟨rfl, HB.out⟩
    · rw [stepC_leaf, if_neg (fun e => k5 e.1)] at hR
      subst hR
      have k1 : ¬ (k : Int) = 5 := by omega
      have k3 : ¬ (k : Int) = 3 := by omega
      have k4 : ¬ (k : Int) = 4 := by omega
      have k4b : ((k : Int) == 4) = false := by simpa using k4
      clear h hc hT hB A0 A4 hk5
      show Calls Tryd.prog 70 #[.slice a n cap, tyV k false 0 sn fa0 0 fcap0, .int .i64 s] w _
      by_cases hs : s = -1
      · subst hs
        go_enter Tryd.func70, Tryd.ntmps70
        go_wp2_with fail
        exact bodyPost_ret (results_c3 (g := zT) Tryd.results70 rfl rfl rfl HA4.out.ty) rfl ⟨rfl, HB.out⟩
      · go_enter Tryd.func70, Tryd.ntmps70
        go_wp2_with fail
        exact bodyPost_ret (results_c3 (g := zT) Tryd.results70 rfl rfl rfl HA4.out.ty) rfl ⟨rfl, HB.out⟩
  | box d =>
    obtain ⟨g, off, cap', f2, rfl, hc5, ht2⟩ := hT.box
    rw [stepC_box] at hR
    have HVT := hidD ht2
    obtain ⟨hg, p0, p1, p2, p3, p4⟩ := hc5.below hB0
    clear hc5
    clear h hc hT hB A0 A4 ht2 s0 s1 hB0
    show Calls Tryd.prog 70 #[.slice a n cap, tyV 3 false 0 0 (some ⟨g, off, none⟩) 1 cap', .int .i64 s] w _
    by_cases hs : s = -1
    · subst hs
      have hR2 : R = some (d, 1) := hR
      clear hR
      subst hR2
      go_enter Tryd.func70, Tryd.ntmps70
      go_wp2_with (((with_reducible show wpList _ _ _ (Oper.mk none (Op.store 32 _ _) _ _ _ none :: _) _ _); refine wpl_storeT (w.heap.size + 1) zT f2 HA4.out rfl rfl ?_; intro w9 hw9; have F9 : Hid (C5 w9 (w.heap.size + 1) 0 f2 ∧ Below w.heap.size w w9) := (by rw [hw9]; exact FIN.out f2); clear hw9))
      exact bodyPost_ret (results_c3 (g := f2) Tryd.results70 rfl rfl rfl F9.out.1) rfl ⟨⟨f2, rfl, HVT.out⟩, F9.out.2⟩
    · rw [if_neg hs] at hR
      subst hR
      go_enter Tryd.func70, Tryd.ntmps70
      go_wp2_with fail
      exact bodyPost_ret (results_c3 (g := zT) Tryd.results70 rfl rfl rfl HA4.out.ty) rfl ⟨rfl, HB.out⟩
  | ref m r d =>
    obtain ⟨g, off, cap', f2, rfl, hc5, ht2, r0, r1⟩ := hT.ref
    rw [stepC_ref] at hR
    have HVT := hidD ht2
    obtain ⟨hg, p0, p1, p2, p3, p4⟩ := hc5.below hB0
    clear hc5
    clear h hc hT hB A0 A4 ht2 s0 s1 hB0
    show Calls Tryd.prog 70 #[.slice a n cap, tyV 4 m r 0 (some ⟨g, off, none⟩) 1 cap', .int .i64 s] w _
    by_cases hs : s = -1
    · subst hs
      cases m with
      | true =>
        have hR2 : R = some (d, 2) := hR
        clear hR
        subst hR2
        go_enter Tryd.func70, Tryd.ntmps70
        go_wp2_with (((with_reducible show wpList _ _ _ (Oper.mk none (Op.store 32 _ _) _ _ _ none :: _) _ _); refine wpl_storeT (w.heap.size + 1) zT f2 HA4.out rfl rfl ?_; intro w9 hw9; have F9 : Hid (C5 w9 (w.heap.size + 1) 0 f2 ∧ Below w.heap.size w w9) := (by rw [hw9]; exact FIN.out f2); clear hw9))
        exact bodyPost_ret (results_c3 (g := f2) Tryd.results70 rfl rfl rfl F9.out.1) rfl ⟨⟨f2, rfl, HVT.out⟩, F9.out.2⟩
      | false =>
        have hR2 : R = some (d, 3) := hR
        clear hR
        subst hR2
        go_enter Tryd.func70, Tryd.ntmps70
        go_wp2_with (((with_reducible show wpList _ _ _ (Oper.mk none (Op.store 32 _ _) _ _ _ none :: _) _ _); refine wpl_storeT (w.heap.size + 1) zT f2 HA4.out rfl rfl ?_; intro w9 hw9; have F9 : Hid (C5 w9 (w.heap.size + 1) 0 f2 ∧ Below w.heap.size w w9) := (by rw [hw9]; exact FIN.out f2); clear hw9))
        exact bodyPost_ret (results_c3 (g := f2) Tryd.results70 rfl rfl rfl F9.out.1) rfl ⟨⟨f2, rfl, HVT.out⟩, F9.out.2⟩
    · rw [if_neg hs] at hR
      subst hR
      go_enter Tryd.func70, Tryd.ntmps70
      go_wp2_with fail
      exact bodyPost_ret (results_c3 (g := zT) Tryd.results70 rfl rfl rfl HA4.out.ty) rfl ⟨rfl, HB.out⟩
end Go.Proofs.YtnohcppipkpgmaaDoor
