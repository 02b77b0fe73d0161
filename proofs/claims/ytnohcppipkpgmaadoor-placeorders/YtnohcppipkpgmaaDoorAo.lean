import Derived.Test.YtnohcppipkpgmaaDoorAn
namespace Go.Proofs.YtnohcppipkpgmaaDoor
open Go.RowKit
set_option linter.unusedVariables false
set_option linter.unusedSimpArgs false

/-- A type with its regions turned, one by one. -/
def turnC (out : List Int → Int → Int) : List Int → Ch → Ch
  | _, .leaf k s => .leaf k s
  | l, .box c => .box (turnC out l c)
  | l, .ref m r c => .ref m (out l r) (turnC out (l ++ [r]) c)
/-- What a function that turns regions does. -/
structure Turn (fn : Nat) (caps : List Value) (N : Nat) (w0 : World) (J : List Int → World → Prop) (out : List Int → Int → Int) : Prop where
  enters : Enters fn
  alloc : ∀ l W o, J l W → J l (W.alloc o)
  set : ∀ l W W' i (f : Fv), J l W → At W i f.o → w0.heap.size ≤ i → But i W W' → J l W'
  bel : ∀ l W, J l W → Below w0.heap.size w0 W
  call : ∀ l r W, l.length < N → -9223372036854775808 ≤ r → r ≤ 9223372036854775807 → J l W → Calls Tryd.prog fn ((.int .i64 r) :: caps).toArray W fun e w' => e = .returned (.int .i64 (out l r)) ∧ J (l ++ [r]) w' ∧ KeepT W w' ∧ W.heap.size ≤ w'.heap.size
set_option maxRecDepth 100000 in
theorem results_c1 {fn : Func} {j : Nat} (h : fn.results = #[.cell j 32]) {tmps : Array Value} {W : World} {b4 : Nat} {g : Fv} (ht : tmps.getD j undef = .pointer (some ⟨b4, 0, none⟩)) (hC : C5 W b4 0 g) : (results fn tmps).run Tryd.prog W = .ok g.v W := by
  obtain ⟨-, e0, e1, e2, e3, e4⟩ := hC
  simp only [Nat.zero_add] at e1 e2 e3 e4
  have ht2 : tmps[j]?.getD undef = .pointer (some ⟨b4, 0, none⟩) := by rw [← ht]; simp
  simp only [results, h]
  simp [go_sem, ht2, e0, e1, e2, e3, e4]
theorem Tryd.results72 : Tryd.f72.results = #[.cell 4 32] := rfl
/-- What 'turned' gives. -/
structure TurnP (W : World) (J : List Int → World → Prop) (l : List Int) (c : Ch) (f : Fv) (w' : World) : Prop where
  own : Own w' W.heap.size f c
  j : J l w'
  keep : KeepT W w'
  size : W.heap.size ≤ w'.heap.size
theorem but_s5 (w : World) (b : Nat) (g : Fv) : But b w (S5 w b g) := (((((But.refl b w).set 0 _).set 1 _).set 2 _).set 3 _).set 4 _
theorem keepT_S5 {W W' : World} {b : Nat} (h : KeepT W W') (hb : W.heap.size ≤ b) (g : Fv) : KeepT W (S5 W' b g) := fun i f x => (h i f x).S5 (by have := x.lt; omega) g
theorem keepT_two {W W' : World} {o o' : Obj} (h : KeepT ((W.alloc o).alloc o') W') : KeepT W W' := fun i f x => h i f ((x.alloc o).alloc o')
theorem keepT_hi {W W' : World} {b : Nat} (h : KeepT W W') (hb : W.heap.size ≤ b) (o : Nat) (u : Value) : KeepT W (W'.setCell ⟨b, o, none⟩ u) := fun i f x => (h i f x).set (by have := x.lt; simp only; omega) u
theorem At.cell4 {w : World} {b : Nat} {f : Fv} (h : At w b f.o) (a : Option Addr) (n cap : Nat) : At (w.setCell ⟨b, 4, none⟩ (.slice a n cap)) b (Fv.o ⟨f.k, f.m, f.r, f.s, a, n, cap⟩) := by
  have := heap_setCell_same w b 4 _ 32 (.slice a n cap) h
  unfold At
  simpa using this
theorem At.cell2 {w : World} {b : Nat} {f : Fv} (h : At w b f.o) (r : Int) : At (w.setCell ⟨b, 2, none⟩ (.int .i64 r)) b (Fv.o ⟨f.k, f.m, r, f.s, f.a, f.n, f.cap⟩) := by
  have := heap_setCell_same w b 2 _ 32 (.int .i64 r) h
  unfold At
  simpa using this
set_option maxRecDepth 100000 in
set_option maxHeartbeats 2000000 in
theorem turn_leaf {fn N : Nat} {caps : List Value} {w0 : World} {J : List Int → World → Prop} {out : List Int → Int → Int} (hT : Turn fn caps N w0 J out) (fv : Value) (k : Nat) (s : Int) (a : Option Addr) (cap : Nat) (l : List Int) (W : World) (k3 : ¬ (k : Int) = 3) (k4 : ¬ (k : Int) = 4) (hJ : J l W) :
    Calls Tryd.prog 72 #[tyV k false 0 s a 0 cap, fv] W fun e w' => ∃ f' : Fv, e = .returned f'.v ∧ TurnP W J l (.leaf k s) f' w' := by
  have h1 : Hid (∀ o o', J l ((W.alloc o).alloc o')) := fun o o' => hT.alloc _ _ _ (hT.alloc _ _ _ hJ)
  have hB : Hid (Below w0.heap.size w0 W) := hT.bel _ _ hJ
  have A2 : Hid (At ((W.alloc (tyO k false 0 s a 0 cap)).alloc zT.o) W.heap.size (Fv.o ⟨k, false, 0, s, a, 0, cap⟩)) := (At.new _ _).alloc _
  have A4 : Hid (At ((W.alloc (tyO k false 0 s a 0 cap)).alloc zT.o) (W.heap.size + 1) zT.o) := at_snd _ _ _
  have HS : Hid (∀ (V V' : World) i (f : Fv), J l V → At V i f.o → w0.heap.size ≤ i → But i V V' → J l V') := fun V V' i f => hT.set l V V' i f
  clear hT hJ
  go_enter Tryd.func72, Tryd.ntmps72
  go_wp2_with fail
  exact bodyPost_ret (results_c1 (g := ⟨k, false, 0, s, none, 0, 0⟩) Tryd.results72 rfl (At.ty (f := ⟨k, false, 0, s, none, 0, 0⟩) (at_snd W (Fv.o ⟨k, false, 0, s, none, 0, 0⟩) (Fv.o ⟨k, false, 0, s, none, 0, 0⟩)))) rfl ⟨⟨k, false, 0, s, none, 0, 0⟩, rfl, ⟨.leaf k s, h1.out _ _, fun i f x => (x.alloc _).alloc _, by simp only [World.size_alloc]; omega⟩⟩
theorem turn_fin {W w0 w2 : World} {J : World → Prop} {c : Ch} {f2 fb f4 : Fv} (g : Fv) {lo : Nat} (u : Value) (own : Own w2 lo f2 c) (hlo : W.heap.size + 2 ≤ lo) (j : J w2) (kp : KeepT W w2) (B2 : At w2 W.heap.size fb.o) (B4 : At w2 (W.heap.size + 1) f4.o) (hB : w0.heap.size ≤ W.heap.size)
    (HS : ∀ (V V' : World) i (f : Fv), J V → At V i f.o → w0.heap.size ≤ i → But i V V' → J V') (HA : ∀ V o, J V → J (V.alloc o)) :
    C5 ((S5 (w2.setCell ⟨W.heap.size, 4, none⟩ u) (W.heap.size + 1) g).alloc f2.o) (W.heap.size + 1) 0 g ∧ Own ((S5 (w2.setCell ⟨W.heap.size, 4, none⟩ u) (W.heap.size + 1) g).alloc f2.o) W.heap.size f2 c ∧ At ((S5 (w2.setCell ⟨W.heap.size, 4, none⟩ u) (W.heap.size + 1) g).alloc f2.o) w2.heap.size f2.o ∧ J ((S5 (w2.setCell ⟨W.heap.size, 4, none⟩ u) (W.heap.size + 1) g).alloc f2.o) ∧ KeepT W ((S5 (w2.setCell ⟨W.heap.size, 4, none⟩ u) (W.heap.size + 1) g).alloc f2.o) ∧ W.heap.size ≤ ((S5 (w2.setCell ⟨W.heap.size, 4, none⟩ u) (W.heap.size + 1) g).alloc f2.o).heap.size ∧ W.heap.size ≤ w2.heap.size := by
  have hz : W.heap.size ≤ w2.heap.size := by have := B2.lt; omega
  have B4' : At (w2.setCell ⟨W.heap.size, 4, none⟩ u) (W.heap.size + 1) f4.o := B4.set (by simp) u
  have own' : Own (w2.setCell ⟨W.heap.size, 4, none⟩ u) lo f2 c := own.keep fun i o hi hA => hA.set (by simp only; omega) u
  have j' : J (w2.setCell ⟨W.heap.size, 4, none⟩ u) := HS w2 _ _ fb j B2 hB ((But.refl _ _).set 4 u)
  have kp' : KeepT W (w2.setCell ⟨W.heap.size, 4, none⟩ u) := keepT_hi kp (Nat.le_refl _) 4 u
  have hs' : (w2.setCell ⟨W.heap.size, 4, none⟩ u).heap.size = w2.heap.size := by simp
  generalize (w2.setCell ⟨W.heap.size, 4, none⟩ u) = V at *
  have j2 : J (S5 V (W.heap.size + 1) g) := HS V _ _ f4 j' B4' (by omega) (but_s5 _ _ _)
  refine ⟨((B4'.set5 g).alloc _).ty, ((own'.keep fun i o hi hA => (hA.S5 (by omega) g).alloc _).low (by omega)), ?_, HA _ _ j2, fun i f x => ((keepT_S5 kp' (by omega) g) i f x).alloc _, by simp only [World.size_alloc, size_S5]; omega, hz⟩
  have := At.new (S5 V (W.heap.size + 1) g) f2.o
  rw [size_S5, hs'] at this
  exact this
set_option maxRecDepth 100000 in
set_option maxHeartbeats 4000000 in
theorem turn_box {fn N : Nat} {caps : List Value} {w0 : World} {J : List Int → World → Prop} {out : List Int → Int → Int} (hT : Turn fn caps N w0 J out) (fv : Value) (g off cap : Nat) (x : Fv) (c : Ch) (l l' : List Int) (W : World) (hx : C5 w0 g off x) (hJ : J l W)
    (IH0 : ∀ V, J l V → Calls Tryd.prog 72 #[x.v, fv] V fun e w' => ∃ f' : Fv, e = .returned f'.v ∧ TurnP V J l' c f' w') :
    Calls Tryd.prog 72 #[tyV 3 false 0 0 (some ⟨g, off, none⟩) 1 cap, fv] W fun e w' => ∃ f' : Fv, e = .returned f'.v ∧ TurnP W J l' (.box c) f' w' := by
  have hJ2 := hT.alloc _ _ zT.o (hT.alloc _ _ (tyO 3 false 0 0 (some ⟨g, off, none⟩) 1 cap) hJ)
  have IH : Hid (Calls Tryd.prog 72 #[x.v, fv] ((W.alloc (tyO 3 false 0 0 (some ⟨g, off, none⟩) 1 cap)).alloc zT.o) fun e w' => ∃ f' : Fv, e = .returned f'.v ∧ TurnP ((W.alloc (tyO 3 false 0 0 (some ⟨g, off, none⟩) 1 cap)).alloc zT.o) J l' c f' w') := IH0 _ hJ2
  have hB : Hid (Below w0.heap.size w0 W) := hT.bel _ _ hJ
  have A2 : Hid (At ((W.alloc (tyO 3 false 0 0 (some ⟨g, off, none⟩) 1 cap)).alloc zT.o) W.heap.size (Fv.o ⟨3, false, 0, 0, some ⟨g, off, none⟩, 1, cap⟩)) := (At.new _ _).alloc _
  have A4 : Hid (At ((W.alloc (tyO 3 false 0 0 (some ⟨g, off, none⟩) 1 cap)).alloc zT.o) (W.heap.size + 1) zT.o) := at_snd _ _ _
  have HS : Hid (∀ (V V' : World) i (f : Fv), J l' V → At V i f.o → w0.heap.size ≤ i → But i V V' → J l' V') := fun V V' i f => hT.set l' V V' i f
  have HA : Hid (∀ V o, J l' V → J l' (V.alloc o)) := hT.alloc l'
  obtain ⟨hg, p0, p1, p2, p3, p4⟩ := hx.below (hT.bel _ _ hJ)
  clear hT hJ hJ2 IH0 hx
  go_enter Tryd.func72, Tryd.ntmps72
  go_wp2_with (go_at_call 72; refine IH.out.mono ?_; rintro e w2 ⟨f2, rfl, hP⟩; clear p0 p1 p2 p3 p4; have B2 := hP.keep _ _ A2.out; have B4 := hP.keep _ _ A4.out; have g0 := B4.tyF 0; have g1 := B4.tyF 1; have g2 := B4.tyF 2; have g3 := B4.tyF 3; have g4 := B4.tyF 4; have k4 := B2.tyF 4; obtain ⟨hl4, q0, q1, q2, q3, q4⟩ := B4.ty; obtain ⟨hl2, p0, p1, p2, p3, p4⟩ := B2.ty; simp only [Nat.zero_add] at p0 p1 p2 p3 p4 q0 q1 q2 q3 q4)
  have hlo : W.heap.size + 2 ≤ ((W.alloc (tyO 3 false 0 0 (some ⟨g, off, none⟩) 1 cap)).alloc zT.o).heap.size := by simp only [World.size_alloc]; omega
  obtain ⟨F1, F2, F3, F4, F5, F6, F7⟩ := turn_fin (J := J l') (w0 := w0) ⟨3, false, 0, 0, some ⟨w2.heap.size, 0, none⟩, 1, 1⟩ (.slice (some ⟨w2.heap.size, 0, none⟩) 1 1) hP.own hlo hP.j (keepT_two hP.keep) B2 B4 hB.out.size HS.out HA.out
  exact bodyPost_ret (results_c1 (g := ⟨3, false, 0, 0, some ⟨w2.heap.size, 0, none⟩, 1, 1⟩) Tryd.results72 rfl F1) rfl ⟨⟨3, false, 0, 0, some ⟨w2.heap.size, 0, none⟩, 1, 1⟩, rfl, ⟨.box w2.heap.size f2 c F7 F3 F2, F4, F5, F6⟩⟩
/-- A function value with no variable of its own, and one with two. -/
abbrev fnZ (fn : Nat) : Value := .func (.func fn) #[] #[]
abbrev fnC (fn b b2 : Nat) : Value := .func (.func fn) #[] #[.pointer (some ⟨b, 0, none⟩), .pointer (some ⟨b2, 0, none⟩)]
set_option maxRecDepth 100000 in
set_option maxHeartbeats 4000000 in
theorem turn_ref0 {fn N : Nat} {w0 : World} {J : List Int → World → Prop} {out : List Int → Int → Int} (hT : Turn fn [] N w0 J out) (m : Bool) (r : Int) (g off cap : Nat) (x : Fv) (c : Ch) (l l' : List Int) (W : World) (hl : l.length < N) (r0 : -9223372036854775808 ≤ r) (r1 : r ≤ 9223372036854775807) (hx : C5 w0 g off x) (hJ : J l W)
    (IH0 : ∀ V, J (l ++ [r]) V → Calls Tryd.prog 72 #[x.v, fnZ fn] V fun e w' => ∃ f' : Fv, e = .returned f'.v ∧ TurnP V J l' c f' w') :
    Calls Tryd.prog 72 #[tyV 4 m r 0 (some ⟨g, off, none⟩) 1 cap, fnZ fn] W fun e w' => ∃ f' : Fv, e = .returned f'.v ∧ TurnP W J l' (.ref m (out l r) c) f' w' := by
  have hJ2 := hT.alloc _ _ zT.o (hT.alloc _ _ (tyO 4 m r 0 (some ⟨g, off, none⟩) 1 cap) hJ)
  have CT : Hid (Calls Tryd.prog fn #[.int .i64 r] ((W.alloc (tyO 4 m r 0 (some ⟨g, off, none⟩) 1 cap)).alloc zT.o) fun e w' => e = .returned (.int .i64 (out l r)) ∧ J (l ++ [r]) w' ∧ KeepT ((W.alloc (tyO 4 m r 0 (some ⟨g, off, none⟩) 1 cap)).alloc zT.o) w' ∧ ((W.alloc (tyO 4 m r 0 (some ⟨g, off, none⟩) 1 cap)).alloc zT.o).heap.size ≤ w'.heap.size) := hT.call l r _ hl r0 r1 hJ2
  have IH : Hid (∀ V, J (l ++ [r]) V → Calls Tryd.prog 72 #[x.v, fnZ fn] V fun e w' => ∃ f' : Fv, e = .returned f'.v ∧ TurnP V J l' c f' w') := IH0
  have hB : Hid (w0.heap.size ≤ W.heap.size) := (hT.bel _ _ hJ).size
  have A2 : Hid (At ((W.alloc (tyO 4 m r 0 (some ⟨g, off, none⟩) 1 cap)).alloc zT.o) W.heap.size (Fv.o ⟨4, m, r, 0, some ⟨g, off, none⟩, 1, cap⟩)) := (At.new _ _).alloc _
  have A4 : Hid (At ((W.alloc (tyO 4 m r 0 (some ⟨g, off, none⟩) 1 cap)).alloc zT.o) (W.heap.size + 1) zT.o) := at_snd _ _ _
  have HS1 : Hid (∀ (V V' : World) i (f : Fv), J (l ++ [r]) V → At V i f.o → w0.heap.size ≤ i → But i V V' → J (l ++ [r]) V') := fun V V' i f => hT.set _ V V' i f
  have HS : Hid (∀ (V V' : World) i (f : Fv), J l' V → At V i f.o → w0.heap.size ≤ i → But i V V' → J l' V') := fun V V' i f => hT.set l' V V' i f
  have HA : Hid (∀ V o, J l' V → J l' (V.alloc o)) := hT.alloc l'
  have PC : Hid (∀ V, J (l ++ [r]) V → C5 V g off x) := fun V h1 => hx.below (hT.bel _ _ h1)
  have hgw : g < w0.heap.size := hx.1
  have hen := hT.enters
  unfold Enters at hen
  obtain ⟨o, ho⟩ : ∃ o, o = out l r := ⟨_, rfl⟩
  rw [← ho] at CT ⊢
  clear hT hJ hJ2 IH0 hx ho hl r0 r1
  go_enter Tryd.func72, Tryd.ntmps72
  go_wp2_with fail
  refine CT.out.mono ?_
  rintro e w1 ⟨rfl, hj1, hk1, hz1⟩
  have B2 := hk1 _ _ A2.out
  have B4 := hk1 _ _ A4.out
  have C2 : At (w1.setCell ⟨W.heap.size, 2, none⟩ (.int .i64 o)) W.heap.size (Fv.o ⟨4, m, o, 0, some ⟨g, off, none⟩, 1, cap⟩) := B2.cell2 o
  have C4 : At (w1.setCell ⟨W.heap.size, 2, none⟩ (.int .i64 o)) (W.heap.size + 1) zT.o := B4.set (by simp) _
  have hj2 : J (l ++ [r]) (w1.setCell ⟨W.heap.size, 2, none⟩ (.int .i64 o)) := HS1.out w1 _ _ _ hj1 B2 hB.out ((But.refl _ _).set 2 _)
  have hk2 : KeepT W (w1.setCell ⟨W.heap.size, 2, none⟩ (.int .i64 o)) := keepT_hi (keepT_two hk1) (Nat.le_refl _) 2 _
  have hs2 : W.heap.size + 2 ≤ (w1.setCell ⟨W.heap.size, 2, none⟩ (.int .i64 o)).heap.size := by simp only [World.size_alloc] at hz1; simp only [World.size_setCell]; omega
  have Q2 : Hid (At (w1.setCell ⟨W.heap.size, 2, none⟩ (.int .i64 o)) W.heap.size (Fv.o ⟨4, m, o, 0, some ⟨g, off, none⟩, 1, cap⟩) ∧ At (w1.setCell ⟨W.heap.size, 2, none⟩ (.int .i64 o)) (W.heap.size + 1) zT.o ∧ J (l ++ [r]) (w1.setCell ⟨W.heap.size, 2, none⟩ (.int .i64 o)) ∧ KeepT W (w1.setCell ⟨W.heap.size, 2, none⟩ (.int .i64 o)) ∧ W.heap.size + 2 ≤ (w1.setCell ⟨W.heap.size, 2, none⟩ (.int .i64 o)).heap.size) := ⟨C2, C4, hj2, hk2, hs2⟩
  have k2 := B2.tyF 2
  obtain ⟨hl2, p0, p1, p2, p3, p4⟩ := B2.ty
  simp only [Nat.zero_add] at p0 p1 p2 p3 p4
  obtain ⟨hgl, q0, q1, q2, q3, q4⟩ := PC.out _ hj1
  have hgne : g ≠ W.heap.size := by have := hB.out; omega
  clear C2 C4 hj2 hk2 hs2 B2 B4
  go_wp2_with (go_at_call 72; refine (IH.out _ Q2.out.2.2.1).mono ?_; rintro e w2 ⟨f2, rfl, hP⟩; clear p0 p1 p2 p3 p4 q0 q1 q2 q3 q4; have D2 := hP.keep _ _ Q2.out.1; have D4 := hP.keep _ _ Q2.out.2.1; have g0 := D4.tyF 0; have g1 := D4.tyF 1; have g2 := D4.tyF 2; have g3 := D4.tyF 3; have g4 := D4.tyF 4; have k4 := D2.tyF 4; obtain ⟨hl4, q0, q1, q2, q3, q4⟩ := D4.ty; obtain ⟨hl2, p0, p1, p2, p3, p4⟩ := D2.ty; simp only [Nat.zero_add] at p0 p1 p2 p3 p4 q0 q1 q2 q3 q4)
  obtain ⟨F1, F2, F3, F4, F5, F6, F7⟩ := turn_fin (J := J l') (w0 := w0) ⟨4, m, o, 0, some ⟨w2.heap.size, 0, none⟩, 1, 1⟩ (.slice (some ⟨w2.heap.size, 0, none⟩) 1 1) hP.own Q2.out.2.2.2.2 hP.j (Q2.out.2.2.2.1.trans hP.keep) D2 D4 hB.out HS.out HA.out
  exact bodyPost_ret (results_c1 (g := ⟨4, m, o, 0, some ⟨w2.heap.size, 0, none⟩, 1, 1⟩) Tryd.results72 rfl F1) rfl ⟨⟨4, m, o, 0, some ⟨w2.heap.size, 0, none⟩, 1, 1⟩, rfl, ⟨.ref m o w2.heap.size f2 c F7 F3 F2, F4, F5, F6⟩⟩
set_option maxRecDepth 100000 in
set_option maxHeartbeats 4000000 in
theorem turn_ref1 {fn b N : Nat} {w0 : World} {J : List Int → World → Prop} {out : List Int → Int → Int} (hT : Turn fn [.pointer (some ⟨b, 0, none⟩)] N w0 J out) (m : Bool) (r : Int) (g off cap : Nat) (x : Fv) (c : Ch) (l l' : List Int) (W : World) (hl : l.length < N) (r0 : -9223372036854775808 ≤ r) (r1 : r ≤ 9223372036854775807) (hx : C5 w0 g off x) (hJ : J l W)
    (IH0 : ∀ V, J (l ++ [r]) V → Calls Tryd.prog 72 #[x.v, fnB fn b] V fun e w' => ∃ f' : Fv, e = .returned f'.v ∧ TurnP V J l' c f' w') :
    Calls Tryd.prog 72 #[tyV 4 m r 0 (some ⟨g, off, none⟩) 1 cap, fnB fn b] W fun e w' => ∃ f' : Fv, e = .returned f'.v ∧ TurnP W J l' (.ref m (out l r) c) f' w' := by
  have hJ2 := hT.alloc _ _ zT.o (hT.alloc _ _ (tyO 4 m r 0 (some ⟨g, off, none⟩) 1 cap) hJ)
  have CT : Hid (Calls Tryd.prog fn #[.int .i64 r, .pointer (some ⟨b, 0, none⟩)] ((W.alloc (tyO 4 m r 0 (some ⟨g, off, none⟩) 1 cap)).alloc zT.o) fun e w' => e = .returned (.int .i64 (out l r)) ∧ J (l ++ [r]) w' ∧ KeepT ((W.alloc (tyO 4 m r 0 (some ⟨g, off, none⟩) 1 cap)).alloc zT.o) w' ∧ ((W.alloc (tyO 4 m r 0 (some ⟨g, off, none⟩) 1 cap)).alloc zT.o).heap.size ≤ w'.heap.size) := hT.call l r _ hl r0 r1 hJ2
  have IH : Hid (∀ V, J (l ++ [r]) V → Calls Tryd.prog 72 #[x.v, fnB fn b] V fun e w' => ∃ f' : Fv, e = .returned f'.v ∧ TurnP V J l' c f' w') := IH0
  have hB : Hid (w0.heap.size ≤ W.heap.size) := (hT.bel _ _ hJ).size
  have A2 : Hid (At ((W.alloc (tyO 4 m r 0 (some ⟨g, off, none⟩) 1 cap)).alloc zT.o) W.heap.size (Fv.o ⟨4, m, r, 0, some ⟨g, off, none⟩, 1, cap⟩)) := (At.new _ _).alloc _
  have A4 : Hid (At ((W.alloc (tyO 4 m r 0 (some ⟨g, off, none⟩) 1 cap)).alloc zT.o) (W.heap.size + 1) zT.o) := at_snd _ _ _
  have HS1 : Hid (∀ (V V' : World) i (f : Fv), J (l ++ [r]) V → At V i f.o → w0.heap.size ≤ i → But i V V' → J (l ++ [r]) V') := fun V V' i f => hT.set _ V V' i f
  have HS : Hid (∀ (V V' : World) i (f : Fv), J l' V → At V i f.o → w0.heap.size ≤ i → But i V V' → J l' V') := fun V V' i f => hT.set l' V V' i f
  have HA : Hid (∀ V o, J l' V → J l' (V.alloc o)) := hT.alloc l'
  have PC : Hid (∀ V, J (l ++ [r]) V → C5 V g off x) := fun V h1 => hx.below (hT.bel _ _ h1)
  have hgw : g < w0.heap.size := hx.1
  have hen := hT.enters
  unfold Enters at hen
  obtain ⟨o, ho⟩ : ∃ o, o = out l r := ⟨_, rfl⟩
  rw [← ho] at CT ⊢
  clear hT hJ hJ2 IH0 hx ho hl r0 r1
  go_enter Tryd.func72, Tryd.ntmps72
  go_wp2_with fail
  refine CT.out.mono ?_
  rintro e w1 ⟨rfl, hj1, hk1, hz1⟩
  have B2 := hk1 _ _ A2.out
  have B4 := hk1 _ _ A4.out
  have C2 : At (w1.setCell ⟨W.heap.size, 2, none⟩ (.int .i64 o)) W.heap.size (Fv.o ⟨4, m, o, 0, some ⟨g, off, none⟩, 1, cap⟩) := B2.cell2 o
  have C4 : At (w1.setCell ⟨W.heap.size, 2, none⟩ (.int .i64 o)) (W.heap.size + 1) zT.o := B4.set (by simp) _
  have hj2 : J (l ++ [r]) (w1.setCell ⟨W.heap.size, 2, none⟩ (.int .i64 o)) := HS1.out w1 _ _ _ hj1 B2 hB.out ((But.refl _ _).set 2 _)
  have hk2 : KeepT W (w1.setCell ⟨W.heap.size, 2, none⟩ (.int .i64 o)) := keepT_hi (keepT_two hk1) (Nat.le_refl _) 2 _
  have hs2 : W.heap.size + 2 ≤ (w1.setCell ⟨W.heap.size, 2, none⟩ (.int .i64 o)).heap.size := by simp only [World.size_alloc] at hz1; simp only [World.size_setCell]; omega
  have Q2 : Hid (At (w1.setCell ⟨W.heap.size, 2, none⟩ (.int .i64 o)) W.heap.size (Fv.o ⟨4, m, o, 0, some ⟨g, off, none⟩, 1, cap⟩) ∧ At (w1.setCell ⟨W.heap.size, 2, none⟩ (.int .i64 o)) (W.heap.size + 1) zT.o ∧ J (l ++ [r]) (w1.setCell ⟨W.heap.size, 2, none⟩ (.int .i64 o)) ∧ KeepT W (w1.setCell ⟨W.heap.size, 2, none⟩ (.int .i64 o)) ∧ W.heap.size + 2 ≤ (w1.setCell ⟨W.heap.size, 2, none⟩ (.int .i64 o)).heap.size) := ⟨C2, C4, hj2, hk2, hs2⟩
  have k2 := B2.tyF 2
  obtain ⟨hl2, p0, p1, p2, p3, p4⟩ := B2.ty
  simp only [Nat.zero_add] at p0 p1 p2 p3 p4
  obtain ⟨hgl, q0, q1, q2, q3, q4⟩ := PC.out _ hj1
  have hgne : g ≠ W.heap.size := by have := hB.out; omega
  clear C2 C4 hj2 hk2 hs2 B2 B4
  go_wp2_with (go_at_call 72; refine (IH.out _ Q2.out.2.2.1).mono ?_; rintro e w2 ⟨f2, rfl, hP⟩; clear p0 p1 p2 p3 p4 q0 q1 q2 q3 q4; have D2 := hP.keep _ _ Q2.out.1; have D4 := hP.keep _ _ Q2.out.2.1; have g0 := D4.tyF 0; have g1 := D4.tyF 1; have g2 := D4.tyF 2; have g3 := D4.tyF 3; have g4 := D4.tyF 4; have k4 := D2.tyF 4; obtain ⟨hl4, q0, q1, q2, q3, q4⟩ := D4.ty; obtain ⟨hl2, p0, p1, p2, p3, p4⟩ := D2.ty; simp only [Nat.zero_add] at p0 p1 p2 p3 p4 q0 q1 q2 q3 q4)
  obtain ⟨F1, F2, F3, F4, F5, F6, F7⟩ := turn_fin (J := J l') (w0 := w0) ⟨4, m, o, 0, some ⟨w2.heap.size, 0, none⟩, 1, 1⟩ (.slice (some ⟨w2.heap.size, 0, none⟩) 1 1) hP.own Q2.out.2.2.2.2 hP.j (Q2.out.2.2.2.1.trans hP.keep) D2 D4 hB.out HS.out HA.out
  exact bodyPost_ret (results_c1 (g := ⟨4, m, o, 0, some ⟨w2.heap.size, 0, none⟩, 1, 1⟩) Tryd.results72 rfl F1) rfl ⟨⟨4, m, o, 0, some ⟨w2.heap.size, 0, none⟩, 1, 1⟩, rfl, ⟨.ref m o w2.heap.size f2 c F7 F3 F2, F4, F5, F6⟩⟩
set_option maxRecDepth 100000 in
set_option maxHeartbeats 4000000 in
theorem turn_ref2 {fn b b2 N : Nat} {w0 : World} {J : List Int → World → Prop} {out : List Int → Int → Int} (hT : Turn fn [.pointer (some ⟨b, 0, none⟩), .pointer (some ⟨b2, 0, none⟩)] N w0 J out) (m : Bool) (r : Int) (g off cap : Nat) (x : Fv) (c : Ch) (l l' : List Int) (W : World) (hl : l.length < N) (r0 : -9223372036854775808 ≤ r) (r1 : r ≤ 9223372036854775807) (hx : C5 w0 g off x) (hJ : J l W)
    (IH0 : ∀ V, J (l ++ [r]) V → Calls Tryd.prog 72 #[x.v, fnC fn b b2] V fun e w' => ∃ f' : Fv, e = .returned f'.v ∧ TurnP V J l' c f' w') :
    Calls Tryd.prog 72 #[tyV 4 m r 0 (some ⟨g, off, none⟩) 1 cap, fnC fn b b2] W fun e w' => ∃ f' : Fv, e = .returned f'.v ∧ TurnP W J l' (.ref m (out l r) c) f' w' := by
  have hJ2 := hT.alloc _ _ zT.o (hT.alloc _ _ (tyO 4 m r 0 (some ⟨g, off, none⟩) 1 cap) hJ)
  have CT : Hid (Calls Tryd.prog fn #[.int .i64 r, .pointer (some ⟨b, 0, none⟩), .pointer (some ⟨b2, 0, none⟩)] ((W.alloc (tyO 4 m r 0 (some ⟨g, off, none⟩) 1 cap)).alloc zT.o) fun e w' => e = .returned (.int .i64 (out l r)) ∧ J (l ++ [r]) w' ∧ KeepT ((W.alloc (tyO 4 m r 0 (some ⟨g, off, none⟩) 1 cap)).alloc zT.o) w' ∧ ((W.alloc (tyO 4 m r 0 (some ⟨g, off, none⟩) 1 cap)).alloc zT.o).heap.size ≤ w'.heap.size) := hT.call l r _ hl r0 r1 hJ2
  have IH : Hid (∀ V, J (l ++ [r]) V → Calls Tryd.prog 72 #[x.v, fnC fn b b2] V fun e w' => ∃ f' : Fv, e = .returned f'.v ∧ TurnP V J l' c f' w') := IH0
  have hB : Hid (w0.heap.size ≤ W.heap.size) := (hT.bel _ _ hJ).size
  have A2 : Hid (At ((W.alloc (tyO 4 m r 0 (some ⟨g, off, none⟩) 1 cap)).alloc zT.o) W.heap.size (Fv.o ⟨4, m, r, 0, some ⟨g, off, none⟩, 1, cap⟩)) := (At.new _ _).alloc _
  have A4 : Hid (At ((W.alloc (tyO 4 m r 0 (some ⟨g, off, none⟩) 1 cap)).alloc zT.o) (W.heap.size + 1) zT.o) := at_snd _ _ _
  have HS1 : Hid (∀ (V V' : World) i (f : Fv), J (l ++ [r]) V → At V i f.o → w0.heap.size ≤ i → But i V V' → J (l ++ [r]) V') := fun V V' i f => hT.set _ V V' i f
  have HS : Hid (∀ (V V' : World) i (f : Fv), J l' V → At V i f.o → w0.heap.size ≤ i → But i V V' → J l' V') := fun V V' i f => hT.set l' V V' i f
  have HA : Hid (∀ V o, J l' V → J l' (V.alloc o)) := hT.alloc l'
  have PC : Hid (∀ V, J (l ++ [r]) V → C5 V g off x) := fun V h1 => hx.below (hT.bel _ _ h1)
  have hgw : g < w0.heap.size := hx.1
  have hen := hT.enters
  unfold Enters at hen
  obtain ⟨o, ho⟩ : ∃ o, o = out l r := ⟨_, rfl⟩
  rw [← ho] at CT ⊢
  clear hT hJ hJ2 IH0 hx ho hl r0 r1
  go_enter Tryd.func72, Tryd.ntmps72
  go_wp2_with fail
  refine CT.out.mono ?_
  rintro e w1 ⟨rfl, hj1, hk1, hz1⟩
  have B2 := hk1 _ _ A2.out
  have B4 := hk1 _ _ A4.out
  have C2 : At (w1.setCell ⟨W.heap.size, 2, none⟩ (.int .i64 o)) W.heap.size (Fv.o ⟨4, m, o, 0, some ⟨g, off, none⟩, 1, cap⟩) := B2.cell2 o
  have C4 : At (w1.setCell ⟨W.heap.size, 2, none⟩ (.int .i64 o)) (W.heap.size + 1) zT.o := B4.set (by simp) _
  have hj2 : J (l ++ [r]) (w1.setCell ⟨W.heap.size, 2, none⟩ (.int .i64 o)) := HS1.out w1 _ _ _ hj1 B2 hB.out ((But.refl _ _).set 2 _)
  have hk2 : KeepT W (w1.setCell ⟨W.heap.size, 2, none⟩ (.int .i64 o)) := keepT_hi (keepT_two hk1) (Nat.le_refl _) 2 _
  have hs2 : W.heap.size + 2 ≤ (w1.setCell ⟨W.heap.size, 2, none⟩ (.int .i64 o)).heap.size := by simp only [World.size_alloc] at hz1; simp only [World.size_setCell]; omega
  have Q2 : Hid (At (w1.setCell ⟨W.heap.size, 2, none⟩ (.int .i64 o)) W.heap.size (Fv.o ⟨4, m, o, 0, some ⟨g, off, none⟩, 1, cap⟩) ∧ At (w1.setCell ⟨W.heap.size, 2, none⟩ (.int .i64 o)) (W.heap.size + 1) zT.o ∧ J (l ++ [r]) (w1.setCell ⟨W.heap.size, 2, none⟩ (.int .i64 o)) ∧ KeepT W (w1.setCell ⟨W.heap.size, 2, none⟩ (.int .i64 o)) ∧ W.heap.size + 2 ≤ (w1.setCell ⟨W.heap.size, 2, none⟩ (.int .i64 o)).heap.size) := ⟨C2, C4, hj2, hk2, hs2⟩
  have k2 := B2.tyF 2
  obtain ⟨hl2, p0, p1, p2, p3, p4⟩ := B2.ty
  simp only [Nat.zero_add] at p0 p1 p2 p3 p4
  obtain ⟨hgl, q0, q1, q2, q3, q4⟩ := PC.out _ hj1
  have hgne : g ≠ W.heap.size := by have := hB.out; omega
  clear C2 C4 hj2 hk2 hs2 B2 B4
  go_wp2_with (go_at_call 72; refine (IH.out _ Q2.out.2.2.1).mono ?_; rintro e w2 ⟨f2, rfl, hP⟩; clear p0 p1 p2 p3 p4 q0 q1 q2 q3 q4; have D2 := hP.keep _ _ Q2.out.1; have D4 := hP.keep _ _ Q2.out.2.1; have g0 := D4.tyF 0; have g1 := D4.tyF 1; have g2 := D4.tyF 2; have g3 := D4.tyF 3; have g4 := D4.tyF 4; have k4 := D2.tyF 4; obtain ⟨hl4, q0, q1, q2, q3, q4⟩ := D4.ty; obtain ⟨hl2, p0, p1, p2, p3, p4⟩ := D2.ty; simp only [Nat.zero_add] at p0 p1 p2 p3 p4 q0 q1 q2 q3 q4)
  obtain ⟨F1, F2, F3, F4, F5, F6, F7⟩ := turn_fin (J := J l') (w0 := w0) ⟨4, m, o, 0, some ⟨w2.heap.size, 0, none⟩, 1, 1⟩ (.slice (some ⟨w2.heap.size, 0, none⟩) 1 1) hP.own Q2.out.2.2.2.2 hP.j (Q2.out.2.2.2.1.trans hP.keep) D2 D4 hB.out HS.out HA.out
  exact bodyPost_ret (results_c1 (g := ⟨4, m, o, 0, some ⟨w2.heap.size, 0, none⟩, 1, 1⟩) Tryd.results72 rfl F1) rfl ⟨⟨4, m, o, 0, some ⟨w2.heap.size, 0, none⟩, 1, 1⟩, rfl, ⟨.ref m o w2.heap.size f2 c F7 F3 F2, F4, F5, F6⟩⟩
theorem turned_any0 {fn N : Nat} {w0 : World} {J : List Int → World → Prop} {out : List Int → Int → Int} (hT : Turn fn [] N w0 J out) : ∀ (c : Ch) (f : Fv) (l : List Int) (W : World), c.ok 32 → l.length + c.regs.length ≤ N → TyAt w0 f c.ty → J l W →
    Calls Tryd.prog 72 #[f.v, fnZ fn] W fun e w' => ∃ f' : Fv, e = .returned f'.v ∧ TurnP W J (l ++ c.regs) (turnC out l c) f' w' := by
  intro c
  induction c with
  | leaf k s =>
    intro f l W hc hl h hJ
    obtain ⟨a, cap, rfl, -⟩ := h.leaf
    have hk : ¬ (k : Int) = 3 ∧ ¬ (k : Int) = 4 := by
      have : (k = 1 ∨ k = 2) ∧ s = 0 ∨ k = 5 ∧ 0 ≤ s ∧ s < 32 := hc
      omega
    have := turn_leaf hT (fnZ fn) k s a cap l W hk.1 hk.2 hJ
    simpa only [Ch.regs, List.append_nil, turnC] using this
  | box c ih =>
    intro f l W hc hl h hJ
    obtain ⟨g, off, cap, x, rfl, hx, ht⟩ := h.box
    exact turn_box hT (fnZ fn) g off cap x (turnC out l c) l (l ++ c.regs) W hx hJ (fun V hV => ih x l V hc hl ht hV)
  | ref m r c ih =>
    intro f l W hc hl h hJ
    obtain ⟨g, off, cap, x, rfl, hx, ht, r0, r1⟩ := h.ref
    refine turn_ref0 hT m r g off cap x (turnC out (l ++ [r]) c) l (l ++ (Ch.ref m r c).regs) W (by simp [Ch.regs] at hl; omega) r0 r1 hx hJ (fun V hV => ?_)
    have := ih x (l ++ [r]) V hc.2 (by simp [Ch.regs] at hl ⊢; omega) ht hV
    rw [List.append_assoc] at this
    exact this
theorem turned_any1 {fn b N : Nat} {w0 : World} {J : List Int → World → Prop} {out : List Int → Int → Int} (hT : Turn fn [.pointer (some ⟨b, 0, none⟩)] N w0 J out) : ∀ (c : Ch) (f : Fv) (l : List Int) (W : World), c.ok 32 → l.length + c.regs.length ≤ N → TyAt w0 f c.ty → J l W →
    Calls Tryd.prog 72 #[f.v, fnB fn b] W fun e w' => ∃ f' : Fv, e = .returned f'.v ∧ TurnP W J (l ++ c.regs) (turnC out l c) f' w' := by
  intro c
  induction c with
  | leaf k s =>
    intro f l W hc hl h hJ
    obtain ⟨a, cap, rfl, -⟩ := h.leaf
    have hk : ¬ (k : Int) = 3 ∧ ¬ (k : Int) = 4 := by
      have : (k = 1 ∨ k = 2) ∧ s = 0 ∨ k = 5 ∧ 0 ≤ s ∧ s < 32 := hc
      omega
    have := turn_leaf hT (fnB fn b) k s a cap l W hk.1 hk.2 hJ
    simpa only [Ch.regs, List.append_nil, turnC] using this
  | box c ih =>
    intro f l W hc hl h hJ
    obtain ⟨g, off, cap, x, rfl, hx, ht⟩ := h.box
    exact turn_box hT (fnB fn b) g off cap x (turnC out l c) l (l ++ c.regs) W hx hJ (fun V hV => ih x l V hc hl ht hV)
  | ref m r c ih =>
    intro f l W hc hl h hJ
    obtain ⟨g, off, cap, x, rfl, hx, ht, r0, r1⟩ := h.ref
    refine turn_ref1 hT m r g off cap x (turnC out (l ++ [r]) c) l (l ++ (Ch.ref m r c).regs) W (by simp [Ch.regs] at hl; omega) r0 r1 hx hJ (fun V hV => ?_)
    have := ih x (l ++ [r]) V hc.2 (by simp [Ch.regs] at hl ⊢; omega) ht hV
    rw [List.append_assoc] at this
    exact this
theorem turned_any2 {fn b b2 N : Nat} {w0 : World} {J : List Int → World → Prop} {out : List Int → Int → Int} (hT : Turn fn [.pointer (some ⟨b, 0, none⟩), .pointer (some ⟨b2, 0, none⟩)] N w0 J out) : ∀ (c : Ch) (f : Fv) (l : List Int) (W : World), c.ok 32 → l.length + c.regs.length ≤ N → TyAt w0 f c.ty → J l W →
    Calls Tryd.prog 72 #[f.v, fnC fn b b2] W fun e w' => ∃ f' : Fv, e = .returned f'.v ∧ TurnP W J (l ++ c.regs) (turnC out l c) f' w' := by
  intro c
  induction c with
  | leaf k s =>
    intro f l W hc hl h hJ
    obtain ⟨a, cap, rfl, -⟩ := h.leaf
    have hk : ¬ (k : Int) = 3 ∧ ¬ (k : Int) = 4 := by
      have : (k = 1 ∨ k = 2) ∧ s = 0 ∨ k = 5 ∧ 0 ≤ s ∧ s < 32 := hc
      omega
    have := turn_leaf hT (fnC fn b b2) k s a cap l W hk.1 hk.2 hJ
    simpa only [Ch.regs, List.append_nil, turnC] using this
  | box c ih =>
    intro f l W hc hl h hJ
    obtain ⟨g, off, cap, x, rfl, hx, ht⟩ := h.box
    exact turn_box hT (fnC fn b b2) g off cap x (turnC out l c) l (l ++ c.regs) W hx hJ (fun V hV => ih x l V hc hl ht hV)
  | ref m r c ih =>
    intro f l W hc hl h hJ
    obtain ⟨g, off, cap, x, rfl, hx, ht, r0, r1⟩ := h.ref
    refine turn_ref2 hT m r g off cap x (turnC out (l ++ [r]) c) l (l ++ (Ch.ref m r c).regs) W (by simp [Ch.regs] at hl; omega) r0 r1 hx hJ (fun V hV => ?_)
    have := ih x (l ++ [r]) V hc.2 (by simp [Ch.regs] at hl ⊢; omega) ht hV
    rw [List.append_assoc] at this
    exact this
end Go.Proofs.YtnohcppipkpgmaaDoor
