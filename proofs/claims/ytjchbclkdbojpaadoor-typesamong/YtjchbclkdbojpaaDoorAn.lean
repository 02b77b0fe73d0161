import Derived.Test.YtjchbclkdbojpaaDoorQ
namespace Go.Proofs.YtjchbclkdbojpaaDoor
open Go.RowKit
set_option linter.unusedVariables false
set_option linter.unusedSimpArgs false

/-- A type in blocks from one up to another. -/
inductive OwnL (w : World) (lo hi : Nat) : Fv → Ch → Prop
  | leaf (k : Nat) (s : Int) (a : Option Addr) (cap : Nat) : OwnL w lo hi ⟨k, false, 0, s, a, 0, cap⟩ (.leaf k s)
  | box (g : Nat) (f : Fv) (c : Ch) (hg : lo ≤ g) (hh : g < hi) (h : At w g f.o) (hc : OwnL w lo hi f c) : OwnL w lo hi ⟨3, false, 0, 0, some ⟨g, 0, none⟩, 1, 1⟩ (.box c)
  | ref (m : Bool) (r : Int) (g : Nat) (f : Fv) (c : Ch) (hg : lo ≤ g) (hh : g < hi) (h : At w g f.o) (hc : OwnL w lo hi f c) : OwnL w lo hi ⟨4, m, r, 0, some ⟨g, 0, none⟩, 1, 1⟩ (.ref m r c)
theorem OwnL.keep {w w' : World} {lo hi : Nat} (hk : ∀ g o, lo ≤ g → g < hi → At w g o → At w' g o) {f : Fv} {c : Ch} (h : OwnL w lo hi f c) : OwnL w' lo hi f c := by
  induction h with
  | leaf k s a cap => exact .leaf k s a cap
  | box g f c hg hh h hc ih => exact .box g f c hg hh (hk g _ hg hh h) ih
  | ref m r g f c hg hh h hc ih => exact .ref m r g f c hg hh (hk g _ hg hh h) ih
theorem OwnL.low {w : World} {lo lo' hi hi' : Nat} (hl : lo' ≤ lo) (hh : hi ≤ hi') {f : Fv} {c : Ch} (h : OwnL w lo hi f c) : OwnL w lo' hi' f c := by
  induction h with
  | leaf k s a cap => exact .leaf k s a cap
  | box g f c hg hh' h hc ih => exact .box g f c (Nat.le_trans hl hg) (Nat.lt_of_lt_of_le hh' hh) h ih
  | ref m r g f c hg hh' h hc ih => exact .ref m r g f c (Nat.le_trans hl hg) (Nat.lt_of_lt_of_le hh' hh) h ih
theorem OwnL.bel {w w' : World} {lo hi : Nat} {f : Fv} {c : Ch} (h : OwnL w lo hi f c) (k : Below w.heap.size w w') : OwnL w' lo hi f c := h.keep fun g o _ _ hA => hA.below k
theorem OwnL.ty {w : World} {lo hi : Nat} {f : Fv} {c : Ch} (h : OwnL w lo hi f c) : c.rg → TyAt w f c.ty := by
  induction h with
  | leaf k s a cap => exact fun hr => TyAt.mkLeaf k s hr.1 hr.2.1 hr.2.2 a cap
  | box g f c hg hh h hc ih => exact fun hr => TyAt.mkOne 3 false 0 0 (by omega) (by omega) (by omega) (by omega) (by omega) g 0 1 f _ h.ty (ih hr)
  | ref m r g f c hg hh h hc ih => exact fun hr => TyAt.mkOne 4 m r 0 (by omega) hr.1.1 hr.1.2 (by omega) (by omega) g 0 1 f _ h.ty (ih hr.2)
theorem Own.toL {w : World} {lo : Nat} {f : Fv} {c : Ch} (h : Own w lo f c) : OwnL w lo w.heap.size f c := by
  induction h with
  | leaf k s => exact .leaf k s none 0
  | box g f c hg h hc ih => exact .box g f c hg h.lt h ih
  | ref m r g f c hg h hc ih => exact .ref m r g f c hg h.lt h ih
/-- All but the blocks from one up to another is as it was. -/
structure Out (lo hi : Nat) (w w' : World) : Prop where
  bel : Below lo w w'
  hi : ∀ i, hi ≤ i → i < w.heap.size → w'.heap[i]? = w.heap[i]?
  form : ∀ i (f : Fv), At w i f.o → ∃ f' : Fv, At w' i f'.o
theorem Out.refl (lo hi : Nat) (w : World) : Out lo hi w w := ⟨Below.refl _ _, fun _ _ _ => rfl, fun i f h => ⟨f, h⟩⟩
theorem Out.trans {lo hi : Nat} {a b c : World} (h : Out lo hi a b) (k : Out lo hi b c) : Out lo hi a c :=
  ⟨h.bel.trans k.bel, fun i h1 h2 => (k.hi i h1 (Nat.lt_of_lt_of_le h2 h.bel.size)).trans (h.hi i h1 h2), fun i f hA => by obtain ⟨f', h'⟩ := h.form i f hA; exact k.form i f' h'⟩
theorem Out.of {lo hi : Nat} {a b : World} (h : Below a.heap.size a b) (hl : lo ≤ a.heap.size) : Out lo hi a b := ⟨h.mono hl, fun i _ hi => h.block i hi, fun i f hA => ⟨f, hA.below h⟩⟩
theorem Out.at {lo hi : Nat} {a b : World} (h : Out lo hi a b) {i : Nat} {o : Obj} (hA : At a i o) (hi' : i < lo ∨ hi ≤ i) : At b i o := by
  rcases hi' with h1 | h1
  · exact hA.belowB h.bel h1
  · exact (h.hi i h1 hA.lt).trans hA
theorem Out.alloc {lo hi : Nat} {a b : World} (h : Out lo hi a b) (hl : lo ≤ a.heap.size) (o : Obj) : Out lo hi a (b.alloc o) := h.trans (Out.of (belA (Below.refl _ _)) (Nat.le_trans hl h.bel.size))
theorem Out.S5 {lo hi : Nat} {a b : World} (h : Out lo hi a b) {g : Nat} (h1 : lo ≤ g) (h2 : g < hi) {f : Fv} (hA : At b g f.o) (f' : Fv) : Out lo hi a (S5 b g f') := by
  refine h.trans ⟨((((Below.refl _ _).setCell (p := ⟨g, 0, none⟩) h1 _).setCell (p := ⟨g, 1, none⟩) h1 _ |>.setCell (p := ⟨g, 2, none⟩) h1 _).setCell (p := ⟨g, 3, none⟩) h1 _).setCell (p := ⟨g, 4, none⟩) h1 _, fun i hi hlt => ?_, fun i f hi => ?_⟩
  · obtain ⟨o, ho⟩ : ∃ o, b.heap[i]? = some o := ⟨_, Array.getElem?_eq_getElem hlt⟩
    exact (At.S5 (b := g) (show At b i o from ho) (by omega) f').trans ho.symm
  · by_cases e : i = g
    · subst e
      exact ⟨f', hA.set5 f'⟩
    · exact ⟨f, hi.S5 e f'⟩
theorem OwnL.out {w w' : World} {lo hi lo' hi' : Nat} {f : Fv} {c : Ch} (h : OwnL w lo hi f c) (k : Out lo' hi' w w') (hd : hi ≤ lo' ∨ hi' ≤ lo) : OwnL w' lo hi f c := h.keep fun g o h1 h2 hA => k.at hA (by omega)
theorem out_one {w w1 : World} {lo hi : Nat} {f : Fv} (h : Out lo hi (w.alloc f.o) w1) (hh : lo ≤ w.heap.size) : Out lo hi w w1 := (Out.of (belA (Below.refl _ _)) hh).trans h
set_option maxRecDepth 100000 in
set_option maxHeartbeats 1000000 in
theorem spoil_leaf (w : World) (k : Nat) (m : Bool) (r s : Int) (a : Option Addr) (cap lo hi : Nat) (hh : hi ≤ w.heap.size) (hl : lo ≤ hi) : Calls Tryd.prog 25 #[tyV k m r s a 0 cap] w fun e w' => e = .returned (.tuple #[]) ∧ Out lo hi w w' := by
  go_enter Tryd.func25, Tryd.ntmps25
  go_wp2_with fail
  have A1 : At (w.alloc (tyO k m r s a 0 cap)) w.heap.size (Fv.o ⟨k, m, r, s, a, 0, cap⟩) := At.new _ _
  have HA : Hid (At (w.alloc (tyO k m r s a 0 cap)) w.heap.size (Fv.o ⟨k, m, r, s, a, 0, cap⟩)) := A1
  clear A1
  go_loopw [2] (fun i W => i = .int .i64 0 ∧ W = w.alloc (tyO k m r s a 0 cap)) (fun i _ => 1)
  case atStart => exact ⟨rfl, rfl⟩
  case round =>
    obtain ⟨rfl, rfl⟩ := hrel
    obtain ⟨-, p0, p1, p2, p3, p4⟩ := HA.out.ty
    go_wp2_with fail
    go_end0
    exact ⟨rfl, Out.of (belA (Below.refl _ _)) (by omega)⟩
set_option maxRecDepth 100000 in
set_option maxHeartbeats 2000000 in
theorem spoil_one (w : World) (k : Nat) (m : Bool) (r s : Int) (g lo hi : Nat) (f : Fv) (hg : lo ≤ g) (hgh : g < hi) (hh : hi ≤ w.heap.size) (hA : At w g f.o)
    (IH0 : ∀ W, Below w.heap.size w W → Calls Tryd.prog 25 #[f.v] W fun e w' => e = .returned (.tuple #[]) ∧ Out lo hi W w') : Calls Tryd.prog 25 #[tyV k m r s (some ⟨g, 0, none⟩) 1 1] w fun e w' => e = .returned (.tuple #[]) ∧ Out lo hi w w' := by
  have IH : Hid (∀ W, Below w.heap.size w W → Calls Tryd.prog 25 #[f.v] W fun e w' => e = .returned (.tuple #[]) ∧ Out lo hi W w') := IH0
  have A1 : Hid (At (w.alloc (tyO k m r s (some ⟨g, 0, none⟩) 1 1)) w.heap.size (Fv.o ⟨k, m, r, s, some ⟨g, 0, none⟩, 1, 1⟩)) := At.new _ _
  have A2 : Hid (At (w.alloc (tyO k m r s (some ⟨g, 0, none⟩) 1 1)) g f.o) := hA.alloc _
  have hlo : lo ≤ w.heap.size := by omega
  clear IH0 hA
  go_enter Tryd.func25, Tryd.ntmps25
  go_wp2_with fail
  go_loopw [2] (fun i W => ∃ j : Nat, j ≤ 1 ∧ i = .int .i64 j ∧ Out lo hi (w.alloc (tyO k m r s (some ⟨g, 0, none⟩) 1 1)) W ∧ (j = 0 → W = w.alloc (tyO k m r s (some ⟨g, 0, none⟩) 1 1))) (fun i _ => 1 - (intOf i).toNat)
  case atStart => exact ⟨0, by omega, rfl, Out.refl _ _ _, fun _ => rfl⟩
  case round =>
    obtain ⟨j, hj, rfl, hO, h0⟩ := hrel
    rcases Nat.eq_zero_or_pos j with rfl | hp
    · obtain rfl := h0 rfl
      clear h0 hO
      obtain ⟨-, p0, p1, p2, p3, p4⟩ := A1.out.ty
      obtain ⟨hg2, q0, q1, q2, q3, q4⟩ := A2.out.ty
      go_wp2_with (go_at_call 25; refine (IH.out _ (belA (Below.refl _ _))).mono ?_; rintro e w1 ⟨rfl, ho1⟩; clear p0 p1 p2 p3 p4 q0 q1 q2 q3 q4; obtain ⟨-, p0, p1, p2, p3, p4⟩ := (ho1.at A1.out (.inr hh)).ty; obtain ⟨f1, hA1⟩ := ho1.form g f A2.out; have g0 := hA1.tyF 0; have g1 := hA1.tyF 1; have g2 := hA1.tyF 2; have g3 := hA1.tyF 3; have g4 := hA1.tyF 4; obtain ⟨hg3, q0, q1, q2, q3, q4⟩ := hA1.ty; simp only [Nat.zero_add] at q0 q1 q2 q3 q4)
      refine ⟨⟨1, by omega, rfl, ho1.S5 hg hgh hA1 ⟨9, false, 0, 0, none, 0, 0⟩, fun h => by omega⟩, ?_⟩
      show 1 - ((1 : Int)).toNat < 1 - (0 : Int).toNat
      decide
    · obtain rfl : j = 1 := by omega
      have hA1 := hO.at A1.out (.inr hh)
      obtain ⟨-, p0, p1, p2, p3, p4⟩ := hA1.ty
      go_wp2_with fail
      go_end0
      exact ⟨rfl, out_one (f := ⟨k, m, r, s, some ⟨g, 0, none⟩, 1, 1⟩) hO hlo⟩
theorem spoil_any : ∀ (c : Ch) (f : Fv) (w : World) (lo hi : Nat), OwnL w lo hi f c → lo ≤ hi → hi ≤ w.heap.size → Calls Tryd.prog 25 #[f.v] w fun e w' => e = .returned (.tuple #[]) ∧ Out lo hi w w' := by
  intro c
  induction c with
  | leaf k s =>
    intro f w lo hi h hl hh
    cases h with
    | leaf _ _ a cap => exact spoil_leaf w k false 0 s a cap lo hi hh hl
  | box c ih =>
    intro f w lo hi h hl hh
    cases h with
    | box g f c hg hgh hA hc => exact spoil_one w 3 false 0 0 g lo hi f hg hgh hh hA (fun W hW => ih f W lo hi (hc.bel hW) hl (Nat.le_trans hh hW.size))
  | ref m r c ih =>
    intro f w lo hi h hl hh
    cases h with
    | ref _ _ g f c hg hgh hA hc => exact spoil_one w 4 m r 0 g lo hi f hg hgh hh hA (fun W hW => ih f W lo hi (hc.bel hW) hl (Nat.le_trans hh hW.size))
set_option maxRecDepth 100000 in
set_option maxHeartbeats 2000000 in
theorem equal_leaf (w : World) (k : Nat) (m : Bool) (r s : Int) (a : Option Addr) (cap : Nat) (a' : Option Addr) (cap' : Nat) : Calls Tryd.prog 24 #[tyV k m r s a 0 cap, tyV k m r s a' 0 cap'] w fun e w' => e = .returned (.bool true) ∧ Below w.heap.size w w' := by
  have N1 := two_new w ⟨k, m, r, s, a, 0, cap⟩ ⟨k, m, r, s, a', 0, cap'⟩
  have HN : Hid (C5 ((w.alloc (tyO k m r s a 0 cap)).alloc (tyO k m r s a' 0 cap')) w.heap.size 0 ⟨k, m, r, s, a, 0, cap⟩) := N1.1
  clear N1
  go_enter Tryd.func24, Tryd.ntmps24
  go_wp2_with fail
  go_loopw [5] (fun i W => i = .int .i64 0 ∧ W = (w.alloc (tyO k m r s a 0 cap)).alloc (tyO k m r s a' 0 cap')) (fun i _ => 1)
  case atStart => exact ⟨rfl, rfl⟩
  case round =>
    obtain ⟨rfl, rfl⟩ := hrel
    obtain ⟨-, p0, p1, p2, p3, p4⟩ := HN.out
    go_wp2_with fail
    go_ret
    exact ⟨rfl, belA (belA (Below.refl _ _))⟩
set_option maxRecDepth 100000 in
set_option maxHeartbeats 4000000 in
theorem equal_one (w : World) (k : Nat) (m : Bool) (r s : Int) (g off cap : Nat) (x : Fv) (g' off' cap' : Nat) (x' : Fv) (hx : C5 w g off x) (hx' : C5 w g' off' x')
    (IH0 : ∀ W, Below w.heap.size w W → Calls Tryd.prog 24 #[x.v, x'.v] W fun e w' => e = .returned (.bool true) ∧ Below W.heap.size W w') : Calls Tryd.prog 24 #[tyV k m r s (some ⟨g, off, none⟩) 1 cap, tyV k m r s (some ⟨g', off', none⟩) 1 cap'] w fun e w' => e = .returned (.bool true) ∧ Below w.heap.size w w' := by
  have IH : Hid (∀ W, Below w.heap.size w W → Calls Tryd.prog 24 #[x.v, x'.v] W fun e w' => e = .returned (.bool true) ∧ Below W.heap.size W w') := IH0
  have NN := two_new w ⟨k, m, r, s, some ⟨g, off, none⟩, 1, cap⟩ ⟨k, m, r, s, some ⟨g', off', none⟩, 1, cap'⟩
  have HB0 := belB w ⟨k, m, r, s, some ⟨g, off, none⟩, 1, cap⟩ ⟨k, m, r, s, some ⟨g', off', none⟩, 1, cap'⟩
  have HN1 : Hid (C5 ((w.alloc (tyO k m r s (some ⟨g, off, none⟩) 1 cap)).alloc (tyO k m r s (some ⟨g', off', none⟩) 1 cap')) w.heap.size 0 ⟨k, m, r, s, some ⟨g, off, none⟩, 1, cap⟩) := NN.1
  have HN2 : Hid (C5 ((w.alloc (tyO k m r s (some ⟨g, off, none⟩) 1 cap)).alloc (tyO k m r s (some ⟨g', off', none⟩) 1 cap')) (w.heap.size + 1) 0 ⟨k, m, r, s, some ⟨g', off', none⟩, 1, cap'⟩) := NN.2
  have HM1 : Hid (C5 ((w.alloc (tyO k m r s (some ⟨g, off, none⟩) 1 cap)).alloc (tyO k m r s (some ⟨g', off', none⟩) 1 cap')) g off x) := hx.below HB0
  have HM2 : Hid (C5 ((w.alloc (tyO k m r s (some ⟨g, off, none⟩) 1 cap)).alloc (tyO k m r s (some ⟨g', off', none⟩) 1 cap')) g' off' x') := hx'.below HB0
  clear NN HB0 hx hx' IH0
  go_enter Tryd.func24, Tryd.ntmps24
  go_wp2_with fail
  go_loopw [5] (fun i W => ∃ j : Nat, j ≤ 1 ∧ i = .int .i64 j ∧ Below ((w.alloc (tyO k m r s (some ⟨g, off, none⟩) 1 cap)).alloc (tyO k m r s (some ⟨g', off', none⟩) 1 cap')).heap.size ((w.alloc (tyO k m r s (some ⟨g, off, none⟩) 1 cap)).alloc (tyO k m r s (some ⟨g', off', none⟩) 1 cap')) W) (fun i _ => 1 - (intOf i).toNat)
  case atStart => exact ⟨0, by omega, rfl, Below.refl _ _⟩
  case round =>
    obtain ⟨j, hj, rfl, hB⟩ := hrel
    rcases Nat.eq_zero_or_pos j with rfl | hp
    · obtain ⟨-, p0, p1, p2, p3, p4⟩ := HN1.out.below hB
      go_wp2_with fail
      clear p0 p1 p2 p3 p4
      refine beginH (S := (fun W' => Below ((w.alloc (tyO k m r s (some ⟨g, off, none⟩) 1 cap)).alloc (tyO k m r s (some ⟨g', off', none⟩) 1 cap')).heap.size ((w.alloc (tyO k m r s (some ⟨g, off, none⟩) 1 cap)).alloc (tyO k m r s (some ⟨g', off', none⟩) 1 cap')) W')) (fun _ _ _ _ _ h => h) (by kernel_rfl) hB.drew (fun hq hHeld => ?_)
      refine takeH (i := 0) (d := 48) _ hq rfl rfl (by kernel_rfl) (by kernel_rfl) (by kernel_rfl) (by rfl) (fun W hSw => by (go_simp; try rfl)) hHeld ?_
      try simp only [Act.put, List.setIfInBounds_toArray, List.set_cons_zero, List.set_cons_succ]
      refine takeH (i := 1) (d := 49) (.slice (some ⟨g, off, none⟩) 1 cap) hq rfl rfl (by kernel_rfl) (by kernel_rfl) (by kernel_rfl) (by rfl) (fun W hSw => by (obtain ⟨-, p0, p1, p2, p3, p4⟩ := HN1.out.below hSw; go_simp; try rfl)) hHeld ?_
      try simp only [Act.put, List.setIfInBounds_toArray, List.set_cons_zero, List.set_cons_succ]
      refine takeH (i := 2) (d := 50) _ hq rfl rfl (by kernel_rfl) (by kernel_rfl) (by kernel_rfl) (by rfl) (fun W hSw => by (go_simp; try rfl)) hHeld ?_
      try simp only [Act.put, List.setIfInBounds_toArray, List.set_cons_zero, List.set_cons_succ]
      refine takeH (i := 3) (d := 51) (.pointer (some ⟨g, off, none⟩)) hq rfl rfl (by kernel_rfl) (by kernel_rfl) (by kernel_rfl) (by rfl) (fun W hSw => by (go_simp; try rfl)) hHeld ?_
      try simp only [Act.put, List.setIfInBounds_toArray, List.set_cons_zero, List.set_cons_succ]
      refine takeH (i := 4) (d := 52) x.v hq rfl rfl (by kernel_rfl) (by kernel_rfl) (by kernel_rfl) (by rfl) (fun W hSw => by (obtain ⟨-, p0, p1, p2, p3, p4⟩ := HM1.out.below hSw; go_simp; try rfl)) hHeld ?_
      try simp only [Act.put, List.setIfInBounds_toArray, List.set_cons_zero, List.set_cons_succ]
      refine takeH (i := 5) (d := 53) _ hq rfl rfl (by kernel_rfl) (by kernel_rfl) (by kernel_rfl) (by rfl) (fun W hSw => by (go_simp; try rfl)) hHeld ?_
      try simp only [Act.put, List.setIfInBounds_toArray, List.set_cons_zero, List.set_cons_succ]
      refine takeH (i := 6) (d := 54) (.slice (some ⟨g', off', none⟩) 1 cap') hq rfl rfl (by kernel_rfl) (by kernel_rfl) (by kernel_rfl) (by rfl) (fun W hSw => by (obtain ⟨-, p0, p1, p2, p3, p4⟩ := HN2.out.below hSw; go_simp; try rfl)) hHeld ?_
      try simp only [Act.put, List.setIfInBounds_toArray, List.set_cons_zero, List.set_cons_succ]
      refine takeH (i := 7) (d := 55) _ hq rfl rfl (by kernel_rfl) (by kernel_rfl) (by kernel_rfl) (by rfl) (fun W hSw => by (go_simp; try rfl)) hHeld ?_
      try simp only [Act.put, List.setIfInBounds_toArray, List.set_cons_zero, List.set_cons_succ]
      refine takeH (i := 8) (d := 56) (.pointer (some ⟨g', off', none⟩)) hq rfl rfl (by kernel_rfl) (by kernel_rfl) (by kernel_rfl) (by rfl) (fun W hSw => by (go_simp; try rfl)) hHeld ?_
      try simp only [Act.put, List.setIfInBounds_toArray, List.set_cons_zero, List.set_cons_succ]
      refine takeH (i := 9) (d := 57) x'.v hq rfl rfl (by kernel_rfl) (by kernel_rfl) (by kernel_rfl) (by rfl) (fun W hSw => by (obtain ⟨-, p0, p1, p2, p3, p4⟩ := HM2.out.below hSw; go_simp; try rfl)) hHeld ?_
      try simp only [Act.put, List.setIfInBounds_toArray, List.set_cons_zero, List.set_cons_succ]
      refine wpAnyH_ready (rs := [10]) (by kernel_rfl) (by simp) ?_
      refine AllReadyH.cons rfl (fun K hK => ?_) AllReadyH.nil
      go_simp
      refine (IH.out _ (below2 hHeld)).mono ?_; rintro e w2 ⟨rfl, hb2⟩; have B2 := below_aft hHeld hb2
      go_wp2_with fail
      refine hK.out _ _ B2 (fun hHeld => ?_)
      clear hK K
      try simp only [Act.put, List.setIfInBounds_toArray, List.set_cons_zero, List.set_cons_succ]
      refine takeH (i := 11) (d := 59) _ hq rfl rfl (by kernel_rfl) (by kernel_rfl) (by kernel_rfl) (by rfl) (fun W hSw => by (go_simp; try rfl)) hHeld ?_
      try simp only [Act.put, List.setIfInBounds_toArray, List.set_cons_zero, List.set_cons_succ]
      refine wpAnyH_done (by kernel_rfl) ?_ _
      have BB := hHeld
      clear hHeld hq
      go_wp2_with fail
      refine ⟨⟨1, by omega, rfl, BB⟩, ?_⟩
      show 1 - ((1 : Int)).toNat < 1 - (0 : Int).toNat
      decide
    · obtain rfl : j = 1 := by omega
      obtain ⟨-, p0, p1, p2, p3, p4⟩ := HN1.out.below hB
      go_wp2_with fail
      go_ret
      exact ⟨rfl, below2 hB⟩
theorem equal_same : ∀ (c : Ch) (f f' : Fv) (w : World), TyAt w f c.ty → TyAt w f' c.ty → Calls Tryd.prog 24 #[f.v, f'.v] w fun e w' => e = .returned (.bool true) ∧ Below w.heap.size w w' := by
  intro c
  induction c with
  | leaf k s =>
    intro f f' w h h'
    obtain ⟨a, cap, rfl, -⟩ := h.leaf
    obtain ⟨a', cap', rfl, -⟩ := h'.leaf
    exact equal_leaf w k false 0 s a cap a' cap'
  | box c ih =>
    intro f f' w h h'
    obtain ⟨g, off, cap, x, rfl, hx, ht⟩ := h.box
    obtain ⟨g', off', cap', x', rfl, hx', ht'⟩ := h'.box
    exact equal_one w 3 false 0 0 g off cap x g' off' cap' x' hx hx' (fun W hW => ih x x' W (ht.bel hW) (ht'.bel hW))
  | ref m r c ih =>
    intro f f' w h h'
    obtain ⟨g, off, cap, x, rfl, hx, ht, -⟩ := h.ref
    obtain ⟨g', off', cap', x', rfl, hx', ht', -⟩ := h'.ref
    exact equal_one w 4 m r 0 g off cap x g' off' cap' x' hx hx' (fun W hW => ih x x' W (ht.bel hW) (ht'.bel hW))
end Go.Proofs.YtjchbclkdbojpaaDoor
