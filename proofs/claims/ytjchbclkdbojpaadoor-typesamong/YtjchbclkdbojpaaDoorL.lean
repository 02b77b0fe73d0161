import Derived.Test.YtjchbclkdbojpaaDoorK
namespace Go.Proofs.YtjchbclkdbojpaaDoor
open Go.RowKit
set_option linter.unusedVariables false
set_option linter.unusedSimpArgs false

/-- What a function that is told constraints does. -/
structure Tell2 (fn b : Nat) (w0 : World) (J : List (Int × Int) → World → Prop) : Prop where
  enters : Enters fn
  alloc : ∀ l W o, J l W → J l (W.alloc o)
  drew : ∀ l W, J l W → J l W.drew
  bel : ∀ l W, J l W → Below w0.heap.size w0 W
  call : ∀ l r s W, l.length ≤ 200 → J l W → Calls Tryd.prog fn #[.int .i64 r, .int .i64 s, .pointer (some ⟨b, 0, none⟩)] W fun e w' => e = .returned (.tuple #[]) ∧ J (l ++ [(r, s)]) w' ∧ KeepT W w'
/-- What is read of two types in variables. -/
structure S4 (b1 b2 : Nat) (F F' : Fv) (g off g' off' : Nat) (f f' : Fv) (W : World) : Prop where
  a : C5 W b1 0 F
  b : C5 W b2 0 F'
  c : C5 W g off f
  d : C5 W g' off' f'
theorem keepT_C5 {W W' : World} {F : Fv} {b : Nat} (h : KeepT W W') (x : At W b F.o) : C5 W' b 0 F := (h b F x).ty
theorem keepT_drew (W : World) : KeepT W W.drew := fun i f h => h
set_option maxRecDepth 100000 in
set_option maxHeartbeats 4000000 in
theorem asks_box (w0 : World) (fv : Value) (bm : Bool) (g off cap g' off' cap' : Nat) (f f' : Fv) (W : World) (Post : World → Prop) (hw : Below w0.heap.size w0 W) (hP : ∀ w', Post w' → Below w0.heap.size w0 w') (hc : C5 w0 g off f) (hc' : C5 w0 g' off' f')
    (IH : Hid (Calls Tryd.prog 72 #[f.v, f'.v, .bool bm, fv] ((W.alloc (tyO 3 false 0 0 (some ⟨g, off, none⟩) 1 cap)).alloc (tyO 3 false 0 0 (some ⟨g', off', none⟩) 1 cap')).drew fun e w' => e = .returned (.tuple #[]) ∧ Post w' ∧ KeepT ((W.alloc (tyO 3 false 0 0 (some ⟨g, off, none⟩) 1 cap)).alloc (tyO 3 false 0 0 (some ⟨g', off', none⟩) 1 cap')).drew w')) :
    Calls Tryd.prog 72 #[tyV 3 false 0 0 (some ⟨g, off, none⟩) 1 cap, tyV 3 false 0 0 (some ⟨g', off', none⟩) 1 cap', .bool bm, fv] W fun e w' => e = .returned (.tuple #[]) ∧ Post w' ∧ KeepT W w' := by
  have A1 : At ((W.alloc (tyO 3 false 0 0 (some ⟨g, off, none⟩) 1 cap)).alloc (tyO 3 false 0 0 (some ⟨g', off', none⟩) 1 cap')).drew W.heap.size (Fv.o ⟨3, false, 0, 0, some ⟨g, off, none⟩, 1, cap⟩) := (At.new W _).alloc _
  have A2 : At ((W.alloc (tyO 3 false 0 0 (some ⟨g, off, none⟩) 1 cap)).alloc (tyO 3 false 0 0 (some ⟨g', off', none⟩) 1 cap')).drew (W.heap.size + 1) (Fv.o ⟨3, false, 0, 0, some ⟨g', off', none⟩, 1, cap'⟩) := at_snd W _ _
  have S0 : S4 W.heap.size (W.heap.size + 1) ⟨3, false, 0, 0, some ⟨g, off, none⟩, 1, cap⟩ ⟨3, false, 0, 0, some ⟨g', off', none⟩, 1, cap'⟩ g off g' off' f f' ((W.alloc (tyO 3 false 0 0 (some ⟨g, off, none⟩) 1 cap)).alloc (tyO 3 false 0 0 (some ⟨g', off', none⟩) 1 cap')).drew := ⟨A1.ty, A2.ty, hc.below (belA (belA hw)).drew, hc'.below (belA (belA hw)).drew⟩
  have FIN : Hid (∀ w', Post w' → KeepT ((W.alloc (tyO 3 false 0 0 (some ⟨g, off, none⟩) 1 cap)).alloc (tyO 3 false 0 0 (some ⟨g', off', none⟩) 1 cap')).drew w' → S4 W.heap.size (W.heap.size + 1) ⟨3, false, 0, 0, some ⟨g, off, none⟩, 1, cap⟩ ⟨3, false, 0, 0, some ⟨g', off', none⟩, 1, cap'⟩ g off g' off' f f' w' ∧ KeepT W w') := fun w' h1 h2 => ⟨⟨keepT_C5 h2 A1, keepT_C5 h2 A2, hc.below (hP w' h1), hc'.below (hP w' h1)⟩, ((keepT_alloc W _).trans (keepT_alloc _ _)).trans h2⟩
  clear hc hc' A1 A2 hP hw
  go_enter Tryd.func72, Tryd.ntmps72
  go_wp2_with fail
  refine beginH (S := S4 W.heap.size (W.heap.size + 1) ⟨3, false, 0, 0, some ⟨g, off, none⟩, 1, cap⟩ ⟨3, false, 0, 0, some ⟨g', off', none⟩, 1, cap'⟩ g off g' off' f f') (fun _ _ _ _ _ h => h) (by kernel_rfl) S0 (fun hq hHeld => ?_)
  refine takeH (i := 0) (d := 12) _ hq rfl rfl (by kernel_rfl) (by kernel_rfl) (by kernel_rfl) (by rfl) (fun W hSw => by (go_simp; try rfl)) hHeld ?_
  try simp only [Act.put, List.setIfInBounds_toArray, List.set_cons_zero, List.set_cons_succ]
  refine takeH (i := 1) (d := 13) (.slice (some ⟨g, off, none⟩) 1 cap) hq rfl rfl (by kernel_rfl) (by kernel_rfl) (by kernel_rfl) (by rfl) (fun W hSw => by (obtain ⟨-, p0, p1, p2, p3, p4⟩ := hSw.a; go_simp; try rfl)) hHeld ?_
  try simp only [Act.put, List.setIfInBounds_toArray, List.set_cons_zero, List.set_cons_succ]
  refine takeH (i := 2) (d := 14) (.pointer (some ⟨g, off, none⟩)) hq rfl rfl (by kernel_rfl) (by kernel_rfl) (by kernel_rfl) (by rfl) (fun W hSw => by (go_simp; try rfl)) hHeld ?_
  try simp only [Act.put, List.setIfInBounds_toArray, List.set_cons_zero, List.set_cons_succ]
  refine takeH (i := 3) (d := 15) f.v hq rfl rfl (by kernel_rfl) (by kernel_rfl) (by kernel_rfl) (by rfl) (fun W hSw => by (obtain ⟨-, p0, p1, p2, p3, p4⟩ := hSw.c; go_simp; try rfl)) hHeld ?_
  try simp only [Act.put, List.setIfInBounds_toArray, List.set_cons_zero, List.set_cons_succ]
  refine takeH (i := 4) (d := 16) _ hq rfl rfl (by kernel_rfl) (by kernel_rfl) (by kernel_rfl) (by rfl) (fun W hSw => by (go_simp; try rfl)) hHeld ?_
  try simp only [Act.put, List.setIfInBounds_toArray, List.set_cons_zero, List.set_cons_succ]
  refine takeH (i := 5) (d := 17) (.slice (some ⟨g', off', none⟩) 1 cap') hq rfl rfl (by kernel_rfl) (by kernel_rfl) (by kernel_rfl) (by rfl) (fun W hSw => by (obtain ⟨-, p0, p1, p2, p3, p4⟩ := hSw.b; go_simp; try rfl)) hHeld ?_
  try simp only [Act.put, List.setIfInBounds_toArray, List.set_cons_zero, List.set_cons_succ]
  refine takeH (i := 6) (d := 18) (.pointer (some ⟨g', off', none⟩)) hq rfl rfl (by kernel_rfl) (by kernel_rfl) (by kernel_rfl) (by rfl) (fun W hSw => by (go_simp; try rfl)) hHeld ?_
  try simp only [Act.put, List.setIfInBounds_toArray, List.set_cons_zero, List.set_cons_succ]
  refine takeH (i := 7) (d := 19) f'.v hq rfl rfl (by kernel_rfl) (by kernel_rfl) (by kernel_rfl) (by rfl) (fun W hSw => by (obtain ⟨-, p0, p1, p2, p3, p4⟩ := hSw.d; go_simp; try rfl)) hHeld ?_
  try simp only [Act.put, List.setIfInBounds_toArray, List.set_cons_zero, List.set_cons_succ]
  refine takeH (i := 8) (d := 20) _ hq rfl rfl (by kernel_rfl) (by kernel_rfl) (by kernel_rfl) (by rfl) (fun W hSw => by (go_simp; try rfl)) hHeld ?_
  try simp only [Act.put, List.setIfInBounds_toArray, List.set_cons_zero, List.set_cons_succ]
  refine takeH (i := 9) (d := 21) _ hq rfl rfl (by kernel_rfl) (by kernel_rfl) (by kernel_rfl) (by rfl) (fun W hSw => by (go_simp; try rfl)) hHeld ?_
  try simp only [Act.put, List.setIfInBounds_toArray, List.set_cons_zero, List.set_cons_succ]
  refine wpAnyH_ready (rs := [10]) (by kernel_rfl) (by simp) ?_
  refine AllReadyH.cons rfl (fun K hK => ?_) AllReadyH.nil
  go_simp
  refine IH.out.mono ?_; rintro e w2 ⟨rfl, hp2, hk2⟩; obtain ⟨hs2, hk3⟩ := FIN.out w2 hp2 hk2
  go_wp2_with fail
  refine hK.out _ _ hs2 (fun hHeld => ?_)
  clear hK K
  try simp only [Act.put, List.setIfInBounds_toArray, List.set_cons_zero, List.set_cons_succ]
  refine wpAnyH_done (by kernel_rfl) ?_ _
  clear hHeld hq
  go_wp2_with fail
  go_end0
  exact ⟨rfl, hp2, hk3⟩
set_option maxRecDepth 100000 in
set_option maxHeartbeats 4000000 in
theorem asks_ref_true (w0 : World) (fn b : Nat) (hen : Enters fn) (m m' : Bool) (r r' : Int) (g off cap g' off' cap' : Nat) (f f' : Fv) (W : World) (J1 J2 Post : World → Prop) (hw : Below w0.heap.size w0 W) (hP : ∀ w', Post w' → Below w0.heap.size w0 w') (hc : C5 w0 g off f) (hc' : C5 w0 g' off' f')
    (C1 : Hid (Calls Tryd.prog fn #[.int .i64 r, .int .i64 r', .pointer (some ⟨b, 0, none⟩)] ((W.alloc (tyO 4 m r 0 (some ⟨g, off, none⟩) 1 cap)).alloc (tyO 4 m' r' 0 (some ⟨g', off', none⟩) 1 cap')) fun e w' => e = .returned (.tuple #[]) ∧ J1 w' ∧ KeepT ((W.alloc (tyO 4 m r 0 (some ⟨g, off, none⟩) 1 cap)).alloc (tyO 4 m' r' 0 (some ⟨g', off', none⟩) 1 cap')) w'))
    (C2 : Hid (∀ w1, J1 w1 → Calls Tryd.prog fn #[.int .i64 r', .int .i64 r, .pointer (some ⟨b, 0, none⟩)] w1 fun e w' => e = .returned (.tuple #[]) ∧ J2 w' ∧ KeepT w1 w'))
    (hJ : ∀ w', J2 w' → Below w0.heap.size w0 w')
    (IH : Hid (∀ w1, J2 w1 → Calls Tryd.prog 72 #[f.v, f'.v, .bool true, fnB fn b] w1.drew fun e w' => e = .returned (.tuple #[]) ∧ Post w' ∧ KeepT w1.drew w')) :
    Calls Tryd.prog 72 #[tyV 4 m r 0 (some ⟨g, off, none⟩) 1 cap, tyV 4 m' r' 0 (some ⟨g', off', none⟩) 1 cap', .bool true, fnB fn b] W fun e w' => e = .returned (.tuple #[]) ∧ Post w' ∧ KeepT W w' := by
  have A1 : At ((W.alloc (tyO 4 m r 0 (some ⟨g, off, none⟩) 1 cap)).alloc (tyO 4 m' r' 0 (some ⟨g', off', none⟩) 1 cap')) W.heap.size (Fv.o ⟨4, m, r, 0, some ⟨g, off, none⟩, 1, cap⟩) := (At.new W _).alloc _
  have A2 : At ((W.alloc (tyO 4 m r 0 (some ⟨g, off, none⟩) 1 cap)).alloc (tyO 4 m' r' 0 (some ⟨g', off', none⟩) 1 cap')) (W.heap.size + 1) (Fv.o ⟨4, m', r', 0, some ⟨g', off', none⟩, 1, cap'⟩) := at_snd W _ _
  have S0 : Hid (∀ w', J2 w' → KeepT ((W.alloc (tyO 4 m r 0 (some ⟨g, off, none⟩) 1 cap)).alloc (tyO 4 m' r' 0 (some ⟨g', off', none⟩) 1 cap')) w' → S4 W.heap.size (W.heap.size + 1) ⟨4, m, r, 0, some ⟨g, off, none⟩, 1, cap⟩ ⟨4, m', r', 0, some ⟨g', off', none⟩, 1, cap'⟩ g off g' off' f f' w'.drew) := fun w' h1 h2 => ⟨keepT_C5 (h2.trans (keepT_drew _)) A1, keepT_C5 (h2.trans (keepT_drew _)) A2, hc.below (hJ w' h1).drew, hc'.below (hJ w' h1).drew⟩
  have FIN : Hid (∀ w', Post w' → KeepT ((W.alloc (tyO 4 m r 0 (some ⟨g, off, none⟩) 1 cap)).alloc (tyO 4 m' r' 0 (some ⟨g', off', none⟩) 1 cap')) w' → S4 W.heap.size (W.heap.size + 1) ⟨4, m, r, 0, some ⟨g, off, none⟩, 1, cap⟩ ⟨4, m', r', 0, some ⟨g', off', none⟩, 1, cap'⟩ g off g' off' f f' w' ∧ KeepT W w') := fun w' h1 h2 => ⟨⟨keepT_C5 h2 A1, keepT_C5 h2 A2, hc.below (hP w' h1), hc'.below (hP w' h1)⟩, ((keepT_alloc W _).trans (keepT_alloc _ _)).trans h2⟩
  unfold Enters at hen
  have KC : Hid (∀ w', KeepT ((W.alloc (tyO 4 m r 0 (some ⟨g, off, none⟩) 1 cap)).alloc (tyO 4 m' r' 0 (some ⟨g', off', none⟩) 1 cap')) w' → C5 w' W.heap.size 0 ⟨4, m, r, 0, some ⟨g, off, none⟩, 1, cap⟩ ∧ C5 w' (W.heap.size + 1) 0 ⟨4, m', r', 0, some ⟨g', off', none⟩, 1, cap'⟩) := fun w' h => ⟨keepT_C5 h A1, keepT_C5 h A2⟩
  clear hc hc' A1 A2 hP hw hJ
  go_enter Tryd.func72, Tryd.ntmps72
  go_wp2_with fail
  refine C1.out.mono ?_
  rintro e w1 ⟨rfl, hj1, hk1⟩
  obtain ⟨⟨-, u0, u1, u2, u3, u4⟩, -, v0, v1, v2, v3, v4⟩ := KC.out w1 hk1
  go_wp2_with fail
  refine (C2.out w1 hj1).mono ?_
  rintro e w2 ⟨rfl, hj2, hk2⟩
  have hk12 := hk1.trans hk2
  clear u0 u1 u2 u3 u4 v0 v1 v2 v3 v4
  go_wp2_with fail
  refine beginH (S := S4 W.heap.size (W.heap.size + 1) ⟨4, m, r, 0, some ⟨g, off, none⟩, 1, cap⟩ ⟨4, m', r', 0, some ⟨g', off', none⟩, 1, cap'⟩ g off g' off' f f') (fun _ _ _ _ _ h => h) (by kernel_rfl) (S0.out w2 hj2 hk12) (fun hq hHeld => ?_)
  refine takeH (i := 0) (d := 38) _ hq rfl rfl (by kernel_rfl) (by kernel_rfl) (by kernel_rfl) (by rfl) (fun W hSw => by (go_simp; try rfl)) hHeld ?_
  try simp only [Act.put, List.setIfInBounds_toArray, List.set_cons_zero, List.set_cons_succ]
  refine takeH (i := 1) (d := 39) (.slice (some ⟨g, off, none⟩) 1 cap) hq rfl rfl (by kernel_rfl) (by kernel_rfl) (by kernel_rfl) (by rfl) (fun W hSw => by (obtain ⟨-, p0, p1, p2, p3, p4⟩ := hSw.a; go_simp; try rfl)) hHeld ?_
  try simp only [Act.put, List.setIfInBounds_toArray, List.set_cons_zero, List.set_cons_succ]
  refine takeH (i := 2) (d := 40) (.pointer (some ⟨g, off, none⟩)) hq rfl rfl (by kernel_rfl) (by kernel_rfl) (by kernel_rfl) (by rfl) (fun W hSw => by (go_simp; try rfl)) hHeld ?_
  try simp only [Act.put, List.setIfInBounds_toArray, List.set_cons_zero, List.set_cons_succ]
  refine takeH (i := 3) (d := 41) f.v hq rfl rfl (by kernel_rfl) (by kernel_rfl) (by kernel_rfl) (by rfl) (fun W hSw => by (obtain ⟨-, p0, p1, p2, p3, p4⟩ := hSw.c; go_simp; try rfl)) hHeld ?_
  try simp only [Act.put, List.setIfInBounds_toArray, List.set_cons_zero, List.set_cons_succ]
  refine takeH (i := 4) (d := 42) _ hq rfl rfl (by kernel_rfl) (by kernel_rfl) (by kernel_rfl) (by rfl) (fun W hSw => by (go_simp; try rfl)) hHeld ?_
  try simp only [Act.put, List.setIfInBounds_toArray, List.set_cons_zero, List.set_cons_succ]
  refine takeH (i := 5) (d := 43) (.slice (some ⟨g', off', none⟩) 1 cap') hq rfl rfl (by kernel_rfl) (by kernel_rfl) (by kernel_rfl) (by rfl) (fun W hSw => by (obtain ⟨-, p0, p1, p2, p3, p4⟩ := hSw.b; go_simp; try rfl)) hHeld ?_
  try simp only [Act.put, List.setIfInBounds_toArray, List.set_cons_zero, List.set_cons_succ]
  refine takeH (i := 6) (d := 44) (.pointer (some ⟨g', off', none⟩)) hq rfl rfl (by kernel_rfl) (by kernel_rfl) (by kernel_rfl) (by rfl) (fun W hSw => by (go_simp; try rfl)) hHeld ?_
  try simp only [Act.put, List.setIfInBounds_toArray, List.set_cons_zero, List.set_cons_succ]
  refine takeH (i := 7) (d := 45) f'.v hq rfl rfl (by kernel_rfl) (by kernel_rfl) (by kernel_rfl) (by rfl) (fun W hSw => by (obtain ⟨-, p0, p1, p2, p3, p4⟩ := hSw.d; go_simp; try rfl)) hHeld ?_
  try simp only [Act.put, List.setIfInBounds_toArray, List.set_cons_zero, List.set_cons_succ]
  refine takeH (i := 8) (d := 46) _ hq rfl rfl (by kernel_rfl) (by kernel_rfl) (by kernel_rfl) (by rfl) (fun W hSw => by (go_simp; try rfl)) hHeld ?_
  try simp only [Act.put, List.setIfInBounds_toArray, List.set_cons_zero, List.set_cons_succ]
  refine takeH (i := 9) (d := 47) _ hq rfl rfl (by kernel_rfl) (by kernel_rfl) (by kernel_rfl) (by rfl) (fun W hSw => by (go_simp; try rfl)) hHeld ?_
  try simp only [Act.put, List.setIfInBounds_toArray, List.set_cons_zero, List.set_cons_succ]
  refine skipH (i := 10) (d := 48) hq rfl rfl (by kernel_rfl) (by kernel_rfl) (by kernel_rfl) (by rfl) hHeld ?_
  try simp only [Act.put, List.setIfInBounds_toArray, List.set_cons_zero, List.set_cons_succ]
  refine skipH (i := 11) (d := 49) hq rfl rfl (by kernel_rfl) (by kernel_rfl) (by kernel_rfl) (by rfl) hHeld ?_
  try simp only [Act.put, List.setIfInBounds_toArray, List.set_cons_zero, List.set_cons_succ]
  refine takeH (i := 12) (d := 50) _ hq rfl rfl (by kernel_rfl) (by kernel_rfl) (by kernel_rfl) (by rfl) (fun W hSw => by (go_simp; try rfl)) hHeld ?_
  try simp only [Act.put, List.setIfInBounds_toArray, List.set_cons_zero, List.set_cons_succ]
  refine takeH (i := 13) (d := 51) _ hq rfl rfl (by kernel_rfl) (by kernel_rfl) (by kernel_rfl) (by rfl) (fun W hSw => by (go_simp; try rfl)) hHeld ?_
  try simp only [Act.put, List.setIfInBounds_toArray, List.set_cons_zero, List.set_cons_succ]
  refine wpAnyH_ready (rs := [14]) (by kernel_rfl) (by simp) ?_
  refine AllReadyH.cons rfl (fun K hK => ?_) AllReadyH.nil
  go_simp
  refine (IH.out w2 hj2).mono ?_; rintro e w3 ⟨rfl, hp3, hk3⟩; obtain ⟨hs3, hk4⟩ := FIN.out w3 hp3 (hk12.trans ((keepT_drew _).trans hk3))
  go_wp2_with fail
  refine hK.out _ _ hs3 (fun hHeld => ?_)
  clear hK K
  try simp only [Act.put, List.setIfInBounds_toArray, List.set_cons_zero, List.set_cons_succ]
  refine wpAnyH_done (by kernel_rfl) ?_ _
  clear hHeld hq
  go_wp2_with fail
  go_end0
  exact ⟨rfl, hp3, hk4⟩
set_option maxRecDepth 100000 in
set_option maxHeartbeats 4000000 in
theorem asks_ref_false (w0 : World) (fn b : Nat) (hen : Enters fn) (m m' : Bool) (r r' : Int) (g off cap g' off' cap' : Nat) (f f' : Fv) (W : World) (J1 Post : World → Prop) (hw : Below w0.heap.size w0 W) (hP : ∀ w', Post w' → Below w0.heap.size w0 w') (hc : C5 w0 g off f) (hc' : C5 w0 g' off' f')
    (C1 : Hid (Calls Tryd.prog fn #[.int .i64 r, .int .i64 r', .pointer (some ⟨b, 0, none⟩)] ((W.alloc (tyO 4 m r 0 (some ⟨g, off, none⟩) 1 cap)).alloc (tyO 4 m' r' 0 (some ⟨g', off', none⟩) 1 cap')) fun e w' => e = .returned (.tuple #[]) ∧ J1 w' ∧ KeepT ((W.alloc (tyO 4 m r 0 (some ⟨g, off, none⟩) 1 cap)).alloc (tyO 4 m' r' 0 (some ⟨g', off', none⟩) 1 cap')) w'))
    
    (hJ : ∀ w', J1 w' → Below w0.heap.size w0 w')
    (IH : Hid (∀ w1, J1 w1 → Calls Tryd.prog 72 #[f.v, f'.v, .bool m, fnB fn b] w1.drew fun e w' => e = .returned (.tuple #[]) ∧ Post w' ∧ KeepT w1.drew w')) :
    Calls Tryd.prog 72 #[tyV 4 m r 0 (some ⟨g, off, none⟩) 1 cap, tyV 4 m' r' 0 (some ⟨g', off', none⟩) 1 cap', .bool false, fnB fn b] W fun e w' => e = .returned (.tuple #[]) ∧ Post w' ∧ KeepT W w' := by
  have A1 : At ((W.alloc (tyO 4 m r 0 (some ⟨g, off, none⟩) 1 cap)).alloc (tyO 4 m' r' 0 (some ⟨g', off', none⟩) 1 cap')) W.heap.size (Fv.o ⟨4, m, r, 0, some ⟨g, off, none⟩, 1, cap⟩) := (At.new W _).alloc _
  have A2 : At ((W.alloc (tyO 4 m r 0 (some ⟨g, off, none⟩) 1 cap)).alloc (tyO 4 m' r' 0 (some ⟨g', off', none⟩) 1 cap')) (W.heap.size + 1) (Fv.o ⟨4, m', r', 0, some ⟨g', off', none⟩, 1, cap'⟩) := at_snd W _ _
  have S0 : Hid (∀ w', J1 w' → KeepT ((W.alloc (tyO 4 m r 0 (some ⟨g, off, none⟩) 1 cap)).alloc (tyO 4 m' r' 0 (some ⟨g', off', none⟩) 1 cap')) w' → S4 W.heap.size (W.heap.size + 1) ⟨4, m, r, 0, some ⟨g, off, none⟩, 1, cap⟩ ⟨4, m', r', 0, some ⟨g', off', none⟩, 1, cap'⟩ g off g' off' f f' w'.drew) := fun w' h1 h2 => ⟨keepT_C5 (h2.trans (keepT_drew _)) A1, keepT_C5 (h2.trans (keepT_drew _)) A2, hc.below (hJ w' h1).drew, hc'.below (hJ w' h1).drew⟩
  have FIN : Hid (∀ w', Post w' → KeepT ((W.alloc (tyO 4 m r 0 (some ⟨g, off, none⟩) 1 cap)).alloc (tyO 4 m' r' 0 (some ⟨g', off', none⟩) 1 cap')) w' → S4 W.heap.size (W.heap.size + 1) ⟨4, m, r, 0, some ⟨g, off, none⟩, 1, cap⟩ ⟨4, m', r', 0, some ⟨g', off', none⟩, 1, cap'⟩ g off g' off' f f' w' ∧ KeepT W w') := fun w' h1 h2 => ⟨⟨keepT_C5 h2 A1, keepT_C5 h2 A2, hc.below (hP w' h1), hc'.below (hP w' h1)⟩, ((keepT_alloc W _).trans (keepT_alloc _ _)).trans h2⟩
  unfold Enters at hen
  have KC : Hid (∀ w', KeepT ((W.alloc (tyO 4 m r 0 (some ⟨g, off, none⟩) 1 cap)).alloc (tyO 4 m' r' 0 (some ⟨g', off', none⟩) 1 cap')) w' → C5 w' W.heap.size 0 ⟨4, m, r, 0, some ⟨g, off, none⟩, 1, cap⟩ ∧ C5 w' (W.heap.size + 1) 0 ⟨4, m', r', 0, some ⟨g', off', none⟩, 1, cap'⟩) := fun w' h => ⟨keepT_C5 h A1, keepT_C5 h A2⟩
  clear hc hc' A1 A2 hP hw hJ
  go_enter Tryd.func72, Tryd.ntmps72
  go_wp2_with fail
  refine C1.out.mono ?_
  rintro e w1 ⟨rfl, hj1, hk1⟩
  obtain ⟨⟨-, u0, u1, u2, u3, u4⟩, -, v0, v1, v2, v3, v4⟩ := KC.out w1 hk1
  go_wp2_with fail
  refine beginH (S := S4 W.heap.size (W.heap.size + 1) ⟨4, m, r, 0, some ⟨g, off, none⟩, 1, cap⟩ ⟨4, m', r', 0, some ⟨g', off', none⟩, 1, cap'⟩ g off g' off' f f') (fun _ _ _ _ _ h => h) (by kernel_rfl) (S0.out w1 hj1 hk1) (fun hq hHeld => ?_)
  refine takeH (i := 0) (d := 38) _ hq rfl rfl (by kernel_rfl) (by kernel_rfl) (by kernel_rfl) (by rfl) (fun W hSw => by (go_simp; try rfl)) hHeld ?_
  try simp only [Act.put, List.setIfInBounds_toArray, List.set_cons_zero, List.set_cons_succ]
  refine takeH (i := 1) (d := 39) (.slice (some ⟨g, off, none⟩) 1 cap) hq rfl rfl (by kernel_rfl) (by kernel_rfl) (by kernel_rfl) (by rfl) (fun W hSw => by (obtain ⟨-, p0, p1, p2, p3, p4⟩ := hSw.a; go_simp; try rfl)) hHeld ?_
  try simp only [Act.put, List.setIfInBounds_toArray, List.set_cons_zero, List.set_cons_succ]
  refine takeH (i := 2) (d := 40) (.pointer (some ⟨g, off, none⟩)) hq rfl rfl (by kernel_rfl) (by kernel_rfl) (by kernel_rfl) (by rfl) (fun W hSw => by (go_simp; try rfl)) hHeld ?_
  try simp only [Act.put, List.setIfInBounds_toArray, List.set_cons_zero, List.set_cons_succ]
  refine takeH (i := 3) (d := 41) f.v hq rfl rfl (by kernel_rfl) (by kernel_rfl) (by kernel_rfl) (by rfl) (fun W hSw => by (obtain ⟨-, p0, p1, p2, p3, p4⟩ := hSw.c; go_simp; try rfl)) hHeld ?_
  try simp only [Act.put, List.setIfInBounds_toArray, List.set_cons_zero, List.set_cons_succ]
  refine takeH (i := 4) (d := 42) _ hq rfl rfl (by kernel_rfl) (by kernel_rfl) (by kernel_rfl) (by rfl) (fun W hSw => by (go_simp; try rfl)) hHeld ?_
  try simp only [Act.put, List.setIfInBounds_toArray, List.set_cons_zero, List.set_cons_succ]
  refine takeH (i := 5) (d := 43) (.slice (some ⟨g', off', none⟩) 1 cap') hq rfl rfl (by kernel_rfl) (by kernel_rfl) (by kernel_rfl) (by rfl) (fun W hSw => by (obtain ⟨-, p0, p1, p2, p3, p4⟩ := hSw.b; go_simp; try rfl)) hHeld ?_
  try simp only [Act.put, List.setIfInBounds_toArray, List.set_cons_zero, List.set_cons_succ]
  refine takeH (i := 6) (d := 44) (.pointer (some ⟨g', off', none⟩)) hq rfl rfl (by kernel_rfl) (by kernel_rfl) (by kernel_rfl) (by rfl) (fun W hSw => by (go_simp; try rfl)) hHeld ?_
  try simp only [Act.put, List.setIfInBounds_toArray, List.set_cons_zero, List.set_cons_succ]
  refine takeH (i := 7) (d := 45) f'.v hq rfl rfl (by kernel_rfl) (by kernel_rfl) (by kernel_rfl) (by rfl) (fun W hSw => by (obtain ⟨-, p0, p1, p2, p3, p4⟩ := hSw.d; go_simp; try rfl)) hHeld ?_
  try simp only [Act.put, List.setIfInBounds_toArray, List.set_cons_zero, List.set_cons_succ]
  refine takeH (i := 8) (d := 46) _ hq rfl rfl (by kernel_rfl) (by kernel_rfl) (by kernel_rfl) (by rfl) (fun W hSw => by (go_simp; try rfl)) hHeld ?_
  try simp only [Act.put, List.setIfInBounds_toArray, List.set_cons_zero, List.set_cons_succ]
  refine takeH (i := 9) (d := 47) _ hq rfl rfl (by kernel_rfl) (by kernel_rfl) (by kernel_rfl) (by rfl) (fun W hSw => by (go_simp; try rfl)) hHeld ?_
  try simp only [Act.put, List.setIfInBounds_toArray, List.set_cons_zero, List.set_cons_succ]
  refine takeH (i := 10) (d := 48) _ hq rfl rfl (by kernel_rfl) (by kernel_rfl) (by kernel_rfl) (by rfl) (fun W hSw => by (go_simp; try rfl)) hHeld ?_
  try simp only [Act.put, List.setIfInBounds_toArray, List.set_cons_zero, List.set_cons_succ]
  refine takeH (i := 11) (d := 49) (.bool m) hq rfl rfl (by kernel_rfl) (by kernel_rfl) (by kernel_rfl) (by rfl) (fun W hSw => by (obtain ⟨-, p0, p1, p2, p3, p4⟩ := hSw.a; go_simp; try rfl)) hHeld ?_
  try simp only [Act.put, List.setIfInBounds_toArray, List.set_cons_zero, List.set_cons_succ]
  refine takeH (i := 12) (d := 50) (.bool m) hq rfl rfl (by kernel_rfl) (by kernel_rfl) (by kernel_rfl) (by rfl) (fun W hSw => by (go_simp; try rfl)) hHeld ?_
  try simp only [Act.put, List.setIfInBounds_toArray, List.set_cons_zero, List.set_cons_succ]
  refine takeH (i := 13) (d := 51) _ hq rfl rfl (by kernel_rfl) (by kernel_rfl) (by kernel_rfl) (by rfl) (fun W hSw => by (go_simp; try rfl)) hHeld ?_
  try simp only [Act.put, List.setIfInBounds_toArray, List.set_cons_zero, List.set_cons_succ]
  refine wpAnyH_ready (rs := [14]) (by kernel_rfl) (by simp) ?_
  refine AllReadyH.cons rfl (fun K hK => ?_) AllReadyH.nil
  go_simp
  refine (IH.out w1 hj1).mono ?_; rintro e w3 ⟨rfl, hp3, hk3⟩; obtain ⟨hs3, hk4⟩ := FIN.out w3 hp3 (hk1.trans ((keepT_drew _).trans hk3))
  go_wp2_with fail
  refine hK.out _ _ hs3 (fun hHeld => ?_)
  clear hK K
  try simp only [Act.put, List.setIfInBounds_toArray, List.set_cons_zero, List.set_cons_succ]
  refine wpAnyH_done (by kernel_rfl) ?_ _
  clear hHeld hq
  go_wp2_with fail
  go_end0
  exact ⟨rfl, hp3, hk4⟩
set_option maxRecDepth 100000 in
theorem asks_leaf (k : Nat) (s : Int) (a : Option Addr) (cap : Nat) (F : Fv) (bm : Bool) (fv : Value) (W : World) (h3 : ¬ k = 3) (h4 : ¬ k = 4) : Calls Tryd.prog 72 #[tyV k false 0 s a 0 cap, F.v, .bool bm, fv] W fun e w' => e = .returned (.tuple #[]) ∧ w' = (W.alloc (tyO k false 0 s a 0 cap)).alloc F.o := by
  have k3 : ¬ (k : Int) = 3 := by omega
  have k4 : ¬ (k : Int) = 4 := by omega
  obtain ⟨k', m', r', s', a', n', cap'⟩ := F
  show Calls Tryd.prog 72 #[tyV k false 0 s a 0 cap, tyV k' m' r' s' a' n' cap', .bool bm, fv] W _
  clear h3 h4
  go_enter Tryd.func72, Tryd.ntmps72
  go_wp2_with fail
  go_end0
  exact ⟨rfl, rfl⟩
theorem asksL_len : ∀ (b : Bool) (c d : Ch), (asksL b c d).length ≤ 2 * c.depth
  | _, .leaf _ _, _ => by simp [asksL]
  | b, .box c, .box d => by have := asksL_len b c d; simp only [asksL, Ch.depth]; omega
  | _, .box _, .leaf _ _ => by simp [asksL]
  | _, .box _, .ref _ _ _ => by simp [asksL]
  | b, .ref m r c, .ref m' r' d => by
    have := asksL_len (b || m) c d
    simp only [asksL, Ch.depth, List.length_cons, List.length_append]
    split <;> simp <;> omega
  | _, .ref _ _ _, .leaf _ _ => by simp [asksL]
  | _, .ref _ _ _, .box _ => by simp [asksL]
theorem asks_any {fn b : Nat} {w0 : World} {J : List (Int × Int) → World → Prop} (hT : Tell2 fn b w0 J) : ∀ (c d : Ch) (f f' : Fv) (bm : Bool) (l : List (Int × Int)) (W : World), c.ok 32 → alikeB c d = true → l.length + 2 * c.depth ≤ 200 → TyAt w0 f c.ty → TyAt w0 f' d.ty → J l W →
    Calls Tryd.prog 72 #[f.v, f'.v, .bool bm, fnB fn b] W fun e w' => e = .returned (.tuple #[]) ∧ J (l ++ asksL bm c d) w' ∧ KeepT W w' := by
  intro c
  induction c with
  | leaf k s =>
    intro d f f' bm l W hc ha hl h h' hJ
    obtain ⟨a, cap, rfl, -⟩ := h.leaf
    have hk : ¬ k = 3 ∧ ¬ k = 4 := by
      have : (k = 1 ∨ k = 2) ∧ s = 0 ∨ k = 5 ∧ 0 ≤ s ∧ s < 32 := hc
      omega
    refine (asks_leaf k s a cap f' bm (fnB fn b) W hk.1 hk.2).mono ?_
    rintro e w' ⟨he, rfl⟩
    exact ⟨he, by rw [show asksL bm (Ch.leaf k s) d = [] by simp [asksL], List.append_nil]; exact hT.alloc _ _ _ (hT.alloc _ _ _ hJ), (keepT_alloc _ _).trans (keepT_alloc _ _)⟩
  | box c ih =>
    intro d f f' bm l W hc ha hl h h' hJ
    cases d with
    | leaf k s => simp [alikeB] at ha
    | ref m r d => simp [alikeB] at ha
    | box d =>
      obtain ⟨g, off, cap, f1, rfl, hc1, ht1⟩ := h.box
      obtain ⟨g', off', cap', f2, rfl, hc2, ht2⟩ := h'.box
      exact asks_box w0 (fnB fn b) bm g off cap g' off' cap' f1 f2 W (J (l ++ asksL bm c d)) (hT.bel _ _ hJ) (hT.bel _) hc1 hc2 (ih d f1 f2 bm l _ hc ha (by simp only [Ch.depth] at hl; omega) ht1 ht2 (hT.drew _ _ (hT.alloc _ _ _ (hT.alloc _ _ _ hJ))))
  | ref m r c ih =>
    intro d f f' bm l W hc ha hl h h' hJ
    cases d with
    | leaf k s => simp [alikeB] at ha
    | box d => simp [alikeB] at ha
    | ref m' r' d =>
      obtain ⟨g, off, cap, f1, rfl, hc1, ht1, -⟩ := h.ref
      obtain ⟨g', off', cap', f2, rfl, hc2, ht2, -⟩ := h'.ref
      have ha2 : alikeB c d = true := by simp [alikeB] at ha; exact ha.2
      simp only [Ch.depth] at hl
      cases bm with
      | true =>
        have e : l ++ asksL true (.ref m r c) (.ref m' r' d) = (l ++ [(r, r')] ++ [(r', r)]) ++ asksL true c d := by simp [asksL]
        rw [e]
        exact asks_ref_true w0 fn b hT.enters m m' r r' g off cap g' off' cap' f1 f2 W (J (l ++ [(r, r')])) (J (l ++ [(r, r')] ++ [(r', r)])) _ (hT.bel _ _ hJ) (hT.bel _) hc1 hc2 (hT.call l r r' _ (by omega) (hT.alloc _ _ _ (hT.alloc _ _ _ hJ)))
          (fun w1 h1 => hT.call _ r' r w1 (by simp; omega) h1) (hT.bel _) (fun w1 h1 => ih d f1 f2 true _ _ hc.2 ha2 (by simp; omega) ht1 ht2 (hT.drew _ _ h1))
      | false =>
        have e : l ++ asksL false (.ref m r c) (.ref m' r' d) = (l ++ [(r, r')]) ++ asksL m c d := by simp [asksL]
        rw [e]
        exact asks_ref_false w0 fn b hT.enters m m' r r' g off cap g' off' cap' f1 f2 W (J (l ++ [(r, r')])) _ (hT.bel _ _ hJ) (hT.bel _) hc1 hc2 (hT.call l r r' _ (by omega) (hT.alloc _ _ _ (hT.alloc _ _ _ hJ)))
          (hT.bel _) (fun w1 h1 => ih d f1 f2 m _ _ hc.2 ha2 (by simp; omega) ht1 ht2 (hT.drew _ _ h1))
end Go.Proofs.YtjchbclkdbojpaaDoor
