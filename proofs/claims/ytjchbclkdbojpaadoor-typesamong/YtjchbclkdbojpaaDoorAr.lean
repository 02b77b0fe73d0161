import Derived.Test.YtjchbclkdbojpaaDoorAq
namespace Go.Proofs.YtjchbclkdbojpaaDoor
open Go.RowKit
set_option linter.unusedVariables false
set_option linter.unusedSimpArgs false

/-- What 'Anew' gives of a type that may be and as many regions as it has. -/
def anC (c : Ch) (X : List Int) : Ch := if X.all (fun x => decide (-1 ≤ x)) then layC c X else .leaf 0 0
def anN (X : List Int) : Int := if X.all (fun x => decide (-1 ≤ x)) then 0 else 2
theorem three_new (w : World) (o1 o2 o3 : Obj) : At (((w.alloc o1).alloc o2).alloc o3) w.heap.size o1 ∧ At (((w.alloc o1).alloc o2).alloc o3) (w.heap.size + 1) o2 ∧ At (((w.alloc o1).alloc o2).alloc o3) (w.heap.size + 1 + 1) o3 := by
  refine ⟨((At.new w o1).alloc o2).alloc o3, (at_snd w o1 o2).alloc o3, ?_⟩
  have := At.new ((w.alloc o1).alloc o2) o3
  simpa only [World.size_alloc] using this
theorem hid2 {p : Prop} (h : p) : Hid p := h
set_option maxRecDepth 100000 in
set_option maxHeartbeats 2000000 in
theorem Anew_un (t : Ty) (f : Fv) (a : Option Addr) (n cap : Nat) (w : World) (h : TyAt w f t) (hb : isT t = false) : Calls Tryd.prog 36 #[f.v, .slice a n cap] w fun e w' => ∃ f' : Fv, e = .returned (.tuple #[f'.v, .int .i64 2]) ∧ New w w' f' (.leaf 0 0) := by
  have CI : Hid (∀ W, Below w.heap.size w W → Calls Tryd.prog 56 #[f.v] W fun e w' => e = .returned (.bool false) ∧ Below W.heap.size W w') := fun W hW => by
    have := some_any _ f _ (h.bel hW)
    rw [hb] at this
    exact this
  obtain ⟨A2, A3, A4⟩ := three_new w f.o (One (.slice a n cap) 49) zT.o
  have hB : Below w.heap.size w (((w.alloc f.o).alloc (One (.slice a n cap) 49)).alloc zT.o) := belA (belA (belA (Below.refl _ _)))
  have hsz : (((w.alloc f.o).alloc (One (.slice a n cap) 49)).alloc zT.o).heap.size = w.heap.size + 3 := by simp only [World.size_alloc]
  obtain ⟨V0, hV0⟩ : ∃ V0, V0 = (((w.alloc f.o).alloc (One (.slice a n cap) 49)).alloc zT.o) := ⟨_, rfl⟩
  rw [← hV0] at A2 A3 A4 hB hsz
  have HA2 : Hid (At V0 w.heap.size f.o) := A2
  have HA3 : Hid (At V0 (w.heap.size + 1) (One (.slice a n cap) 49)) := A3
  have HA4 : Hid (At V0 (w.heap.size + 1 + 1) zT.o) := A4
  have HB0 : Hid (Below w.heap.size w V0) := hB
  have HV0 : Hid (V0 = (((w.alloc f.o).alloc (One (.slice a n cap) 49)).alloc zT.o)) := hV0
  clear A2 A3 A4 hB hV0
  obtain ⟨k, m, r, s, a', n', cap'⟩ := f
  show Calls Tryd.prog 36 #[tyV k m r s a' n' cap', .slice a n cap] w _
  clear h hb
  go_enter Tryd.func36, Tryd.ntmps36
  go_wp2_with fail
  change Code.wp _ _ _ _ (((w.alloc (tyO k m r s a' n' cap')).alloc (One (.slice a n cap) 49)).alloc zT.o)
  rw [← show V0 = ((w.alloc (tyO k m r s a' n' cap')).alloc (One (.slice a n cap) 49)).alloc zT.o from HV0.out]
  refine beginH (S := (fun W' => Below V0.heap.size V0 W')) (fun _ _ _ _ _ h => h) (by kernel_rfl) (Below.refl _ _).drew (fun hq hHeld => ?_)
  refine takeH (i := 0) (d := 9) (tyV k m r s a' n' cap') hq rfl rfl (by kernel_rfl) (by kernel_rfl) (by kernel_rfl) (by rfl) (fun W hSw => by (obtain ⟨-, p0, p1, p2, p3, p4⟩ := (HA2.out.below hSw).ty; go_simp; try rfl)) hHeld ?_
  try simp only [Act.put, List.setIfInBounds_toArray, List.set_cons_zero, List.set_cons_succ]
  refine wpAnyH_ready (rs := [1]) (by kernel_rfl) (by simp) ?_
  refine AllReadyH.cons rfl (fun K hK => ?_) AllReadyH.nil
  go_simp
  refine (CI.out _ (below_aft HB0.out hHeld)).mono ?_; rintro e w1 ⟨rfl, hb1⟩; have B1 := below_aft hHeld hb1
  go_wp2_with fail
  refine hK.out _ _ B1 (fun hHeld => ?_)
  clear hK K
  try simp only [Act.put, List.setIfInBounds_toArray, List.set_cons_zero, List.set_cons_succ]
  refine takeH (i := 2) (d := 11) _ hq rfl rfl (by kernel_rfl) (by kernel_rfl) (by kernel_rfl) (by rfl) (fun W hSw => by (go_simp; try rfl)) hHeld ?_
  try simp only [Act.put, List.setIfInBounds_toArray, List.set_cons_zero, List.set_cons_succ]
  refine takeH (i := 3) (d := 12) _ hq rfl rfl (by kernel_rfl) (by kernel_rfl) (by kernel_rfl) (by rfl) (fun W hSw => by (go_simp; try rfl)) hHeld ?_
  try simp only [Act.put, List.setIfInBounds_toArray, List.set_cons_zero, List.set_cons_succ]
  refine skipH (i := 4) (d := 13) hq rfl rfl (by kernel_rfl) (by kernel_rfl) (by kernel_rfl) (by rfl) hHeld ?_
  try simp only [Act.put, List.setIfInBounds_toArray, List.set_cons_zero, List.set_cons_succ]
  refine skipH (i := 5) (d := 14) hq rfl rfl (by kernel_rfl) (by kernel_rfl) (by kernel_rfl) (by rfl) hHeld ?_
  try simp only [Act.put, List.setIfInBounds_toArray, List.set_cons_zero, List.set_cons_succ]
  refine skipH (i := 6) (d := 15) hq rfl rfl (by kernel_rfl) (by kernel_rfl) (by kernel_rfl) (by rfl) hHeld ?_
  try simp only [Act.put, List.setIfInBounds_toArray, List.set_cons_zero, List.set_cons_succ]
  refine skipH (i := 7) (d := 16) hq rfl rfl (by kernel_rfl) (by kernel_rfl) (by kernel_rfl) (by rfl) hHeld ?_
  try simp only [Act.put, List.setIfInBounds_toArray, List.set_cons_zero, List.set_cons_succ]
  refine skipH (i := 8) (d := 17) hq rfl rfl (by kernel_rfl) (by kernel_rfl) (by kernel_rfl) (by rfl) hHeld ?_
  try simp only [Act.put, List.setIfInBounds_toArray, List.set_cons_zero, List.set_cons_succ]
  refine skipH (i := 9) (d := 18) hq rfl rfl (by kernel_rfl) (by kernel_rfl) (by kernel_rfl) (by rfl) hHeld ?_
  try simp only [Act.put, List.setIfInBounds_toArray, List.set_cons_zero, List.set_cons_succ]
  refine takeH (i := 10) (d := 19) _ hq rfl rfl (by kernel_rfl) (by kernel_rfl) (by kernel_rfl) (by rfl) (fun W hSw => by (go_simp; try rfl)) hHeld ?_
  try simp only [Act.put, List.setIfInBounds_toArray, List.set_cons_zero, List.set_cons_succ]
  refine wpAnyH_done (by kernel_rfl) ?_ _
  have B4 := HA4.out.below hHeld
  have g0 := B4.tyF 0
  have g1 := B4.tyF 1
  have g2 := B4.tyF 2
  have g3 := B4.tyF 3
  have g4 := B4.tyF 4
  obtain ⟨hl4, q0, q1, q2, q3, q4⟩ := B4.ty
  simp only [Nat.zero_add] at q0 q1 q2 q3 q4
  have BB := hid2 (below_aft HB0.out hHeld)
  clear hHeld hq
  go_wp2_with fail
  obtain ⟨F1, F2⟩ := new_zero BB.out (b := w.heap.size + 1 + 1) (by omega) B4
  exact bodyPost_ret (results_c2 (g := zT) Tryd.results36 rfl rfl F1) rfl ⟨zT, rfl, F2⟩
set_option maxRecDepth 100000 in
set_option maxHeartbeats 2000000 in
theorem Anew_len (c : Ch) (f : Fv) (a : Option Addr) (n cap : Nat) (w : World) (hc : Ok c) (h : TyAt w f c.ty) (hne : n ≠ c.regs.length) : Calls Tryd.prog 36 #[f.v, .slice a n cap] w fun e w' => ∃ f' : Fv, e = .returned (.tuple #[f'.v, .int .i64 2]) ∧ New w w' f' (.leaf 0 0) := by
  have CR : Hid (∀ W, Below w.heap.size w W → Calls Tryd.prog 32 #[f.v] W fun e w' => (∃ v, e = .returned v ∧ w'.ownsRow W.heap.size 3 1 v c.regs.length (iCells c.regs)) ∧ Below W.heap.size W w') := fun W hW => Regions_yes c f W hc (h.bel hW)
  have hb := hc.is
  have CI : Hid (∀ W, Below w.heap.size w W → Calls Tryd.prog 56 #[f.v] W fun e w' => e = .returned (.bool true) ∧ Below W.heap.size W w') := fun W hW => by
    have := some_any _ f _ (h.bel hW)
    rw [hb] at this
    exact this
  obtain ⟨A2, A3, A4⟩ := three_new w f.o (One (.slice a n cap) 49) zT.o
  have hB : Below w.heap.size w (((w.alloc f.o).alloc (One (.slice a n cap) 49)).alloc zT.o) := belA (belA (belA (Below.refl _ _)))
  have hsz : (((w.alloc f.o).alloc (One (.slice a n cap) 49)).alloc zT.o).heap.size = w.heap.size + 3 := by simp only [World.size_alloc]
  obtain ⟨V0, hV0⟩ : ∃ V0, V0 = (((w.alloc f.o).alloc (One (.slice a n cap) 49)).alloc zT.o) := ⟨_, rfl⟩
  rw [← hV0] at A2 A3 A4 hB hsz
  have HA2 : Hid (At V0 w.heap.size f.o) := A2
  have HA3 : Hid (At V0 (w.heap.size + 1) (One (.slice a n cap) 49)) := A3
  have HA4 : Hid (At V0 (w.heap.size + 1 + 1) zT.o) := A4
  have HB0 : Hid (Below w.heap.size w V0) := hB
  have HV0 : Hid (V0 = (((w.alloc f.o).alloc (One (.slice a n cap) 49)).alloc zT.o)) := hV0
  clear A2 A3 A4 hB hV0
  obtain ⟨k, m, r, s, a', n', cap'⟩ := f
  show Calls Tryd.prog 36 #[tyV k m r s a' n' cap', .slice a n cap] w _
  have hz : ¬ ((n : Int) = (c.regs.length : Int)) := by omega
  have hz' : ((n : Int) == (c.regs.length : Int)) = false := by simpa using hz
  clear h hc hb hne
  go_enter Tryd.func36, Tryd.ntmps36
  go_wp2_with fail
  change Code.wp _ _ _ _ (((w.alloc (tyO k m r s a' n' cap')).alloc (One (.slice a n cap) 49)).alloc zT.o)
  rw [← show V0 = ((w.alloc (tyO k m r s a' n' cap')).alloc (One (.slice a n cap) 49)).alloc zT.o from HV0.out]
  refine beginH (S := (fun W' => Below V0.heap.size V0 W')) (fun _ _ _ _ _ h => h) (by kernel_rfl) (Below.refl _ _).drew (fun hq hHeld => ?_)
  refine takeH (i := 0) (d := 9) (tyV k m r s a' n' cap') hq rfl rfl (by kernel_rfl) (by kernel_rfl) (by kernel_rfl) (by rfl) (fun W hSw => by (obtain ⟨-, p0, p1, p2, p3, p4⟩ := (HA2.out.below hSw).ty; go_simp; try rfl)) hHeld ?_
  try simp only [Act.put, List.setIfInBounds_toArray, List.set_cons_zero, List.set_cons_succ]
  refine wpAnyH_ready (rs := [1]) (by kernel_rfl) (by simp) ?_
  refine AllReadyH.cons rfl (fun K hK => ?_) AllReadyH.nil
  go_simp
  refine (CI.out _ (below_aft HB0.out hHeld)).mono ?_; rintro e w1 ⟨rfl, hb1⟩; have B1 := below_aft hHeld hb1
  go_wp2_with fail
  refine hK.out _ _ B1 (fun hHeld => ?_)
  clear hK K
  try simp only [Act.put, List.setIfInBounds_toArray, List.set_cons_zero, List.set_cons_succ]
  refine takeH (i := 2) (d := 11) _ hq rfl rfl (by kernel_rfl) (by kernel_rfl) (by kernel_rfl) (by rfl) (fun W hSw => by (go_simp; try rfl)) hHeld ?_
  try simp only [Act.put, List.setIfInBounds_toArray, List.set_cons_zero, List.set_cons_succ]
  refine takeH (i := 3) (d := 12) _ hq rfl rfl (by kernel_rfl) (by kernel_rfl) (by kernel_rfl) (by rfl) (fun W hSw => by (go_simp; try rfl)) hHeld ?_
  try simp only [Act.put, List.setIfInBounds_toArray, List.set_cons_zero, List.set_cons_succ]
  refine takeH (i := 4) (d := 13) (.slice a n cap) hq rfl rfl (by kernel_rfl) (by kernel_rfl) (by kernel_rfl) (by rfl) (fun W hSw => by (obtain ⟨d0, d1⟩ := (HA3.out.below hSw).one; go_simp; try rfl)) hHeld ?_
  try simp only [Act.put, List.setIfInBounds_toArray, List.set_cons_zero, List.set_cons_succ]
  refine takeH (i := 5) (d := 14) _ hq rfl rfl (by kernel_rfl) (by kernel_rfl) (by kernel_rfl) (by rfl) (fun W hSw => by (go_simp; try rfl)) hHeld ?_
  try simp only [Act.put, List.setIfInBounds_toArray, List.set_cons_zero, List.set_cons_succ]
  refine takeH (i := 6) (d := 15) (tyV k m r s a' n' cap') hq rfl rfl (by kernel_rfl) (by kernel_rfl) (by kernel_rfl) (by rfl) (fun W hSw => by (obtain ⟨-, p0, p1, p2, p3, p4⟩ := (HA2.out.below hSw).ty; go_simp; try rfl)) hHeld ?_
  try simp only [Act.put, List.setIfInBounds_toArray, List.set_cons_zero, List.set_cons_succ]
  refine wpAnyH_ready (rs := [7]) (by kernel_rfl) (by simp) ?_
  refine AllReadyH.cons rfl (fun K hK => ?_) AllReadyH.nil
  go_simp
  refine (CR.out _ (below_aft HB0.out hHeld)).mono ?_; rintro e w2 ⟨⟨v, rfl, ho2⟩, hb2⟩; have B2 := below_aft hHeld hb2; obtain ⟨a1, c1, rfl⟩ := own_sl ho2; clear ho2
  go_wp2_with fail
  refine hK.out _ _ B2 (fun hHeld => ?_)
  clear hK K
  try simp only [Act.put, List.setIfInBounds_toArray, List.set_cons_zero, List.set_cons_succ]
  refine takeH (i := 8) (d := 17) _ hq rfl rfl (by kernel_rfl) (by kernel_rfl) (by kernel_rfl) (by rfl) (fun W hSw => by (go_simp; try rfl)) hHeld ?_
  try simp only [Act.put, List.setIfInBounds_toArray, List.set_cons_zero, List.set_cons_succ]
  refine takeH (i := 9) (d := 18) _ hq rfl rfl (by kernel_rfl) (by kernel_rfl) (by kernel_rfl) (by rfl) (fun W hSw => by (go_simp; try rfl)) hHeld ?_
  try simp only [Act.put, List.setIfInBounds_toArray, List.set_cons_zero, List.set_cons_succ]
  refine takeH (i := 10) (d := 19) _ hq rfl rfl (by kernel_rfl) (by kernel_rfl) (by kernel_rfl) (by rfl) (fun W hSw => by (go_simp; try rfl)) hHeld ?_
  try simp only [Act.put, List.setIfInBounds_toArray, List.set_cons_zero, List.set_cons_succ]
  refine wpAnyH_done (by kernel_rfl) ?_ _
  have B4 := HA4.out.below hHeld
  have g0 := B4.tyF 0
  have g1 := B4.tyF 1
  have g2 := B4.tyF 2
  have g3 := B4.tyF 3
  have g4 := B4.tyF 4
  obtain ⟨hl4, q0, q1, q2, q3, q4⟩ := B4.ty
  simp only [Nat.zero_add] at q0 q1 q2 q3 q4
  have BB := hid2 (below_aft HB0.out hHeld)
  clear hHeld hq
  go_wp2_with fail
  obtain ⟨F1, F2⟩ := new_zero BB.out (b := w.heap.size + 1 + 1) (by omega) B4
  exact bodyPost_ret (results_c2 (g := zT) Tryd.results36 rfl rfl F1) rfl ⟨zT, rfl, F2⟩
set_option maxRecDepth 100000 in
set_option maxHeartbeats 4000000 in
theorem Anew_yes (c : Ch) (f : Fv) (a : Option Addr) (n cap : Nat) (X : List Int) (w : World) (hc : Ok c) (h : TyAt w f c.ty) (hr : IntR w a n cap X) (hlen : X.length = c.regs.length) : Calls Tryd.prog 36 #[f.v, .slice a n cap] w fun e w' => ∃ f' : Fv, e = .returned (.tuple #[f'.v, .int .i64 (anN X)]) ∧ New w w' f' (anC c X) := by
  have CR : Hid (∀ W, Below w.heap.size w W → Calls Tryd.prog 32 #[f.v] W fun e w' => (∃ v, e = .returned v ∧ w'.ownsRow W.heap.size 3 1 v c.regs.length (iCells c.regs)) ∧ Below W.heap.size W w') := fun W hW => Regions_yes c f W hc (h.bel hW)
  have hb := hc.is
  have CI : Hid (∀ W, Below w.heap.size w W → Calls Tryd.prog 56 #[f.v] W fun e w' => e = .returned (.bool true) ∧ Below W.heap.size W w') := fun W hW => by
    have := some_any _ f _ (h.bel hW)
    rw [hb] at this
    exact this
  have CT : Hid (∀ V, Below w.heap.size w V → At V (w.heap.size + 1) (One (.slice a n cap) 49) → Calls Tryd.prog 67 #[f.v, fnC 70 V.heap.size (w.heap.size + 1)] (V.alloc (One (.int .i64 0) 3)) fun e w' => ∃ f' : Fv, e = .returned f'.v ∧ TurnP (V.alloc (One (.int .i64 0) 3)) (JAn V V.heap.size (w.heap.size + 1) a n cap) c.regs (layC c X) f' w') := fun V hV hA => by
    have hd := hc.deep
    have hrl := regs_le c
    have := turned_any2 (turnA V V.heap.size (w.heap.size + 1) a n cap X (by omega) (hr.bel hV)) c f [] (V.alloc (One (.int .i64 0) 3)) hc.ok (by simp [hlen]) (h.bel hV) ⟨At.new V (One (.int .i64 0) 3), hA.alloc _, belA (Below.refl _ _), Nat.le_refl _, by have := hA.lt; omega⟩
    rw [turn_lay _ _ _ (by simp [hlen])] at this
    exact this
  have hn : n = c.regs.length := by rw [hr.len, hlen]
  have hX60 : X.length ≤ 60 := by have := hc.deep; have := regs_le c; omega
  have HR : Hid (IntR w a n cap X) := hr
  obtain ⟨A2, A3, A4⟩ := three_new w f.o (One (.slice a n cap) 49) zT.o
  have hB : Below w.heap.size w (((w.alloc f.o).alloc (One (.slice a n cap) 49)).alloc zT.o) := belA (belA (belA (Below.refl _ _)))
  have hsz : (((w.alloc f.o).alloc (One (.slice a n cap) 49)).alloc zT.o).heap.size = w.heap.size + 3 := by simp only [World.size_alloc]
  obtain ⟨V0, hV0⟩ : ∃ V0, V0 = (((w.alloc f.o).alloc (One (.slice a n cap) 49)).alloc zT.o) := ⟨_, rfl⟩
  rw [← hV0] at A2 A3 A4 hB hsz
  have HA2 : Hid (At V0 w.heap.size f.o) := A2
  have HA3 : Hid (At V0 (w.heap.size + 1) (One (.slice a n cap) 49)) := A3
  have HA4 : Hid (At V0 (w.heap.size + 1 + 1) zT.o) := A4
  have HB0 : Hid (Below w.heap.size w V0) := hB
  have HV0 : Hid (V0 = (((w.alloc f.o).alloc (One (.slice a n cap) 49)).alloc zT.o)) := hV0
  clear A2 A3 A4 hB hV0
  obtain ⟨k, m, r, s, a', n', cap'⟩ := f
  show Calls Tryd.prog 36 #[tyV k m r s a' n' cap', .slice a n cap] w _
  rw [← hn] at CR
  clear h hc hb hr hn hlen
  go_enter Tryd.func36, Tryd.ntmps36
  go_wp2_with fail
  change Code.wp _ _ _ _ (((w.alloc (tyO k m r s a' n' cap')).alloc (One (.slice a n cap) 49)).alloc zT.o)
  rw [← show V0 = ((w.alloc (tyO k m r s a' n' cap')).alloc (One (.slice a n cap) 49)).alloc zT.o from HV0.out]
  refine beginH (S := (fun W' => Below V0.heap.size V0 W')) (fun _ _ _ _ _ h => h) (by kernel_rfl) (Below.refl _ _).drew (fun hq hHeld => ?_)
  refine takeH (i := 0) (d := 9) (tyV k m r s a' n' cap') hq rfl rfl (by kernel_rfl) (by kernel_rfl) (by kernel_rfl) (by rfl) (fun W hSw => by (obtain ⟨-, p0, p1, p2, p3, p4⟩ := (HA2.out.below hSw).ty; go_simp; try rfl)) hHeld ?_
  try simp only [Act.put, List.setIfInBounds_toArray, List.set_cons_zero, List.set_cons_succ]
  refine wpAnyH_ready (rs := [1]) (by kernel_rfl) (by simp) ?_
  refine AllReadyH.cons rfl (fun K hK => ?_) AllReadyH.nil
  go_simp
  refine (CI.out _ (below_aft HB0.out hHeld)).mono ?_; rintro e w1 ⟨rfl, hb1⟩; have B1 := below_aft hHeld hb1
  go_wp2_with fail
  refine hK.out _ _ B1 (fun hHeld => ?_)
  clear hK K
  try simp only [Act.put, List.setIfInBounds_toArray, List.set_cons_zero, List.set_cons_succ]
  refine takeH (i := 2) (d := 11) _ hq rfl rfl (by kernel_rfl) (by kernel_rfl) (by kernel_rfl) (by rfl) (fun W hSw => by (go_simp; try rfl)) hHeld ?_
  try simp only [Act.put, List.setIfInBounds_toArray, List.set_cons_zero, List.set_cons_succ]
  refine takeH (i := 3) (d := 12) _ hq rfl rfl (by kernel_rfl) (by kernel_rfl) (by kernel_rfl) (by rfl) (fun W hSw => by (go_simp; try rfl)) hHeld ?_
  try simp only [Act.put, List.setIfInBounds_toArray, List.set_cons_zero, List.set_cons_succ]
  refine takeH (i := 4) (d := 13) (.slice a n cap) hq rfl rfl (by kernel_rfl) (by kernel_rfl) (by kernel_rfl) (by rfl) (fun W hSw => by (obtain ⟨d0, d1⟩ := (HA3.out.below hSw).one; go_simp; try rfl)) hHeld ?_
  try simp only [Act.put, List.setIfInBounds_toArray, List.set_cons_zero, List.set_cons_succ]
  refine takeH (i := 5) (d := 14) _ hq rfl rfl (by kernel_rfl) (by kernel_rfl) (by kernel_rfl) (by rfl) (fun W hSw => by (go_simp; try rfl)) hHeld ?_
  try simp only [Act.put, List.setIfInBounds_toArray, List.set_cons_zero, List.set_cons_succ]
  refine takeH (i := 6) (d := 15) (tyV k m r s a' n' cap') hq rfl rfl (by kernel_rfl) (by kernel_rfl) (by kernel_rfl) (by rfl) (fun W hSw => by (obtain ⟨-, p0, p1, p2, p3, p4⟩ := (HA2.out.below hSw).ty; go_simp; try rfl)) hHeld ?_
  try simp only [Act.put, List.setIfInBounds_toArray, List.set_cons_zero, List.set_cons_succ]
  refine wpAnyH_ready (rs := [7]) (by kernel_rfl) (by simp) ?_
  refine AllReadyH.cons rfl (fun K hK => ?_) AllReadyH.nil
  go_simp
  refine (CR.out _ (below_aft HB0.out hHeld)).mono ?_; rintro e w2 ⟨⟨v, rfl, ho2⟩, hb2⟩; have B2 := below_aft hHeld hb2; obtain ⟨a1, c1, rfl⟩ := own_sl ho2; clear ho2
  go_wp2_with fail
  refine hK.out _ _ B2 (fun hHeld => ?_)
  clear hK K
  try simp only [Act.put, List.setIfInBounds_toArray, List.set_cons_zero, List.set_cons_succ]
  refine takeH (i := 8) (d := 17) _ hq rfl rfl (by kernel_rfl) (by kernel_rfl) (by kernel_rfl) (by rfl) (fun W hSw => by (go_simp; try rfl)) hHeld ?_
  try simp only [Act.put, List.setIfInBounds_toArray, List.set_cons_zero, List.set_cons_succ]
  refine takeH (i := 9) (d := 18) _ hq rfl rfl (by kernel_rfl) (by kernel_rfl) (by kernel_rfl) (by rfl) (fun W hSw => by (go_simp; try rfl)) hHeld ?_
  try simp only [Act.put, List.setIfInBounds_toArray, List.set_cons_zero, List.set_cons_succ]
  refine takeH (i := 10) (d := 19) _ hq rfl rfl (by kernel_rfl) (by kernel_rfl) (by kernel_rfl) (by rfl) (fun W hSw => by (go_simp; try rfl)) hHeld ?_
  try simp only [Act.put, List.setIfInBounds_toArray, List.set_cons_zero, List.set_cons_succ]
  refine wpAnyH_done (by kernel_rfl) ?_ _
  have BB := hHeld
  clear hHeld hq hb1 hb2 B1 B2
  have HBB := hid2 BB
  obtain ⟨d0, d1⟩ := (HA3.out.below BB).one
  clear BB
  go_wp2_with fail
  go_loopw [23] (fun i W => ∃ j : Nat, j ≤ n ∧ i = .int .i64 j ∧ W = w2 ∧ ∀ k x, k < j → X[k]? = some x → -1 ≤ x) (fun i _ => n - (intOf i).toNat)
  case atStart => exact ⟨0, Nat.zero_le _, rfl, rfl, fun k x hk => by omega⟩
  case round =>
    obtain ⟨j, hj, rfl, hW, hall⟩ := hrel
    cases hW
    have HB2 := hid2 (below_aft HB0.out HBB.out)
    have HC4 := hid2 (HA4.out.below HBB.out)
    have HC2 := hid2 (HA2.out.below HBB.out)
    have HC3 := hid2 (HA3.out.below HBB.out)
    have hln : n = X.length := HR.out.len
    have HLN := hid2 hln
    clear HA2 HA3 HA4 HB0 HBB HV0 CI CR d0 d1
    by_cases hlt : j < n
    · obtain ⟨x, hx⟩ : ∃ x, X[j]? = some x := ⟨_, List.getElem?_eq_getElem (by omega)⟩
      obtain ⟨g, off, hag, hg, hcell⟩ := HR.out.cells (fun e => by subst e; simp at hx)
      have hcx : w2.cell? ⟨g, off + j, none⟩ = some (.int .i64 x) := (HB2.out.cell (p := ⟨g, off + j, none⟩) hg).trans (hcell _ _ hx)
      have hgl : g < w2.heap.size := Nat.lt_of_lt_of_le hg HB2.out.size
      subst hag
      have k0 : (0 : Int) ≤ (j : Int) := by omega
      have k1 : (j : Int) < (n : Int) := by omega
      have k2 : (j : Int) ≤ 1000 := by omega
      have HX := hid2 hx
      have HALL := hid2 hall
      clear hln hcell hall hx CT HR
      by_cases hxn : x < -1
      · have B4 := HC4.out
        have g0 := B4.tyF 0
        have g1 := B4.tyF 1
        have g2 := B4.tyF 2
        have g3 := B4.tyF 3
        have g4 := B4.tyF 4
        obtain ⟨hl4, q0, q1, q2, q3, q4⟩ := B4.ty
        simp only [Nat.zero_add] at q0 q1 q2 q3 q4
        go_wp2_with fail
        obtain ⟨F1, F2⟩ := new_zero HB2.out (b := w.heap.size + 1 + 1) (by omega) B4
        have hf : ¬ (X.all (fun x => decide (-1 ≤ x)) = true) := fun hh => by
          rw [List.all_eq_true] at hh
          have := hh x (List.mem_of_getElem? HX.out)
          simp at this
          omega
        have hN : anN X = 2 := if_neg hf
        have hC : anC c X = .leaf 0 0 := if_neg hf
        rw [hN, hC]
        exact bodyPost_ret (results_c2 (g := zT) Tryd.results36 rfl rfl F1) rfl ⟨zT, rfl, F2⟩
      · go_wp2_with fail
        refine ⟨⟨j + 1, hlt, rfl, (by first | rfl | trivial), fun k y hk hy => ?_⟩, ?_⟩
        · by_cases e : k = j
          · subst e
            rw [HX.out] at hy
            cases hy
            omega
          · exact HALL.out k y (by omega) hy
        · show n - ((j : Int) + 1).toNat < n - (j : Int).toNat
          omega
    · obtain rfl : j = n := by omega
      have z1 : ¬ ((j : Int) < (j : Int)) := by omega
      have ht : X.all (fun x => decide (-1 ≤ x)) = true := by
        rw [List.all_eq_true]
        intro x hx
        obtain ⟨k, hk⟩ := List.mem_iff_getElem?.1 hx
        have hkl := (List.getElem?_eq_some_iff.1 hk).1
        exact decide_eq_true (hall k x (by omega) hk)
      have hN := hid2 (show anN X = 0 from if_pos ht)
      have hC := hid2 (show anC c X = layC c X from if_pos ht)
      obtain ⟨hl2, p0, p1, p2, p3, p4⟩ := HC2.out.ty
      clear hall ht hln HR
      go_wp2_with (go_at_call 67; refine (CT.out w2 HB2.out HC3.out).mono ?_; rintro e w3 ⟨f2, rfl, hP⟩; clear p0 p1 p2 p3 p4; have B4 := hP.keep _ _ (HC4.out.alloc _); have g0 := B4.tyF 0; have g1 := B4.tyF 1; have g2 := B4.tyF 2; have g3 := B4.tyF 3; have g4 := B4.tyF 4; obtain ⟨hl4, q0, q1, q2, q3, q4⟩ := B4.ty; simp only [Nat.zero_add] at q0 q1 q2 q3 q4)
      obtain ⟨F1, F2⟩ := new_s5 hP.own (below_aft HB2.out hP.j.2.2.1) (b := w.heap.size + 1 + 1) (by omega) (by have := HC4.out.lt; simp only [World.size_alloc]; omega) B4
      rw [hN.out, hC.out]
      exact bodyPost_ret (results_c2 (g := f2) Tryd.results36 rfl rfl F1) rfl ⟨f2, rfl, F2⟩
end Go.Proofs.YtjchbclkdbojpaaDoor
