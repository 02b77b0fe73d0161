import Derived.Test.YtjchbclkdbojpaaDoorJ
namespace Go.Proofs.YtjchbclkdbojpaaDoor
open Go.RowKit
set_option linter.unusedVariables false
set_option linter.unusedSimpArgs false

theorem regs_le : ∀ c : Ch, c.regs.length + 1 ≤ c.depth
  | .leaf _ _ => Nat.le_refl _
  | .box c => by have := regs_le c; simp only [Ch.regs, Ch.depth]; omega
  | .ref _ _ c => by have := regs_le c; simp only [Ch.regs, Ch.depth, List.length_cons]; omega
set_option maxRecDepth 100000 in
set_option maxHeartbeats 1000000 in
theorem bare_any (c : Ch) (f : Fv) (w : World) (hc : Ok c) (h : TyAt w f c.ty) : Calls Tryd.prog 71 #[f.v] w fun e w' => e = .returned (.bool (c.regs.any (fun r => decide (r < 0)))) ∧ Below w.heap.size w w' := by
  have CE : Hid (Calls Tryd.prog 65 #[f.v, fnB 85 (w.heap.size + 1)] ((w.alloc f.o).alloc (One (.bool false) 4)) fun e w' => e = .returned (.tuple #[]) ∧ JB w (w.heap.size + 1) c.regs w') := by
    have := each_any (tellB w (w.heap.size + 1)) c f [] ((w.alloc f.o).alloc (One (.bool false) 4)) hc.ok (by have := hc.deep; simp; omega) h ⟨at_snd _ _ _, belA (belA (Below.refl _ _)), by omega⟩
    exact this
  obtain ⟨rr, hrr⟩ : ∃ rr, rr = c.regs.any (fun r => decide (r < 0)) := ⟨_, rfl⟩
  have HRR : Hid (rr = c.regs.any (fun r => decide (r < 0))) := hrr
  rw [← hrr]
  obtain ⟨k, m, r, s, a, n, cap⟩ := f
  show Calls Tryd.prog 71 #[tyV k m r s a n cap] w _
  clear h hrr
  go_enter Tryd.func71, Tryd.ntmps71
  go_wp2_with (go_at_call 65; refine CE.out.mono ?_; rintro e w1 ⟨rfl, hj1⟩; have hA1 := hj1.1; rw [← HRR.out] at hA1; obtain ⟨c1, f1⟩ := hA1.one)
  go_ret
  exact ⟨rfl, hj1.2.1⟩
set_option maxRecDepth 100000 in
set_option maxHeartbeats 1000000 in
theorem hasRef_any (c : Ch) (f : Fv) (w : World) (hc : Ok c) (h : TyAt w f c.ty) : Calls Tryd.prog 80 #[f.v] w fun e w' => e = .returned (.bool (!c.regs.isEmpty)) ∧ Below w.heap.size w w' := by
  have CE : Hid (Calls Tryd.prog 65 #[f.v, fnB 98 (w.heap.size + 1)] ((w.alloc f.o).alloc (One (.bool false) 4)) fun e w' => e = .returned (.tuple #[]) ∧ JF w (w.heap.size + 1) c.regs w') := by
    have := each_any (tellF w (w.heap.size + 1)) c f [] ((w.alloc f.o).alloc (One (.bool false) 4)) hc.ok (by have := hc.deep; simp; omega) h ⟨at_snd _ _ _, belA (belA (Below.refl _ _)), by omega⟩
    exact this
  obtain ⟨rr, hrr⟩ : ∃ rr, rr = !c.regs.isEmpty := ⟨_, rfl⟩
  have HRR : Hid (rr = !c.regs.isEmpty) := hrr
  rw [← hrr]
  obtain ⟨k, m, r, s, a, n, cap⟩ := f
  show Calls Tryd.prog 80 #[tyV k m r s a n cap] w _
  clear h hrr
  go_enter Tryd.func80, Tryd.ntmps80
  go_wp2_with (go_at_call 65; refine CE.out.mono ?_; rintro e w1 ⟨rfl, hj1⟩; have hA1 := hj1.1; rw [← HRR.out] at hA1; obtain ⟨c1, f1⟩ := hA1.one)
  go_ret
  exact ⟨rfl, hj1.2.1⟩
set_option maxRecDepth 100000 in
set_option maxHeartbeats 1000000 in
theorem Regions_yes (c : Ch) (f : Fv) (w : World) (hc : Ok c) (h : TyAt w f c.ty) : Calls Tryd.prog 32 #[f.v] w fun e w' => (∃ v, e = .returned v ∧ w'.ownsRow w.heap.size 3 1 v c.regs.length (iCells c.regs)) ∧ Below w.heap.size w w' := by
  have CS : Hid (Calls Tryd.prog 56 #[f.v] (w.alloc f.o) fun e w' => e = .returned (.bool true) ∧ Below (w.alloc f.o).heap.size (w.alloc f.o) w') := by
    have := some_any c.ty f (w.alloc f.o) (h.bel (belA (Below.refl _ _)))
    rw [hc.is] at this
    exact this
  have CE : Hid (∀ W, Below w.heap.size w W → Calls Tryd.prog 65 #[f.v, fnB 66 W.heap.size] (W.alloc (One (.slice none 0 0) 49)) fun e w' => e = .returned (.tuple #[]) ∧ JR w W.heap.size c.regs w') := fun W hW => by
    have := each_any (tellR w W.heap.size) c f [] (W.alloc (One (.slice none 0 0) 49)) hc.ok (by have := hc.deep; simp; omega) h ⟨_, At.new _ _, World.ownsRow_nil _ _ _ _, belA hW, hW.size⟩
    exact this
  have A0 : At (w.alloc f.o) w.heap.size f.o := At.new _ _
  obtain ⟨k, m, r, s, a, n, cap⟩ := f
  show Calls Tryd.prog 32 #[tyV k m r s a n cap] w _
  clear h
  go_enter Tryd.func32, Tryd.ntmps32
  go_wp2_with (first
    | (go_at_call 56; refine CS.out.mono ?_; rintro e w1 ⟨rfl, hb1⟩; have A1 := A0.below hb1; obtain ⟨hlt, p0, p1, p2, p3, p4⟩ := A1.ty)
    | (go_at_call 65; refine (CE.out w1 (below1 hb1)).mono ?_; rintro e w2 ⟨rfl, v, hv1, hv2, hv3, hv4⟩; obtain ⟨aa, cc, hvv⟩ := own_sl hv2; subst hvv; obtain ⟨c1, f1⟩ := hv1.one))
  go_ret
  exact ⟨⟨_, rfl, hv2⟩, hv3⟩
set_option maxRecDepth 100000 in
set_option maxHeartbeats 1000000 in
theorem Regions_no (t : Ty) (f : Fv) (w : World) (h : TyAt w f t) (hn : isT t = false) : Calls Tryd.prog 32 #[f.v] w fun e w' => e = .returned (.slice none 0 0) ∧ Below w.heap.size w w' := by
  have CS : Hid (Calls Tryd.prog 56 #[f.v] (w.alloc f.o) fun e w' => e = .returned (.bool false) ∧ Below (w.alloc f.o).heap.size (w.alloc f.o) w') := by
    have := some_any t f (w.alloc f.o) (h.bel (belA (Below.refl _ _)))
    rw [hn] at this
    exact this
  obtain ⟨k, m, r, s, a, n, cap⟩ := f
  show Calls Tryd.prog 32 #[tyV k m r s a n cap] w _
  clear h hn
  go_enter Tryd.func32, Tryd.ntmps32
  go_wp2_with (go_at_call 56; refine CS.out.mono ?_; rintro e w1 ⟨rfl, hb1⟩)
  go_ret
  exact ⟨rfl, below1 hb1⟩
end Go.Proofs.YtjchbclkdbojpaaDoor
