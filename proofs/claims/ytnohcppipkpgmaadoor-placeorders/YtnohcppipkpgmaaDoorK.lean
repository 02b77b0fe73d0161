import Derived.Test.YtnohcppipkpgmaaDoorJ
namespace Go.Proofs.YtnohcppipkpgmaaDoor
open Go.RowKit
set_option linter.unusedVariables false
set_option linter.unusedSimpArgs false

theorem regs_le : ∀ c : Ch, c.regs.length + 1 ≤ c.depth
  | .leaf _ _ => Nat.le_refl _
  | .box c => by have := regs_le c; simp only [Ch.regs, Ch.depth]; omega
  | .ref _ _ c => by have := regs_le c; simp only [Ch.regs, Ch.depth, List.length_cons]; omega
set_option maxRecDepth 100000 in
set_option maxHeartbeats 1000000 in
theorem hasRef_any (c : Ch) (f : Fv) (w : World) (hc : Ok c) (h : TyAt w f c.ty) : Calls Tryd.prog 90 #[f.v] w fun e w' => e = .returned (.bool (!c.regs.isEmpty)) ∧ Below w.heap.size w w' := by
  have CE : Hid (Calls Tryd.prog 100 #[f.v, fnB 101 (w.heap.size + 1)] ((w.alloc f.o).alloc (One (.bool false) 4)) fun e w' => e = .returned (.tuple #[]) ∧ JF w (w.heap.size + 1) c.regs w') := by
    have := each_any (tellF w (w.heap.size + 1)) c f [] ((w.alloc f.o).alloc (One (.bool false) 4)) hc.ok (by have := hc.deep; simp; omega) h ⟨at_snd _ _ _, belA (belA (Below.refl _ _)), by omega⟩
    exact this
  obtain ⟨rr, hrr⟩ : ∃ rr, rr = !c.regs.isEmpty := ⟨_, rfl⟩
  have HRR : Hid (rr = !c.regs.isEmpty) := hrr
  rw [← hrr]
  obtain ⟨k, m, r, s, a, n, cap⟩ := f
  show Calls Tryd.prog 90 #[tyV k m r s a n cap] w _
  clear h hrr
  go_enter Tryd.func90, Tryd.ntmps90
  go_wp2_with (go_at_call 100; refine CE.out.mono ?_; rintro e w1 ⟨rfl, hj1⟩; have hA1 := hj1.1; rw [← HRR.out] at hA1; obtain ⟨c1, f1⟩ := hA1.one)
  go_ret
  exact ⟨rfl, hj1.2.1⟩
end Go.Proofs.YtnohcppipkpgmaaDoor
