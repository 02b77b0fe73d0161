import Derived.Test.YtjchbclkdbojpaaDoorDa
namespace Go.Proofs.YtjchbclkdbojpaaDoor
open Go.RowKit
set_option linter.unusedVariables false
set_option linter.unusedSimpArgs false

set_option maxRecDepth 100000 in
set_option maxHeartbeats 2000000 in
/-- The reference's 'plain': has a type that may be no reference? -/
theorem plain_any : ∀ (c : Ch) (f : Fv) (w : World), c.ok 32 → TyAt w f c.ty → Calls Tryd.prog 52 #[f.v] w fun e w' => e = .returned (.bool c.regs.isEmpty) ∧ Below w.heap.size w w' := by
  intro c
  induction c with
  | leaf k s =>
    intro f w hc h
    obtain ⟨a, cap, rfl, -⟩ := h.leaf
    have hk : ¬ (k : Int) = 3 ∧ ¬ (k : Int) = 4 := by
      have : (k = 1 ∨ k = 2) ∧ s = 0 ∨ k = 5 ∧ 0 ≤ s ∧ s < 32 := hc
      omega
    obtain ⟨k3, k4⟩ := hk
    show Calls Tryd.prog 52 #[tyV k false 0 s a 0 cap] w fun e w' => e = .returned (.bool true) ∧ Below w.heap.size w w'
    clear h hc
    go_enter Tryd.func52, Tryd.ntmps52
    go_wp2_with fail
    go_ret
    exact ⟨by first | rfl | simp [k3, k4], belA (Below.refl _ _)⟩
  | box c ih =>
    intro f w hc h
    obtain ⟨g, off, cap, f', rfl, hc5, ht⟩ := h.box
    have IH : Hid (Calls Tryd.prog 52 #[f'.v] (w.alloc (tyO 3 false 0 0 (some ⟨g, off, none⟩) 1 cap)) fun e w' => e = .returned (.bool c.regs.isEmpty) ∧ Below (w.alloc (tyO 3 false 0 0 (some ⟨g, off, none⟩) 1 cap)).heap.size (w.alloc (tyO 3 false 0 0 (some ⟨g, off, none⟩) 1 cap)) w') := ih f' _ hc (ht.bel (belA (Below.refl _ _)))
    obtain ⟨hg, p0, p1, p2, p3, p4⟩ := hc5
    show Calls Tryd.prog 52 #[tyV 3 false 0 0 (some ⟨g, off, none⟩) 1 cap] w fun e w' => e = .returned (.bool c.regs.isEmpty) ∧ Below w.heap.size w w'
    obtain ⟨x, hx⟩ : ∃ x, x = c.regs.isEmpty := ⟨_, rfl⟩
    rw [← hx] at IH ⊢
    clear h hc ih ht hx
    go_enter Tryd.func52, Tryd.ntmps52
    go_wp2_with (go_at_call 52; refine IH.out.mono ?_; rintro e w1 ⟨rfl, hb1⟩)
    go_ret
    exact ⟨by first | rfl | simp, below1 hb1⟩
  | ref m r c ih =>
    intro f w hc h
    obtain ⟨g, off, cap, f', rfl, hc5, ht, -⟩ := h.ref
    show Calls Tryd.prog 52 #[tyV 4 m r 0 (some ⟨g, off, none⟩) 1 cap] w fun e w' => e = .returned (.bool false) ∧ Below w.heap.size w w'
    clear h hc ih ht hc5
    go_enter Tryd.func52, Tryd.ntmps52
    go_wp2_with fail
    go_ret
    exact ⟨rfl, belA (Below.refl _ _)⟩
end Go.Proofs.YtjchbclkdbojpaaDoor
