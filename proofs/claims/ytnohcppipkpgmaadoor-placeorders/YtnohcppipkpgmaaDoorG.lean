import Derived.Test.YtnohcppipkpgmaaDoorF
namespace Go.Proofs.YtnohcppipkpgmaaDoor
open Go.RowKit
set_option linter.unusedVariables false
set_option linter.unusedSimpArgs false

/-- Alike; with their regions too. -/
def alikeR (rg : Bool) : Ch → Ch → Bool
  | .leaf k s, .leaf k' s' => decide (k = k') && decide (s = s')
  | .box c, .box d => alikeR rg c d
  | .ref m r c, .ref m' r' d => decide (m = m') && (!rg || decide (r = r')) && alikeR rg c d
  | _, _ => false
theorem alikeR_no : ∀ c d : Ch, alikeR false c d = alikeB c d
  | .leaf _ _, .leaf _ _ => rfl
  | .leaf _ _, .box _ => rfl
  | .leaf _ _, .ref _ _ _ => rfl
  | .box _, .leaf _ _ => rfl
  | .box c, .box d => by simp only [alikeR, alikeB]; exact alikeR_no c d
  | .box _, .ref _ _ _ => rfl
  | .ref _ _ _, .leaf _ _ => rfl
  | .ref _ _ _, .box _ => rfl
  | .ref m r c, .ref m' r' d => by simp only [alikeR, alikeB, alikeR_no c d, Bool.not_false, Bool.true_or, Bool.and_true]
theorem alikeR_yes : ∀ c d : Ch, alikeR true c d = sameC c d
  | .leaf k s, .leaf k' s' => by rw [Bool.eq_iff_iff]; simp [alikeR, sameC, alikeB, Ch.regs]
  | .leaf _ _, .box _ => by simp [alikeR, sameC, alikeB]
  | .leaf _ _, .ref _ _ _ => by simp [alikeR, sameC, alikeB]
  | .box _, .leaf _ _ => by simp [alikeR, sameC, alikeB]
  | .box c, .box d => alikeR_yes c d
  | .box _, .ref _ _ _ => by simp [alikeR, sameC, alikeB]
  | .ref _ _ _, .leaf _ _ => by simp [alikeR, sameC, alikeB]
  | .ref _ _ _, .box _ => by simp [alikeR, sameC, alikeB]
  | .ref m r c, .ref m' r' d => by
    rw [alikeR, alikeR_yes c d, Bool.eq_iff_iff]
    simp [sameC, alikeB, Ch.regs]
    constructor
    · rintro ⟨⟨a, b⟩, x, y⟩; exact ⟨⟨a, x⟩, b, y⟩
    · rintro ⟨⟨a, x⟩, b, y⟩; exact ⟨⟨a, b⟩, x, y⟩
theorem alike_any : ∀ (c d : Ch) (f f' : Fv) (w : World), c.ok 32 → d.ok 32 → TyAt w f c.ty → TyAt w f' d.ty → Calls Tryd.prog 93 #[f.v, f'.v] w fun e w' => e = .returned (.bool (alikeB c d)) ∧ Below w.heap.size w w' := by
  intro c
  induction c with
  | leaf k s =>
    intro d f f' w hc hd h h'
    obtain ⟨a, cap, rfl, -⟩ := h.leaf
    have hk : ¬ k = 3 ∧ ¬ k = 4 := by
      have : (k = 1 ∨ k = 2) ∧ s = 0 ∨ k = 5 ∧ 0 ≤ s ∧ s < 32 := hc
      omega
    cases d with
    | leaf k' s' =>
      obtain ⟨a', cap', rfl, -⟩ := h'.leaf
      by_cases e1 : k = k'
      · subst e1
        by_cases e2 : s = s'
        · subst e2
          have e : alikeB (.leaf k s) (.leaf k s) = true := by simp [alikeB]
          rw [e]
          exact alike_leaf k false 0 s 0 a a' 0 cap 0 cap' w hk.1 hk.2
        · have e : alikeB (.leaf k s) (.leaf k s') = false := by simp [alikeB, e2]
          rw [e]
          exact alike_no _ _ w (.inr (.inr e2))
      · have e : alikeB (.leaf k s) (.leaf k' s') = false := by simp [alikeB, e1]
        rw [e]
        exact alike_no _ _ w (.inl e1)
    | box d =>
      obtain ⟨g, off, cap', f', rfl, -⟩ := h'.box
      exact alike_no _ _ w (.inl hk.1)
    | ref m r d =>
      obtain ⟨g, off, cap', f', rfl, -⟩ := h'.ref
      exact alike_no _ _ w (.inl hk.2)
  | box c ih =>
    intro d f f' w hc hd h h'
    obtain ⟨g, off, cap, f1, rfl, hc1, ht1⟩ := h.box
    cases d with
    | leaf k' s' =>
      obtain ⟨a', cap', rfl, -⟩ := h'.leaf
      have hk : ¬ 3 = k' := by
        have : (k' = 1 ∨ k' = 2) ∧ s' = 0 ∨ k' = 5 ∧ 0 ≤ s' ∧ s' < 32 := hd
        omega
      exact alike_no _ _ w (.inl hk)
    | box d =>
      obtain ⟨g', off', cap', f2, rfl, hc2, ht2⟩ := h'.box
      have e : alikeB (.box c) (.box d) = alikeB c d := rfl
      rw [e]
      exact alike_one 3 false 0 0 0 g off g' off' cap cap' f1 f2 _ w (.inl rfl) hc1 hc2 (fun W hW => ih d f1 f2 W hc hd (ht1.bel hW) (ht2.bel hW))
    | ref m r d =>
      obtain ⟨g', off', cap', f', rfl, -⟩ := h'.ref
      exact alike_no _ _ w (.inl (by simp))
  | ref m r c ih =>
    intro d f f' w hc hd h h'
    obtain ⟨g, off, cap, f1, rfl, hc1, ht1, -⟩ := h.ref
    cases d with
    | leaf k' s' =>
      obtain ⟨a', cap', rfl, -⟩ := h'.leaf
      have hk : ¬ 4 = k' := by
        have : (k' = 1 ∨ k' = 2) ∧ s' = 0 ∨ k' = 5 ∧ 0 ≤ s' ∧ s' < 32 := hd
        omega
      exact alike_no _ _ w (.inl hk)
    | box d =>
      obtain ⟨g', off', cap', f2, rfl, hc2, ht2⟩ := h'.box
      exact alike_no _ _ w (.inl (by simp))
    | ref m' r' d =>
      obtain ⟨g', off', cap', f2, rfl, hc2, ht2, -⟩ := h'.ref
      by_cases e1 : m = m'
      · subst e1
        have e : alikeB (.ref m r c) (.ref m r' d) = alikeB c d := by simp [alikeB]
        rw [e]
        exact alike_one 4 m r 0 r' g off g' off' cap cap' f1 f2 _ w (.inr rfl) hc1 hc2 (fun W hW => ih d f1 f2 W hc.2 hd.2 (ht1.bel hW) (ht2.bel hW))
      · have e : alikeB (.ref m r c) (.ref m' r' d) = false := by simp [alikeB, e1]
        rw [e]
        exact alike_no _ _ w (.inr (.inl e1))
end Go.Proofs.YtnohcppipkpgmaaDoor
