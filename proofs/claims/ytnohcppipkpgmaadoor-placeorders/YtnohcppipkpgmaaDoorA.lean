import Derived.Test.YtnohcppipkpgmaaDoorRows
namespace Go.Proofs.YtnohcppipkpgmaaDoor
set_option linter.unusedVariables false
set_option linter.unusedSimpArgs false

/-- Whatever has the form of a type. -/
inductive Ty
  | mk (k : Nat) (m : Bool) (r s : Int) (of : List Ty)
/-- Types that may be. -/
inductive Ch
  | leaf (k : Nat) (s : Int)
  | box (c : Ch)
  | ref (m : Bool) (r : Int) (c : Ch)
def Ch.ty : Ch → Ty
  | .leaf k s => .mk k false 0 s []
  | .box c => .mk 3 false 0 0 [c.ty]
  | .ref m r c => .mk 4 m r 0 [c.ty]
def Ch.depth : Ch → Nat
  | .leaf _ _ => 1
  | .box c => c.depth + 1
  | .ref _ _ c => c.depth + 1
def Ch.ok (n : Int) : Ch → Prop
  | .leaf k s => (k = 1 ∨ k = 2) ∧ s = 0 ∨ k = 5 ∧ 0 ≤ s ∧ s < n
  | .box c => c.ok n
  | .ref _ r c => -1 ≤ r ∧ c.ok n
theorem Ch.depth_pos : ∀ c : Ch, 1 ≤ c.depth
  | .leaf _ _ => Nat.le_refl _
  | .box c => by simp [Ch.depth]
  | .ref _ _ c => by simp [Ch.depth]
/-- May it be, so many levels at most? -/
def mayB (n : Int) : Nat → Ty → Bool
  | 0, _ => false
  | d + 1, .mk k m r s of =>
    if k = 1 ∨ k = 2 then !m && decide (r = 0) && decide (s = 0) && decide (of.length = 0)
    else if k = 3 then !m && decide (r = 0) && decide (s = 0) && (match of with | [x] => mayB n d x | _ => false)
    else if k = 4 then decide (-1 ≤ r) && decide (s = 0) && (match of with | [x] => mayB n d x | _ => false)
    else if k = 5 then !m && decide (r = 0) && decide (0 ≤ s) && decide (s < n) && decide (of.length = 0)
    else false
theorem mayB_ch {n : Int} : ∀ {d : Nat} {t : Ty}, mayB n d t = true → ∃ c : Ch, t = c.ty ∧ c.ok n ∧ c.depth ≤ d
  | 0, t, h => by simp [mayB] at h
  | d + 1, .mk k m r s of, h => by
    unfold mayB at h
    split at h
    · rename_i hk
      simp at h
      obtain ⟨⟨⟨rfl, rfl⟩, rfl⟩, h4⟩ := h
      have : of = [] := by simpa using h4
      subst this
      exact ⟨.leaf k 0, rfl, .inl ⟨hk, rfl⟩, by simp [Ch.depth]⟩
    split at h
    · rename_i hk
      subst hk
      match of, h with
      | [x], h =>
        simp at h
        obtain ⟨⟨⟨rfl, rfl⟩, rfl⟩, h4⟩ := h
        obtain ⟨c, rfl, h1, h2⟩ := mayB_ch h4
        exact ⟨.box c, rfl, h1, by simp [Ch.depth]; omega⟩
      | [], h => simp at h
      | _ :: _ :: _, h => simp at h
    split at h
    · rename_i hk
      subst hk
      match of, h with
      | [x], h =>
        simp at h
        obtain ⟨⟨h3, rfl⟩, h4⟩ := h
        obtain ⟨c, rfl, h1, h2⟩ := mayB_ch h4
        exact ⟨.ref m r c, rfl, ⟨h3, h1⟩, by simp [Ch.depth]; omega⟩
      | [], h => simp at h
      | _ :: _ :: _, h => simp at h
    split at h
    · rename_i hk
      simp at h
      obtain ⟨⟨⟨⟨rfl, rfl⟩, h2⟩, h3⟩, h4⟩ := h
      have : of = [] := by simpa using h4
      subst this
      exact ⟨.leaf k s, rfl, .inr ⟨hk, h2, h3⟩, by simp [Ch.depth]⟩
    · cases h
theorem ch_mayB {n : Int} : ∀ {d : Nat} {c : Ch}, c.ok n → c.depth ≤ d → mayB n d c.ty = true
  | 0, c, _, h => by have := c.depth_pos; omega
  | d + 1, .leaf k s, h, _ => by
    rcases h with ⟨h, rfl⟩ | ⟨rfl, h1, h2⟩
    · simp [Ch.ty, mayB, h]
    · simp [Ch.ty, mayB, h1, h2]
  | d + 1, .box c, h, hd => by
    simp [Ch.ty, mayB]
    exact ch_mayB h (by simp [Ch.depth] at hd; omega)
  | d + 1, .ref m r c, h, hd => by
    simp [Ch.ty, mayB]
    exact ⟨h.1, ch_mayB h.2 (by simp [Ch.depth] at hd; omega)⟩
theorem Ch.ty_inj : ∀ {c d : Ch}, c.ty = d.ty → c = d
  | .leaf k s, .leaf k' s', h => by simp [Ch.ty] at h; rw [h.1, h.2]
  | .leaf k s, .box _, h => by simp [Ch.ty] at h
  | .leaf k s, .ref _ _ _, h => by simp [Ch.ty] at h
  | .box _, .leaf _ _, h => by simp [Ch.ty] at h
  | .box c, .box d, h => by simp [Ch.ty] at h; rw [Ch.ty_inj h]
  | .box _, .ref _ _ _, h => by simp [Ch.ty] at h
  | .ref _ _ _, .leaf _ _, h => by simp [Ch.ty] at h
  | .ref _ _ _, .box _, h => by simp [Ch.ty] at h
  | .ref m r c, .ref m' r' d, h => by simp [Ch.ty] at h; rw [h.1, h.2.1, Ch.ty_inj h.2.2]
theorem mayB_iff {n : Int} {d : Nat} {c : Ch} : mayB n d c.ty = true ↔ c.ok n ∧ c.depth ≤ d := by
  constructor
  · intro h
    obtain ⟨c', h1, h2, h3⟩ := mayB_ch h
    rw [Ch.ty_inj h1]
    exact ⟨h2, h3⟩
  · rintro ⟨h1, h2⟩
    exact ch_mayB h1 h2
/-- The regions, from the outermost one in. -/
def Ch.regs : Ch → List Int
  | .leaf _ _ => []
  | .box c => c.regs
  | .ref _ r c => r :: c.regs
/-- The same but for regions. -/
def alikeB : Ch → Ch → Bool
  | .leaf k s, .leaf k' s' => decide (k = k') && decide (s = s')
  | .box c, .box d => alikeB c d
  | .ref m _ c, .ref m' _ d => decide (m = m') && alikeB c d
  | _, _ => false
/-- The same, regions and all. -/
def sameC (c d : Ch) : Bool := alikeB c d && decide (c.regs = d.regs)
theorem alike_self : ∀ c : Ch, alikeB c c = true
  | .leaf k s => by simp [alikeB]
  | .box c => alike_self c
  | .ref m r c => by simp [alikeB, alike_self c]
theorem same_self (c : Ch) : sameC c c = true := by simp [sameC, alike_self]
theorem same_eq : ∀ c d : Ch, sameC c d = true → c = d
  | .leaf k s, .leaf k' s', h => by simp [sameC, alikeB] at h; rw [h.1.1, h.1.2]
  | .leaf _ _, .box _, h => by simp [sameC, alikeB] at h
  | .leaf _ _, .ref _ _ _, h => by simp [sameC, alikeB] at h
  | .box _, .leaf _ _, h => by simp [sameC, alikeB] at h
  | .box c, .box d, h => by rw [same_eq c d h]
  | .box _, .ref _ _ _, h => by simp [sameC, alikeB] at h
  | .ref _ _ _, .leaf _ _, h => by simp [sameC, alikeB] at h
  | .ref _ _ _, .box _, h => by simp [sameC, alikeB] at h
  | .ref m r c, .ref m' r' d, h => by
    simp [sameC, alikeB, Ch.regs] at h
    have := same_eq c d (by simp [sameC, h.1.2, h.2.2])
    rw [h.1.1, h.2.1, this]
/-- What one asks of another. -/
def asksL : Bool → Ch → Ch → List (Int × Int)
  | b, .box c, .box d => asksL b c d
  | b, .ref m r c, .ref _ r' d => (r, r') :: ((if b then [(r', r)] else []) ++ asksL (b || m) c d)
  | _, _, _ => []
end Go.Proofs.YtnohcppipkpgmaaDoor
