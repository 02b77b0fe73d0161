import Derived.Test.YtnohcppipkpgmaaDoorH
import Derived.OwnWalk
namespace Go.Proofs.YtnohcppipkpgmaaDoor
open Go.RowKit
set_option linter.unusedVariables false
set_option linter.unusedSimpArgs false

/-- A function value of one variable of its own. -/
abbrev fnB (fn b : Nat) : Value := .func (.func fn) #[] #[.pointer (some ⟨b, 0, none⟩)]
def Enters (fn : Nat) : Prop := ∀ (args : Array Value) (W : World), (callFunc fn args).run Tryd.prog W = .ok (.enter fn args) W
/-- Types in variables lie as they lay. -/
def KeepT (W W' : World) : Prop := ∀ i (f : Fv), At W i f.o → At W' i f.o
/-- What a function that is told regions does. -/
structure Tell (fn b : Nat) (w0 : World) (J : List Int → World → Prop) : Prop where
  enters : Enters fn
  alloc : ∀ l W o, J l W → J l (W.alloc o)
  bel : ∀ l W, J l W → Below w0.heap.size w0 W
  call : ∀ l r W, l.length ≤ 60 → -9223372036854775808 ≤ r → r ≤ 9223372036854775807 → J l W → Calls Tryd.prog fn #[.int .i64 r, .pointer (some ⟨b, 0, none⟩)] W fun e w' => e = .returned (.tuple #[]) ∧ J (l ++ [r]) w' ∧ KeepT W w'
set_option maxRecDepth 100000 in
set_option maxHeartbeats 2000000 in
theorem each_any {fn b : Nat} {w0 : World} {J : List Int → World → Prop} (hT : Tell fn b w0 J) : ∀ (c : Ch) (f : Fv) (l : List Int) (W : World), c.ok 32 → l.length + c.depth ≤ 61 → TyAt w0 f c.ty → J l W →
    Calls Tryd.prog 100 #[f.v, fnB fn b] W fun e w' => e = .returned (.tuple #[]) ∧ J (l ++ c.regs) w' := by
  intro c
  induction c with
  | leaf k s =>
    intro f l W hc hl h hJ
    obtain ⟨a, cap, rfl, -⟩ := h.leaf
    have hk : ¬ (k : Int) = 3 ∧ ¬ (k : Int) = 4 := by
      have : (k = 1 ∨ k = 2) ∧ s = 0 ∨ k = 5 ∧ 0 ≤ s ∧ s < 32 := hc
      omega
    obtain ⟨k3, k4⟩ := hk
    have HJ : Hid (∀ o, J (l ++ (Ch.leaf k s).regs) (W.alloc o)) := fun o => by
      rw [Ch.regs, List.append_nil]
      exact hT.alloc _ _ _ hJ
    show Calls Tryd.prog 100 #[tyV k false 0 s a 0 cap, fnB fn b] W _
    clear hJ h hc hl hT
    go_enter Tryd.func100, Tryd.ntmps100
    go_wp2_with fail
    go_end0
    exact ⟨rfl, HJ.out _⟩
  | box c ih =>
    intro f l W hc hl h hJ
    obtain ⟨g, off, cap, f', rfl, hc5, ht⟩ := h.box
    have hJ1 := hT.alloc _ _ (tyO 3 false 0 0 (some ⟨g, off, none⟩) 1 cap) hJ
    have IH : Hid (Calls Tryd.prog 100 #[f'.v, fnB fn b] (W.alloc (tyO 3 false 0 0 (some ⟨g, off, none⟩) 1 cap)) fun e w' => e = .returned (.tuple #[]) ∧ J (l ++ (Ch.box c).regs) w') := ih f' l _ hc (by simp [Ch.depth] at hl; omega) ht hJ1
    obtain ⟨hg, p0, p1, p2, p3, p4⟩ := hc5.below (hT.bel _ _ hJ)
    show Calls Tryd.prog 100 #[tyV 3 false 0 0 (some ⟨g, off, none⟩) 1 cap, fnB fn b] W _
    clear hJ1 hJ h hc hl hT ih ht hc5
    go_enter Tryd.func100, Tryd.ntmps100
    go_wp2_with (go_at_call 100; refine IH.out.mono ?_; rintro e w1 ⟨rfl, hj1⟩)
    go_end0
    exact ⟨rfl, hj1⟩
  | ref m r c ih =>
    intro f l W hc hl h hJ
    obtain ⟨g, off, cap, f', rfl, hc5, ht, r0, r1⟩ := h.ref
    have hJ1 := hT.alloc _ _ (tyO 4 m r 0 (some ⟨g, off, none⟩) 1 cap) hJ
    have A1 : At (W.alloc (tyO 4 m r 0 (some ⟨g, off, none⟩) 1 cap)) W.heap.size (Fv.o ⟨4, m, r, 0, some ⟨g, off, none⟩, 1, cap⟩) := At.new _ _
    have CT : Hid (Calls Tryd.prog fn #[.int .i64 r, .pointer (some ⟨b, 0, none⟩)] (W.alloc (tyO 4 m r 0 (some ⟨g, off, none⟩) 1 cap)) fun e w' => e = .returned (.tuple #[]) ∧ J (l ++ [r]) w' ∧ KeepT (W.alloc (tyO 4 m r 0 (some ⟨g, off, none⟩) 1 cap)) w') := hT.call l r _ (by simp [Ch.depth] at hl; omega) r0 r1 hJ1
    have IH : Hid (∀ w1, J (l ++ [r]) w1 → Calls Tryd.prog 100 #[f'.v, fnB fn b] w1 fun e w' => e = .returned (.tuple #[]) ∧ J (l ++ (Ch.ref m r c).regs) w') := fun w1 h1 => by
      have := ih f' (l ++ [r]) w1 hc.2 (by simp [Ch.depth] at hl ⊢; omega) ht h1
      rw [List.append_assoc] at this
      exact this
    have PC : Hid (∀ w1, J (l ++ [r]) w1 → C5 w1 g off f') := fun w1 h1 => hc5.below (hT.bel _ _ h1)
    have hen := hT.enters
    unfold Enters at hen
    show Calls Tryd.prog 100 #[tyV 4 m r 0 (some ⟨g, off, none⟩) 1 cap, fnB fn b] W _
    clear hJ1 hJ h hc hl hT ih ht hc5 r0 r1
    go_enter Tryd.func100, Tryd.ntmps100
    go_wp2_with fail
    refine CT.out.mono ?_
    rintro e w1 ⟨rfl, hj1, hk1⟩
    obtain ⟨-, q0, q1, q2, q3, q4⟩ := (hk1 _ _ A1).ty
    obtain ⟨-, p0, p1, p2, p3, p4⟩ := PC.out w1 hj1
    go_wp2_with (go_at_call 100; refine (IH.out w1 hj1).mono ?_; rintro e w2 ⟨rfl, hj2⟩)
    go_end0
    exact ⟨rfl, hj2⟩
end Go.Proofs.YtnohcppipkpgmaaDoor
