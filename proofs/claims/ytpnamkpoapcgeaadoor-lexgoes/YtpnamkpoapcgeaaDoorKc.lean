import Derived.Test.YtpnamkpoapcgeaaDoorKa
import Derived.Test.YtpnamkpoapcgeaaDoorKb
import Derived.RangeFuncNested
import Derived.RangeFuncBound
import Derived.RangeFuncCalls
import Derived.RangeFuncLeaves
import Derived.RangeFuncBox
import Derived.Shelf.Abstract
import Derived.Shelf.RegionOpen
import Derived.WalkKit
import Derived.OwnWalkIn
import Derived.TacticsInMore
import Derived.LoopNIn
import Derived.LoopIn
namespace Go.Proofs.YtpnamkpoapcgeaaDoor
open Go.RowKit Go.Shelf
attribute [local go_sem] Oper.semAt_some
set_option linter.unusedVariables false
set_option linter.unusedSimpArgs false

theorem reader_any (w : World) (s : ByteArray) :
    Calls Tryd.prog 46 #[.string s] w fun e w' => ∃ bl bs, e = .returned (.func (.func 75) #[] #[.pointer (some ⟨bl, 0, none⟩), .pointer (some ⟨bs, 0, none⟩)]) ∧ At w' bl (One (.string s) 9) ∧ At w' bs (One (.string s) 9) ∧ w.heap.size ≤ bs ∧ bs < bl ∧ Below w.heap.size w w' := by
  have h1 := At.new w (One (.string s) 9)
  obtain ⟨c1, f1⟩ := h1.one
  go_enter Tryd.func46, Tryd.ntmps46
  go_wp2
  go_ret
  exact ⟨w.heap.size + 1, w.heap.size, rfl, at_snd _ _ _, h1.alloc _, Nat.le_refl _, by omega, ((Below.refl _ _).alloc (Nat.le_refl _) _).alloc (by simp) _⟩
theorem pieces_any (w : World) (s : ByteArray) :
    Calls Tryd.prog 29 #[.string s] w fun e w' => ∃ b, e = .returned (.func (.func 45) #[] #[.pointer (some ⟨b, 0, none⟩)]) ∧ At w' b (One (.string s) 9) ∧ w.heap.size ≤ b ∧ Below w.heap.size w w' := by
  go_enter Tryd.func29, Tryd.ntmps29
  go_wp2
  go_ret
  exact ⟨w.heap.size, rfl, At.new _ _, Nat.le_refl _, (Below.refl _ _).alloc (Nat.le_refl _) _⟩
end Go.Proofs.YtpnamkpoapcgeaaDoor
