import Derived.Test.YtahdnfogdnondaaGreatDoorF
import Derived.Test.YtahdnfogdnondaaGreatDoorShelf
namespace Go.Proofs.YtahdnfogdnondaaGreatDoor
open Go.RowKit
set_option linter.unusedVariables false
set_option linter.unusedSimpArgs false

set_option maxRecDepth 100000 in
theorem clone_any (s : List UInt8) (w : World) (h : s.length ≤ 140737488355328) : Calls Tryz.prog 57 #[.string (str s)] w fun e w' => e = .returned (.string (str s)) ∧ Below w.heap.size w w' := by
  go_enter Tryz.func57, Tryz.ntmps57
  go_wp2_with (go_at_call 87; refine (Tryz.stringslite_Clone (str s) _ (by rw [str_size]; omega)).mono ?_; rintro e w1 ⟨rfl, hb1⟩)
  go_ret
  exact ⟨rfl, hb1⟩
end Go.Proofs.YtahdnfogdnondaaGreatDoor
