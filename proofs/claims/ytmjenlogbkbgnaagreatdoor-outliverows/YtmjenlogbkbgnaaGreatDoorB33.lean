import Derived.Test.YtmjenlogbkbgnaaGreatDoorB30
namespace Go.Proofs.YtmjenlogbkbgnaaGreatDoor
open Go.RowKit Go.Shelf
set_option linter.unusedVariables false
set_option linter.unusedSimpArgs false
theorem hand_cnt:cntP [hG] (cntL hG.lv hcl) hG.pt=2:=rfl
theorem hand_at:atR [hG] (cntL hG.lv hcl) hG.pt=[1,-1,-1,-1]:=rfl
theorem hand_num:numR hG.lv hcl=[.leaf 1 0,.leaf 1 0,.ref true 0 (.leaf 1 0)]:=rfl
end Go.Proofs.YtmjenlogbkbgnaaGreatDoor
