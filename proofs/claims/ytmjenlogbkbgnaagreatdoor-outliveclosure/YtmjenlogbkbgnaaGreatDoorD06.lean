/-
  OutliveClosure (P15.5) of the landed program: for every list of constraints, every rows and every region, with the library's table laid as the program's text lays it, the law returns true and leaves what came in as it was.
-/
import Derived.Test.YtmjenlogbkbgnaaGreatDoorD05
import Derived.Test.YtmjenlogbkbgnaaGreatDoorD02
import Derived.Test.YtmjenlogbkbgnaaGreatDoorD01
namespace Go.Proofs.YtmjenlogbkbgnaaGreatDoor
open Go.RowKit Go.Shelf
set_option linter.unusedVariables false
set_option linter.unusedSimpArgs false
theorem clos_walk:GWalk:=fun a m cap l b n cap2 R q w hP hR hT=>by
 by_cases h:300<m∨300<n
 ·exact clos_big awake_true a m cap b n cap2 q h w
 ·exact clos_main awake_true a m cap l b n cap2 R q (by omega) (by omega) w hP hR hT
theorem outliveClosure_holds:Rows.OutliveClosureCardSaid:=outliveClosure_card clos_walk
#print axioms outliveClosure_holds
end Go.Proofs.YtmjenlogbkbgnaaGreatDoor
