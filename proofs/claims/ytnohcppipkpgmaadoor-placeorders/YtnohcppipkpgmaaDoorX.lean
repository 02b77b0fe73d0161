import Derived.Test.YtnohcppipkpgmaaDoorW
import Derived.Lib.ItoaLen
namespace Go.Proofs.YtnohcppipkpgmaaDoor
open Go.RowKit
set_option linter.unusedVariables false
set_option linter.unusedSimpArgs false

theorem str_app (a b : List UInt8) : str a ++ str b = str (a ++ b) := by
  apply ByteArray.ext
  simp [str, ByteArray.data_append]
/-- Itoa tells the number. -/
def ItC (w0 : World) (n : Int) : Prop := ∀ W, Below w0.heap.size w0 W → Calls Tryd.prog 51 #[.int .i64 n] W fun e w' => e = .returned (.string (str (Lib.itoa n))) ∧ Below W.heap.size W w'
/-- A reference's head. -/
def hdT (m : Bool) (r : Int) (isRef : Bool) : List UInt8 :=
  [38] ++ ((if 0 ≤ r then [39] ++ Lib.itoa r ++ [32] else []) ++ ((if m then [109, 117, 116, 32] else []) ++ (if r < 0 ∧ m = false ∧ isRef = true then [32] else [])))
theorem str_toList (s : List UInt8) : (str s).toList = s := by rw [ByteArray.toList_eq]; rfl
end Go.Proofs.YtnohcppipkpgmaaDoor
