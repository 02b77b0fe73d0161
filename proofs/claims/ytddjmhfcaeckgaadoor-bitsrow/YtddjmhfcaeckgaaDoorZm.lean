/-
  The library's table of trailing zeros, as the rows lay it, in the walks' own words. No card is stated here.
-/
import Derived.Test.YtddjmhfcaeckgaaDoorUg
import Derived.Test.YtddjmhfcaeckgaaDoorZg
import Derived.Lib.LaidTab
namespace Go.Proofs.YtddjmhfcaeckgaaDoor
open Go.ChangeShapes Go.WideShapes Go.ChangeAt Go.RowKit Go.Joins
set_option linter.unusedVariables false
set_option linter.unusedSimpArgs false

def tabInts : List Int := Lib.deBruijn64tab.map fun (n : Nat) => (n : Int)
theorem laid_tab : (Rows.laid_math_bits_deBruijn64tab : DataW Unit) = Lib.tabData .u8 tabInts := by kernel_rfl
theorem tab_of_laid {W : World} (hL : laidMetH Tryd.prog laid1 W) : Tab W := by
  have h : laidMet Tryd.prog laid1 W := hL
  have h' : laidMet Tryd.prog [("math/bits.deBruijn64tab", Lib.tabData .u8 tabInts)] W := by
    rw [← laid_tab]; exact h
  have hT := Lib.tabIs_of_head (g := 0) (t := 75) (e := 5) (n := 64) (by kernel_rfl) (by kernel_rfl) Tryd.underlying75 Tryd.underlying5 (by kernel_rfl) (by kernel_rfl) h'
  have hl : tabInts.length = 64 := by decide
  refine ⟨?_, fun j hj => ?_⟩
  · have := hT.cell (g := 0) (by kernel_rfl) 0 (by omega)
    exact lt_of_cell this
  · have := hT.cell (g := 0) (by kernel_rfl) j (by omega)
    rw [this]
    have hj' : j < Lib.deBruijn64tab.length := by have : Lib.deBruijn64tab.length = 64 := by decide
                                                  omega
    have e : tabInts.getD j 0 = ((Lib.deBruijn64tab.getD j 0 : Nat) : Int) := by
      unfold tabInts
      simp [hj']
    rw [e]
end Go.Proofs.YtddjmhfcaeckgaaDoor
