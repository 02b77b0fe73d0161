import Derived.Test.YtnohcppipkpgmaaDoorL
namespace Go.Proofs.YtnohcppipkpgmaaDoor
open Go.RowKit
set_option linter.unusedVariables false
set_option linter.unusedSimpArgs false

def cCells (l : List (Int × Int)) : List Value := l.flatMap (fun p => [.int .i64 p.1, .int .i64 p.2])
theorem cCells_app (l m : List (Int × Int)) : cCells (l ++ m) = cCells l ++ cCells m := by simp [cCells]
/-- The constraints so far. -/
def JA (w0 : World) (b : Nat) (l : List (Int × Int)) (W : World) : Prop := ∃ v, At W b (One v 61) ∧ W.ownsRow w0.heap.size 67 2 v l.length (cCells l) ∧ Below w0.heap.size w0 W ∧ w0.heap.size ≤ b
abbrev Two (u v : Value) (t : Nat) : Obj := .cells #[u, v] t (0, 0)
theorem At.two {w : World} {b t : Nat} {u v : Value} (h : At w b (Two u v t)) : w.cell? ⟨b, 0, none⟩ = some u ∧ w.cell? ⟨b, 1, none⟩ = some v := by
  unfold At at h
  exact ⟨by simp [World.cell?, h], by simp [World.cell?, h]⟩
/-- Are all regions there? -/
def bareB (c : Ch) : Bool := c.regs.any (fun r => decide (r < 0))
end Go.Proofs.YtnohcppipkpgmaaDoor
