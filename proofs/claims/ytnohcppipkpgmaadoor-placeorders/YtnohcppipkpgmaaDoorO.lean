import Derived.Test.YtnohcppipkpgmaaDoorN
namespace Go.Proofs.YtnohcppipkpgmaaDoor
open Go.RowKit
set_option linter.unusedVariables false
set_option linter.unusedSimpArgs false

/-- Digits, as long as they are those of a number that is not too great. -/
def nmG (S : List UInt8) (most : Int) (fr : Nat) : Nat → Int → Nat → Int × Nat
  | 0, n, p => (n, p)
  | fuel + 1, n, p => if (48 ≤ ah S p ∧ ah S p ≤ 57) ∧ ¬ ((most - ((ah S p : Int) - 48)).tdiv 10 < n ∨ (n = 0 ∧ fr < p)) then nmG S most fr fuel (n * 10 + ((ah S p : Int) - 48)) (p + 1) else (n, p)
def nm (S : List UInt8) (most : Int) (p : Nat) : Int × Nat := nmG S most p (S.length - p) 0 p
/-- A number within its bounds, a place in the text. -/
def InR (S : List UInt8) (most : Int) (R : Int × Nat) : Prop := R.2 ≤ S.length ∧ 0 ≤ R.1 ∧ R.1 ≤ most
/-- Where a reader stands. -/
def posOf (b : Nat) (W : World) : Nat := match W.cell? ⟨b, 1, none⟩ with | some (.int _ k) => k.toNat | _ => 0
theorem posOf_rd {b : Nat} {S : List UInt8} {p t : Nat} {W : World} (h : Rd b S p t W) : posOf b W = p := by
  unfold posOf
  rw [h.two.2]
  simp
theorem quo_fits {most n d : Int} (h0 : 0 ≤ n) (hd : 0 ≤ d) (hm : d ≤ most) (h : ¬ (most - d).tdiv 10 < n) : n * 10 + d ≤ most := by
  rw [Int.tdiv_eq_ediv_of_nonneg (by omega)] at h
  omega
end Go.Proofs.YtnohcppipkpgmaaDoor
