import Derived.Test.YtnohcppipkpgmaaDoorO
namespace Go.Proofs.YtnohcppipkpgmaaDoor
open Go.RowKit
set_option linter.unusedVariables false
set_option linter.unusedSimpArgs false

def maxR : Int := 9223372036854775807
/-- A region, from its quote on: its number, how far it goes, whether it is one. -/
def rgP (S : List UInt8) (p : Nat) : Int × Nat × Bool :=
  if p + 1 < (nm S maxR (p + 1)).2 then ((nm S maxR (p + 1)).1, (tk S [32] (nm S maxR (p + 1)).2).1, (tk S [32] (nm S maxR (p + 1)).2).2) else ((nm S maxR (p + 1)).1, (nm S maxR (p + 1)).2, false)
/-- What stands between an ampersand alone and what it points to; so many levels are left. -/
def apP (S : List UInt8) (n p : Nat) : Nat × Bool :=
  if ah S p ≠ 32 then (p, decide (ah S p ≠ 38)) else if n = 2 then (p, false) else (p + 1, decide (ah S (p + 1) = 38))
/-- A reference's head, from behind its ampersand: mut, region, how far, whether it is one. -/
def hdP (S : List UInt8) (n p : Nat) : Bool × Int × Nat × Bool :=
  if ah S p = 39 then
    if (rgP S p).2.2 then
      if ah S (rgP S p).2.1 = 109 then (true, (rgP S p).1, (tk S [109, 117, 116, 32] (rgP S p).2.1).1, (tk S [109, 117, 116, 32] (rgP S p).2.1).2)
      else (false, (rgP S p).1, (rgP S p).2.1, true)
    else (false, (rgP S p).1, (rgP S p).2.1, false)
  else if ah S p = 109 then (true, -1, (tk S [109, 117, 116, 32] p).1, (tk S [109, 117, 116, 32] p).2)
  else (false, -1, (apP S n p).1, (apP S n p).2)
/-- A type, so many levels at most: how far, and which. -/
def rdT (S : List UInt8) : Nat → Nat → Nat × Option Ch
  | 0, p => (p, none)
  | n + 1, p =>
    if ah S p = 105 then ((tk S [105, 54, 52] p).1, if (tk S [105, 54, 52] p).2 then some (.leaf 1 0) else none)
    else if ah S p = 98 then ((tk S [98, 111, 111, 108] p).1, if (tk S [98, 111, 111, 108] p).2 then some (.leaf 2 0) else none)
    else if ah S p = 35 then ((nm S 31 (p + 1)).2, if p + 1 < (nm S 31 (p + 1)).2 then some (.leaf 5 (nm S 31 (p + 1)).1) else none)
    else if ah S p = 66 ∧ 1 ≤ n then
      if (tk S [66, 111, 120, 60] p).2 then
        match (rdT S n (tk S [66, 111, 120, 60] p).1).2 with
        | none => ((rdT S n (tk S [66, 111, 120, 60] p).1).1, none)
        | some c => ((tk S [62] (rdT S n (tk S [66, 111, 120, 60] p).1).1).1, if (tk S [62] (rdT S n (tk S [66, 111, 120, 60] p).1).1).2 then some (.box c) else none)
      else ((tk S [66, 111, 120, 60] p).1, none)
    else if ah S p = 38 ∧ 1 ≤ n then
      if (hdP S (n + 1) (p + 1)).2.2.2 then ((rdT S n (hdP S (n + 1) (p + 1)).2.2.1).1, (rdT S n (hdP S (n + 1) (p + 1)).2.2.1).2.map (fun c => .ref (hdP S (n + 1) (p + 1)).1 (hdP S (n + 1) (p + 1)).2.1 c))
      else ((hdP S (n + 1) (p + 1)).2.2.1, none)
    else (p, none)
theorem tk_le (S : List UInt8) : ∀ (ws : List UInt8) (p : Nat), p ≤ S.length → (∀ c ∈ ws, c.toNat ≠ 0) → (tk S ws p).1 ≤ S.length
  | [], p, h, _ => h
  | c :: r, p, h, h0 => by
    unfold tk
    split
    · rename_i he
      exact tk_le S r (p + 1) (ah_lt (by rw [he]; exact h0 c (by simp))) (fun d hd => h0 d (by simp [hd]))
    · exact h
end Go.Proofs.YtnohcppipkpgmaaDoor
