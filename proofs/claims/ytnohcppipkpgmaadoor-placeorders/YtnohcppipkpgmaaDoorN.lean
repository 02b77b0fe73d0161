import Derived.Test.YtnohcppipkpgmaaDoorM
namespace Go.Proofs.YtnohcppipkpgmaaDoor
open Go.RowKit
set_option linter.unusedVariables false
set_option linter.unusedSimpArgs false

def str (l : List UInt8) : ByteArray := ⟨l.toArray⟩
theorem str_size (l : List UInt8) : (str l).size = l.length := rfl
/-- The byte that comes next; 0 where none does. -/
def ah (S : List UInt8) (p : Nat) : Nat := ((S[p]?).map (·.toNat)).getD 0
/-- A reader. -/
abbrev Rd (b : Nat) (S : List UInt8) (p : Nat) (t : Nat) (W : World) : Prop := At W b (Two (.string (str S)) (.int .i64 (p : Int)) t)
theorem At.twoF {w : World} {b t : Nat} {u v : Value} (h : At w b (Two u v t)) (o : Nat) : w.frozen? ⟨b, o, none⟩ = false := frozen_of_row w b o _ t h
theorem belN {B : Nat} {a w : World} (h : Below B a w) (n : Nat) : Below B a (w.drewN n) := ⟨h.os, h.tape, h.output, h.size, h.block⟩
/-- Blocks but one lie as they lay. -/
abbrev But (b : Nat) (w w' : World) : Prop := w.grownBy w' (some b)
theorem But.refl (b : Nat) (w : World) : But b w w := World.grownBy.refl w _
theorem But.trans {b : Nat} {x y z : World} (h : But b x y) (k : But b y z) : But b x z := ⟨k.os.trans h.os, k.tape.trans h.tape, k.output.trans h.output, Nat.le_trans h.size k.size, fun i hi hn => (k.block i (Nat.lt_of_lt_of_le hi h.size) hn).trans (h.block i hi hn)⟩
theorem But.below {b : Nat} {x y : World} (h : Below x.heap.size x y) : But b x y := ⟨h.os, h.tape, h.output, h.size, fun i hi _ => h.block i hi⟩
theorem But.set {b : Nat} {x y : World} (h : But b x y) (o : Nat) (u : Value) : But b x (y.setCell ⟨b, o, none⟩ u) :=
  have k : Below b y (y.setCell ⟨b, o, none⟩ u) := (Below.refl b y).setCell (p := ⟨b, o, none⟩) (Nat.le_refl _) u
  ⟨k.os.trans h.os, k.tape.trans h.tape, k.output.trans h.output, Nat.le_trans h.size k.size, fun i hi hn => (Below.heap_setCell y ⟨b, o, none⟩ u i (fun e => hn (congrArg some e))).trans (h.block i hi hn)⟩
theorem But.drew {b : Nat} {x y : World} (h : But b x y) : But b x y.drew := ⟨h.os, h.tape, h.output, h.size, h.block⟩
theorem But.alloc {b : Nat} {x y : World} (h : But b x y) (o : Obj) : But b x (y.alloc o) := h.trans (But.below (belA (Below.refl _ _)))
theorem At.but {b i : Nat} {x y : World} {o : Obj} (h : At x i o) (k : But b x y) (hn : i ≠ b) : At y i o := h.grown k (fun e => hn (Option.some.inj e))
theorem Rd.go {b : Nat} {S : List UInt8} {p t : Nat} {W : World} (h : Rd b S p t W) (q : Nat) : Rd b S q t (W.setCell ⟨b, 1, none⟩ (.int .i64 (q : Int))) := by
  have := heap_setCell_same W b 1 #[.string (str S), .int .i64 (p : Int)] t (.int .i64 (q : Int)) h
  unfold Rd At
  simpa using this
/-- How far a word stands there, and whether all of it does. -/
def tk (S : List UInt8) : List UInt8 → Nat → Nat × Bool
  | [], p => (p, true)
  | c :: r, p => if ah S p = c.toNat then tk S r (p + 1) else (p, false)
theorem ah_lt {S : List UInt8} {p : Nat} (h : ah S p ≠ 0) : p < S.length := by
  rcases Nat.lt_or_ge p S.length with h1 | h1
  · exact h1
  · exact absurd (by simp [ah, h1]) h
theorem ah_le (S : List UInt8) (p : Nat) : ah S p ≤ 255 := by
  unfold ah
  cases S[p]? with
  | none => simp
  | some c => simp; have := c.toNat_lt; omega
end Go.Proofs.YtnohcppipkpgmaaDoor
