import Derived.Test.YtnohcppipkpgmaaDoorK
namespace Go.Proofs.YtnohcppipkpgmaaDoor
open Go.RowKit
set_option linter.unusedVariables false
set_option linter.unusedSimpArgs false

/-- What a function that is told constraints does. -/
structure Tell2 (fn b : Nat) (w0 : World) (J : List (Int × Int) → World → Prop) : Prop where
  enters : Enters fn
  alloc : ∀ l W o, J l W → J l (W.alloc o)
  drew : ∀ l W, J l W → J l W.drew
  bel : ∀ l W, J l W → Below w0.heap.size w0 W
  call : ∀ l r s W, l.length ≤ 200 → J l W → Calls Tryd.prog fn #[.int .i64 r, .int .i64 s, .pointer (some ⟨b, 0, none⟩)] W fun e w' => e = .returned (.tuple #[]) ∧ J (l ++ [(r, s)]) w' ∧ KeepT W w'
/-- What is read of two types in variables. -/
structure S4 (b1 b2 : Nat) (F F' : Fv) (g off g' off' : Nat) (f f' : Fv) (W : World) : Prop where
  a : C5 W b1 0 F
  b : C5 W b2 0 F'
  c : C5 W g off f
  d : C5 W g' off' f'
theorem keepT_C5 {W W' : World} {F : Fv} {b : Nat} (h : KeepT W W') (x : At W b F.o) : C5 W' b 0 F := (h b F x).ty
theorem keepT_drew (W : World) : KeepT W W.drew := fun i f h => h
theorem asksL_len : ∀ (b : Bool) (c d : Ch), (asksL b c d).length ≤ 2 * c.depth
  | _, .leaf _ _, _ => by simp [asksL]
  | b, .box c, .box d => by have := asksL_len b c d; simp only [asksL, Ch.depth]; omega
  | _, .box _, .leaf _ _ => by simp [asksL]
  | _, .box _, .ref _ _ _ => by simp [asksL]
  | b, .ref m r c, .ref m' r' d => by
    have := asksL_len (b || m) c d
    simp only [asksL, Ch.depth, List.length_cons, List.length_append]
    split <;> simp <;> omega
  | _, .ref _ _ _, .leaf _ _ => by simp [asksL]
  | _, .ref _ _ _, .box _ => by simp [asksL]
end Go.Proofs.YtnohcppipkpgmaaDoor
