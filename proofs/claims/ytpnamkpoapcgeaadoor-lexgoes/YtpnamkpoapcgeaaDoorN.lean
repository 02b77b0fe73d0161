import Derived.Test.YtpnamkpoapcgeaaDoorC
import Derived.OneCell
namespace Go.Proofs.YtpnamkpoapcgeaaDoor
open Go.RowKit
set_option linter.unusedVariables false
set_option linter.unusedSimpArgs false

/-- What stands at a block. -/
def At (w : World) (b : Nat) (o : Obj) : Prop := w.heap[b]? = some o
theorem At.lt {w : World} {b : Nat} {o : Obj} (h : At w b o) : b < w.heap.size := lt_of_block h
theorem At.below {w w' : World} {b : Nat} {o : Obj} (h : At w b o) (hb : Below w.heap.size w w') : At w' b o := (hb.block b h.lt).trans h
theorem At.belowB {B : Nat} {w w' : World} {b : Nat} {o : Obj} (h : At w b o) (hb : Below B w w') (hB : b < B) : At w' b o := (hb.block b hB).trans h
theorem At.new (w : World) (o : Obj) : At (w.alloc o) w.heap.size o := heap_alloc_new w o
theorem At.alloc {w : World} {b : Nat} {o : Obj} (h : At w b o) (o' : Obj) : At (w.alloc o') b o := (Below.heap_alloc w o' b h.lt).trans h
theorem At.drewN {w : World} {b : Nat} {o : Obj} (h : At w b o) (n : Nat) : At (w.drewN n) b o := h
theorem At.drew {w : World} {b : Nat} {o : Obj} (h : At w b o) : At w.drew b o := h
theorem At.set {w : World} {b : Nat} {o : Obj} (h : At w b o) {a : Addr} (ha : b ≠ a.block) (u : Value) : At (w.setCell a u) b o := (Below.heap_setCell w a u b ha).trans h
/-- A variable of one cell. -/
abbrev One (v : Value) (t : Nat) : Obj := .cells #[v] t (0, 0)
theorem At.one {w : World} {b t : Nat} {v : Value} (h : At w b (One v t)) : w.cell? ⟨b, 0, none⟩ = some v ∧ w.frozen? ⟨b, 0, none⟩ = false := ⟨cell_of_one h, free_of_one h⟩
theorem At.setOne {w : World} {b t : Nat} {v : Value} (h : At w b (One v t)) (u : Value) : At (w.setCell ⟨b, 0, none⟩ u) b (One u t) := one_setCell h
theorem at_snd (W : World) (o1 o2 : Obj) : At ((W.alloc o1).alloc o2) (W.heap.size + 1) o2 := by
  have := At.new (W.alloc o1) o2
  simpa only [World.size_alloc] using this
theorem below1 {w w1 : World} {o1 : Obj} (hb : Below (w.alloc o1).heap.size (w.alloc o1) w1) : Below w.heap.size w w1 :=
  ((Below.refl _ _).alloc (Nat.le_refl _) o1).trans (hb.mono (by simp))
theorem below2 {w w1 : World} {o1 o2 : Obj} (hb : Below ((w.alloc o1).alloc o2).heap.size ((w.alloc o1).alloc o2) w1) : Below w.heap.size w w1 :=
  (((Below.refl _ _).alloc (Nat.le_refl _) o1).alloc (by simp) o2).trans (hb.mono (by simp; omega))
theorem below_aft {wb W W' : World} (h : Below wb.heap.size wb W) (h' : Below W.heap.size W W') : Below wb.heap.size wb W' := h.trans (h'.mono h.size)
theorem belA {wb W : World} (h : Below wb.heap.size wb W) {o : Obj} : Below wb.heap.size wb (W.alloc o) := h.alloc h.size o
/-- A token as a value; as what lies in memory. -/
abbrev tok (k p n : Int) (s : ByteArray) : Value := .agg #[.int .u8 k, .int .i64 p, .int .i64 n, .string s]
abbrev Tok (k p n : Int) (s : ByteArray) : Obj := .cells #[.int .u8 k, .int .i64 p, .int .i64 n, .string s] 32 (0, 0)
theorem At.tok {w : World} {b : Nat} {k p n : Int} {s : ByteArray} (h : At w b (Tok k p n s)) : w.cell? ⟨b, 0, none⟩ = some (.int .u8 k) ∧ w.cell? ⟨b, 1, none⟩ = some (.int .i64 p) ∧ w.cell? ⟨b, 2, none⟩ = some (.int .i64 n) ∧ w.cell? ⟨b, 3, none⟩ = some (.string s) ∧ (∀ o, w.frozen? ⟨b, o, none⟩ = false) := by
  unfold At Tok at h
  exact ⟨by simp [World.cell?, h], by simp [World.cell?, h], by simp [World.cell?, h], by simp [World.cell?, h], fun o => frozen_of_row w b o _ 32 h⟩
/-- A token written over another. -/
def setTok (w : World) (b : Nat) (k p n : Int) (s : ByteArray) : World := (((w.setCell ⟨b, 0, none⟩ (.int .u8 k)).setCell ⟨b, 1, none⟩ (.int .i64 p)).setCell ⟨b, 2, none⟩ (.int .i64 n)).setCell ⟨b, 3, none⟩ (.string s)
theorem At.setTok {w : World} {b : Nat} {k p n : Int} {s : ByteArray} (h : At w b (Tok k p n s)) (k' p' n' : Int) (s' : ByteArray) : At (setTok w b k' p' n' s') b (Tok k' p' n' s') := by
  unfold At Tok YtpnamkpoapcgeaaDoor.setTok at *
  have h1 := heap_setCell_same w b 0 _ 32 (.int .u8 k') h
  have h2 := heap_setCell_same _ b 1 _ 32 (.int .i64 p') h1
  have h3 := heap_setCell_same _ b 2 _ 32 (.int .i64 n') h2
  have h4 := heap_setCell_same _ b 3 _ 32 (.string s') h3
  simpa using h4
theorem below_setTok {B : Nat} {w0 w : World} (h : Below B w0 w) {b : Nat} (hb : B ≤ b) (k p n : Int) (s : ByteArray) : Below B w0 (setTok w b k p n s) := (((h.setCell hb _).setCell hb _).setCell hb _).setCell hb _
theorem At.offTok {w : World} {b c : Nat} {o : Obj} (h : At w c o) (hne : c ≠ b) (k p n : Int) (s : ByteArray) : At (YtpnamkpoapcgeaaDoor.setTok w b k p n s) c o := (((h.set hne _).set hne _).set hne _).set hne _
end Go.Proofs.YtpnamkpoapcgeaaDoor
