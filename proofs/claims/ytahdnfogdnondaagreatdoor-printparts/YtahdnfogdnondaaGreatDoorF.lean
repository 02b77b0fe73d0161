import Derived.Test.YtahdnfogdnondaaGreatDoorG
import Derived.Test.YtahdnfogdnondaaGreatDoorPc
import Derived.OneCell
namespace Go.Proofs.YtahdnfogdnondaaGreatDoor
open Go.RowKit
set_option linter.unusedVariables false
set_option linter.unusedSimpArgs false

/-- What stands at a block. -/
def At (w : World) (b : Nat) (o : Obj) : Prop := w.heap[b]? = some o
theorem At.lt {w : World} {b : Nat} {o : Obj} (h : At w b o) : b < w.heap.size := lt_of_block h
theorem At.below {w w' : World} {b : Nat} {o : Obj} (h : At w b o) (hb : Below w.heap.size w w') : At w' b o := (hb.block b h.lt).trans h
theorem At.belowB {B : Nat} {w w' : World} {b : Nat} {o : Obj} (h : At w b o) (hb : Below B w w') (hB : b < B) : At w' b o := (hb.block b hB).trans h
theorem At.new (w : World) (o : Obj) : At (w.alloc o) w.heap.size o := heap_alloc_new w o
theorem At.alloc {w : World} {b : Nat} {o : Obj} (h : At w b o) (o' : Obj) : At (w.alloc o') b o := (Below.heap_alloc w o' b h.lt).trans h
theorem At.drewN {w : World} {b : Nat} {o : Obj} (h : At w b o) (n : Nat) : At (w.drewN n) b o := h
theorem At.drew {w : World} {b : Nat} {o : Obj} (h : At w b o) : At w.drew b o := h
theorem At.set {w : World} {b : Nat} {o : Obj} (h : At w b o) {a : Addr} (ha : b ≠ a.block) (u : Value) : At (w.setCell a u) b o := (Below.heap_setCell w a u b ha).trans h
/-- A variable of one cell. -/
abbrev One (v : Value) (t : Nat) : Obj := .cells #[v] t (0, 0)
theorem At.one {w : World} {b t : Nat} {v : Value} (h : At w b (One v t)) : w.cell? ⟨b, 0, none⟩ = some v ∧ w.frozen? ⟨b, 0, none⟩ = false := ⟨cell_of_one h, free_of_one h⟩
theorem At.setOne {w : World} {b t : Nat} {v : Value} (h : At w b (One v t)) (u : Value) : At (w.setCell ⟨b, 0, none⟩ u) b (One u t) := one_setCell h
theorem at_snd (W : World) (o1 o2 : Obj) : At ((W.alloc o1).alloc o2) (W.heap.size + 1) o2 := by
  have := At.new (W.alloc o1) o2
  simpa only [World.size_alloc] using this
theorem below1 {w w1 : World} {o1 : Obj} (hb : Below (w.alloc o1).heap.size (w.alloc o1) w1) : Below w.heap.size w w1 :=
  ((Below.refl _ _).alloc (Nat.le_refl _) o1).trans (hb.mono (by simp))
theorem below2 {w w1 : World} {o1 o2 : Obj} (hb : Below ((w.alloc o1).alloc o2).heap.size ((w.alloc o1).alloc o2) w1) : Below w.heap.size w w1 :=
  (((Below.refl _ _).alloc (Nat.le_refl _) o1).alloc (by simp) o2).trans (hb.mono (by simp; omega))
theorem below_aft {wb W W' : World} (h : Below wb.heap.size wb W) (h' : Below W.heap.size W W') : Below wb.heap.size wb W' := h.trans (h'.mono h.size)
theorem belA {wb W : World} (h : Below wb.heap.size wb W) {o : Obj} : Below wb.heap.size wb (W.alloc o) := h.alloc h.size o
/-- A list of numbers in memory. -/
def IRow (w : World) (a : Option Addr) (l : List Int) : Prop := l ≠ [] → ∃ g off, a = some ⟨g, off, none⟩ ∧ g < w.heap.size ∧ ∀ i c, l[i]? = some c → w.cell? ⟨g, off + i, none⟩ = some (.int .i64 c)
theorem IRow.below {w w' : World} {a : Option Addr} {l : List Int} (h : IRow w a l) (hb : Below w.heap.size w w') : IRow w' a l := fun hn => by
  obtain ⟨g, off, rfl, hg, hc⟩ := h hn
  exact ⟨g, off, rfl, Nat.lt_of_lt_of_le hg hb.size, fun i c hi => (hb.cell hg).trans (hc i c hi)⟩
/-- A list of kinds in memory. -/
def KRow (w : World) (a : Option Addr) (l : List Nat) : Prop := l ≠ [] → ∃ g off, a = some ⟨g, off, none⟩ ∧ g < w.heap.size ∧ ∀ i (c : Nat), l[i]? = some c → w.cell? ⟨g, off + i, none⟩ = some (.int .u8 (c : Int))
theorem KRow.below {w w' : World} {a : Option Addr} {l : List Nat} (h : KRow w a l) (hb : Below w.heap.size w w') : KRow w' a l := fun hn => by
  obtain ⟨g, off, rfl, hg, hc⟩ := h hn
  exact ⟨g, off, rfl, Nat.lt_of_lt_of_le hg hb.size, fun i c hi => (hb.cell hg).trans (hc i c hi)⟩
/-- A node as a value, and in memory. -/
abbrev ndV (x : Nx) (a : Option Addr) (n cap : Nat) : Value := .agg #[.int .u8 (x.k : Int), .int .i64 x.p, .int .i64 x.n, .string (str x.s), .slice a n cap]
abbrev Ndo (x : Nx) (a : Option Addr) (n cap : Nat) : Obj := .cells #[.int .u8 (x.k : Int), .int .i64 x.p, .int .i64 x.n, .string (str x.s), .slice a n cap] 44 (0, 0)
theorem At.nd {w : World} {b : Nat} {x : Nx} {a : Option Addr} {n cap : Nat} (h : At w b (Ndo x a n cap)) : w.cell? ⟨b, 0, none⟩ = some (.int .u8 (x.k : Int)) ∧ w.cell? ⟨b, 1, none⟩ = some (.int .i64 x.p) ∧ w.cell? ⟨b, 2, none⟩ = some (.int .i64 x.n) ∧ w.cell? ⟨b, 3, none⟩ = some (.string (str x.s)) ∧ w.cell? ⟨b, 4, none⟩ = some (.slice a n cap) ∧ (∀ o, w.frozen? ⟨b, o, none⟩ = false) := by
  unfold At Ndo at h
  exact ⟨by simp [World.cell?, h], by simp [World.cell?, h], by simp [World.cell?, h], by simp [World.cell?, h], by simp [World.cell?, h], fun o => frozen_of_row w b o _ 44 h⟩
/-- A node's cells. -/
def NAt (w : World) (g o : Nat) (d : Nd) : Prop := g < w.heap.size ∧ w.cell? ⟨g, o, none⟩ = some (.int .u8 (d.x.k : Int)) ∧ w.cell? ⟨g, o + 1, none⟩ = some (.int .i64 d.x.p) ∧ w.cell? ⟨g, o + 2, none⟩ = some (.int .i64 d.x.n) ∧ w.cell? ⟨g, o + 3, none⟩ = some (.string (str d.x.s)) ∧ ∃ a cap, w.cell? ⟨g, o + 4, none⟩ = some (.slice a d.l.length cap) ∧ IRow w a d.l
theorem NAt.below {w w' : World} {g o : Nat} {d : Nd} (h : NAt w g o d) (hb : Below w.heap.size w w') : NAt w' g o d := by
  obtain ⟨h0, h1, h2, h3, h4, a, cap, h5, h6⟩ := h
  exact ⟨Nat.lt_of_lt_of_le h0 hb.size, (hb.cell h0).trans h1, (hb.cell h0).trans h2, (hb.cell h0).trans h3, (hb.cell h0).trans h4, a, cap, (hb.cell h0).trans h5, h6.below hb⟩
/-- Nodes in a row. -/
def NRow (w : World) (g off : Nat) (T : List Nd) : Prop := ∀ i d, T[i]? = some d → NAt w g (off + i * 5) d
theorem NRow.below {w w' : World} {g off : Nat} {T : List Nd} (h : NRow w g off T) (hb : Below w.heap.size w w') : NRow w' g off T := fun i d hd => (h i d hd).below hb
def TAt (w : World) (a : Option Addr) (T : List Nd) : Prop := T ≠ [] → ∃ g off, a = some ⟨g, off, none⟩ ∧ NRow w g off T
theorem TAt.below {w w' : World} {a : Option Addr} {T : List Nd} (h : TAt w a T) (hb : Below w.heap.size w w') : TAt w' a T := fun hn => by
  obtain ⟨g, off, rfl, hr⟩ := h hn
  exact ⟨g, off, rfl, hr.below hb⟩
/-- A tree as a value. -/
abbrev trV (a : Option Addr) (n cap : Nat) : Value := .agg #[.slice a n cap]
abbrev Tro (a : Option Addr) (n cap : Nat) : Obj := .cells #[.slice a n cap] 24 (0, 0)
/-- What a tree of the statements has: it is small, its numbers are numbers of Go's. -/
structure SmN (d : Nd) : Prop where
  k : d.x.k ≤ 255
  p0 : -9223372036854775808 ≤ d.x.p
  p1 : d.x.p ≤ 9223372036854775807
  n0 : -9223372036854775808 ≤ d.x.n
  n1 : d.x.n ≤ 9223372036854775807
  s : d.x.s.length ≤ maxLen
  l : d.l.length ≤ 20000
  c : ∀ c ∈ d.l, -9223372036854775808 ≤ c ∧ c ≤ 9223372036854775807
structure Sm (T : List Nd) : Prop where
  n : T.length ≤ 20000
  d : ∀ d ∈ T, SmN d
/-- The classes of kinds, as function values. -/
def kItem (k : Nat) : Bool := decide (k = 2 ∨ k = 4)
def kType (k : Nat) : Bool := decide (8 ≤ k ∧ k ≤ 12)
def kStmt (k : Nat) : Bool := decide ((14 ≤ k ∧ k ≤ 23) ∨ k = 13)
def kExpr (k : Nat) : Bool := decide (24 ≤ k ∧ k ≠ 35)
def kElse (k : Nat) : Bool := decide (k = 13 ∨ k = 16)
def kIs (j k : Nat) : Bool := decide (k = j)
abbrev isV (b : Nat) : Value := .func (.func 151) #[] #[.pointer (some ⟨b, 0, none⟩)]
inductive Cl (W : World) : Value → (Nat → Bool) → Prop
  | item : Cl W (fnV 132) kItem
  | type : Cl W (fnV 136) kType
  | stmt : Cl W (fnV 137) kStmt
  | expr : Cl W (fnV 140) kExpr
  | els : Cl W (fnV 152) kElse
  | one (b j : Nat) (h : At W b (One (.int .u8 (j : Int)) 41)) : Cl W (isV b) (kIs j)
theorem Cl.below {w w' : World} {v : Value} {P : Nat → Bool} (h : Cl w v P) (hb : Below w.heap.size w w') : Cl w' v P := by
  cases h with
  | item => exact .item
  | type => exact .type
  | stmt => exact .stmt
  | expr => exact .expr
  | els => exact .els
  | one b j h => exact .one b j (h.below hb)
end Go.Proofs.YtahdnfogdnondaaGreatDoor
