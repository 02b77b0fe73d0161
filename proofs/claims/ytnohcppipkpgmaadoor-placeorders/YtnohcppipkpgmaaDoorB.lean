import Derived.Test.YtnohcppipkpgmaaDoorA
import Derived.WalkKit
import Derived.WalkSpells
import Derived.WalkSmall
import Derived.BigQuiet
import Derived.Deep.QuietTactic
import Derived.OneCell
import Derived.Below
import Derived.Deep.Light
namespace Go.Proofs.YtnohcppipkpgmaaDoor
open Go.RowKit
set_option linter.unusedVariables false
set_option linter.unusedSimpArgs false

theorem ret_bool {a b : Bool} (h : a = b) : Ending.returned (.bool a) = .returned (.bool b) := by rw [h]
/-- What stands at a block. -/
def At (w : World) (b : Nat) (o : Obj) : Prop := w.heap[b]? = some o
theorem At.lt {w : World} {b : Nat} {o : Obj} (h : At w b o) : b < w.heap.size := lt_of_block h
theorem At.below {w w' : World} {b : Nat} {o : Obj} (h : At w b o) (hb : Below w.heap.size w w') : At w' b o := (hb.block b h.lt).trans h
theorem At.belowB {B : Nat} {w w' : World} {b : Nat} {o : Obj} (h : At w b o) (hb : Below B w w') (hB : b < B) : At w' b o := (hb.block b hB).trans h
theorem At.new (w : World) (o : Obj) : At (w.alloc o) w.heap.size o := heap_alloc_new w o
theorem At.alloc {w : World} {b : Nat} {o : Obj} (h : At w b o) (o' : Obj) : At (w.alloc o') b o := (Below.heap_alloc w o' b h.lt).trans h
theorem At.drewN {w : World} {b : Nat} {o : Obj} (h : At w b o) (n : Nat) : At (w.drewN n) b o := h
theorem At.drew {w : World} {b : Nat} {o : Obj} (h : At w b o) : At w.drew b o := h
theorem At.set {w : World} {b : Nat} {o : Obj} (h : At w b o) {a : Addr} (ha : b ≠ a.block) (u : Value) : At (w.setCell a u) b o := (Below.heap_setCell w a u b ha).trans h
/-- A variable of one cell. -/
abbrev One (v : Value) (t : Nat) : Obj := .cells #[v] t (0, 0)
theorem At.one {w : World} {b t : Nat} {v : Value} (h : At w b (One v t)) : w.cell? ⟨b, 0, none⟩ = some v ∧ w.frozen? ⟨b, 0, none⟩ = false := ⟨cell_of_one h, free_of_one h⟩
theorem At.setOne {w : World} {b t : Nat} {v : Value} (h : At w b (One v t)) (u : Value) : At (w.setCell ⟨b, 0, none⟩ u) b (One u t) := one_setCell h
theorem at_snd (W : World) (o1 o2 : Obj) : At ((W.alloc o1).alloc o2) (W.heap.size + 1) o2 := by
  have := At.new (W.alloc o1) o2
  simpa only [World.size_alloc] using this
theorem below1 {w w1 : World} {o1 : Obj} (hb : Below (w.alloc o1).heap.size (w.alloc o1) w1) : Below w.heap.size w w1 :=
  ((Below.refl _ _).alloc (Nat.le_refl _) o1).trans (hb.mono (by simp))
theorem below2 {w w1 : World} {o1 o2 : Obj} (hb : Below ((w.alloc o1).alloc o2).heap.size ((w.alloc o1).alloc o2) w1) : Below w.heap.size w w1 :=
  (((Below.refl _ _).alloc (Nat.le_refl _) o1).alloc (by simp) o2).trans (hb.mono (by simp; omega))
theorem below_aft {wb W W' : World} (h : Below wb.heap.size wb W) (h' : Below W.heap.size W W') : Below wb.heap.size wb W' := h.trans (h'.mono h.size)
theorem belA {wb W : World} (h : Below wb.heap.size wb W) {o : Obj} : Below wb.heap.size wb (W.alloc o) := h.alloc h.size o
/-- A type's five cells. -/
structure Fv where
  k : Nat
  m : Bool
  r : Int
  s : Int
  a : Option Addr
  n : Nat
  cap : Nat
abbrev tyV (k : Nat) (m : Bool) (r s : Int) (a : Option Addr) (n cap : Nat) : Value := .agg #[.int .u8 (k : Int), .bool m, .int .i64 r, .int .i64 s, .slice a n cap]
abbrev tyO (k : Nat) (m : Bool) (r s : Int) (a : Option Addr) (n cap : Nat) : Obj := .cells #[.int .u8 (k : Int), .bool m, .int .i64 r, .int .i64 s, .slice a n cap] 32 (0, 0)
abbrev Fv.v (f : Fv) : Value := tyV f.k f.m f.r f.s f.a f.n f.cap
abbrev Fv.o (f : Fv) : Obj := tyO f.k f.m f.r f.s f.a f.n f.cap
def C5 (w : World) (g o : Nat) (f : Fv) : Prop := g < w.heap.size ∧ w.cell? ⟨g, o, none⟩ = some (.int .u8 (f.k : Int)) ∧ w.cell? ⟨g, o + 1, none⟩ = some (.bool f.m) ∧ w.cell? ⟨g, o + 2, none⟩ = some (.int .i64 f.r) ∧ w.cell? ⟨g, o + 3, none⟩ = some (.int .i64 f.s) ∧ w.cell? ⟨g, o + 4, none⟩ = some (.slice f.a f.n f.cap)
theorem C5.belowB {B : Nat} {w w' : World} {g o : Nat} {f : Fv} (h : C5 w g o f) (hb : Below B w w') (hg : g < B) : C5 w' g o f := by
  obtain ⟨h0, h1, h2, h3, h4, h5⟩ := h
  have hc : ∀ o, w'.cell? ⟨g, o, none⟩ = w.cell? ⟨g, o, none⟩ := fun o => by
    unfold World.cell?
    simp only [hb.block g hg]
  exact ⟨Nat.lt_of_lt_of_le h0 hb.size, (hc _).trans h1, (hc _).trans h2, (hc _).trans h3, (hc _).trans h4, (hc _).trans h5⟩
theorem C5.below {w w' : World} {g o : Nat} {f : Fv} (h : C5 w g o f) (hb : Below w.heap.size w w') : C5 w' g o f := h.belowB hb h.1
theorem At.ty {w : World} {b : Nat} {f : Fv} (h : At w b f.o) : C5 w b 0 f := by
  unfold At at h
  exact ⟨lt_of_block h, by simp [World.cell?, h], by simp [World.cell?, h], by simp [World.cell?, h], by simp [World.cell?, h], by simp [World.cell?, h]⟩
/-- A type of whatever form in memory. -/
inductive TyAt (w : World) : Fv → Ty → Prop
  | mk (k : Nat) (m : Bool) (r s : Int) (a : Option Addr) (n cap : Nat) (of : List Ty) (V : Nat → Fv) (hn : n = of.length) (hl : n ≤ maxLen) (hk : k ≤ 255)
      (r0 : -9223372036854775808 ≤ r) (r1 : r ≤ 9223372036854775807) (s0 : -9223372036854775808 ≤ s) (s1 : s ≤ 9223372036854775807)
      (h1 : of ≠ [] → ∃ g off, a = some ⟨g, off, none⟩ ∧ ∀ i, i < of.length → C5 w g (off + i * 5) (V i)) (h2 : ∀ i t, of[i]? = some t → TyAt w (V i) t) : TyAt w ⟨k, m, r, s, a, n, cap⟩ (.mk k m r s of)
theorem TyAt.bel {w w' : World} (hb : Below w.heap.size w w') {f : Fv} {t : Ty} (h : TyAt w f t) : TyAt w' f t := by
  induction h with
  | mk k m r s a n cap of V hn hl hk r0 r1 s0 s1 h1 h2 ih =>
    refine .mk k m r s a n cap of V hn hl hk r0 r1 s0 s1 (fun hne => ?_) ih
    obtain ⟨g, off, rfl, h⟩ := h1 hne
    exact ⟨g, off, rfl, fun i hi => (h i hi).below hb⟩
theorem TyAt.leaf {w : World} {f : Fv} {k : Nat} {s : Int} (h : TyAt w f (Ch.leaf k s).ty) : ∃ a cap, f = ⟨k, false, 0, s, a, 0, cap⟩ ∧ k ≤ 255 ∧ -9223372036854775808 ≤ s ∧ s ≤ 9223372036854775807 := by
  cases h with
  | mk k m r s a n cap of V hn hl hk r0 r1 s0 s1 h1 h2 => exact ⟨a, cap, by rw [hn]; rfl, hk, s0, s1⟩
theorem TyAt.one {w : World} {f : Fv} {k : Nat} {m : Bool} {r s : Int} {t : Ty} (h : TyAt w f (.mk k m r s [t])) : ∃ g off cap f', f = ⟨k, m, r, s, some ⟨g, off, none⟩, 1, cap⟩ ∧ C5 w g off f' ∧ TyAt w f' t ∧ k ≤ 255 ∧ (-9223372036854775808 ≤ r ∧ r ≤ 9223372036854775807) ∧ (-9223372036854775808 ≤ s ∧ s ≤ 9223372036854775807) := by
  cases h with
  | mk k m r s a n cap of V hn hl hk r0 r1 s0 s1 h1 h2 =>
    obtain ⟨g, off, rfl, h⟩ := h1 (by simp)
    have h0 := h 0 (by simp)
    rw [Nat.zero_mul, Nat.add_zero] at h0
    exact ⟨g, off, cap, V 0, by rw [hn]; rfl, h0, h2 0 t rfl, hk, ⟨r0, r1⟩, ⟨s0, s1⟩⟩
theorem TyAt.box {w : World} {f : Fv} {c : Ch} (h : TyAt w f (Ch.box c).ty) : ∃ g off cap f', f = ⟨3, false, 0, 0, some ⟨g, off, none⟩, 1, cap⟩ ∧ C5 w g off f' ∧ TyAt w f' c.ty := by
  obtain ⟨g, off, cap, f', h1, h2, h3, _⟩ := h.one
  exact ⟨g, off, cap, f', h1, h2, h3⟩
theorem TyAt.ref {w : World} {f : Fv} {m : Bool} {r : Int} {c : Ch} (h : TyAt w f (Ch.ref m r c).ty) : ∃ g off cap f', f = ⟨4, m, r, 0, some ⟨g, off, none⟩, 1, cap⟩ ∧ C5 w g off f' ∧ TyAt w f' c.ty ∧ -9223372036854775808 ≤ r ∧ r ≤ 9223372036854775807 := by
  obtain ⟨g, off, cap, f', h1, h2, h3, _, h4, _⟩ := h.one
  exact ⟨g, off, cap, f', h1, h2, h3, h4.1, h4.2⟩
theorem TyAt.mkLeaf {w : World} (k : Nat) (s : Int) (hk : k ≤ 255) (s0 : -9223372036854775808 ≤ s) (s1 : s ≤ 9223372036854775807) (a : Option Addr) (cap : Nat) : TyAt w ⟨k, false, 0, s, a, 0, cap⟩ (Ch.leaf k s).ty :=
  .mk k false 0 s a 0 cap [] (fun _ => ⟨0, false, 0, 0, none, 0, 0⟩) rfl (by simp) hk (by omega) (by omega) s0 s1 (fun h => absurd rfl h) (fun i t h => by simp at h)
theorem TyAt.mkOne {w : World} (k : Nat) (m : Bool) (r s : Int) (hk : k ≤ 255) (r0 : -9223372036854775808 ≤ r) (r1 : r ≤ 9223372036854775807) (s0 : -9223372036854775808 ≤ s) (s1 : s ≤ 9223372036854775807) (g off cap : Nat) (f' : Fv) (t : Ty) (hc : C5 w g off f') (ht : TyAt w f' t) : TyAt w ⟨k, m, r, s, some ⟨g, off, none⟩, 1, cap⟩ (.mk k m r s [t]) := by
  refine .mk k m r s _ 1 cap [t] (fun _ => f') rfl (by unfold maxLen; decide) hk r0 r1 s0 s1 (fun _ => ⟨g, off, rfl, fun i hi => ?_⟩) (fun i u hu => ?_)
  · have : i = 0 := by simp at hi; exact hi
    subst this
    rw [Nat.zero_mul, Nat.add_zero]
    exact hc
  · cases i with
    | zero => simp at hu; subst hu; exact ht
    | succ i => simp at hu
end Go.Proofs.YtnohcppipkpgmaaDoor
