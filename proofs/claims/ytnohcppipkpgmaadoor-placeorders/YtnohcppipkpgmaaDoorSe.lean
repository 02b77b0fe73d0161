import Derived.Test.YtnohcppipkpgmaaDoorSa
namespace Go.Proofs.YtnohcppipkpgmaaDoor
open Go.RowKit Go.Shelf
set_option linter.unusedVariables false
set_option linter.unusedSimpArgs false

abbrev triO (x y z : Pt) : Obj := .cells #[.int .i64 x.l, .slice x.a x.n x.cap, .int .i64 y.l, .slice y.a y.n y.cap, .int .i64 z.l, .slice z.a z.n z.cap] 26 (0, 0)
theorem bel4 {w : World} {o1 o2 o3 o4 : Obj} : Below w.heap.size w ((((w.alloc o1).alloc o2).alloc o3).alloc o4) := belA (belA (belA (belA (Below.refl _ _))))
theorem ps_tri {W : World} {x y z : Pt} {p q r : List Int} (h : PAt W x p) (h' : PAt W y q) (h'' : PAt W z r) : PsAt ((((W.alloc x.o).alloc y.o).alloc z.o).alloc (triO x y z)) (W.heap.size + 3) [(x, p), (y, q), (z, r)] where
  lt := by simp
  cells := fun i x' p' hi => by
    have hA : At ((((W.alloc x.o).alloc y.o).alloc z.o).alloc (triO x y z)) (W.heap.size + 3) (triO x y z) := by
      have := At.new (((W.alloc x.o).alloc y.o).alloc z.o) (triO x y z)
      simpa only [World.size_alloc] using this
    have hb : Below W.heap.size W ((((W.alloc x.o).alloc y.o).alloc z.o).alloc (triO x y z)) := bel4
    generalize (((W.alloc x.o).alloc y.o).alloc z.o).alloc (triO x y z) = V at hA hb ⊢
    unfold At at hA
    rcases i with - | - | - | i
    · simp at hi
      obtain ⟨rfl, rfl⟩ := hi
      exact ⟨by simp [World.cell?, hA], by simp [World.cell?, hA], h.bel hb⟩
    · simp at hi
      obtain ⟨rfl, rfl⟩ := hi
      exact ⟨by simp [World.cell?, hA], by simp [World.cell?, hA], h'.bel hb⟩
    · simp at hi
      obtain ⟨rfl, rfl⟩ := hi
      exact ⟨by simp [World.cell?, hA], by simp [World.cell?, hA], h''.bel hb⟩
    · simp at hi
/-- Three places in variables. -/
structure T3 (V : World) (B : Nat) (x y z : Pt) (p q r : List Int) : Prop where
  a1 : At V B x.o
  a2 : At V (B + 1) y.o
  a3 : At V (B + 1 + 1) z.o
  p1 : PAt V x p
  p2 : PAt V y q
  p3 : PAt V z r
theorem T3.bel {V V' : World} {B : Nat} {x y z : Pt} {p q r : List Int} (h : T3 V B x y z p q r) (hb : Below V.heap.size V V') : T3 V' B x y z p q r := ⟨h.a1.below hb, h.a2.below hb, h.a3.below hb, h.p1.bel hb, h.p2.bel hb, h.p3.bel hb⟩
theorem T3.cells {V : World} {B : Nat} {x y z : Pt} {p q r : List Int} (h : T3 V B x y z p q r) : V.cell? ⟨B, 0, none⟩ = some (.int .i64 x.l) ∧ V.cell? ⟨B, 1, none⟩ = some (.slice x.a x.n x.cap) ∧ V.cell? ⟨B + 1, 0, none⟩ = some (.int .i64 y.l) ∧ V.cell? ⟨B + 1, 1, none⟩ = some (.slice y.a y.n y.cap) ∧ V.cell? ⟨B + 1 + 1, 0, none⟩ = some (.int .i64 z.l) ∧ V.cell? ⟨B + 1 + 1, 1, none⟩ = some (.slice z.a z.n z.cap) := ⟨h.a1.pl.1, h.a1.pl.2, h.a2.pl.1, h.a2.pl.2, h.a3.pl.1, h.a3.pl.2⟩
theorem T3.start {w : World} {x y z : Pt} {p q r : List Int} (h1 : PAt w x p) (h2 : PAt w y q) (h3 : PAt w z r) : T3 ((((w.alloc x.o).alloc y.o).alloc z.o).alloc (triO x y z)) w.heap.size x y z p q r := by
  refine ⟨(((At.new w x.o).alloc _).alloc _).alloc _, ((at_snd w x.o y.o).alloc _).alloc _, ?_, h1.bel bel4, h2.bel bel4, h3.bel bel4⟩
  have := (At.new ((w.alloc x.o).alloc y.o) z.o).alloc (triO x y z)
  simpa only [World.size_alloc] using this
theorem bool_of (P : Prop) : ∃ b : Bool, b = true ↔ P := by
  by_cases h : P
  · exact ⟨true, by simpa using h⟩
  · exact ⟨false, by simpa using h⟩
/-- What the tree of places asks of Prefix. -/
theorem tree_pre {l m n : Int} {p q r : List Int} {bpq bqr bpr bqp : Bool} (h1 : bpq = true ↔ l = m ∧ p <+: q) (h2 : bqr = true ↔ m = n ∧ q <+: r) (h3 : bpr = true ↔ l = n ∧ p <+: r) (h4 : bqp = true ↔ m = l ∧ q <+: p) : (bpq && bqr && !bpr || bpr && bqr && !bpq && !bqp) = false := by
  have t1 : bpq = true → bqr = true → bpr = true := fun a b => h3.2 ⟨(h1.1 a).1.trans (h2.1 b).1, (h1.1 a).2.trans (h2.1 b).2⟩
  have t2 : bpr = true → bqr = true → bpq = true ∨ bqp = true := fun a b => by
    obtain ⟨e1, k1⟩ := h3.1 a
    obtain ⟨e2, k2⟩ := h2.1 b
    rcases List.prefix_or_prefix_of_prefix k1 k2 with h | h
    · exact .inl (h1.2 ⟨by omega, h⟩)
    · exact .inr (h4.2 ⟨by omega, h⟩)
  cases bpq <;> cases bqr <;> cases bpr <;> cases bqp <;> simp_all
theorem tree_ord {l m : Int} {p q : List Int} {bpq bqp bs : Bool} {o : Int} (h1 : bpq = true ↔ l = m ∧ p <+: q) (h4 : bqp = true ↔ m = l ∧ q <+: p) (hs : bs = true ↔ l = m ∧ p = q) (ho : o = ordP l m p q) : ((decide (o = 0) != bs) || bpq && (bqp != decide (o = 0)) || bpq && decide (0 < o)) = false := by
  have t1 : o = 0 ↔ bs = true := by rw [hs, ho, ordP_zero]
  have t2 : bpq = true → o ≤ 0 := fun h => by rw [ho]; exact ordP_pre (h1.1 h)
  have t3 : bpq = true → (bqp = true ↔ o = 0) := fun h => by
    rw [ho, ordP_zero, h4]
    refine ⟨fun k => ⟨(h1.1 h).1, (h1.1 h).2.eq_of_length_le (k.2.length_le)⟩, fun k => ⟨k.1.symm, k.2 ▸ List.prefix_refl _⟩⟩
  have t4 : bpq = true → ¬ 0 < o := fun h => by have := t2 h; omega
  cases bpq <;> cases bqp <;> cases bs <;> simp_all
theorem tree_tri {o1 o3 o4 : Int} (h : o1 ≤ 0 → o3 ≤ 0 → o4 ≤ 0 ∧ (o4 = 0 → o1 = 0 ∧ o3 = 0)) : (decide (o1 ≤ 0) && decide (o3 ≤ 0) && (decide (0 < o4) || decide (o4 = 0) && (decide (o1 < 0) || decide (o3 < 0)))) = false := by
  by_cases a : o1 ≤ 0
  · by_cases b : o3 ≤ 0
    · obtain ⟨c, d⟩ := h a b
      have c' : ¬ 0 < o4 := by omega
      by_cases e : o4 = 0
      · obtain ⟨d1, d2⟩ := d e
        subst d1 d2
        simp [c']
      · simp [e, c']
    · simp [b]
  · simp [a]
end Go.Proofs.YtnohcppipkpgmaaDoor
