import Derived.Test.YtjchbclkdbojpaaDoorDa
import Derived.Test.YtjchbclkdbojpaaDoorAg
namespace Go.Proofs.YtjchbclkdbojpaaDoor
open Go.ChangeShapes Go.WideShapes Go.ChangeAt Go.RowKit Go.Joins Go.Shelf Go.WideElems Go.Maps
set_option linter.unusedVariables false
set_option linter.unusedSimpArgs false

theorem two83 : ∃ f0 f1, Tryd.prog.underlying 83 = some (.struct #[f0, f1]) ∧ f0.type = 9 ∧ f1.type = 26 ∧ f0.offset = 0 ∧ f1.offset = 1 := ⟨_, _, Tryd.underlying83, rfl, rfl, rfl, rfl⟩
theorem two81 : ∃ f0 f1, Tryd.prog.underlying 81 = some (.struct #[f0, f1]) ∧ f0.type = 9 ∧ f1.type = 79 ∧ f0.offset = 0 ∧ f1.offset = 1 := ⟨_, _, Tryd.underlying81, rfl, rfl, rfl, rfl⟩
theorem ones83 : Tryd.prog.cellsOf 9 = 1 ∧ Tryd.prog.cellsOf 79 = 1 ∧ Tryd.prog.cellsOf 81 = 2 ∧ Tryd.prog.cellsOf 83 = 6 := ⟨by kernel_rfl, by kernel_rfl, by kernel_rfl, by kernel_rfl⟩
theorem trod_struct2 {H : Type} {enc : TypeId × Value → H} {P : Program} {w : World} {base : Nat} {spare : Nat → Bool} {held : Bool} {t : TypeId} {f0 f1 : Field} {fuel : Nat} {cs : List Value} {x : DataW H × List MemPlace} (ht : P.underlying t = some (.struct #[f0, f1])) (h : DataW.trod enc P w base spare held fuel t cs = some x) :
    ∃ y0 y1 n, fuel = n + 1 ∧ cs.length = P.cellsOf t ∧ DataW.trod enc P w base spare held n f0.type ((cs.drop f0.offset).take (P.cellsOf f0.type)) = some y0 ∧ DataW.trod enc P w base spare held n f1.type ((cs.drop f1.offset).take (P.cellsOf f1.type)) = some y1 := by
  obtain ⟨xs, n, hfu, rfl, hl, hlen, hf⟩ := DataW.trod_struct ht h
  match xs, hlen with
  | [y0, y1], _ => exact ⟨y0, y1, n, hfu, hl, by simpa using hf 0 f0 rfl, by simpa using hf 1 f1 rfl⟩
set_option maxRecDepth 100000 in
theorem open_field {H : Type} {enc : TypeId × Value → H} {W : World} {base : Nat} {sp : Nat → Bool} {held : Bool} (n : Nat) (cs : List Value) (x : DataW H × List MemPlace) (h : DataW.trod enc Tryd.prog W base sp held n 83 cs = some x) :
    ∃ (nm : ByteArray) (f : Fv) (t : Ty), cs = [.string nm, .int .u8 (f.k : Int), .bool f.m, .int .i64 f.r, .int .i64 f.s, .slice f.a f.n f.cap] ∧ TyAt W f t := by
  obtain ⟨f0, f1, hu, e0, e1, o0, o1⟩ := two83
  obtain ⟨k0, -, -, k3⟩ := ones83
  obtain ⟨y0, y1, m, hm, hlen, h0, h1⟩ := trod_struct2 hu h
  rw [k3] at hlen
  match cs, hlen with
  | [c0, c1, c2, c3, c4, c5], _ =>
    rw [o0, e0, k0] at h0
    rw [o1, e1, ones26.2.2.2.2] at h1
    obtain ⟨nm, q0, -⟩ := DataW.trod_string Tryd.underlying9 h0
    obtain ⟨f, t, q1, ht⟩ := open_ty _ _ _ h1
    simp at q0 q1
    obtain ⟨r1, r2, r3, r4, r5⟩ := q1
    exact ⟨nm, f, t, by rw [q0, r1, r2, r3, r4, r5], ht⟩
set_option maxRecDepth 100000 in
theorem open_fields {H : Type} {enc : TypeId × Value → H} {W : World} {base : Nat} {sp : Nat → Bool} {held : Bool} (n : Nat) (cs : List Value) (x : DataW H × List MemPlace) (h : DataW.trod enc Tryd.prog W base sp held n 79 cs = some x) :
    ∃ (fa : Option Addr) (fcap : Nat) (fs : List Ty), cs = [.slice fa fs.length fcap] ∧ FdAt W fa fs := by
  rcases DataW.trod_slice Tryd.underlying79 h with ⟨hcs, _⟩ | ⟨a, len, cap, elems, rest, m2, hm2, hcs, _, hb, hl, hc, hel, hx, _, _⟩
  · exact ⟨none, 0, [], hcs, by simp, fun hne => absurd rfl hne⟩
  · rw [ones83.2.2.2] at hx
    have each : ∀ i, i < len → ∃ q : ByteArray × Fv × Ty, TyAt W q.2.1 q.2.2 ∧ W.cell? (a.add (i * 6)) = some (.string q.1) ∧ W.cell? (a.add (i * 6 + 1)) = some (.int .u8 (q.2.1.k : Int)) ∧ W.cell? (a.add (i * 6 + 2)) = some (.bool q.2.1.m) ∧ W.cell? (a.add (i * 6 + 3)) = some (.int .i64 q.2.1.r) ∧ W.cell? (a.add (i * 6 + 4)) = some (.int .i64 q.2.1.s) ∧ W.cell? (a.add (i * 6 + 5)) = some (.slice q.2.1.a q.2.1.n q.2.1.cap) := fun i hi => by
      have hxi := hx i hi
      rw [List.getElem?_eq_getElem (by omega), Option.bind_eq_some_iff] at hxi
      obtain ⟨cs', hc1, hc2⟩ := hxi
      obtain ⟨nm, f', t', hcs', ht'⟩ := open_field m2 cs' _ hc2
      subst hcs'
      obtain ⟨_, hln, hcell⟩ := World.cells?_some hc1
      have g0 := hcell 0 (by omega)
      have g1 := hcell 1 (by omega)
      have g2 := hcell 2 (by omega)
      have g3 := hcell 3 (by omega)
      have g4 := hcell 4 (by omega)
      have g5 := hcell 5 (by omega)
      rw [Deep.add_add] at g1 g2 g3 g4 g5
      exact ⟨(nm, f', t'), ht', by simpa [Addr.add] using g0, by simpa using g1, by simpa using g2, by simpa using g3, by simpa using g4, by simpa using g5⟩
    haveI : Inhabited (ByteArray × Fv × Ty) := ⟨(⟨#[]⟩, ⟨0, false, 0, 0, none, 0, 0⟩, .mk 0 false 0 0 [])⟩
    obtain ⟨q, hq⟩ := Deep.choose_lt each
    refine ⟨some a, cap, (List.range len).map fun i => (q i).2.2, by simpa using hcs, by simp; omega, fun hne => ?_⟩
    have hpos : 0 < len := by
      rcases Nat.eq_zero_or_pos len with h | h
      · subst h; exact absurd rfl hne
      · exact h
    obtain ⟨b, off, spot⟩ := a
    have hc0 := (hq 0 hpos).2.1
    have hspot : spot = none := by simpa [Addr.add] using World.cell?_spot hc0
    subst hspot
    refine ⟨b, off, rfl, fun i t hi => ?_⟩
    have hil : i < len := by simpa using (List.getElem?_eq_some_iff.1 hi).1
    rw [List.getElem?_map, List.getElem?_range hil] at hi
    cases hi
    obtain ⟨g6, g0, g1, g2, g3, g4, g5⟩ := hq i hil
    rw [Addr.add_lit] at g0 g1 g2 g3 g4 g5
    exact ⟨(q i).2.1, (q i).1, g0, ⟨lt_of_cell0 g0, g1, g2, g3, g4, g5⟩, g6⟩
set_option maxRecDepth 100000 in
/-- A list of structs opened. -/
theorem open_structs {H : Type} {enc : TypeId × Value → H} {W : World} {r : Reach} {b0 base : Nat} {v : Value} {d : DataW H} {p : List MemPlace} {held : Bool} (hval : Value.okWide Tryd.prog W r b0 22 v) (h : DataW.Trod enc Tryd.prog W base (fun _ => true) held 22 v d p) :
    ∃ a n cap ss, v = .slice a n cap ∧ StAt W a n cap ss := by
  obtain ⟨a0, len0, cap0, rfl⟩ := okWide_slice Tryd.underlying22 hval
  obtain ⟨fuel, hf⟩ := h
  rcases DataW.trod_slice Tryd.underlying22 hf with ⟨hcs, _⟩ | ⟨a, len, cap, elems, rest, m2, hm2, hcs, _, hb, hl, hc, hel, hx, _, _⟩
  · simp [Value.cells] at hcs
    obtain ⟨rfl, rfl, rfl⟩ := hcs
    exact ⟨none, 0, 0, [], rfl, ⟨rfl, by simp, fun hne => absurd rfl hne⟩⟩
  · simp [Value.cells] at hcs
    obtain ⟨rfl, rfl, rfl⟩ := hcs
    rw [ones83.2.2.1] at hx
    have each : ∀ i, i < len0 → ∃ q : List Ty, (∃ nm, W.cell? (a.add (i * 2)) = some (.string nm)) ∧ ∃ fa fcap, W.cell? (a.add (i * 2 + 1)) = some (.slice fa q.length fcap) ∧ FdAt W fa q := fun i hi => by
      have hxi := hx i hi
      rw [List.getElem?_eq_getElem (by omega), Option.bind_eq_some_iff] at hxi
      obtain ⟨cs', hc1, hc2⟩ := hxi
      obtain ⟨f0, f1, hu, e0, e1, o0, o1⟩ := two81
      obtain ⟨y0, y1, m, hm, hlen, h0, h1⟩ := trod_struct2 hu hc2
      rw [ones83.2.2.1] at hlen
      match cs', hlen with
      | [c0, c1], _ =>
        rw [o0, e0, ones83.1] at h0
        rw [o1, e1, ones83.2.1] at h1
        obtain ⟨nm, q0, -⟩ := DataW.trod_string Tryd.underlying9 h0
        obtain ⟨fa, fcap, fs, q1, hF⟩ := open_fields _ _ _ h1
        simp at q0 q1
        subst q0 q1
        obtain ⟨_, hln, hcell⟩ := World.cells?_some hc1
        have g0 := hcell 0 (by omega)
        have g1 := hcell 1 (by omega)
        rw [Deep.add_add] at g1
        exact ⟨fs, ⟨nm, by simpa [Addr.add] using g0⟩, fa, fcap, by simpa using g1, hF⟩
    obtain ⟨q, hq⟩ := Deep.choose_lt each
    refine ⟨some a, len0, cap0, (List.range len0).map q, rfl, ⟨by simp, by omega, fun hne => ?_⟩⟩
    have hpos : 0 < len0 := by
      rcases Nat.eq_zero_or_pos len0 with h | h
      · subst h; exact absurd rfl hne
      · exact h
    obtain ⟨b, off, spot⟩ := a
    obtain ⟨nm0, hc0⟩ := (hq 0 hpos).1
    have hspot : spot = none := by simpa [Addr.add] using World.cell?_spot hc0
    subst hspot
    rw [Addr.add_lit] at hc0
    refine ⟨b, off, rfl, lt_of_cell0 hc0, fun i fs hi => ?_⟩
    have hil : i < len0 := by simpa using (List.getElem?_eq_some_iff.1 hi).1
    rw [List.getElem?_map, List.getElem?_range hil] at hi
    cases hi
    obtain ⟨-, fa, fcap, g1, hF⟩ := hq i hil
    rw [Addr.add_lit] at g1
    exact ⟨fa, fcap, g1, hF⟩
end Go.Proofs.YtjchbclkdbojpaaDoor
