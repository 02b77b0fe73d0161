/-
  PlaceDepths returns true for all structs, all locals and all three places, and leaves them as they were: the row of 'loanwordlaw09.PlaceDepths', and its card, tied to the program's text. No condition beyond the statement's own (the library's tables laid).
-/
import Derived.Test.YtnohcppipkpgmaaDoorSc
import Derived.Test.YtnohcppipkpgmaaDoorTq
import Derived.Test.YtnohcppipkpgmaaDoorTie
import Derived.Test.YtnohcppipkpgmaaDoorCards
namespace Go.Proofs.YtnohcppipkpgmaaDoor
open Go.ChangeShapes Go.WideShapes Go.ChangeAt Go.RowKit Go.Joins Go.Shelf Go.WideElems Go.Maps
set_option linter.unusedVariables false
set_option linter.unusedSimpArgs false

theorem one32 : ∃ f0 f1 f2 f3 f4, Tryd.prog.underlying 32 = some (.struct #[f0, f1, f2, f3, f4]) ∧ f0.type = 30 ∧ f1.type = 4 ∧ f2.type = 3 ∧ f3.type = 3 ∧ f4.type = 23 ∧ f0.offset = 0 ∧ f1.offset = 1 ∧ f2.offset = 2 ∧ f3.offset = 3 ∧ f4.offset = 4 := ⟨_, _, _, _, _, Tryd.underlying32, rfl, rfl, rfl, rfl, rfl, rfl, rfl, rfl, rfl, rfl⟩
theorem ones32 : Tryd.prog.cellsOf 30 = 1 ∧ Tryd.prog.cellsOf 4 = 1 ∧ Tryd.prog.cellsOf 3 = 1 ∧ Tryd.prog.cellsOf 23 = 1 ∧ Tryd.prog.cellsOf 32 = 5 := ⟨by kernel_rfl, by kernel_rfl, by kernel_rfl, by kernel_rfl, by kernel_rfl⟩
theorem trod_struct5 {H : Type} {enc : TypeId × Value → H} {P : Program} {w : World} {base : Nat} {spare : Nat → Bool} {held : Bool} {t : TypeId} {f0 f1 f2 f3 f4 : Field} {fuel : Nat} {cs : List Value} {x : DataW H × List MemPlace} (ht : P.underlying t = some (.struct #[f0, f1, f2, f3, f4])) (h : DataW.trod enc P w base spare held fuel t cs = some x) :
    ∃ y0 y1 y2 y3 y4 n, fuel = n + 1 ∧ cs.length = P.cellsOf t ∧ DataW.trod enc P w base spare held n f0.type ((cs.drop f0.offset).take (P.cellsOf f0.type)) = some y0 ∧
      DataW.trod enc P w base spare held n f1.type ((cs.drop f1.offset).take (P.cellsOf f1.type)) = some y1 ∧ DataW.trod enc P w base spare held n f2.type ((cs.drop f2.offset).take (P.cellsOf f2.type)) = some y2 ∧
      DataW.trod enc P w base spare held n f3.type ((cs.drop f3.offset).take (P.cellsOf f3.type)) = some y3 ∧ DataW.trod enc P w base spare held n f4.type ((cs.drop f4.offset).take (P.cellsOf f4.type)) = some y4 := by
  obtain ⟨xs, n, hfu, rfl, hl, hlen, hf⟩ := DataW.trod_struct ht h
  match xs, hlen with
  | [y0, y1, y2, y3, y4], _ => exact ⟨y0, y1, y2, y3, y4, n, hfu, hl, by simpa using hf 0 f0 rfl, by simpa using hf 1 f1 rfl, by simpa using hf 2 f2 rfl, by simpa using hf 3 f3 rfl, by simpa using hf 4 f4 rfl⟩
set_option maxRecDepth 100000 in
theorem open_ty {H : Type} {enc : TypeId × Value → H} {W : World} {base : Nat} {sp : Nat → Bool} {held : Bool} : ∀ (n : Nat) (cs : List Value) (x : DataW H × List MemPlace), DataW.trod enc Tryd.prog W base sp held n 32 cs = some x →
    ∃ (f : Fv) (t : Ty), cs = [.int .u8 (f.k : Int), .bool f.m, .int .i64 f.r, .int .i64 f.s, .slice f.a f.n f.cap] ∧ TyAt W f t := by
  intro n
  induction n using Nat.strongRecOn with
  | ind n ih =>
    intro cs x h
    obtain ⟨f0, f1, f2, f3, f4, hu, e0, e1, e2, e3, e4, o0, o1, o2, o3, o4⟩ := one32
    obtain ⟨k0, k1, k2, k3, k4⟩ := ones32
    obtain ⟨y0, y1, y2, y3, y4, m, hm, hlen, h0, h1, h2, h3, h4⟩ := trod_struct5 hu h
    rw [k4] at hlen
    match cs, hlen with
    | [c0, c1, c2, c3, c4], _ =>
      rw [o0, e0, k0] at h0
      rw [o1, e1, k1] at h1
      rw [o2, e2, k2] at h2
      rw [o3, e3, k2] at h3
      rw [o4, e4, k3] at h4
      obtain ⟨k, q0, _, w0⟩ := DataW.trod_int Tryd.underlying30 h0
      obtain ⟨mb, q1, _⟩ := DataW.trod_bool Tryd.underlying4 h1
      obtain ⟨r, q2, _, w2⟩ := DataW.trod_int Tryd.underlying3 h2
      obtain ⟨s, q3, _, w3⟩ := DataW.trod_int Tryd.underlying3 h3
      simp at q0 q1 q2 q3
      subst q0 q1 q2 q3
      simp [Lit.wf, IntKind.min, IntKind.max, IntKind.signed, IntKind.bits] at w0 w2 w3
      have hk : ((k.toNat : Nat) : Int) = k := by omega
      simp at h4
      rcases DataW.trod_slice Tryd.underlying23 h4 with ⟨hcs, _⟩ | ⟨a, len, cap, elems, rest, m2, hm2, hcs, _, hb, hl, hc, hel, hx, _, _⟩
      · simp at hcs
        subst hcs
        exact ⟨⟨k.toNat, mb, r, s, none, 0, 0⟩, .mk k.toNat mb r s [], by simp only [hk], .mk _ _ _ _ none 0 0 [] (fun _ => ⟨0, false, 0, 0, none, 0, 0⟩) rfl (by simp) (by omega) (by omega) (by omega) (by omega) (by omega) (fun hh => absurd rfl hh) (fun i t ht => by simp at ht)⟩
      · simp at hcs
        subst hcs
        rw [k4] at hx
        have each : ∀ i, i < len → ∃ ft : Fv × Ty, TyAt W ft.1 ft.2 ∧ W.cell? (a.add (i * 5)) = some (.int .u8 (ft.1.k : Int)) ∧ W.cell? (a.add (i * 5 + 1)) = some (.bool ft.1.m) ∧ W.cell? (a.add (i * 5 + 2)) = some (.int .i64 ft.1.r) ∧ W.cell? (a.add (i * 5 + 3)) = some (.int .i64 ft.1.s) ∧ W.cell? (a.add (i * 5 + 4)) = some (.slice ft.1.a ft.1.n ft.1.cap) := fun i hi => by
          have hxi := hx i hi
          rw [List.getElem?_eq_getElem (by omega), Option.bind_eq_some_iff] at hxi
          obtain ⟨cs', hc1, hc2⟩ := hxi
          obtain ⟨f', t', hcs', ht'⟩ := ih m2 (by omega) cs' _ hc2
          subst hcs'
          obtain ⟨_, hln, hcell⟩ := World.cells?_some hc1
          have g0 := hcell 0 (by omega)
          have g1 := hcell 1 (by omega)
          have g2 := hcell 2 (by omega)
          have g3 := hcell 3 (by omega)
          have g4 := hcell 4 (by omega)
          rw [Deep.add_add] at g1 g2 g3 g4
          exact ⟨(f', t'), ht', by simpa [Addr.add] using g0, by simpa using g1, by simpa using g2, by simpa using g3, by simpa using g4⟩
        haveI : Inhabited (Fv × Ty) := ⟨(⟨0, false, 0, 0, none, 0, 0⟩, .mk 0 false 0 0 [])⟩
        obtain ⟨q, hq⟩ := Deep.choose_lt each
        refine ⟨⟨k.toNat, mb, r, s, some a, len, cap⟩, .mk k.toNat mb r s ((List.range len).map fun i => (q i).2), by simp only [hk], .mk _ _ _ _ (some a) len cap _ (fun i => (q i).1) (by simp) (by omega) (by omega) (by omega) (by omega) (by omega) (by omega) (fun hne => ?_) (fun i t ht => ?_)⟩
        · have hpos : 0 < len := by
            rcases Nat.eq_zero_or_pos len with h | h
            · subst h; exact absurd rfl hne
            · exact h
          obtain ⟨b, off, spot⟩ := a
          have hc0 := (hq 0 hpos).2.1
          have hspot : spot = none := by simpa [Addr.add] using World.cell?_spot hc0
          subst hspot
          refine ⟨b, off, rfl, fun i hi => ?_⟩
          simp at hi
          obtain ⟨_, g0, g1, g2, g3, g4⟩ := hq i hi
          rw [Addr.add_lit] at g0 g1 g2 g3 g4
          exact ⟨lt_of_cell0 g0, g0, g1, g2, g3, g4⟩
        · rw [List.getElem?_map] at ht
          rcases Nat.lt_or_ge i len with hi | hi
          · rw [List.getElem?_range hi] at ht
            cases ht
            exact (hq i hi).1
          · rw [List.getElem?_eq_none (by simpa using hi)] at ht
            cases ht
theorem two69 : ∃ f0 f1, Tryd.prog.underlying 69 = some (.struct #[f0, f1]) ∧ f0.type = 9 ∧ f1.type = 32 ∧ f0.offset = 0 ∧ f1.offset = 1 := ⟨_, _, Tryd.underlying69, rfl, rfl, rfl, rfl⟩
theorem two66 : ∃ f0 f1, Tryd.prog.underlying 66 = some (.struct #[f0, f1]) ∧ f0.type = 9 ∧ f1.type = 64 ∧ f0.offset = 0 ∧ f1.offset = 1 := ⟨_, _, Tryd.underlying66, rfl, rfl, rfl, rfl⟩
theorem ones69 : Tryd.prog.cellsOf 9 = 1 ∧ Tryd.prog.cellsOf 64 = 1 ∧ Tryd.prog.cellsOf 66 = 2 ∧ Tryd.prog.cellsOf 69 = 6 := ⟨by kernel_rfl, by kernel_rfl, by kernel_rfl, by kernel_rfl⟩
set_option maxRecDepth 100000 in
theorem open_field {H : Type} {enc : TypeId × Value → H} {W : World} {base : Nat} {sp : Nat → Bool} {held : Bool} (n : Nat) (cs : List Value) (x : DataW H × List MemPlace) (h : DataW.trod enc Tryd.prog W base sp held n 69 cs = some x) :
    ∃ (nm : ByteArray) (f : Fv) (t : Ty), cs = [.string nm, .int .u8 (f.k : Int), .bool f.m, .int .i64 f.r, .int .i64 f.s, .slice f.a f.n f.cap] ∧ TyAt W f t := by
  obtain ⟨f0, f1, hu, e0, e1, o0, o1⟩ := two69
  obtain ⟨k0, -, -, k3⟩ := ones69
  obtain ⟨y0, y1, m, hm, hlen, h0, h1⟩ := trod_struct2 hu h
  rw [k3] at hlen
  match cs, hlen with
  | [c0, c1, c2, c3, c4, c5], _ =>
    rw [o0, e0, k0] at h0
    rw [o1, e1, ones32.2.2.2.2] at h1
    obtain ⟨nm, q0, -⟩ := DataW.trod_string Tryd.underlying9 h0
    obtain ⟨f, t, q1, ht⟩ := open_ty _ _ _ h1
    simp at q0 q1
    obtain ⟨r1, r2, r3, r4, r5⟩ := q1
    exact ⟨nm, f, t, by rw [q0, r1, r2, r3, r4, r5], ht⟩
set_option maxRecDepth 100000 in
theorem open_fields {H : Type} {enc : TypeId × Value → H} {W : World} {base : Nat} {sp : Nat → Bool} {held : Bool} (n : Nat) (cs : List Value) (x : DataW H × List MemPlace) (h : DataW.trod enc Tryd.prog W base sp held n 64 cs = some x) :
    ∃ (fa : Option Addr) (fcap : Nat) (fs : List Ty), cs = [.slice fa fs.length fcap] ∧ FdAt W fa fs := by
  rcases DataW.trod_slice Tryd.underlying64 h with ⟨hcs, _⟩ | ⟨a, len, cap, elems, rest, m2, hm2, hcs, _, hb, hl, hc, hel, hx, _, _⟩
  · exact ⟨none, 0, [], hcs, by simp, fun hne => absurd rfl hne⟩
  · rw [ones69.2.2.2] at hx
    have each : ∀ i, i < len → ∃ q : ByteArray × Fv × Ty, TyAt W q.2.1 q.2.2 ∧ W.cell? (a.add (i * 6)) = some (.string q.1) ∧ W.cell? (a.add (i * 6 + 1)) = some (.int .u8 (q.2.1.k : Int)) ∧ W.cell? (a.add (i * 6 + 2)) = some (.bool q.2.1.m) ∧ W.cell? (a.add (i * 6 + 3)) = some (.int .i64 q.2.1.r) ∧ W.cell? (a.add (i * 6 + 4)) = some (.int .i64 q.2.1.s) ∧ W.cell? (a.add (i * 6 + 5)) = some (.slice q.2.1.a q.2.1.n q.2.1.cap) := fun i hi => by
      have hxi := hx i hi
      rw [List.getElem?_eq_getElem (by omega), Option.bind_eq_some_iff] at hxi
      obtain ⟨cs', hc1, hc2⟩ := hxi
      obtain ⟨nm, f', t', hcs', ht'⟩ := open_field m2 cs' _ hc2
      subst hcs'
      obtain ⟨_, hln, hcell⟩ := World.cells?_some hc1
      have g0 := hcell 0 (by omega)
      have g1 := hcell 1 (by omega)
      have g2 := hcell 2 (by omega)
      have g3 := hcell 3 (by omega)
      have g4 := hcell 4 (by omega)
      have g5 := hcell 5 (by omega)
      rw [Deep.add_add] at g1 g2 g3 g4 g5
      exact ⟨(nm, f', t'), ht', by simpa [Addr.add] using g0, by simpa using g1, by simpa using g2, by simpa using g3, by simpa using g4, by simpa using g5⟩
    haveI : Inhabited (ByteArray × Fv × Ty) := ⟨(⟨#[]⟩, ⟨0, false, 0, 0, none, 0, 0⟩, .mk 0 false 0 0 [])⟩
    obtain ⟨q, hq⟩ := Deep.choose_lt each
    refine ⟨some a, cap, (List.range len).map fun i => (q i).2.2, by simpa using hcs, by simp; omega, fun hne => ?_⟩
    have hpos : 0 < len := by
      rcases Nat.eq_zero_or_pos len with h | h
      · subst h; exact absurd rfl hne
      · exact h
    obtain ⟨b, off, spot⟩ := a
    have hc0 := (hq 0 hpos).2.1
    have hspot : spot = none := by simpa [Addr.add] using World.cell?_spot hc0
    subst hspot
    refine ⟨b, off, rfl, fun i t hi => ?_⟩
    have hil : i < len := by simpa using (List.getElem?_eq_some_iff.1 hi).1
    rw [List.getElem?_map, List.getElem?_range hil] at hi
    cases hi
    obtain ⟨g6, g0, g1, g2, g3, g4, g5⟩ := hq i hil
    rw [Addr.add_lit] at g0 g1 g2 g3 g4 g5
    exact ⟨(q i).2.1, (q i).1, g0, ⟨lt_of_cell0 g0, g1, g2, g3, g4, g5⟩, g6⟩
set_option maxRecDepth 100000 in
/-- A list of structs opened. -/
theorem open_structs {H : Type} {enc : TypeId × Value → H} {W : World} {r : Reach} {b0 base : Nat} {v : Value} {d : DataW H} {p : List MemPlace} {held : Bool} (hval : Value.okWide Tryd.prog W r b0 22 v) (h : DataW.Trod enc Tryd.prog W base (fun _ => true) held 22 v d p) :
    ∃ a n cap ss, v = .slice a n cap ∧ StAt W a n cap ss := by
  obtain ⟨a0, len0, cap0, rfl⟩ := okWide_slice Tryd.underlying22 hval
  obtain ⟨fuel, hf⟩ := h
  rcases DataW.trod_slice Tryd.underlying22 hf with ⟨hcs, _⟩ | ⟨a, len, cap, elems, rest, m2, hm2, hcs, _, hb, hl, hc, hel, hx, _, _⟩
  · simp [Value.cells] at hcs
    obtain ⟨rfl, rfl, rfl⟩ := hcs
    exact ⟨none, 0, 0, [], rfl, ⟨rfl, by simp, fun hne => absurd rfl hne⟩⟩
  · simp [Value.cells] at hcs
    obtain ⟨rfl, rfl, rfl⟩ := hcs
    rw [ones69.2.2.1] at hx
    have each : ∀ i, i < len0 → ∃ q : List Ty, (∃ nm, W.cell? (a.add (i * 2)) = some (.string nm)) ∧ ∃ fa fcap, W.cell? (a.add (i * 2 + 1)) = some (.slice fa q.length fcap) ∧ FdAt W fa q := fun i hi => by
      have hxi := hx i hi
      rw [List.getElem?_eq_getElem (by omega), Option.bind_eq_some_iff] at hxi
      obtain ⟨cs', hc1, hc2⟩ := hxi
      obtain ⟨f0, f1, hu, e0, e1, o0, o1⟩ := two66
      obtain ⟨y0, y1, m, hm, hlen, h0, h1⟩ := trod_struct2 hu hc2
      rw [ones69.2.2.1] at hlen
      match cs', hlen with
      | [c0, c1], _ =>
        rw [o0, e0, ones69.1] at h0
        rw [o1, e1, ones69.2.1] at h1
        obtain ⟨nm, q0, -⟩ := DataW.trod_string Tryd.underlying9 h0
        obtain ⟨fa, fcap, fs, q1, hF⟩ := open_fields _ _ _ h1
        simp at q0 q1
        subst q0 q1
        obtain ⟨_, hln, hcell⟩ := World.cells?_some hc1
        have g0 := hcell 0 (by omega)
        have g1 := hcell 1 (by omega)
        rw [Deep.add_add] at g1
        exact ⟨fs, ⟨nm, by simpa [Addr.add] using g0⟩, fa, fcap, by simpa using g1, hF⟩
    obtain ⟨q, hq⟩ := Deep.choose_lt each
    refine ⟨some a, len0, cap0, (List.range len0).map q, rfl, ⟨by simp, by omega, fun hne => ?_⟩⟩
    have hpos : 0 < len0 := by
      rcases Nat.eq_zero_or_pos len0 with h | h
      · subst h; exact absurd rfl hne
      · exact h
    obtain ⟨b, off, spot⟩ := a
    obtain ⟨nm0, hc0⟩ := (hq 0 hpos).1
    have hspot : spot = none := by simpa [Addr.add] using World.cell?_spot hc0
    subst hspot
    rw [Addr.add_lit] at hc0
    refine ⟨b, off, rfl, lt_of_cell0 hc0, fun i fs hi => ?_⟩
    have hil : i < len0 := by simpa using (List.getElem?_eq_some_iff.1 hi).1
    rw [List.getElem?_map, List.getElem?_range hil] at hi
    cases hi
    obtain ⟨-, fa, fcap, g1, hF⟩ := hq i hil
    rw [Addr.add_lit] at g1
    exact ⟨fa, fcap, g1, hF⟩
set_option maxRecDepth 100000 in
/-- A list of types opened. -/
theorem open_locals {H : Type} {enc : TypeId × Value → H} {W : World} {r : Reach} {b0 base : Nat} {v : Value} {d : DataW H} {p : List MemPlace} {held : Bool} (hval : Value.okWide Tryd.prog W r b0 23 v) (h : DataW.Trod enc Tryd.prog W base (fun _ => true) held 23 v d p) :
    ∃ a n cap ts, v = .slice a n cap ∧ LcAt W a n cap ts := by
  obtain ⟨a0, len0, cap0, rfl⟩ := okWide_slice Tryd.underlying23 hval
  obtain ⟨fuel, hf⟩ := h
  rcases DataW.trod_slice Tryd.underlying23 hf with ⟨hcs, _⟩ | ⟨a, len, cap, elems, rest, m2, hm2, hcs, _, hb, hl, hc, hel, hx, _, _⟩
  · simp [Value.cells] at hcs
    obtain ⟨rfl, rfl, rfl⟩ := hcs
    exact ⟨none, 0, 0, [], rfl, ⟨rfl, by simp, fun hne => absurd rfl hne⟩⟩
  · simp [Value.cells] at hcs
    obtain ⟨rfl, rfl, rfl⟩ := hcs
    rw [ones32.2.2.2.2] at hx
    have each : ∀ i, i < len0 → ∃ ft : Fv × Ty, TyAt W ft.1 ft.2 ∧ W.cell? (a.add (i * 5)) = some (.int .u8 (ft.1.k : Int)) ∧ W.cell? (a.add (i * 5 + 1)) = some (.bool ft.1.m) ∧ W.cell? (a.add (i * 5 + 2)) = some (.int .i64 ft.1.r) ∧ W.cell? (a.add (i * 5 + 3)) = some (.int .i64 ft.1.s) ∧ W.cell? (a.add (i * 5 + 4)) = some (.slice ft.1.a ft.1.n ft.1.cap) := fun i hi => by
      have hxi := hx i hi
      rw [List.getElem?_eq_getElem (by omega), Option.bind_eq_some_iff] at hxi
      obtain ⟨cs', hc1, hc2⟩ := hxi
      obtain ⟨f', t', hcs', ht'⟩ := open_ty m2 cs' _ hc2
      subst hcs'
      obtain ⟨_, hln, hcell⟩ := World.cells?_some hc1
      have g0 := hcell 0 (by omega)
      have g1 := hcell 1 (by omega)
      have g2 := hcell 2 (by omega)
      have g3 := hcell 3 (by omega)
      have g4 := hcell 4 (by omega)
      rw [Deep.add_add] at g1 g2 g3 g4
      exact ⟨(f', t'), ht', by simpa [Addr.add] using g0, by simpa using g1, by simpa using g2, by simpa using g3, by simpa using g4⟩
    haveI : Inhabited (Fv × Ty) := ⟨(⟨0, false, 0, 0, none, 0, 0⟩, .mk 0 false 0 0 [])⟩
    obtain ⟨q, hq⟩ := Deep.choose_lt each
    refine ⟨some a, len0, cap0, (List.range len0).map fun i => (q i).2, rfl, ⟨by simp, by omega, fun hne => ?_⟩⟩
    have hpos : 0 < len0 := by
      rcases Nat.eq_zero_or_pos len0 with h | h
      · subst h; exact absurd rfl hne
      · exact h
    obtain ⟨b, off, spot⟩ := a
    have hc0 := (hq 0 hpos).2.1
    have hspot : spot = none := by simpa [Addr.add] using World.cell?_spot hc0
    subst hspot
    refine ⟨b, off, rfl, fun i t hi => ?_⟩
    have hil : i < len0 := by simpa using (List.getElem?_eq_some_iff.1 hi).1
    rw [List.getElem?_map, List.getElem?_range hil] at hi
    cases hi
    obtain ⟨g6, g0, g1, g2, g3, g4⟩ := hq i hil
    rw [Addr.add_lit] at g0 g1 g2 g3 g4
    exact ⟨(q i).1, ⟨lt_of_cell0 g0, g0, g1, g2, g3, g4⟩, g6⟩
end Go.Proofs.YtnohcppipkpgmaaDoor
namespace Go.Proofs.YtnohcppipkpgmaaDoor
section
open Go.RowKit Go.Shelf
set_option linter.unusedVariables false
set_option linter.unusedSimpArgs false

/-- PlaceDepths. -/
theorem depths_walk {w : World} {a la : Option Addr} {n cap ln lcap : Nat} {ss : List (List Ty)} {ts : List Ty} (hS : StAt w a n cap ss) (hL : LcAt w la ln lcap ts) {x y z : Pt} {p q r : List Int} (hP : PAt w x p) (hQ : PAt w y q) (hR : PAt w z r) :
    Calls Tryd.prog 7 #[.slice a n cap, .slice la ln lcap, x.v, y.v, z.v] w fun e w' => e = .returned (.bool true) ∧ Below w.heap.size w w' := by
  obtain ⟨f1, f2, f3, hb⟩ := flt_ex ss
  obtain ⟨fc, cl, hC, -⟩ := cx_of hS hL hb
  obtain ⟨ok, hok⟩ : ∃ ok, ok = mayL n (decide ((stRes n f1 f2 f3).2 = 0)) ts := ⟨_, rfl⟩
  rw [← hok] at hC
  obtain ⟨b, hf, -⟩ := fitA_ex hS hL [p, q, r] (by simp)
  by_cases h : b = true ∧ (wyX ok fc cl x.l p).isSome = true ∧ (wyX ok fc cl y.l q).isSome = true ∧ (wyX ok fc cl z.l r).isSome = true
  · obtain ⟨rfl, h1, h2, h3⟩ := h
    obtain ⟨⟨cp, gp⟩, e1⟩ := Option.isSome_iff_exists.1 h1
    obtain ⟨⟨cq, gq⟩, e2⟩ := Option.isSome_iff_exists.1 h2
    obtain ⟨⟨cr, gr⟩, e3⟩ := Option.isSome_iff_exists.1 h3
    exact depths_in hC hP hQ hR hf e1 e2 e3
  · exact depths_out hC hP hQ hR hf rfl rfl rfl h
end
open Go.ChangeShapes Go.WideShapes Go.ChangeAt Go.RowKit Go.Joins Go.Shelf Go.WideElems Go.Maps
set_option linter.unusedVariables false
set_option linter.unusedSimpArgs false

set_option maxRecDepth 100000 in
theorem placeDepths_lifted (os : Os) (started : os.Started) (H : Type) (enc : TypeId × Value → H) :
    ReturnsInHanded {} Tryd.checked os 7 .any (fun w args => (Rows.placeDepthsSpec.pre enc Tryd.prog Tryd.f7 [] false w args ∧ laidMetH Tryd.prog laidT w) ∧ sizedMet enc Tryd.prog Tryd.f7 (OpenSpec.ofChange Rows.placeDepthsSpec) false w args)
      (Rows.placeDepthsSpec.post enc Tryd.prog Tryd.f7 false true false false) := by
  refine lift_shaped (C := Tryd.checked) (X := fun w _ => laidMetH Tryd.prog laidT w) (fun _ _ _ hh h => h.of_heap hh) own started (by kernel_rfl) Tryd.func7
    (ChangeSpec.witness_shaped (enc := enc) (C := Tryd.checked) (os := os) (X := fun w _ => laidMetH Tryd.prog laidT w) false (World.laidAll Tryd.prog os laidT) #[.slice none 0 0, .slice none 0 0, .agg #[.int .i64 0, .slice none 0 0], .agg #[.int .i64 0, .slice none 0 0], .agg #[.int .i64 0, .slice none 0 0]] 8 (World.laidAll_os _ _ _) (World.shaped_of_ZipB (by kernel_rfl) (by kernel_rfl)) (by kernel_rfl) (by kernel_rfl) (by kernel_rfl) (door_metT os _)) ?_
  intro W base args ds gs before hval0 hW hL hsh
  have hval : ∀ (j : Nat) t v, Tryd.f7.params[j]? = some t → args[j]? = some v → Value.okWide Tryd.prog W .any base t v := hval0
  have hW' := hW
  obtain ⟨p, q, hA0, hV, rfl, hfz, hnd⟩ := hW
  have hA : DataW.TrodAll enc Tryd.prog W 0 (fun _ => true) true Tryd.f7.params.toList args.toList ds p := hA0
  rw [Tryd.params7] at hA hval
  obtain ⟨v0, vs0, d0, ds0, p0, q0, hargs, rfl, rfl, h0, r0⟩ := trodAll_cons hA
  obtain ⟨v1, vs1, d1, ds1, p1, q1, rfl, rfl, rfl, h1, r1⟩ := trodAll_cons r0
  obtain ⟨v2, vs2, d2, ds2, p2, q2, rfl, rfl, rfl, h2, r2⟩ := trodAll_cons r1
  obtain ⟨v3, vs3, d3, ds3, p3, q3, rfl, rfl, rfl, h3, r3⟩ := trodAll_cons r2
  obtain ⟨v4, vs4, d4, ds4, p4, q4, rfl, rfl, rfl, h4, r4⟩ := trodAll_cons r3
  obtain ⟨rfl, rfl, rfl⟩ := trodAll_nil r4
  obtain rfl : args = #[v0, v1, v2, v3, v4] := by cases args; simp_all
  obtain ⟨rfl, rfl⟩ := trodVars_none hV
  have k0 := h0
  have k1 := h1
  have k2 := h2
  have k3 := h3
  have k4 := h4
  have lt0 : ∀ x ∈ p0, x.block < W.heap.size := by obtain ⟨m, hm⟩ := k0; exact DataW.trod_lt m _ _ _ hm
  have lt1 : ∀ x ∈ p1, x.block < W.heap.size := by obtain ⟨m, hm⟩ := k1; exact DataW.trod_lt m _ _ _ hm
  have lt2 : ∀ x ∈ p2, x.block < W.heap.size := by obtain ⟨m, hm⟩ := k2; exact DataW.trod_lt m _ _ _ hm
  have lt3 : ∀ x ∈ p3, x.block < W.heap.size := by obtain ⟨m, hm⟩ := k3; exact DataW.trod_lt m _ _ _ hm
  have lt4 : ∀ x ∈ p4, x.block < W.heap.size := by obtain ⟨m, hm⟩ := k4; exact DataW.trod_lt m _ _ _ hm
  obtain ⟨sa, sn, scap, ss, rfl, hS⟩ := open_structs (hval 0 22 v0 rfl rfl) h0
  obtain ⟨la, ln, lcap, ts, rfl, hL2⟩ := open_locals (hval 1 23 v1 rfl rfl) h1
  obtain ⟨x, X, rfl, hP⟩ := open_place (hval 2 26 v2 rfl rfl) h2
  obtain ⟨y, Y, rfl, hQ⟩ := open_place (hval 3 26 v3 rfl rfl) h3
  obtain ⟨z, Z, rfl, hR⟩ := open_place (hval 4 26 v4 rfl rfl) h4
  clear hA0 hval0
  refine (depths_walk hS hL2 hP hQ hR).mono fun e W' ⟨he, bel⟩ => ?_
  subst he
  exact ⟨_, rfl, _, _, _, [], _, [], hW', trodAll_mk1 (shut_bool Tryd.underlying4 _), (trodAll_cons_mk (Below.trod laidOut (by kernel_rfl) (of_decide_eq_true (by kernel_rfl)) k0 bel lt0) (trodAll_cons_mk (Below.trod laidOut (by kernel_rfl) (of_decide_eq_true (by kernel_rfl)) k1 bel lt1) (trodAll_cons_mk (Below.trod laidOut (by kernel_rfl) (of_decide_eq_true (by kernel_rfl)) k2 bel lt2) (trodAll_cons_mk (Below.trod laidOut (by kernel_rfl) (of_decide_eq_true (by kernel_rfl)) k3 bel lt3) (trodAll_cons_mk (Below.trod laidOut (by kernel_rfl) (of_decide_eq_true (by kernel_rfl)) k4 bel lt4) trodAll_mk0))))), rfl, bel.frame _, fun h => by cases h⟩
theorem placeDepths_row : Rows.PlaceDepthsSaid :=
  OpenClaim.holds_of_wide 7 Tryd.f7 rfl rfl rfl rfl rfl rfl rfl ⟨rfl, rfl, rfl, rfl, rfl⟩ rfl rfl rfl rfl rfl (by kernel_rfl) Tryd.func7 (by kernel_rfl)
    (of_decide_eq_true (by kernel_rfl)) (by unfold Func.isWrapper; first | (rw [if_pos (by decide +kernel)]; kernel_rfl) | (rw [if_neg (by decide +kernel)]; exact ⟨rfl, rfl⟩))
    (fun os started H enc _ => placeDepths_lifted os started H enc)
theorem placeDepths_holds : Rows.PlaceDepthsCardSaid :=
  Claim7.holds_tied_plain_at .later [] [.data, .data, .data] true (true, "ee7dc7c804ac4f745a5ba83d8aed6ecd8a7da634523cecb06dd4055cc8e0ae99") false
    placeDepths_row (fun _ h => by cases h) (by kernel_rfl) (fun _ h => by cases h) placeDepths_row_tie rfl ⟨rfl, rfl⟩ (by kernel_rfl) rfl
    (fun f fn hf hfn => by
      obtain rfl : f = 7 := Option.some.inj ((show Tryd.prog.funcNamed "loanword/loanwordlaw09.PlaceDepths" = some 7 by kernel_rfl).symm.trans hf) |>.symm
      obtain rfl : fn = Tryd.f7 := (Option.some.inj (Tryd.func7.symm.trans hfn)).symm
      exact ⟨by kernel_rfl, fun j t ht => by
        rw [Tryd.params7] at ht
        have hm : t ∈ [22, 23, 26] := by simpa using Array.mem_of_getElem? ht
        have hall : ([22, 23, 26].all fun u => !Tryd.prog.wantsStandIn u) = true := by kernel_rfl
        exact (show Tryd.prog.wantsStandIn t = false by simpa using List.all_eq_true.1 hall t hm)⟩)
    (by kernel_rfl)
#print axioms placeDepths_holds
end Go.Proofs.YtnohcppipkpgmaaDoor
