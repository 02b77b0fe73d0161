import Derived.Test.YtahdnfogdnondaaGreatDoorZl
import Derived.ProofKit
import Derived.ChangeSlices
import Derived.OpenShut
import Derived.ShutString
import Derived.ChangeOld
import Derived.ChangeMaps5
import Derived.Below
import Derived.Lib.SmallJoins
import Derived.Stop.Joined
import Derived.HandedShaped
import Derived.Lay
import Derived.MakeChecks
namespace Go.Proofs.YtahdnfogdnondaaGreatDoor
open Go.ChangeShapes Go.ChangeShapes Go.WideShapes Go.ChangeAt Go.RowKit Go.Joins
set_option linter.unusedVariables false
set_option linter.unusedSimpArgs false

theorem cells48 : Tryz.prog.cellsOf 44 = 5 := by kernel_rfl
theorem cells24 : Tryz.prog.cellsOf 24 = 1 := by kernel_rfl
theorem one48 : ∃ f0 f1 f2 f3 f4, Tryz.prog.underlying 44 = some (.struct #[f0, f1, f2, f3, f4]) ∧ f0.type = 41 ∧ f1.type = 3 ∧ f2.type = 2 ∧ f3.type = 9 ∧ f4.type = 42 ∧ f0.offset = 0 ∧ f1.offset = 1 ∧ f2.offset = 2 ∧ f3.offset = 3 ∧ f4.offset = 4 := ⟨_, _, _, _, _, Tryz.underlying44, rfl, rfl, rfl, rfl, rfl, rfl, rfl, rfl, rfl, rfl⟩
theorem ones48 : Tryz.prog.cellsOf 41 = 1 ∧ Tryz.prog.cellsOf 3 = 1 ∧ Tryz.prog.cellsOf 2 = 1 ∧ Tryz.prog.cellsOf 9 = 1 ∧ Tryz.prog.cellsOf 42 = 1 ∧ Tryz.prog.cellsOf 22 = 1 := ⟨by kernel_rfl, by kernel_rfl, by kernel_rfl, by kernel_rfl, by kernel_rfl, by kernel_rfl⟩
theorem trod_struct5 {H : Type} {enc : TypeId × Value → H} {P : Program} {w : World} {base : Nat} {spare : Nat → Bool} {held : Bool} {t : TypeId} {f0 f1 f2 f3 f4 : Field} {fuel : Nat} {cs : List Value} {x : DataW H × List MemPlace} (ht : P.underlying t = some (.struct #[f0, f1, f2, f3, f4])) (h : DataW.trod enc P w base spare held fuel t cs = some x) :
    ∃ y0 y1 y2 y3 y4 n, DataW.trod enc P w base spare held n f0.type ((cs.drop f0.offset).take (P.cellsOf f0.type)) = some y0 ∧
      DataW.trod enc P w base spare held n f1.type ((cs.drop f1.offset).take (P.cellsOf f1.type)) = some y1 ∧ DataW.trod enc P w base spare held n f2.type ((cs.drop f2.offset).take (P.cellsOf f2.type)) = some y2 ∧
      DataW.trod enc P w base spare held n f3.type ((cs.drop f3.offset).take (P.cellsOf f3.type)) = some y3 ∧ DataW.trod enc P w base spare held n f4.type ((cs.drop f4.offset).take (P.cellsOf f4.type)) = some y4 := by
  obtain ⟨xs, n, _, rfl, hl, hlen, hf⟩ := DataW.trod_struct ht h
  match xs, hlen with
  | [y0, y1, y2, y3, y4], _ => exact ⟨y0, y1, y2, y3, y4, n, by simpa using hf 0 f0 rfl, by simpa using hf 1 f1 rfl, by simpa using hf 2 f2 rfl, by simpa using hf 3 f3 rfl, by simpa using hf 4 f4 rfl⟩
/-- A list of numbers in the arguments. -/
theorem open_list {H : Type} {enc : TypeId × Value → H} {W : World} {base n : Nat} {sp : Nat → Bool} {held : Bool} {v : Value} {x : DataW H × List MemPlace} (hsp : ∀ b, sp b = true) (h : DataW.trod enc Tryz.prog W base sp held n 42 [v] = some x) :
    ∃ a cap, ∃ l : List Int, v = .slice a l.length cap ∧ l.length ≤ maxLen ∧ IRow W a l ∧ ∀ c ∈ l, -9223372036854775808 ≤ c ∧ c ≤ 9223372036854775807 := by
  rcases open_ints Tryz.underlying42 Tryz.underlying3 ones48.2.1 h with ⟨hcs, _⟩ | ⟨a, len, cap, zs, hcs, hb, hl, hm, hz, _, hc, hw⟩
  · simp at hcs
    exact ⟨none, 0, [], hcs, Nat.zero_le _, fun h => absurd rfl h, fun c hc => by cases hc⟩
  · simp at hcs
    rw [hsp, if_pos rfl] at hz
    have hlen : (zs.take len).length = len := by rw [List.length_take, hz]; omega
    refine ⟨some a, cap, zs.take len, by rw [hlen]; exact hcs, by rw [hlen]; omega, fun hne => ?_, fun c hc' => ?_⟩
    · have hpos : 0 < len := by
        rcases Nat.eq_zero_or_pos len with h | h
        · rw [h] at hne; exact absurd rfl hne
        · exact h
      obtain ⟨b, off, spot⟩ := a
      have h0 := hc 0 (by omega)
      have hspot : spot = none := by simpa [Addr.add] using World.cell?_spot h0
      subst hspot
      have hc' : ∀ i, i < zs.length → W.cell? ⟨b, off + i, none⟩ = some (.int .i64 (zs.getD i 0)) := fun i hi => by
        have := hc i hi
        rw [Addr.add_lit] at this
        exact this
      refine ⟨b, off, rfl, lt_of_cell0 (hc' 0 (by omega)), fun i c hi => ?_⟩
      rw [List.getElem?_take] at hi
      split at hi
      · have hi' := (List.getElem?_eq_some_iff.1 hi).1
        rw [hc' i hi', List.getD_eq_getElem?_getD, hi]
        rfl
      · cases hi
    · have := hw c (List.mem_of_mem_take hc')
      simp [Lit.wf, IntKind.min, IntKind.max, IntKind.signed, IntKind.bits] at this
      omega
/-- What a node of the arguments has. -/
structure LgN (d : Nd) : Prop where
  x : SmX d.x
  l : d.l.length ≤ maxLen
  c : ∀ c ∈ d.l, -9223372036854775808 ≤ c ∧ c ≤ 9223372036854775807
set_option maxRecDepth 100000 in
theorem open_node {H : Type} {enc : TypeId × Value → H} {W : World} {base n : Nat} {sp : Nat → Bool} {held : Bool} {a : Addr} {cs : List Value} {x : DataW H × List MemPlace} (hsp : ∀ b, sp b = true) (hc : W.cells? base a 5 = some cs) (h : DataW.trod enc Tryz.prog W base sp held n 44 cs = some x) :
    ∃ d : Nd, W.cell? a = some (.int .u8 (d.x.k : Int)) ∧ W.cell? (a.add 1) = some (.int .i64 d.x.p) ∧ W.cell? (a.add 2) = some (.int .i64 d.x.n) ∧ W.cell? (a.add 3) = some (.string (str d.x.s)) ∧ (∃ al cap, W.cell? (a.add 4) = some (.slice al d.l.length cap) ∧ IRow W al d.l) ∧ LgN d := by
  obtain ⟨f0, f1, f2, f3, f4, hu, e0, e1, e2, e3, e4, o0, o1, o2, o3, o4⟩ := one48
  obtain ⟨k0, k1, k2, k3, k4, _⟩ := ones48
  obtain ⟨_, hlen, hcell⟩ := World.cells?_some hc
  obtain ⟨y0, y1, y2, y3, y4, m, h0, h1, h2, h3, h4⟩ := trod_struct5 hu h
  match cs, hlen with
  | [c0, c1, c2, c3, c4], _ =>
    rw [o0, e0, k0] at h0
    rw [o1, e1, k1] at h1
    rw [o2, e2, k2] at h2
    rw [o3, e3, k3] at h3
    rw [o4, e4, k4] at h4
    obtain ⟨k, q0, _, w0⟩ := DataW.trod_int Tryz.underlying41 h0
    obtain ⟨p, q1, _, w1⟩ := DataW.trod_int Tryz.underlying3 h1
    obtain ⟨n, q2, _, w2⟩ := DataW.trod_int Tryz.underlying2 h2
    obtain ⟨s, q3, _, w3⟩ := DataW.trod_string Tryz.underlying9 h3
    obtain ⟨al, cap, l, q4, w4, w5, w6⟩ := open_list hsp h4
    simp at q0 q1 q2 q3
    subst q0 q1 q2 q3 q4
    have g0 := hcell 0 (by omega)
    have g1 := hcell 1 (by omega)
    have g2 := hcell 2 (by omega)
    have g3 := hcell 3 (by omega)
    have g4 := hcell 4 (by omega)
    simp [Lit.wf, IntKind.min, IntKind.max, IntKind.signed, IntKind.bits] at w0 w1 w2
    refine ⟨⟨⟨k.toNat, p, n, s.data.toList⟩, l⟩, ?_, by simpa using g1, by simpa using g2, ?_, ⟨al, cap, by simpa using g4, w5⟩, ⟨?_, by simpa using w1.1, by simpa using w1.2, by simpa using w2.1, by simpa using w2.2, w3⟩, w4, w6⟩
    · have : ((k.toNat : Nat) : Int) = k := by omega
      show W.cell? a = some (.int .u8 ((k.toNat : Nat) : Int))
      rw [this]
      simpa [Addr.add] using g0
    · have : str s.data.toList = s := rfl
      show W.cell? (a.add 3) = some (.string (str s.data.toList))
      rw [this]
      simpa using g3
    · show k.toNat ≤ 255
      omega
set_option maxRecDepth 100000 in
theorem open_tree {H : Type} {enc : TypeId × Value → H} {W : World} {r : Reach} {b0 base : Nat} {v : Value} {d : DataW H} {p : List MemPlace} {held : Bool} (hval : Value.okWide Tryz.prog W r b0 24 v) (h : DataW.Trod enc Tryz.prog W base (fun _ => true) held 24 v d p) :
    ∃ a cap, ∃ T : List Nd, v = trV a T.length cap ∧ TAt W a T ∧ Lg T ∧ T.length ≤ cap := by
  obtain ⟨cs, rfl, hsz⟩ := okWide_struct Tryz.underlying24 hval
  rw [cells24] at hsz
  obtain ⟨fuel, hf⟩ := h
  obtain ⟨y0, n0, _, _, h0⟩ := trod_struct1 Tryz.underlying24 hf
  obtain ⟨c0, rfl⟩ : ∃ c0, cs = #[c0] := by
    obtain ⟨l⟩ := cs
    match l, hsz with
    | [c0], _ => exact ⟨c0, rfl⟩
  simp only [ones48.2.2.2.2.2] at h0
  simp [Value.cells] at h0
  rcases Deep.open_slice Tryz.underlying22 h0 with ⟨hcs, _⟩ | ⟨a, len, cap, m, n, D, Pl, hcs, hb, hl, hm, hmm, _, hx⟩
  · simp at hcs
    subst hcs
    exact ⟨none, 0, [], rfl, fun h => absurd rfl h, ⟨Nat.zero_le _, fun d hd => (by cases hd), fun d hd => (by cases hd), fun d hd => (by cases hd)⟩, Nat.le_refl _⟩
  · simp at hcs
    subst hcs
    simp at hmm
    have each : ∀ i, i < len → ∃ d : Nd, W.cell? (a.add (i * 5)) = some (.int .u8 (d.x.k : Int)) ∧ W.cell? (a.add (i * 5 + 1)) = some (.int .i64 d.x.p) ∧ W.cell? (a.add (i * 5 + 2)) = some (.int .i64 d.x.n) ∧ W.cell? (a.add (i * 5 + 3)) = some (.string (str d.x.s)) ∧ (∃ al cap, W.cell? (a.add (i * 5 + 4)) = some (.slice al d.l.length cap) ∧ IRow W al d.l) ∧ LgN d := by
      intro i hi
      obtain ⟨cs', h1, h2⟩ := hx i (by omega)
      rw [cells48] at h1
      obtain ⟨t, g0, g1, g2, g3, g4, g5⟩ := open_node (fun _ => rfl) h1 h2
      rw [Deep.add_add] at g1 g2 g3 g4
      exact ⟨t, g0, g1, g2, g3, g4, g5⟩
    haveI : Inhabited Nd := ⟨⟨⟨0, 0, 0, []⟩, []⟩⟩
    obtain ⟨q, hq⟩ := Deep.choose_lt each
    refine ⟨some a, cap, (List.range len).map q, by simp, ?_, ⟨by simp; omega, ?_, ?_, ?_⟩, by simpa using hl⟩
    · intro hne
      have hpos : 0 < len := by
        rcases Nat.eq_zero_or_pos len with h | h
        · subst h; exact absurd rfl hne
        · exact h
      obtain ⟨b, off, spot⟩ := a
      have hc := (hq 0 hpos).1
      have hspot : spot = none := by simpa [Addr.add] using World.cell?_spot hc
      subst hspot
      refine ⟨b, off, rfl, fun i t ht => ?_⟩
      rw [List.getElem?_map] at ht
      rcases Nat.lt_or_ge i len with hi | hi
      · rw [List.getElem?_range hi] at ht
        cases ht
        obtain ⟨g0, g1, g2, g3, ⟨al, cp, g4, g5⟩, _⟩ := hq i hi
        rw [Addr.add_lit] at g0 g1 g2 g3 g4
        exact ⟨lt_of_cell0 g0, g0, g1, g2, g3, al, cp, g4, g5⟩
      · rw [List.getElem?_eq_none (by simpa using hi)] at ht
        cases ht
    · intro t ht
      obtain ⟨i, hi, rfl⟩ := List.mem_map.1 ht
      exact (hq i (List.mem_range.1 hi)).2.2.2.2.2.x
    · intro t ht
      obtain ⟨i, hi, rfl⟩ := List.mem_map.1 ht
      exact (hq i (List.mem_range.1 hi)).2.2.2.2.2.l
    · intro t ht
      obtain ⟨i, hi, rfl⟩ := List.mem_map.1 ht
      exact (hq i (List.mem_range.1 hi)).2.2.2.2.2.c
end Go.Proofs.YtahdnfogdnondaaGreatDoor
