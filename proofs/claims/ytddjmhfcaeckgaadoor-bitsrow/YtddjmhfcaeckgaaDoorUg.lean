/-
  What the cards of the laws of bits share: how a row of the program and a list open into memory. No card is stated here.
-/
import Derived.Test.YtddjmhfcaeckgaaDoorT
import Derived.Test.YtddjmhfcaeckgaaDoorTie
import Derived.Test.YtddjmhfcaeckgaaDoorCards
import Derived.ProofKit
import Derived.OpenShut
import Derived.ShutString
import Derived.ChangeOld
import Derived.ChangeMaps5
import Derived.Below
import Derived.Lib.SmallJoins
import Derived.LaidMore
import Derived.Stop.Joined
import Derived.SevenTiedAt
namespace Go.Proofs.YtddjmhfcaeckgaaDoor
open Go.ChangeShapes Go.WideShapes Go.ChangeAt Go.RowKit Go.Joins
set_option linter.unusedVariables false
set_option linter.unusedSimpArgs false

theorem own : ownKnob Tryd.prog.godebug = none := by kernel_rfl
theorem laidOut : laidOutB Tryd.prog = true := by kernel_rfl
theorem cells24 : Tryd.prog.cellsOf 24 = 2 := by kernel_rfl
theorem cells66 : Tryd.prog.cellsOf 66 = 1 := by kernel_rfl
theorem cells3 : Tryd.prog.cellsOf 3 = 1 := by kernel_rfl

theorem lt_of_cell {W : World} {p : Addr} {v : Value} (h : W.cell? p = some v) : p.block < W.heap.size := by
  unfold World.cell? at h
  rcases Nat.lt_or_ge p.block W.heap.size with hl | hl
  · exact hl
  · simp [Array.getElem?_eq_none hl] at h
theorem cells_open {W : World} {a : Addr} {len : Nat} {zs : List Int} (hl : len ≤ zs.length) (h : ∀ i, i < zs.length → W.cell? (a.add i) = some (.int .u64 (zs.getD i 0))) : Cells W (some a) (zs.take len) := by
  by_cases h0 : len = 0
  · left; subst h0; simp
  obtain ⟨b, off, spot⟩ := a
  have hc := h 0 (by omega)
  have hspot : spot = none := by simpa [Addr.add] using World.cell?_spot hc
  subst hspot
  refine .inr ⟨b, off, rfl, lt_of_cell (p := ⟨b, off, none⟩) (by simpa [Addr.add] using hc), fun i hi => ?_⟩
  simp at hi
  have := h i (by omega)
  rw [Addr.add_lit] at this
  rw [this]
  simp [List.getElem?_take, show i < len by omega]
theorem icells_open {W : World} {a : Addr} {len : Nat} {zs : List Int} (hl : len ≤ zs.length) (h : ∀ i, i < zs.length → W.cell? (a.add i) = some (.int .i64 (zs.getD i 0))) : ICells W (some a) (zs.take len) := by
  by_cases h0 : len = 0
  · left; subst h0; simp
  obtain ⟨b, off, spot⟩ := a
  have hc := h 0 (by omega)
  have hspot : spot = none := by simpa [Addr.add] using World.cell?_spot hc
  subst hspot
  refine .inr ⟨b, off, rfl, lt_of_cell (p := ⟨b, off, none⟩) (by simpa [Addr.add] using hc), fun i hi => ?_⟩
  simp at hi
  have := h i (by omega)
  rw [Addr.add_lit] at this
  rw [this]
  simp [List.getElem?_take, show i < len by omega]
theorem words_open {zs : List Int} {len : Nat} (h : ∀ n ∈ zs, (Lit.int .u64 n).wf = true) : Words (zs.take len) := by
  intro i
  by_cases hi : i < (zs.take len).length
  · have hm : (zs.take len)[i] ∈ zs := List.mem_of_mem_take (List.getElem_mem hi)
    have := h _ hm
    simp [Lit.wf, IntKind.min, IntKind.max, IntKind.signed, IntKind.bits] at this
    rw [List.getD_eq_getElem?_getD, List.getElem?_eq_getElem hi]
    simp only [Option.getD_some, List.getElem_take]
    exact ⟨by omega, by omega⟩
  · rw [List.getD_eq_getElem?_getD, List.getElem?_eq_none (by omega)]
    simp

abbrev laid1 : List (String × DataW Unit) := [("math/bits.deBruijn64tab", Rows.laid_math_bits_deBruijn64tab)]
theorem door_met (os : Os) (args : Array Value) : laidMetH Tryd.prog laid1 ((World.doorLaid Tryd.prog 400 os).forCall (fun _ _ => 0) ⟨#[], args, []⟩).memory :=
  laidMetH_of_parts3 (fuel := 8) (laidMet_of_run' 8 (by kernel_rfl) (by kernel_rfl)) (by kernel_rfl) (by kernel_rfl)

/-- A row opened: its width and its words, as they lie in memory. -/
theorem open_row {H : Type} {enc : TypeId × Value → H} {W : World} {r : Reach} {b0 base : Nat} {v0 : Value} {d0 : DataW H} {p0 : List MemPlace} {held : Bool} (hval : Value.okWide Tryd.prog W r b0 24 v0) (h0 : DataW.Trod enc Tryd.prog W base (fun _ => true) held 24 v0 d0 p0) :
    ∃ x a n cap, ∃ zs : List Int, v0 = .agg #[.int .i64 x, .slice a n cap] ∧ zs.length = n ∧ n ≤ maxLen ∧ (a = none → cap = 0) ∧ Words zs ∧ Cells W a zs := by
  obtain ⟨c0, c1, y0, y1, mm, rfl, _, _, hy0, hy1⟩ := open_agg2 Tryd.underlying24 (by kernel_rfl) cells24 hval h0
  obtain ⟨x, e0, _, wx⟩ := DataW.trod_int Tryd.underlying3 hy0
  simp at e0
  subst e0
  rcases open_ints Tryd.underlying22 Tryd.underlying66 cells66 hy1 with ⟨hcs, _⟩ | ⟨a, l, c, zs, hcs, _, hl, hm, hz, _, hcell, hwz⟩
  · simp at hcs
    exact ⟨x, none, 0, 0, [], by rw [hcs], rfl, Nat.zero_le _, fun _ => rfl, fun i => by simp, .inl rfl⟩
  · simp at hcs hz
    exact ⟨x, some a, l, c, zs.take l, by rw [hcs], by simp; omega, by omega, (fun h => by cases h), words_open hwz, cells_open (by omega) hcell⟩
/-- A list of ints opened. -/
theorem open_list {H : Type} {enc : TypeId × Value → H} {W : World} {r : Reach} {b0 base : Nat} {v1 : Value} {d1 : DataW H} {p1 : List MemPlace} {held : Bool} (hval : Value.okWide Tryd.prog W r b0 36 v1) (h1 : DataW.Trod enc Tryd.prog W base (fun _ => true) held 36 v1 d1 p1) :
    ∃ a n cap, ∃ zs : List Int, v1 = .slice a n cap ∧ zs.length = n ∧ n ≤ maxLen ∧ (a = none → n = 0 ∧ cap = 0) ∧ ICells W a zs := by
  obtain ⟨a0, len0, cap0, rfl⟩ := okWide_slice Tryd.underlying36 hval
  obtain ⟨fuel, hf⟩ := h1
  rcases open_ints Tryd.underlying36 Tryd.underlying3 cells3 hf with ⟨hcs, _⟩ | ⟨a, l, c, zs, hcs, _, hl, hm, hz, _, hcell, hwz⟩
  · simp [Value.cells] at hcs
    obtain ⟨rfl, rfl, rfl⟩ := hcs
    exact ⟨none, 0, 0, [], rfl, rfl, Nat.zero_le _, fun _ => ⟨rfl, rfl⟩, .inl rfl⟩
  · simp [Value.cells] at hcs
    obtain ⟨rfl, rfl, rfl⟩ := hcs
    simp at hz
    exact ⟨some a, len0, cap0, zs.take len0, rfl, by simp; omega, by omega, (fun h => by cases h), icells_open (by omega) hcell⟩
end Go.Proofs.YtddjmhfcaeckgaaDoor
