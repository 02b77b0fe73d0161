/-
  BitsTurn returns true for every row and every list of bits, and leaves both as they were: the row of 'loanwordlaw01.BitsTurn', and its card, tied to the program's text. No condition.
-/
import Derived.Test.YtddjmhfcaeckgaaDoorT
import Derived.Test.YtddjmhfcaeckgaaDoorTie
import Derived.Test.YtddjmhfcaeckgaaDoorCards
import Derived.ProofKit
import Derived.OpenShut
import Derived.ShutString
import Derived.ChangeOld
import Derived.Below
import Derived.Lib.SmallJoins
import Derived.LaidMore
import Derived.Stop.Joined
import Derived.SevenTiedAt
namespace Go.Proofs.YtddjmhfcaeckgaaDoor
open Go.ChangeShapes Go.WideShapes Go.ChangeAt Go.RowKit Go.Joins
set_option linter.unusedVariables false
set_option linter.unusedSimpArgs false

theorem own : ownKnob Tryd.prog.godebug = none := by kernel_rfl
theorem laidOut : laidOutB Tryd.prog = true := by kernel_rfl
theorem cells24 : Tryd.prog.cellsOf 24 = 2 := by kernel_rfl
theorem cells66 : Tryd.prog.cellsOf 66 = 1 := by kernel_rfl
theorem cells3 : Tryd.prog.cellsOf 3 = 1 := by kernel_rfl

theorem lt_of_cell {W : World} {p : Addr} {v : Value} (h : W.cell? p = some v) : p.block < W.heap.size := by
  unfold World.cell? at h
  rcases Nat.lt_or_ge p.block W.heap.size with hl | hl
  · exact hl
  · simp [Array.getElem?_eq_none hl] at h
theorem cells_open {W : World} {a : Addr} {len : Nat} {zs : List Int} (hl : len ≤ zs.length) (h : ∀ i, i < zs.length → W.cell? (a.add i) = some (.int .u64 (zs.getD i 0))) : Cells W (some a) (zs.take len) := by
  by_cases h0 : len = 0
  · left; subst h0; simp
  obtain ⟨b, off, spot⟩ := a
  have hc := h 0 (by omega)
  have hspot : spot = none := by simpa [Addr.add] using World.cell?_spot hc
  subst hspot
  refine .inr ⟨b, off, rfl, lt_of_cell (p := ⟨b, off, none⟩) (by simpa [Addr.add] using hc), fun i hi => ?_⟩
  simp at hi
  have := h i (by omega)
  rw [Addr.add_lit] at this
  rw [this]
  simp [List.getElem?_take, show i < len by omega]
theorem icells_open {W : World} {a : Addr} {len : Nat} {zs : List Int} (hl : len ≤ zs.length) (h : ∀ i, i < zs.length → W.cell? (a.add i) = some (.int .i64 (zs.getD i 0))) : ICells W (some a) (zs.take len) := by
  by_cases h0 : len = 0
  · left; subst h0; simp
  obtain ⟨b, off, spot⟩ := a
  have hc := h 0 (by omega)
  have hspot : spot = none := by simpa [Addr.add] using World.cell?_spot hc
  subst hspot
  refine .inr ⟨b, off, rfl, lt_of_cell (p := ⟨b, off, none⟩) (by simpa [Addr.add] using hc), fun i hi => ?_⟩
  simp at hi
  have := h i (by omega)
  rw [Addr.add_lit] at this
  rw [this]
  simp [List.getElem?_take, show i < len by omega]
theorem words_open {zs : List Int} {len : Nat} (h : ∀ n ∈ zs, (Lit.int .u64 n).wf = true) : Words (zs.take len) := by
  intro i
  by_cases hi : i < (zs.take len).length
  · have hm : (zs.take len)[i] ∈ zs := List.mem_of_mem_take (List.getElem_mem hi)
    have := h _ hm
    simp [Lit.wf, IntKind.min, IntKind.max, IntKind.signed, IntKind.bits] at this
    rw [List.getD_eq_getElem?_getD, List.getElem?_eq_getElem hi]
    simp only [Option.getD_some, List.getElem_take]
    exact ⟨by omega, by omega⟩
  · rw [List.getD_eq_getElem?_getD, List.getElem?_eq_none (by omega)]
    simp

/-- BitsTurn's walk, for every row and list. -/
theorem bitsTurn_walk (x : Int) (a : Option Addr) (n cap : Nat) (zs : List Int) (al : Option Addr) (m capl : Nat) (ks : List Int) (w : World) (hz : zs.length = n) (hn : n ≤ maxLen) (hw : Words zs) (hnil : a = none → cap = 0) (hc : Cells w a zs)
    (hk : ks.length = m) (hm : m ≤ maxLen) (hkn : al = none → m = 0 ∧ capl = 0) (hl : ICells w al ks) :
    Calls Tryd.prog 4 #[.agg #[.int .i64 x, .slice a n cap], .slice al m capl] w fun e w' => e = .returned (.bool true) ∧ Below w.heap.size w w' := by
  by_cases h : 4096 < n ∨ 4096 < m
  · exact bitsTurn_long x a n cap al m capl w hn hm h
  · exact bitsTurn_short x a n cap zs al m capl ks w hz (by omega) hw hnil hc hk (by omega) hkn hl

abbrev laid1 : List (String × DataW Unit) := [("math/bits.deBruijn64tab", Rows.laid_math_bits_deBruijn64tab)]
theorem door_met (os : Os) (args : Array Value) : laidMetH Tryd.prog laid1 ((World.doorLaid Tryd.prog 400 os).forCall (fun _ _ => 0) ⟨#[], args, []⟩).memory :=
  laidMetH_of_parts3 (fuel := 8) (laidMet_of_run' 8 (by kernel_rfl) (by kernel_rfl)) (by kernel_rfl) (by kernel_rfl)

set_option maxRecDepth 100000 in
theorem bitsTurn_lifted (os : Os) (started : os.Started) (H : Type) (enc : TypeId × Value → H) :
    ReturnsInHanded {} Tryd.checked os 4 .any (fun w args => (Rows.bitsTurnSpec.pre enc Tryd.prog Tryd.f4 [] false w args ∧ laidMetH Tryd.prog laid1 w) ∧ sizedMet enc Tryd.prog Tryd.f4 (OpenSpec.ofChange Rows.bitsTurnSpec) false w args)
      (Rows.bitsTurnSpec.post enc Tryd.prog Tryd.f4 false true false false) := by
  refine returnsInHanded_of_change_and (C := Tryd.checked) (X := fun w _ => laidMetH Tryd.prog laid1 w) (fun _ _ _ hh h => h.of_heap hh) own started (by kernel_rfl) Tryd.func4
    (ChangeSpec.witness_shaped (enc := enc) (C := Tryd.checked) (os := os) (X := fun w _ => laidMetH Tryd.prog laid1 w) false (World.doorLaid Tryd.prog 400 os) #[.agg #[.int .i64 0, .slice none 0 0], .slice none 0 0] 8 rfl (World.shaped_of_RefB (by kernel_rfl) (by kernel_rfl)) (by kernel_rfl) (by kernel_rfl) (by kernel_rfl) (door_met os _)) ?_
  intro W base args ds gs before hval0 hW _ _ hL _
  have hval : ∀ (j : Nat) t v, Tryd.f4.params[j]? = some t → args[j]? = some v → Value.okWide Tryd.prog W .any base t v := hval0
  have hW' := hW
  obtain ⟨p, q, hA0, hV, rfl, hfz, hnd⟩ := hW
  have hA : DataW.TrodAll enc Tryd.prog W 0 (fun _ => true) true Tryd.f4.params.toList args.toList ds p := hA0
  rw [Tryd.params4] at hA hval
  obtain ⟨v0, vs0, d0, ds0, p0, q0, hargs, rfl, rfl, h0, r0⟩ := trodAll_cons hA
  obtain ⟨v1, vs1, d1, ds1, p1, q1, rfl, rfl, rfl, h1, r1⟩ := trodAll_cons r0
  obtain ⟨rfl, rfl, rfl⟩ := trodAll_nil r1
  obtain rfl : args = #[v0, v1] := by cases args; simp_all
  obtain ⟨rfl, rfl⟩ := trodVars_none hV
  have k0 := h0
  have lt0 : ∀ x ∈ p0, x.block < W.heap.size := by obtain ⟨m, hm⟩ := k0; exact DataW.trod_lt m _ _ _ hm
  have k1 := h1
  have lt1 : ∀ x ∈ p1, x.block < W.heap.size := by obtain ⟨m, hm⟩ := k1; exact DataW.trod_lt m _ _ _ hm
  obtain ⟨c0, c1, y0, y1, mm, rfl, _, _, hy0, hy1⟩ := open_agg2 Tryd.underlying24 (by kernel_rfl) cells24 (hval 0 24 v0 rfl rfl) h0
  obtain ⟨x, e0, _, wx⟩ := DataW.trod_int Tryd.underlying3 hy0
  simp at e0
  subst e0
  obtain ⟨a, n, cap, zs, rfl, hz, hn, hnil, hw, hc⟩ : ∃ a n cap, ∃ zs : List Int, c1 = .slice a n cap ∧ zs.length = n ∧ n ≤ maxLen ∧ (a = none → cap = 0) ∧ Words zs ∧ Cells W a zs := by
    rcases open_ints Tryd.underlying22 Tryd.underlying66 cells66 hy1 with ⟨hcs, _⟩ | ⟨a, l, c, zs, hcs, _, hl, hm, hz, _, hcell, hwz⟩
    · simp at hcs
      exact ⟨none, 0, 0, [], hcs, rfl, Nat.zero_le _, fun _ => rfl, fun i => by simp, .inl rfl⟩
    · simp at hcs hz
      exact ⟨some a, l, c, zs.take l, hcs, by simp; omega, by omega, (fun h => by cases h), words_open hwz, cells_open (by omega) hcell⟩
  obtain ⟨al, m, capl, ks, rfl, hk, hm, hkn, hl⟩ : ∃ a n cap, ∃ zs : List Int, v1 = .slice a n cap ∧ zs.length = n ∧ n ≤ maxLen ∧ (a = none → n = 0 ∧ cap = 0) ∧ ICells W a zs := by
    obtain ⟨a0, len0, cap0, rfl⟩ := okWide_slice Tryd.underlying36 (hval 1 36 v1 rfl rfl)
    obtain ⟨fuel, hf⟩ := h1
    rcases open_ints Tryd.underlying36 Tryd.underlying3 cells3 hf with ⟨hcs, _⟩ | ⟨a, l, c, zs, hcs, _, hl, hm, hz, _, hcell, hwz⟩
    · simp [Value.cells] at hcs
      obtain ⟨rfl, rfl, rfl⟩ := hcs
      exact ⟨none, 0, 0, [], rfl, rfl, Nat.zero_le _, fun _ => ⟨rfl, rfl⟩, .inl rfl⟩
    · simp [Value.cells] at hcs
      obtain ⟨rfl, rfl, rfl⟩ := hcs
      simp at hz
      exact ⟨some a, len0, cap0, zs.take len0, rfl, by simp; omega, by omega, (fun h => by cases h), icells_open (by omega) hcell⟩
  clear hA0 hval0
  refine (bitsTurn_walk x a n cap zs al m capl ks W hz hn hw hnil hc hk hm hkn hl).mono fun e W' ⟨he, bel⟩ => ?_
  subst he
  exact ⟨_, rfl, _, _, _, [], _, [], hW', trodAll_mk1 (shut_bool Tryd.underlying4 _), (trodAll_cons_mk (Below.trod laidOut (by kernel_rfl) (of_decide_eq_true (by kernel_rfl)) k0 bel lt0) (trodAll_cons_mk (Below.trod laidOut (by kernel_rfl) (of_decide_eq_true (by kernel_rfl)) k1 bel lt1) trodAll_mk0)), rfl, bel.frame _, fun h => by cases h⟩

theorem bitsTurn_row : Rows.BitsTurnSaid :=
  OpenClaim.holds_of_wide 4 Tryd.f4 rfl rfl rfl rfl rfl rfl rfl ⟨rfl, rfl, rfl, rfl, rfl⟩ rfl rfl rfl rfl rfl (by kernel_rfl) Tryd.func4 (by kernel_rfl)
    (of_decide_eq_true (by kernel_rfl)) (by unfold Func.isWrapper; first | (rw [if_pos (by decide +kernel)]; kernel_rfl) | (rw [if_neg (by decide +kernel)]; exact ⟨rfl, rfl⟩))
    (fun os started H enc _ => bitsTurn_lifted os started H enc)

theorem bitsTurn_holds : Rows.BitsTurnCardSaid :=
  Claim7.holds_tied_plain_at .later [] [.data] true (true, "f4bd6360ec719076ea0f1581d6ddc68ca2329c5db1e66cedaf07ef3bd4e35a15") false
    bitsTurn_row (fun _ h => by cases h) (by kernel_rfl) (fun _ h => by cases h) bitsTurn_row_tie rfl ⟨rfl, rfl⟩ (by kernel_rfl) rfl
    (fun f fn hf hfn => by
      obtain rfl : f = 4 := Option.some.inj ((show Tryd.prog.funcNamed "loanword/loanwordlaw01.BitsTurn" = some 4 by kernel_rfl).symm.trans hf) |>.symm
      obtain rfl : fn = Tryd.f4 := (Option.some.inj (Tryd.func4.symm.trans hfn)).symm
      exact ⟨by kernel_rfl, fun j t ht => by
        rw [Tryd.params4] at ht
        have hm : t ∈ [24, 36] := by simpa using Array.mem_of_getElem? ht
        have hall : ([24, 36].all fun u => !Tryd.prog.wantsStandIn u) = true := by kernel_rfl
        exact (show Tryd.prog.wantsStandIn t = false by simpa using List.all_eq_true.1 hall t hm)⟩)
    (by kernel_rfl)
#print axioms bitsTurn_holds
end Go.Proofs.YtddjmhfcaeckgaaDoor
