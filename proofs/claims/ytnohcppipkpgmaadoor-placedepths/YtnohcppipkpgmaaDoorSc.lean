import Derived.Test.YtnohcppipkpgmaaDoorSa
import Derived.Test.YtnohcppipkpgmaaDoorTie
import Derived.Test.YtnohcppipkpgmaaDoorCards
import Derived.ProofKit
import Derived.OpenShut
import Derived.ShutString
import Derived.ChangeOld
import Derived.ChangeMaps5
import Derived.ChangeSlices
import Derived.Below
import Derived.Lib.SmallJoins
import Derived.LaidMore
import Derived.Stop.Joined
import Derived.SevenTiedAt
import Derived.HandedShaped
import Derived.Lay
import Derived.MakeChecks
import Derived.Deep.Slices
namespace Go.Proofs.YtnohcppipkpgmaaDoor
open Go.ChangeShapes Go.WideShapes Go.ChangeAt Go.RowKit Go.Joins Go.Shelf Go.WideElems Go.Maps
set_option linter.unusedVariables false
set_option linter.unusedSimpArgs false

theorem own : ownKnob Tryd.prog.godebug = none := by kernel_rfl
theorem laidOut : laidOutB Tryd.prog = true := by kernel_rfl
/-- A row with listed variables, out of a contract that is also told the world's shape. -/
theorem lift_shaped {H : Type} {enc : TypeId × Value → H} {a : Assume} {C : Checked} {os : Os} {f : FuncId} {fn : Func} {s : ChangeSpec} {conds : List PathCond} {apart fresh handsOn again : Bool} {X : World → Array Value → Prop}
    (hX : ∀ (w w' : World) (args : Array Value), w.heap = w'.heap → X w args → X w' args)
    (own : ownKnob C.prog.godebug = none) (started : os.Started) (noInit : C.prog.inits.idxOf? f = none) (hfn : C.prog.funcs[f]? = some fn)
    (witness : ∃ (w : World) (tape : Tape) (i : Input), w.os = os ∧ (w.forCall tape i).Shaped C.prog ∧ i.vars = [] ∧ Input.okWide C.prog (w.forCall tape i) .any w.heap.size f i ∧
      ((s.pre enc C.prog fn conds apart (w.forCall tape i).memory i.args ∧ X (w.forCall tape i).memory i.args) ∧ sizedMet enc C.prog fn (OpenSpec.ofChange s) apart (w.forCall tape i).memory i.args) ∧ a.holds C.prog (lone (Frame.enter C.prog f i.args .normal) [] (w.forCall tape i)))
    (contract : ∀ (W : World) (base : Nat) (args : Array Value) (ds gs : List (DataW H)) (before : List MemPlace),
      (∀ (j : Nat) t v, fn.params[j]? = some t → args[j]? = some v → Value.okWide C.prog W .any base t v) →
      DataW.Whole enc C.prog fn.params.toList s.vars apart W args.toList ds gs before → X W args → W.ShapedOpen C.prog →
      Calls C.prog f args W fun e W' => ∃ v, e = .returned v ∧ s.post enc C.prog fn apart fresh handsOn again W args v W') :
    ReturnsInHanded a C os f .any (fun w args => (s.pre enc C.prog fn conds apart w args ∧ X w args) ∧ sizedMet enc C.prog fn (OpenSpec.ofChange s) apart w args) (s.post enc C.prog fn apart fresh handsOn again) := by
  apply returnsInHanded_of_calls own started noInit witness
  rintro w tape i - shape - ok ⟨⟨⟨ds, gs, before, whole, -⟩, x⟩, -⟩ -
  obtain ⟨_, _, _, fn', is, _, _, _, _, vals⟩ := ok
  cases Option.some.inj (is.symm.trans hfn)
  refine (contract (w.forCall tape i) w.heap.size i.args ds gs before vals (whole.of_heap (w' := w.forCall tape i) (by rfl)) (hX _ _ _ (by rfl) x) shape).mono ?_
  rintro e W' ⟨v, rfl, post⟩
  exact ChangeSpec.post_blind post
abbrev laidT : List (String × DataW Unit) := [("math/bits.deBruijn32tab", Rows.laid_math_bits_deBruijn32tab), ("math/bits.deBruijn64tab", Rows.laid_math_bits_deBruijn64tab), ("internal/strconv.uint64pow10", Rows.laid_internal_strconv_uint64pow10)]
set_option maxRecDepth 100000 in
theorem door_metT (os : Os) (args : Array Value) : laidMetH Tryd.prog laidT ((World.laidAll Tryd.prog os laidT).forCall (fun _ _ => 0) ⟨#[], args, []⟩).memory := by
  rw [MakeChecks.laidMetH_plain _ _ _ (by kernel_rfl)]
  exact laidMet_laidAll _ (by kernel_rfl) (by kernel_rfl)
theorem lt_of_cell0 {w : World} {b off : Nat} {v : Value} (h : w.cell? ⟨b, off, none⟩ = some v) : b < w.heap.size := by
  rcases Nat.lt_or_ge b w.heap.size with h1 | h1
  · exact h1
  · rw [World.cell?] at h
    simp [Array.getElem?_eq_none h1] at h
theorem trod_struct2 {H : Type} {enc : TypeId × Value → H} {P : Program} {w : World} {base : Nat} {spare : Nat → Bool} {held : Bool} {t : TypeId} {f0 f1 : Field} {fuel : Nat} {cs : List Value} {x : DataW H × List MemPlace} (ht : P.underlying t = some (.struct #[f0, f1])) (h : DataW.trod enc P w base spare held fuel t cs = some x) :
    ∃ y0 y1 n, fuel = n + 1 ∧ cs.length = P.cellsOf t ∧ DataW.trod enc P w base spare held n f0.type ((cs.drop f0.offset).take (P.cellsOf f0.type)) = some y0 ∧ DataW.trod enc P w base spare held n f1.type ((cs.drop f1.offset).take (P.cellsOf f1.type)) = some y1 := by
  obtain ⟨xs, n, hfu, rfl, hl, hlen, hf⟩ := DataW.trod_struct ht h
  match xs, hlen with
  | [y0, y1], _ => exact ⟨y0, y1, n, hfu, hl, by simpa using hf 0 f0 rfl, by simpa using hf 1 f1 rfl⟩
theorem two26 : ∃ f0 f1, Tryd.prog.underlying 26 = some (.struct #[f0, f1]) ∧ f0.type = 3 ∧ f1.type = 24 ∧ f0.offset = 0 ∧ f1.offset = 1 := ⟨_, _, Tryd.underlying26, rfl, rfl, rfl, rfl⟩
theorem ones26 : Tryd.prog.cellsOf 3 = 1 ∧ Tryd.prog.cellsOf 24 = 1 ∧ Tryd.prog.cellsOf 26 = 2 ∧ Tryd.prog.cellsOf 62 = 1 := ⟨by kernel_rfl, by kernel_rfl, by kernel_rfl, by kernel_rfl⟩
set_option maxRecDepth 100000 in
/-- A path opened. -/
theorem open_path {H : Type} {enc : TypeId × Value → H} {W : World} {base : Nat} {sp : Nat → Bool} {held : Bool} (n : Nat) (cs : List Value) (x : DataW H × List MemPlace) (h : DataW.trod enc Tryd.prog W base sp held n 24 cs = some x) :
    ∃ a n cap X, cs = [.slice a n cap] ∧ IntR W a n cap X := by
  rcases DataW.trod_slice Tryd.underlying24 h with ⟨hcs, _⟩ | ⟨a, len0, cap0, elems, rest, m2, hm2, hcs, _, hb, hl, hc, hel, hx, _, _⟩
  · exact ⟨none, 0, 0, [], hcs, ⟨rfl, Nat.le_refl _, by simp, fun hne => absurd rfl hne, fun x hx => by simp at hx, fun _ => rfl⟩⟩
  · rw [ones26.2.2.2] at hx
    have each : ∀ i, i < len0 → ∃ x : Int, W.cell? (a.add i) = some (.int .i64 x) ∧ (-9223372036854775808 ≤ x ∧ x ≤ 9223372036854775807) := fun i hi => by
      have hxi := hx i hi
      rw [List.getElem?_eq_getElem (by omega), Option.bind_eq_some_iff] at hxi
      obtain ⟨cs', hc1, hc2⟩ := hxi
      obtain ⟨x, q0, _, w0⟩ := DataW.trod_int Tryd.underlying62 hc2
      subst q0
      obtain ⟨_, hln, hcell⟩ := World.cells?_some hc1
      have g0 := hcell 0 (by omega)
      simp [Lit.wf, IntKind.min, IntKind.max, IntKind.signed, IntKind.bits] at w0
      refine ⟨x, by simpa [Addr.add] using g0, by omega⟩
    obtain ⟨q, hq⟩ := Deep.choose_lt each
    refine ⟨some a, len0, cap0, (List.range len0).map q, hcs, ⟨by simp, by omega, by omega, fun hne => ?_, fun x hx => ?_, fun e => by cases e⟩⟩
    · have hpos : 0 < len0 := by
        rcases Nat.eq_zero_or_pos len0 with h | h
        · subst h; exact absurd rfl hne
        · exact h
      obtain ⟨b, off, spot⟩ := a
      have hc0 := (hq 0 hpos).1
      have hspot : spot = none := by simpa [Addr.add] using World.cell?_spot hc0
      subst hspot
      refine ⟨b, off, rfl, ?_, fun i x hxi => ?_⟩
      · have := (hq 0 hpos).1
        rw [Addr.add_lit] at this
        exact lt_of_cell0 this
      · have hi : i < len0 := by simpa using (List.getElem?_eq_some_iff.1 hxi).1
        rw [List.getElem?_map, List.getElem?_range hi] at hxi
        cases hxi
        have := (hq i hi).1
        rw [Addr.add_lit] at this
        exact this
    · simp at hx
      obtain ⟨i, hi, rfl⟩ := hx
      exact (hq i hi).2
set_option maxRecDepth 100000 in
/-- A place opened. -/
theorem open_place {H : Type} {enc : TypeId × Value → H} {W : World} {r : Reach} {b0 base : Nat} {v : Value} {d : DataW H} {p : List MemPlace} {held : Bool} (hval : Value.okWide Tryd.prog W r b0 26 v) (h : DataW.Trod enc Tryd.prog W base (fun _ => true) held 26 v d p) :
    ∃ (x : Pt) (q : List Int), v = x.v ∧ PAt W x q := by
  obtain ⟨cs, rfl, hsz⟩ := okWide_struct Tryd.underlying26 hval
  rw [ones26.2.2.1] at hsz
  obtain ⟨fuel, hf⟩ := h
  obtain ⟨f0, f1, hu, e0, e1, o0, o1⟩ := two26
  obtain ⟨y0, y1, m, hm, hlen, h0, h1⟩ := trod_struct2 hu hf
  obtain ⟨l⟩ := cs
  match l, hsz with
  | [c0, c1], _ =>
    rw [o0, e0, ones26.1] at h0
    rw [o1, e1, ones26.2.1] at h1
    simp [Value.cells] at h0 h1
    obtain ⟨x, q0, _, w0⟩ := DataW.trod_int Tryd.underlying3 h0
    simp [Lit.wf, IntKind.min, IntKind.max, IntKind.signed, IntKind.bits] at w0
    obtain ⟨a, n, cap, X, q1, hX⟩ := open_path _ _ _ h1
    simp at q0 q1
    subst q0 q1
    exact ⟨⟨x, a, n, cap⟩, X, rfl, ⟨hX, by show (-9223372036854775808 : Int) ≤ x; omega, by show x ≤ (9223372036854775807 : Int); omega⟩⟩
theorem laid_pow : (Rows.laid_internal_strconv_uint64pow10 : DataW Unit) = Lib.tabData .u64 Lib.pow10Tab := by kernel_rfl
theorem laidMet_tail {P : Program} {x : String × DataW Unit} {l : List (String × DataW Unit)} {W : World} (h : laidMet P (x :: l) W) : laidMet P l W := by
  obtain ⟨ps, ⟨g', t', cs, fuel, p, q, hg', ht', hvar, hd, hrest, e⟩, hnd, hcell⟩ := h
  subst e
  exact ⟨q, hrest, (List.nodup_append.1 hnd).2.1, fun b off hm => hcell b off (List.mem_append_right _ hm)⟩
theorem pow_of_laid {W : World} (hL : laidMetH Tryd.prog laidT W) : Lib.TabIs Tryd.prog W "internal/strconv.uint64pow10" .u64 Lib.pow10Tab := by
  have h : laidMet Tryd.prog laidT W := hL
  have h' := laidMet_tail (laidMet_tail h)
  rw [laid_pow] at h'
  exact Lib.tabIs_of_head (g := 0) (t := 145) (e := 132) (n := 20) (by kernel_rfl) (by kernel_rfl) Tryd.underlying145 Tryd.underlying132 (by kernel_rfl) (by kernel_rfl) h'
theorem tab_of_laid {W : World} (hL : laidMetH Tryd.prog laidT W) : TabOk W := fun W' hW' => tab_stays (by kernel_rfl : Tryd.prog.globalNamed "internal/strconv.uint64pow10" = some 0) (pow_of_laid hL) hW' (Nat.le_refl _)
end Go.Proofs.YtnohcppipkpgmaaDoor
