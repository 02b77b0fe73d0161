/-
  PlaceWithin returns true for all structs, all locals, every two places and every depth, and leaves them as they were: the row of 'loanwordlaw09.PlaceWithin', and its card, tied to the program's text. No condition beyond the statement's own (the library's tables laid).
-/
import Derived.Test.YtnohcppipkpgmaaDoorSa
import Derived.Test.YtnohcppipkpgmaaDoorTie
import Derived.Test.YtnohcppipkpgmaaDoorCards
import Derived.ProofKit
import Derived.OpenShut
import Derived.ShutString
import Derived.ChangeOld
import Derived.ChangeMaps5
import Derived.ChangeSlices
import Derived.Below
import Derived.Lib.SmallJoins
import Derived.LaidMore
import Derived.Stop.Joined
import Derived.SevenTiedAt
import Derived.HandedShaped
import Derived.Lay
import Derived.MakeChecks
import Derived.Deep.Slices
import Derived.Test.YtnohcppipkpgmaaDoorVb
namespace Go.Proofs.YtnohcppipkpgmaaDoor
open Go.ChangeShapes Go.WideShapes Go.ChangeAt Go.RowKit Go.Joins Go.Shelf Go.WideElems Go.Maps
set_option linter.unusedVariables false
set_option linter.unusedSimpArgs false

theorem own : ownKnob Tryd.prog.godebug = none := by kernel_rfl
theorem laidOut : laidOutB Tryd.prog = true := by kernel_rfl
/-- A row with listed variables, out of a contract that is also told the world's shape. -/
theorem lift_shaped {H : Type} {enc : TypeId × Value → H} {a : Assume} {C : Checked} {os : Os} {f : FuncId} {fn : Func} {s : ChangeSpec} {conds : List PathCond} {apart fresh handsOn again : Bool} {X : World → Array Value → Prop}
    (hX : ∀ (w w' : World) (args : Array Value), w.heap = w'.heap → X w args → X w' args)
    (own : ownKnob C.prog.godebug = none) (started : os.Started) (noInit : C.prog.inits.idxOf? f = none) (hfn : C.prog.funcs[f]? = some fn)
    (witness : ∃ (w : World) (tape : Tape) (i : Input), w.os = os ∧ (w.forCall tape i).Shaped C.prog ∧ i.vars = [] ∧ Input.okWide C.prog (w.forCall tape i) .any w.heap.size f i ∧
      ((s.pre enc C.prog fn conds apart (w.forCall tape i).memory i.args ∧ X (w.forCall tape i).memory i.args) ∧ sizedMet enc C.prog fn (OpenSpec.ofChange s) apart (w.forCall tape i).memory i.args) ∧ a.holds C.prog (lone (Frame.enter C.prog f i.args .normal) [] (w.forCall tape i)))
    (contract : ∀ (W : World) (base : Nat) (args : Array Value) (ds gs : List (DataW H)) (before : List MemPlace),
      (∀ (j : Nat) t v, fn.params[j]? = some t → args[j]? = some v → Value.okWide C.prog W .any base t v) →
      DataW.Whole enc C.prog fn.params.toList s.vars apart W args.toList ds gs before → X W args → W.ShapedOpen C.prog →
      Calls C.prog f args W fun e W' => ∃ v, e = .returned v ∧ s.post enc C.prog fn apart fresh handsOn again W args v W') :
    ReturnsInHanded a C os f .any (fun w args => (s.pre enc C.prog fn conds apart w args ∧ X w args) ∧ sizedMet enc C.prog fn (OpenSpec.ofChange s) apart w args) (s.post enc C.prog fn apart fresh handsOn again) := by
  apply returnsInHanded_of_calls own started noInit witness
  rintro w tape i - shape - ok ⟨⟨⟨ds, gs, before, whole, -⟩, x⟩, -⟩ -
  obtain ⟨_, _, _, fn', is, _, _, _, _, vals⟩ := ok
  cases Option.some.inj (is.symm.trans hfn)
  refine (contract (w.forCall tape i) w.heap.size i.args ds gs before vals (whole.of_heap (w' := w.forCall tape i) (by rfl)) (hX _ _ _ (by rfl) x) shape).mono ?_
  rintro e W' ⟨v, rfl, post⟩
  exact ChangeSpec.post_blind post
abbrev laidT : List (String × DataW Unit) := [("math/bits.deBruijn32tab", Rows.laid_math_bits_deBruijn32tab), ("math/bits.deBruijn64tab", Rows.laid_math_bits_deBruijn64tab), ("internal/strconv.uint64pow10", Rows.laid_internal_strconv_uint64pow10)]
set_option maxRecDepth 100000 in
theorem door_metT (os : Os) (args : Array Value) : laidMetH Tryd.prog laidT ((World.laidAll Tryd.prog os laidT).forCall (fun _ _ => 0) ⟨#[], args, []⟩).memory := by
  rw [MakeChecks.laidMetH_plain _ _ _ (by kernel_rfl)]
  exact laidMet_laidAll _ (by kernel_rfl) (by kernel_rfl)
theorem lt_of_cell0 {w : World} {b off : Nat} {v : Value} (h : w.cell? ⟨b, off, none⟩ = some v) : b < w.heap.size := by
  rcases Nat.lt_or_ge b w.heap.size with h1 | h1
  · exact h1
  · rw [World.cell?] at h
    simp [Array.getElem?_eq_none h1] at h
theorem trod_struct2 {H : Type} {enc : TypeId × Value → H} {P : Program} {w : World} {base : Nat} {spare : Nat → Bool} {held : Bool} {t : TypeId} {f0 f1 : Field} {fuel : Nat} {cs : List Value} {x : DataW H × List MemPlace} (ht : P.underlying t = some (.struct #[f0, f1])) (h : DataW.trod enc P w base spare held fuel t cs = some x) :
    ∃ y0 y1 n, fuel = n + 1 ∧ cs.length = P.cellsOf t ∧ DataW.trod enc P w base spare held n f0.type ((cs.drop f0.offset).take (P.cellsOf f0.type)) = some y0 ∧ DataW.trod enc P w base spare held n f1.type ((cs.drop f1.offset).take (P.cellsOf f1.type)) = some y1 := by
  obtain ⟨xs, n, hfu, rfl, hl, hlen, hf⟩ := DataW.trod_struct ht h
  match xs, hlen with
  | [y0, y1], _ => exact ⟨y0, y1, n, hfu, hl, by simpa using hf 0 f0 rfl, by simpa using hf 1 f1 rfl⟩
theorem two26 : ∃ f0 f1, Tryd.prog.underlying 26 = some (.struct #[f0, f1]) ∧ f0.type = 3 ∧ f1.type = 24 ∧ f0.offset = 0 ∧ f1.offset = 1 := ⟨_, _, Tryd.underlying26, rfl, rfl, rfl, rfl⟩
theorem ones26 : Tryd.prog.cellsOf 3 = 1 ∧ Tryd.prog.cellsOf 24 = 1 ∧ Tryd.prog.cellsOf 26 = 2 ∧ Tryd.prog.cellsOf 62 = 1 := ⟨by kernel_rfl, by kernel_rfl, by kernel_rfl, by kernel_rfl⟩
set_option maxRecDepth 100000 in
/-- A path opened. -/
theorem open_path {H : Type} {enc : TypeId × Value → H} {W : World} {base : Nat} {sp : Nat → Bool} {held : Bool} (n : Nat) (cs : List Value) (x : DataW H × List MemPlace) (h : DataW.trod enc Tryd.prog W base sp held n 24 cs = some x) :
    ∃ a n cap X, cs = [.slice a n cap] ∧ IntR W a n cap X := by
  rcases DataW.trod_slice Tryd.underlying24 h with ⟨hcs, _⟩ | ⟨a, len0, cap0, elems, rest, m2, hm2, hcs, _, hb, hl, hc, hel, hx, _, _⟩
  · exact ⟨none, 0, 0, [], hcs, ⟨rfl, Nat.le_refl _, by simp, fun hne => absurd rfl hne, fun x hx => by simp at hx, fun _ => rfl⟩⟩
  · rw [ones26.2.2.2] at hx
    have each : ∀ i, i < len0 → ∃ x : Int, W.cell? (a.add i) = some (.int .i64 x) ∧ (-9223372036854775808 ≤ x ∧ x ≤ 9223372036854775807) := fun i hi => by
      have hxi := hx i hi
      rw [List.getElem?_eq_getElem (by omega), Option.bind_eq_some_iff] at hxi
      obtain ⟨cs', hc1, hc2⟩ := hxi
      obtain ⟨x, q0, _, w0⟩ := DataW.trod_int Tryd.underlying62 hc2
      subst q0
      obtain ⟨_, hln, hcell⟩ := World.cells?_some hc1
      have g0 := hcell 0 (by omega)
      simp [Lit.wf, IntKind.min, IntKind.max, IntKind.signed, IntKind.bits] at w0
      refine ⟨x, by simpa [Addr.add] using g0, by omega⟩
    obtain ⟨q, hq⟩ := Deep.choose_lt each
    refine ⟨some a, len0, cap0, (List.range len0).map q, hcs, ⟨by simp, by omega, by omega, fun hne => ?_, fun x hx => ?_, fun e => by cases e⟩⟩
    · have hpos : 0 < len0 := by
        rcases Nat.eq_zero_or_pos len0 with h | h
        · subst h; exact absurd rfl hne
        · exact h
      obtain ⟨b, off, spot⟩ := a
      have hc0 := (hq 0 hpos).1
      have hspot : spot = none := by simpa [Addr.add] using World.cell?_spot hc0
      subst hspot
      refine ⟨b, off, rfl, ?_, fun i x hxi => ?_⟩
      · have := (hq 0 hpos).1
        rw [Addr.add_lit] at this
        exact lt_of_cell0 this
      · have hi : i < len0 := by simpa using (List.getElem?_eq_some_iff.1 hxi).1
        rw [List.getElem?_map, List.getElem?_range hi] at hxi
        cases hxi
        have := (hq i hi).1
        rw [Addr.add_lit] at this
        exact this
    · simp at hx
      obtain ⟨i, hi, rfl⟩ := hx
      exact (hq i hi).2
set_option maxRecDepth 100000 in
/-- A place opened. -/
theorem open_place {H : Type} {enc : TypeId × Value → H} {W : World} {r : Reach} {b0 base : Nat} {v : Value} {d : DataW H} {p : List MemPlace} {held : Bool} (hval : Value.okWide Tryd.prog W r b0 26 v) (h : DataW.Trod enc Tryd.prog W base (fun _ => true) held 26 v d p) :
    ∃ (x : Pt) (q : List Int), v = x.v ∧ PAt W x q := by
  obtain ⟨cs, rfl, hsz⟩ := okWide_struct Tryd.underlying26 hval
  rw [ones26.2.2.1] at hsz
  obtain ⟨fuel, hf⟩ := h
  obtain ⟨f0, f1, hu, e0, e1, o0, o1⟩ := two26
  obtain ⟨y0, y1, m, hm, hlen, h0, h1⟩ := trod_struct2 hu hf
  obtain ⟨l⟩ := cs
  match l, hsz with
  | [c0, c1], _ =>
    rw [o0, e0, ones26.1] at h0
    rw [o1, e1, ones26.2.1] at h1
    simp [Value.cells] at h0 h1
    obtain ⟨x, q0, _, w0⟩ := DataW.trod_int Tryd.underlying3 h0
    simp [Lit.wf, IntKind.min, IntKind.max, IntKind.signed, IntKind.bits] at w0
    obtain ⟨a, n, cap, X, q1, hX⟩ := open_path _ _ _ h1
    simp at q0 q1
    subst q0 q1
    exact ⟨⟨x, a, n, cap⟩, X, rfl, ⟨hX, by show (-9223372036854775808 : Int) ≤ x; omega, by show x ≤ (9223372036854775807 : Int); omega⟩⟩
theorem laid_pow : (Rows.laid_internal_strconv_uint64pow10 : DataW Unit) = Lib.tabData .u64 Lib.pow10Tab := by kernel_rfl
theorem laidMet_tail {P : Program} {x : String × DataW Unit} {l : List (String × DataW Unit)} {W : World} (h : laidMet P (x :: l) W) : laidMet P l W := by
  obtain ⟨ps, ⟨g', t', cs, fuel, p, q, hg', ht', hvar, hd, hrest, e⟩, hnd, hcell⟩ := h
  subst e
  exact ⟨q, hrest, (List.nodup_append.1 hnd).2.1, fun b off hm => hcell b off (List.mem_append_right _ hm)⟩
theorem pow_of_laid {W : World} (hL : laidMetH Tryd.prog laidT W) : Lib.TabIs Tryd.prog W "internal/strconv.uint64pow10" .u64 Lib.pow10Tab := by
  have h : laidMet Tryd.prog laidT W := hL
  have h' := laidMet_tail (laidMet_tail h)
  rw [laid_pow] at h'
  exact Lib.tabIs_of_head (g := 0) (t := 145) (e := 132) (n := 20) (by kernel_rfl) (by kernel_rfl) Tryd.underlying145 Tryd.underlying132 (by kernel_rfl) (by kernel_rfl) h'
theorem tab_of_laid {W : World} (hL : laidMetH Tryd.prog laidT W) : TabOk W := fun W' hW' => tab_stays (by kernel_rfl : Tryd.prog.globalNamed "internal/strconv.uint64pow10" = some 0) (pow_of_laid hL) hW' (Nat.le_refl _)
end Go.Proofs.YtnohcppipkpgmaaDoor
namespace Go.Proofs.YtnohcppipkpgmaaDoor
open Go.ChangeShapes Go.WideShapes Go.ChangeAt Go.RowKit Go.Joins Go.Shelf Go.WideElems Go.Maps
set_option linter.unusedVariables false
set_option linter.unusedSimpArgs false

theorem one32 : ∃ f0 f1 f2 f3 f4, Tryd.prog.underlying 32 = some (.struct #[f0, f1, f2, f3, f4]) ∧ f0.type = 30 ∧ f1.type = 4 ∧ f2.type = 3 ∧ f3.type = 3 ∧ f4.type = 23 ∧ f0.offset = 0 ∧ f1.offset = 1 ∧ f2.offset = 2 ∧ f3.offset = 3 ∧ f4.offset = 4 := ⟨_, _, _, _, _, Tryd.underlying32, rfl, rfl, rfl, rfl, rfl, rfl, rfl, rfl, rfl, rfl⟩
theorem ones32 : Tryd.prog.cellsOf 30 = 1 ∧ Tryd.prog.cellsOf 4 = 1 ∧ Tryd.prog.cellsOf 3 = 1 ∧ Tryd.prog.cellsOf 23 = 1 ∧ Tryd.prog.cellsOf 32 = 5 := ⟨by kernel_rfl, by kernel_rfl, by kernel_rfl, by kernel_rfl, by kernel_rfl⟩
theorem trod_struct5 {H : Type} {enc : TypeId × Value → H} {P : Program} {w : World} {base : Nat} {spare : Nat → Bool} {held : Bool} {t : TypeId} {f0 f1 f2 f3 f4 : Field} {fuel : Nat} {cs : List Value} {x : DataW H × List MemPlace} (ht : P.underlying t = some (.struct #[f0, f1, f2, f3, f4])) (h : DataW.trod enc P w base spare held fuel t cs = some x) :
    ∃ y0 y1 y2 y3 y4 n, fuel = n + 1 ∧ cs.length = P.cellsOf t ∧ DataW.trod enc P w base spare held n f0.type ((cs.drop f0.offset).take (P.cellsOf f0.type)) = some y0 ∧
      DataW.trod enc P w base spare held n f1.type ((cs.drop f1.offset).take (P.cellsOf f1.type)) = some y1 ∧ DataW.trod enc P w base spare held n f2.type ((cs.drop f2.offset).take (P.cellsOf f2.type)) = some y2 ∧
      DataW.trod enc P w base spare held n f3.type ((cs.drop f3.offset).take (P.cellsOf f3.type)) = some y3 ∧ DataW.trod enc P w base spare held n f4.type ((cs.drop f4.offset).take (P.cellsOf f4.type)) = some y4 := by
  obtain ⟨xs, n, hfu, rfl, hl, hlen, hf⟩ := DataW.trod_struct ht h
  match xs, hlen with
  | [y0, y1, y2, y3, y4], _ => exact ⟨y0, y1, y2, y3, y4, n, hfu, hl, by simpa using hf 0 f0 rfl, by simpa using hf 1 f1 rfl, by simpa using hf 2 f2 rfl, by simpa using hf 3 f3 rfl, by simpa using hf 4 f4 rfl⟩
set_option maxRecDepth 100000 in
theorem open_ty {H : Type} {enc : TypeId × Value → H} {W : World} {base : Nat} {sp : Nat → Bool} {held : Bool} : ∀ (n : Nat) (cs : List Value) (x : DataW H × List MemPlace), DataW.trod enc Tryd.prog W base sp held n 32 cs = some x →
    ∃ (f : Fv) (t : Ty), cs = [.int .u8 (f.k : Int), .bool f.m, .int .i64 f.r, .int .i64 f.s, .slice f.a f.n f.cap] ∧ TyAt W f t := by
  intro n
  induction n using Nat.strongRecOn with
  | ind n ih =>
    intro cs x h
    obtain ⟨f0, f1, f2, f3, f4, hu, e0, e1, e2, e3, e4, o0, o1, o2, o3, o4⟩ := one32
    obtain ⟨k0, k1, k2, k3, k4⟩ := ones32
    obtain ⟨y0, y1, y2, y3, y4, m, hm, hlen, h0, h1, h2, h3, h4⟩ := trod_struct5 hu h
    rw [k4] at hlen
    match cs, hlen with
    | [c0, c1, c2, c3, c4], _ =>
      rw [o0, e0, k0] at h0
      rw [o1, e1, k1] at h1
      rw [o2, e2, k2] at h2
      rw [o3, e3, k2] at h3
      rw [o4, e4, k3] at h4
      obtain ⟨k, q0, _, w0⟩ := DataW.trod_int Tryd.underlying30 h0
      obtain ⟨mb, q1, _⟩ := DataW.trod_bool Tryd.underlying4 h1
      obtain ⟨r, q2, _, w2⟩ := DataW.trod_int Tryd.underlying3 h2
      obtain ⟨s, q3, _, w3⟩ := DataW.trod_int Tryd.underlying3 h3
      simp at q0 q1 q2 q3
      subst q0 q1 q2 q3
      simp [Lit.wf, IntKind.min, IntKind.max, IntKind.signed, IntKind.bits] at w0 w2 w3
      have hk : ((k.toNat : Nat) : Int) = k := by omega
      simp at h4
      rcases DataW.trod_slice Tryd.underlying23 h4 with ⟨hcs, _⟩ | ⟨a, len, cap, elems, rest, m2, hm2, hcs, _, hb, hl, hc, hel, hx, _, _⟩
      · simp at hcs
        subst hcs
        exact ⟨⟨k.toNat, mb, r, s, none, 0, 0⟩, .mk k.toNat mb r s [], by simp only [hk], .mk _ _ _ _ none 0 0 [] (fun _ => ⟨0, false, 0, 0, none, 0, 0⟩) rfl (by simp) (by omega) (by omega) (by omega) (by omega) (by omega) (fun hh => absurd rfl hh) (fun i t ht => by simp at ht)⟩
      · simp at hcs
        subst hcs
        rw [k4] at hx
        have each : ∀ i, i < len → ∃ ft : Fv × Ty, TyAt W ft.1 ft.2 ∧ W.cell? (a.add (i * 5)) = some (.int .u8 (ft.1.k : Int)) ∧ W.cell? (a.add (i * 5 + 1)) = some (.bool ft.1.m) ∧ W.cell? (a.add (i * 5 + 2)) = some (.int .i64 ft.1.r) ∧ W.cell? (a.add (i * 5 + 3)) = some (.int .i64 ft.1.s) ∧ W.cell? (a.add (i * 5 + 4)) = some (.slice ft.1.a ft.1.n ft.1.cap) := fun i hi => by
          have hxi := hx i hi
          rw [List.getElem?_eq_getElem (by omega), Option.bind_eq_some_iff] at hxi
          obtain ⟨cs', hc1, hc2⟩ := hxi
          obtain ⟨f', t', hcs', ht'⟩ := ih m2 (by omega) cs' _ hc2
          subst hcs'
          obtain ⟨_, hln, hcell⟩ := World.cells?_some hc1
          have g0 := hcell 0 (by omega)
          have g1 := hcell 1 (by omega)
          have g2 := hcell 2 (by omega)
          have g3 := hcell 3 (by omega)
          have g4 := hcell 4 (by omega)
          rw [Deep.add_add] at g1 g2 g3 g4
          exact ⟨(f', t'), ht', by simpa [Addr.add] using g0, by simpa using g1, by simpa using g2, by simpa using g3, by simpa using g4⟩
        haveI : Inhabited (Fv × Ty) := ⟨(⟨0, false, 0, 0, none, 0, 0⟩, .mk 0 false 0 0 [])⟩
        obtain ⟨q, hq⟩ := Deep.choose_lt each
        refine ⟨⟨k.toNat, mb, r, s, some a, len, cap⟩, .mk k.toNat mb r s ((List.range len).map fun i => (q i).2), by simp only [hk], .mk _ _ _ _ (some a) len cap _ (fun i => (q i).1) (by simp) (by omega) (by omega) (by omega) (by omega) (by omega) (by omega) (fun hne => ?_) (fun i t ht => ?_)⟩
        · have hpos : 0 < len := by
            rcases Nat.eq_zero_or_pos len with h | h
            · subst h; exact absurd rfl hne
            · exact h
          obtain ⟨b, off, spot⟩ := a
          have hc0 := (hq 0 hpos).2.1
          have hspot : spot = none := by simpa [Addr.add] using World.cell?_spot hc0
          subst hspot
          refine ⟨b, off, rfl, fun i hi => ?_⟩
          simp at hi
          obtain ⟨_, g0, g1, g2, g3, g4⟩ := hq i hi
          rw [Addr.add_lit] at g0 g1 g2 g3 g4
          exact ⟨lt_of_cell0 g0, g0, g1, g2, g3, g4⟩
        · rw [List.getElem?_map] at ht
          rcases Nat.lt_or_ge i len with hi | hi
          · rw [List.getElem?_range hi] at ht
            cases ht
            exact (hq i hi).1
          · rw [List.getElem?_eq_none (by simpa using hi)] at ht
            cases ht
theorem two69 : ∃ f0 f1, Tryd.prog.underlying 69 = some (.struct #[f0, f1]) ∧ f0.type = 9 ∧ f1.type = 32 ∧ f0.offset = 0 ∧ f1.offset = 1 := ⟨_, _, Tryd.underlying69, rfl, rfl, rfl, rfl⟩
theorem two66 : ∃ f0 f1, Tryd.prog.underlying 66 = some (.struct #[f0, f1]) ∧ f0.type = 9 ∧ f1.type = 64 ∧ f0.offset = 0 ∧ f1.offset = 1 := ⟨_, _, Tryd.underlying66, rfl, rfl, rfl, rfl⟩
theorem ones69 : Tryd.prog.cellsOf 9 = 1 ∧ Tryd.prog.cellsOf 64 = 1 ∧ Tryd.prog.cellsOf 66 = 2 ∧ Tryd.prog.cellsOf 69 = 6 := ⟨by kernel_rfl, by kernel_rfl, by kernel_rfl, by kernel_rfl⟩
set_option maxRecDepth 100000 in
theorem open_field {H : Type} {enc : TypeId × Value → H} {W : World} {base : Nat} {sp : Nat → Bool} {held : Bool} (n : Nat) (cs : List Value) (x : DataW H × List MemPlace) (h : DataW.trod enc Tryd.prog W base sp held n 69 cs = some x) :
    ∃ (nm : ByteArray) (f : Fv) (t : Ty), cs = [.string nm, .int .u8 (f.k : Int), .bool f.m, .int .i64 f.r, .int .i64 f.s, .slice f.a f.n f.cap] ∧ TyAt W f t := by
  obtain ⟨f0, f1, hu, e0, e1, o0, o1⟩ := two69
  obtain ⟨k0, -, -, k3⟩ := ones69
  obtain ⟨y0, y1, m, hm, hlen, h0, h1⟩ := trod_struct2 hu h
  rw [k3] at hlen
  match cs, hlen with
  | [c0, c1, c2, c3, c4, c5], _ =>
    rw [o0, e0, k0] at h0
    rw [o1, e1, ones32.2.2.2.2] at h1
    obtain ⟨nm, q0, -⟩ := DataW.trod_string Tryd.underlying9 h0
    obtain ⟨f, t, q1, ht⟩ := open_ty _ _ _ h1
    simp at q0 q1
    obtain ⟨r1, r2, r3, r4, r5⟩ := q1
    exact ⟨nm, f, t, by rw [q0, r1, r2, r3, r4, r5], ht⟩
set_option maxRecDepth 100000 in
theorem open_fields {H : Type} {enc : TypeId × Value → H} {W : World} {base : Nat} {sp : Nat → Bool} {held : Bool} (n : Nat) (cs : List Value) (x : DataW H × List MemPlace) (h : DataW.trod enc Tryd.prog W base sp held n 64 cs = some x) :
    ∃ (fa : Option Addr) (fcap : Nat) (fs : List Ty), cs = [.slice fa fs.length fcap] ∧ FdAt W fa fs := by
  rcases DataW.trod_slice Tryd.underlying64 h with ⟨hcs, _⟩ | ⟨a, len, cap, elems, rest, m2, hm2, hcs, _, hb, hl, hc, hel, hx, _, _⟩
  · exact ⟨none, 0, [], hcs, by simp, fun hne => absurd rfl hne⟩
  · rw [ones69.2.2.2] at hx
    have each : ∀ i, i < len → ∃ q : ByteArray × Fv × Ty, TyAt W q.2.1 q.2.2 ∧ W.cell? (a.add (i * 6)) = some (.string q.1) ∧ W.cell? (a.add (i * 6 + 1)) = some (.int .u8 (q.2.1.k : Int)) ∧ W.cell? (a.add (i * 6 + 2)) = some (.bool q.2.1.m) ∧ W.cell? (a.add (i * 6 + 3)) = some (.int .i64 q.2.1.r) ∧ W.cell? (a.add (i * 6 + 4)) = some (.int .i64 q.2.1.s) ∧ W.cell? (a.add (i * 6 + 5)) = some (.slice q.2.1.a q.2.1.n q.2.1.cap) := fun i hi => by
      have hxi := hx i hi
      rw [List.getElem?_eq_getElem (by omega), Option.bind_eq_some_iff] at hxi
      obtain ⟨cs', hc1, hc2⟩ := hxi
      obtain ⟨nm, f', t', hcs', ht'⟩ := open_field m2 cs' _ hc2
      subst hcs'
      obtain ⟨_, hln, hcell⟩ := World.cells?_some hc1
      have g0 := hcell 0 (by omega)
      have g1 := hcell 1 (by omega)
      have g2 := hcell 2 (by omega)
      have g3 := hcell 3 (by omega)
      have g4 := hcell 4 (by omega)
      have g5 := hcell 5 (by omega)
      rw [Deep.add_add] at g1 g2 g3 g4 g5
      exact ⟨(nm, f', t'), ht', by simpa [Addr.add] using g0, by simpa using g1, by simpa using g2, by simpa using g3, by simpa using g4, by simpa using g5⟩
    haveI : Inhabited (ByteArray × Fv × Ty) := ⟨(⟨#[]⟩, ⟨0, false, 0, 0, none, 0, 0⟩, .mk 0 false 0 0 [])⟩
    obtain ⟨q, hq⟩ := Deep.choose_lt each
    refine ⟨some a, cap, (List.range len).map fun i => (q i).2.2, by simpa using hcs, by simp; omega, fun hne => ?_⟩
    have hpos : 0 < len := by
      rcases Nat.eq_zero_or_pos len with h | h
      · subst h; exact absurd rfl hne
      · exact h
    obtain ⟨b, off, spot⟩ := a
    have hc0 := (hq 0 hpos).2.1
    have hspot : spot = none := by simpa [Addr.add] using World.cell?_spot hc0
    subst hspot
    refine ⟨b, off, rfl, fun i t hi => ?_⟩
    have hil : i < len := by simpa using (List.getElem?_eq_some_iff.1 hi).1
    rw [List.getElem?_map, List.getElem?_range hil] at hi
    cases hi
    obtain ⟨g6, g0, g1, g2, g3, g4, g5⟩ := hq i hil
    rw [Addr.add_lit] at g0 g1 g2 g3 g4 g5
    exact ⟨(q i).2.1, (q i).1, g0, ⟨lt_of_cell0 g0, g1, g2, g3, g4, g5⟩, g6⟩
set_option maxRecDepth 100000 in
/-- A list of structs opened. -/
theorem open_structs {H : Type} {enc : TypeId × Value → H} {W : World} {r : Reach} {b0 base : Nat} {v : Value} {d : DataW H} {p : List MemPlace} {held : Bool} (hval : Value.okWide Tryd.prog W r b0 22 v) (h : DataW.Trod enc Tryd.prog W base (fun _ => true) held 22 v d p) :
    ∃ a n cap ss, v = .slice a n cap ∧ StAt W a n cap ss := by
  obtain ⟨a0, len0, cap0, rfl⟩ := okWide_slice Tryd.underlying22 hval
  obtain ⟨fuel, hf⟩ := h
  rcases DataW.trod_slice Tryd.underlying22 hf with ⟨hcs, _⟩ | ⟨a, len, cap, elems, rest, m2, hm2, hcs, _, hb, hl, hc, hel, hx, _, _⟩
  · simp [Value.cells] at hcs
    obtain ⟨rfl, rfl, rfl⟩ := hcs
    exact ⟨none, 0, 0, [], rfl, ⟨rfl, by simp, fun hne => absurd rfl hne⟩⟩
  · simp [Value.cells] at hcs
    obtain ⟨rfl, rfl, rfl⟩ := hcs
    rw [ones69.2.2.1] at hx
    have each : ∀ i, i < len0 → ∃ q : List Ty, (∃ nm, W.cell? (a.add (i * 2)) = some (.string nm)) ∧ ∃ fa fcap, W.cell? (a.add (i * 2 + 1)) = some (.slice fa q.length fcap) ∧ FdAt W fa q := fun i hi => by
      have hxi := hx i hi
      rw [List.getElem?_eq_getElem (by omega), Option.bind_eq_some_iff] at hxi
      obtain ⟨cs', hc1, hc2⟩ := hxi
      obtain ⟨f0, f1, hu, e0, e1, o0, o1⟩ := two66
      obtain ⟨y0, y1, m, hm, hlen, h0, h1⟩ := trod_struct2 hu hc2
      rw [ones69.2.2.1] at hlen
      match cs', hlen with
      | [c0, c1], _ =>
        rw [o0, e0, ones69.1] at h0
        rw [o1, e1, ones69.2.1] at h1
        obtain ⟨nm, q0, -⟩ := DataW.trod_string Tryd.underlying9 h0
        obtain ⟨fa, fcap, fs, q1, hF⟩ := open_fields _ _ _ h1
        simp at q0 q1
        subst q0 q1
        obtain ⟨_, hln, hcell⟩ := World.cells?_some hc1
        have g0 := hcell 0 (by omega)
        have g1 := hcell 1 (by omega)
        rw [Deep.add_add] at g1
        exact ⟨fs, ⟨nm, by simpa [Addr.add] using g0⟩, fa, fcap, by simpa using g1, hF⟩
    obtain ⟨q, hq⟩ := Deep.choose_lt each
    refine ⟨some a, len0, cap0, (List.range len0).map q, rfl, ⟨by simp, by omega, fun hne => ?_⟩⟩
    have hpos : 0 < len0 := by
      rcases Nat.eq_zero_or_pos len0 with h | h
      · subst h; exact absurd rfl hne
      · exact h
    obtain ⟨b, off, spot⟩ := a
    obtain ⟨nm0, hc0⟩ := (hq 0 hpos).1
    have hspot : spot = none := by simpa [Addr.add] using World.cell?_spot hc0
    subst hspot
    rw [Addr.add_lit] at hc0
    refine ⟨b, off, rfl, lt_of_cell0 hc0, fun i fs hi => ?_⟩
    have hil : i < len0 := by simpa using (List.getElem?_eq_some_iff.1 hi).1
    rw [List.getElem?_map, List.getElem?_range hil] at hi
    cases hi
    obtain ⟨-, fa, fcap, g1, hF⟩ := hq i hil
    rw [Addr.add_lit] at g1
    exact ⟨fa, fcap, g1, hF⟩
set_option maxRecDepth 100000 in
/-- A list of types opened. -/
theorem open_locals {H : Type} {enc : TypeId × Value → H} {W : World} {r : Reach} {b0 base : Nat} {v : Value} {d : DataW H} {p : List MemPlace} {held : Bool} (hval : Value.okWide Tryd.prog W r b0 23 v) (h : DataW.Trod enc Tryd.prog W base (fun _ => true) held 23 v d p) :
    ∃ a n cap ts, v = .slice a n cap ∧ LcAt W a n cap ts := by
  obtain ⟨a0, len0, cap0, rfl⟩ := okWide_slice Tryd.underlying23 hval
  obtain ⟨fuel, hf⟩ := h
  rcases DataW.trod_slice Tryd.underlying23 hf with ⟨hcs, _⟩ | ⟨a, len, cap, elems, rest, m2, hm2, hcs, _, hb, hl, hc, hel, hx, _, _⟩
  · simp [Value.cells] at hcs
    obtain ⟨rfl, rfl, rfl⟩ := hcs
    exact ⟨none, 0, 0, [], rfl, ⟨rfl, by simp, fun hne => absurd rfl hne⟩⟩
  · simp [Value.cells] at hcs
    obtain ⟨rfl, rfl, rfl⟩ := hcs
    rw [ones32.2.2.2.2] at hx
    have each : ∀ i, i < len0 → ∃ ft : Fv × Ty, TyAt W ft.1 ft.2 ∧ W.cell? (a.add (i * 5)) = some (.int .u8 (ft.1.k : Int)) ∧ W.cell? (a.add (i * 5 + 1)) = some (.bool ft.1.m) ∧ W.cell? (a.add (i * 5 + 2)) = some (.int .i64 ft.1.r) ∧ W.cell? (a.add (i * 5 + 3)) = some (.int .i64 ft.1.s) ∧ W.cell? (a.add (i * 5 + 4)) = some (.slice ft.1.a ft.1.n ft.1.cap) := fun i hi => by
      have hxi := hx i hi
      rw [List.getElem?_eq_getElem (by omega), Option.bind_eq_some_iff] at hxi
      obtain ⟨cs', hc1, hc2⟩ := hxi
      obtain ⟨f', t', hcs', ht'⟩ := open_ty m2 cs' _ hc2
      subst hcs'
      obtain ⟨_, hln, hcell⟩ := World.cells?_some hc1
      have g0 := hcell 0 (by omega)
      have g1 := hcell 1 (by omega)
      have g2 := hcell 2 (by omega)
      have g3 := hcell 3 (by omega)
      have g4 := hcell 4 (by omega)
      rw [Deep.add_add] at g1 g2 g3 g4
      exact ⟨(f', t'), ht', by simpa [Addr.add] using g0, by simpa using g1, by simpa using g2, by simpa using g3, by simpa using g4⟩
    haveI : Inhabited (Fv × Ty) := ⟨(⟨0, false, 0, 0, none, 0, 0⟩, .mk 0 false 0 0 [])⟩
    obtain ⟨q, hq⟩ := Deep.choose_lt each
    refine ⟨some a, len0, cap0, (List.range len0).map fun i => (q i).2, rfl, ⟨by simp, by omega, fun hne => ?_⟩⟩
    have hpos : 0 < len0 := by
      rcases Nat.eq_zero_or_pos len0 with h | h
      · subst h; exact absurd rfl hne
      · exact h
    obtain ⟨b, off, spot⟩ := a
    have hc0 := (hq 0 hpos).2.1
    have hspot : spot = none := by simpa [Addr.add] using World.cell?_spot hc0
    subst hspot
    refine ⟨b, off, rfl, fun i t hi => ?_⟩
    have hil : i < len0 := by simpa using (List.getElem?_eq_some_iff.1 hi).1
    rw [List.getElem?_map, List.getElem?_range hil] at hi
    cases hi
    obtain ⟨g6, g0, g1, g2, g3, g4⟩ := hq i hil
    rw [Addr.add_lit] at g0 g1 g2 g3 g4
    exact ⟨(q i).1, ⟨lt_of_cell0 g0, g0, g1, g2, g3, g4⟩, g6⟩
end Go.Proofs.YtnohcppipkpgmaaDoor
namespace Go.Proofs.YtnohcppipkpgmaaDoor
section
open Go.RowKit Go.Shelf
set_option linter.unusedVariables false
set_option linter.unusedSimpArgs false

/-- PlaceWithin, whatever is handed in. -/
theorem within_all {w : World} {a la : Option Addr} {n cap ln lcap : Nat} {ss : List (List Ty)} {ts : List Ty} (hS : StAt w a n cap ss) (hL : LcAt w la ln lcap ts) {x y : Pt} {p q : List Int} (hP : PAt w x p) (hQ : PAt w y q) (d : Nat) (hd : d ≤ 255) :
    Calls Tryd.prog 4 #[.slice a n cap, .slice la ln lcap, x.v, y.v, .int .u8 (d : Int)] w fun e w' => e = .returned (.bool true) ∧ Below w.heap.size w w' := by
  obtain ⟨f1, f2, f3, hb⟩ := flt_ex ss
  obtain ⟨fc, cl, hC, -⟩ := cx_of hS hL hb
  obtain ⟨ok, hok⟩ : ∃ ok, ok = mayL n (decide ((stRes n f1 f2 f3).2 = 0)) ts := ⟨_, rfl⟩
  rw [← hok] at hC
  obtain ⟨bf, hf, h60⟩ := fitA_ex hS hL [p, q] (by simp)
  exact within_walk hC (fun W hW => rTypes_any (hS.bel hW) (hL.bel hW) hb ok hok) hP hQ d hd hf (fun e => ⟨(h60 e).2.2.2 p (by simp), (h60 e).2.2.2 q (by simp)⟩)
end
open Go.ChangeShapes Go.WideShapes Go.ChangeAt Go.RowKit Go.Joins Go.Shelf Go.WideElems Go.Maps
set_option linter.unusedVariables false
set_option linter.unusedSimpArgs false

set_option maxRecDepth 100000 in
/-- A small number opened. -/
theorem open_u8 {H : Type} {enc : TypeId × Value → H} {W : World} {r : Reach} {b0 base : Nat} {v : Value} {d : DataW H} {p : List MemPlace} {held : Bool} (hval : Value.okWide Tryd.prog W r b0 48 v) (h : DataW.Trod enc Tryd.prog W base (fun _ => true) held 48 v d p) :
    ∃ k : Nat, v = .int .u8 (k : Int) ∧ k ≤ 255 := by
  obtain ⟨x, rfl⟩ := okWide_int Tryd.underlying48 hval
  obtain ⟨fuel, hf⟩ := h
  obtain ⟨k, q0, _, w0⟩ := DataW.trod_int Tryd.underlying48 hf
  simp [Value.cells] at q0
  subst q0
  simp [Lit.wf, IntKind.min, IntKind.max, IntKind.signed, IntKind.bits] at w0
  exact ⟨x.toNat, by rw [show ((x.toNat : Nat) : Int) = x by omega], by omega⟩
set_option maxRecDepth 100000 in
theorem placeWithin_lifted (os : Os) (started : os.Started) (H : Type) (enc : TypeId × Value → H) :
    ReturnsInHanded {} Tryd.checked os 4 .any (fun w args => (Rows.placeWithinSpec.pre enc Tryd.prog Tryd.f4 [] false w args ∧ laidMetH Tryd.prog laidT w) ∧ sizedMet enc Tryd.prog Tryd.f4 (OpenSpec.ofChange Rows.placeWithinSpec) false w args)
      (Rows.placeWithinSpec.post enc Tryd.prog Tryd.f4 false true false false) := by
  refine lift_shaped (C := Tryd.checked) (X := fun w _ => laidMetH Tryd.prog laidT w) (fun _ _ _ hh h => h.of_heap hh) own started (by kernel_rfl) Tryd.func4
    (ChangeSpec.witness_shaped (enc := enc) (C := Tryd.checked) (os := os) (X := fun w _ => laidMetH Tryd.prog laidT w) false (World.laidAll Tryd.prog os laidT) #[.slice none 0 0, .slice none 0 0, .agg #[.int .i64 0, .slice none 0 0], .agg #[.int .i64 0, .slice none 0 0], .int .u8 0] 8 (World.laidAll_os _ _ _) (World.shaped_of_ZipB (by kernel_rfl) (by kernel_rfl)) (by kernel_rfl) (by kernel_rfl) (by kernel_rfl) (door_metT os _)) ?_
  intro W base args ds gs before hval0 hW hL hsh
  have hval : ∀ (j : Nat) t v, Tryd.f4.params[j]? = some t → args[j]? = some v → Value.okWide Tryd.prog W .any base t v := hval0
  have hW' := hW
  obtain ⟨p, q, hA0, hV, rfl, hfz, hnd⟩ := hW
  have hA : DataW.TrodAll enc Tryd.prog W 0 (fun _ => true) true Tryd.f4.params.toList args.toList ds p := hA0
  rw [Tryd.params4] at hA hval
  obtain ⟨v0, vs0, d0, ds0, p0, q0, hargs, rfl, rfl, h0, r0⟩ := trodAll_cons hA
  obtain ⟨v1, vs1, d1, ds1, p1, q1, rfl, rfl, rfl, h1, r1⟩ := trodAll_cons r0
  obtain ⟨v2, vs2, d2, ds2, p2, q2, rfl, rfl, rfl, h2, r2⟩ := trodAll_cons r1
  obtain ⟨v3, vs3, d3, ds3, p3, q3, rfl, rfl, rfl, h3, r3⟩ := trodAll_cons r2
  obtain ⟨v4, vs4, d4, ds4, p4, q4, rfl, rfl, rfl, h4, r4⟩ := trodAll_cons r3
  obtain ⟨rfl, rfl, rfl⟩ := trodAll_nil r4
  obtain rfl : args = #[v0, v1, v2, v3, v4] := by cases args; simp_all
  obtain ⟨rfl, rfl⟩ := trodVars_none hV
  have k0 := h0
  have k1 := h1
  have k2 := h2
  have k3 := h3
  have k4 := h4
  have lt0 : ∀ x ∈ p0, x.block < W.heap.size := by obtain ⟨m, hm⟩ := k0; exact DataW.trod_lt m _ _ _ hm
  have lt1 : ∀ x ∈ p1, x.block < W.heap.size := by obtain ⟨m, hm⟩ := k1; exact DataW.trod_lt m _ _ _ hm
  have lt2 : ∀ x ∈ p2, x.block < W.heap.size := by obtain ⟨m, hm⟩ := k2; exact DataW.trod_lt m _ _ _ hm
  have lt3 : ∀ x ∈ p3, x.block < W.heap.size := by obtain ⟨m, hm⟩ := k3; exact DataW.trod_lt m _ _ _ hm
  have lt4 : ∀ x ∈ p4, x.block < W.heap.size := by obtain ⟨m, hm⟩ := k4; exact DataW.trod_lt m _ _ _ hm
  obtain ⟨sa, sn, scap, ss, rfl, hS⟩ := open_structs (hval 0 22 v0 rfl rfl) h0
  obtain ⟨la, ln, lcap, ts, rfl, hL2⟩ := open_locals (hval 1 23 v1 rfl rfl) h1
  obtain ⟨x, X, rfl, hP⟩ := open_place (hval 2 26 v2 rfl rfl) h2
  obtain ⟨y, Y, rfl, hQ⟩ := open_place (hval 3 26 v3 rfl rfl) h3
  obtain ⟨dd, rfl, hdd⟩ := open_u8 (hval 4 48 v4 rfl rfl) h4
  clear hA0 hval0
  refine (within_all hS hL2 hP hQ dd hdd).mono fun e W' ⟨he, bel⟩ => ?_
  subst he
  exact ⟨_, rfl, _, _, _, [], _, [], hW', trodAll_mk1 (shut_bool Tryd.underlying4 _), (trodAll_cons_mk (Below.trod laidOut (by kernel_rfl) (of_decide_eq_true (by kernel_rfl)) k0 bel lt0) (trodAll_cons_mk (Below.trod laidOut (by kernel_rfl) (of_decide_eq_true (by kernel_rfl)) k1 bel lt1) (trodAll_cons_mk (Below.trod laidOut (by kernel_rfl) (of_decide_eq_true (by kernel_rfl)) k2 bel lt2) (trodAll_cons_mk (Below.trod laidOut (by kernel_rfl) (of_decide_eq_true (by kernel_rfl)) k3 bel lt3) (trodAll_cons_mk (Below.trod laidOut (by kernel_rfl) (of_decide_eq_true (by kernel_rfl)) k4 bel lt4) trodAll_mk0))))), rfl, bel.frame _, fun h => by cases h⟩
theorem placeWithin_row : Rows.PlaceWithinSaid :=
  OpenClaim.holds_of_wide 4 Tryd.f4 rfl rfl rfl rfl rfl rfl rfl ⟨rfl, rfl, rfl, rfl, rfl⟩ rfl rfl rfl rfl rfl (by kernel_rfl) Tryd.func4 (by kernel_rfl)
    (of_decide_eq_true (by kernel_rfl)) (by unfold Func.isWrapper; first | (rw [if_pos (by decide +kernel)]; kernel_rfl) | (rw [if_neg (by decide +kernel)]; exact ⟨rfl, rfl⟩))
    (fun os started H enc _ => placeWithin_lifted os started H enc)
theorem placeWithin_holds : Rows.PlaceWithinCardSaid :=
  Claim7.holds_tied_plain_at .later [] [.data, .data, .data] true (true, "ee7dc7c804ac4f745a5ba83d8aed6ecd8a7da634523cecb06dd4055cc8e0ae99") false
    placeWithin_row (fun _ h => by cases h) (by kernel_rfl) (fun _ h => by cases h) placeWithin_row_tie rfl ⟨rfl, rfl⟩ (by kernel_rfl) rfl
    (fun f fn hf hfn => by
      obtain rfl : f = 4 := Option.some.inj ((show Tryd.prog.funcNamed "loanword/loanwordlaw09.PlaceWithin" = some 4 by kernel_rfl).symm.trans hf) |>.symm
      obtain rfl : fn = Tryd.f4 := (Option.some.inj (Tryd.func4.symm.trans hfn)).symm
      exact ⟨by kernel_rfl, fun j t ht => by
        rw [Tryd.params4] at ht
        have hm : t ∈ [22, 23, 26, 48] := by simpa using Array.mem_of_getElem? ht
        have hall : ([22, 23, 26, 48].all fun u => !Tryd.prog.wantsStandIn u) = true := by kernel_rfl
        exact (show Tryd.prog.wantsStandIn t = false by simpa using List.all_eq_true.1 hall t hm)⟩)
    (by kernel_rfl)
#print axioms placeWithin_holds
end Go.Proofs.YtnohcppipkpgmaaDoor
