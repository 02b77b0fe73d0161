import Derived.Test.YtpnamkpoapcgeaaDoorTj
import Derived.Test.YtpnamkpoapcgeaaDoorLl
import Derived.Deep.Slices
namespace Go.Proofs.YtpnamkpoapcgeaaDoor
open Go.ChangeShapes Go.WideShapes Go.ChangeAt Go.RowKit Go.Joins Go.Shelf Go.WideElems Go.Maps
set_option linter.unusedVariables false
set_option linter.unusedSimpArgs false

theorem cells32 : Tryd.prog.cellsOf 32 = 4 := by kernel_rfl
theorem one32 : ∃ f0 f1 f2 f3, Tryd.prog.underlying 32 = some (.struct #[f0, f1, f2, f3]) ∧ f0.type = 30 ∧ f1.type = 3 ∧ f2.type = 2 ∧ f3.type = 9 ∧ f0.offset = 0 ∧ f1.offset = 1 ∧ f2.offset = 2 ∧ f3.offset = 3 := ⟨_, _, _, _, Tryd.underlying32, rfl, rfl, rfl, rfl, rfl, rfl, rfl, rfl⟩
theorem ones32 : Tryd.prog.cellsOf 30 = 1 ∧ Tryd.prog.cellsOf 3 = 1 ∧ Tryd.prog.cellsOf 2 = 1 ∧ Tryd.prog.cellsOf 9 = 1 := ⟨by kernel_rfl, by kernel_rfl, by kernel_rfl, by kernel_rfl⟩
theorem lt_of_cellT {w : World} {b off : Nat} {v : Value} (h : w.cell? ⟨b, off, none⟩ = some v) : b < w.heap.size := by
  rcases Nat.lt_or_ge b w.heap.size with h1 | h1
  · exact h1
  · rw [World.cell?] at h
    simp [Array.getElem?_eq_none h1] at h
set_option maxRecDepth 100000 in
theorem open_tok {H : Type} {enc : TypeId × Value → H} {W : World} {base n : Nat} {sp : Nat → Bool} {held : Bool} {a : Addr} {cs : List Value} {x : DataW H × List MemPlace} (hc : W.cells? base a 4 = some cs) (h : DataW.trod enc Tryd.prog W base sp held n 32 cs = some x) :
    ∃ t : Tz, W.cell? a = some (.int .u8 t.k) ∧ W.cell? (a.add 1) = some (.int .i64 t.p) ∧ W.cell? (a.add 2) = some (.int .i64 t.n) ∧ W.cell? (a.add 3) = some (.string (str t.s)) ∧ -9223372036854775808 ≤ t.n ∧ t.n ≤ 9223372036854775807 ∧ t.s.length ≤ maxLen := by
  obtain ⟨f0, f1, f2, f3, hu, e0, e1, e2, e3, o0, o1, o2, o3⟩ := one32
  obtain ⟨k0, k1, k2, k3⟩ := ones32
  obtain ⟨_, hlen, hcell⟩ := World.cells?_some hc
  obtain ⟨y0, y1, y2, y3, m, _, _, h0, h1, h2, h3⟩ := trod_struct4 hu h
  match cs, hlen with
  | [c0, c1, c2, c3], _ =>
    rw [o0, e0, k0] at h0
    rw [o1, e1, k1] at h1
    rw [o2, e2, k2] at h2
    rw [o3, e3, k3] at h3
    obtain ⟨k, q0, _, w0⟩ := DataW.trod_int Tryd.underlying30 h0
    obtain ⟨p, q1, _, w1⟩ := DataW.trod_int Tryd.underlying3 h1
    obtain ⟨n, q2, _, w2⟩ := DataW.trod_int Tryd.underlying2 h2
    obtain ⟨s, q3, _, w3⟩ := DataW.trod_string Tryd.underlying9 h3
    simp at q0 q1 q2 q3
    subst q0 q1 q2 q3
    have g0 := hcell 0 (by omega)
    have g1 := hcell 1 (by omega)
    have g2 := hcell 2 (by omega)
    have g3 := hcell 3 (by omega)
    simp [Lit.wf, IntKind.min, IntKind.max, IntKind.signed, IntKind.bits] at w2
    refine ⟨⟨k, p, n, s.data.toList⟩, by simpa [Addr.add] using g0, by simpa using g1, by simpa using g2, ?_, (show (-9223372036854775808 : Int) ≤ n by omega), (show n ≤ (9223372036854775807 : Int) by omega), w3⟩
    have : str s.data.toList = s := rfl
    rw [this]
    simpa using g3
set_option maxRecDepth 100000 in
theorem open_toks {H : Type} {enc : TypeId × Value → H} {W : World} {r : Reach} {b0 base : Nat} {v : Value} {d : DataW H} {p : List MemPlace} {held : Bool} (hval : Value.okWide Tryd.prog W r b0 23 v) (h : DataW.Trod enc Tryd.prog W base (fun _ => true) held 23 v d p) :
    ∃ a cap, ∃ ts : List Tz, v = .slice a ts.length cap ∧ ts.length ≤ maxLen ∧ TzA W a ts ∧ (∀ t ∈ ts, -9223372036854775808 ≤ t.n ∧ t.n ≤ 9223372036854775807 ∧ t.s.length ≤ maxLen) ∧ (a = none → ts = [] ∧ cap = 0) := by
  obtain ⟨a0, len0, cap0, rfl⟩ := okWide_slice Tryd.underlying23 hval
  obtain ⟨fuel, hf⟩ := h
  rcases Deep.open_slice Tryd.underlying23 hf with ⟨hcs, _⟩ | ⟨a, len, cap, m, n, D, Pl, hcs, hb, hl, hm, hmm, _, hx⟩
  · simp [Value.cells] at hcs
    obtain ⟨rfl, rfl, rfl⟩ := hcs
    exact ⟨none, 0, [], rfl, Nat.zero_le _, fun h => absurd rfl h, (fun t ht => by cases ht), fun _ => ⟨rfl, rfl⟩⟩
  · simp [Value.cells] at hcs
    obtain ⟨rfl, rfl, rfl⟩ := hcs
    simp at hmm
    have each : ∀ i, i < len0 → ∃ t : Tz, W.cell? (a.add (i * 4)) = some (.int .u8 t.k) ∧ W.cell? (a.add (i * 4 + 1)) = some (.int .i64 t.p) ∧ W.cell? (a.add (i * 4 + 2)) = some (.int .i64 t.n) ∧ W.cell? (a.add (i * 4 + 3)) = some (.string (str t.s)) ∧ -9223372036854775808 ≤ t.n ∧ t.n ≤ 9223372036854775807 ∧ t.s.length ≤ maxLen := by
      intro i hi
      obtain ⟨cs', h1, h2⟩ := hx i (by omega)
      rw [cells32] at h1
      obtain ⟨t, g0, g1, g2, g3, g4⟩ := open_tok h1 h2
      rw [Deep.add_add] at g1 g2 g3
      exact ⟨t, g0, g1, g2, g3, g4⟩
    haveI : Inhabited Tz := ⟨⟨0, 0, 0, []⟩⟩
    obtain ⟨q, hq⟩ := Deep.choose_lt each
    refine ⟨some a, cap0, (List.range len0).map q, by simp, by simp; omega, ?_, ?_, fun h => by cases h⟩
    · intro hne
      have hpos : 0 < len0 := by
        rcases Nat.eq_zero_or_pos len0 with h | h
        · subst h; exact absurd rfl hne
        · exact h
      obtain ⟨b, off, spot⟩ := a
      have hc := (hq 0 hpos).1
      have hspot : spot = none := by simpa [Addr.add] using World.cell?_spot hc
      subst hspot
      refine ⟨b, off, rfl, fun i t ht => ?_⟩
      rw [List.getElem?_map] at ht
      rcases Nat.lt_or_ge i len0 with hi | hi
      · rw [List.getElem?_range hi] at ht
        cases ht
        obtain ⟨g0, g1, g2, g3, _⟩ := hq i hi
        rw [Addr.add_lit] at g0 g1 g2 g3
        exact ⟨lt_of_cellT g0, g0, g1, g2, g3⟩
      · rw [List.getElem?_eq_none (by simpa using hi)] at ht
        cases ht
    · intro t ht
      obtain ⟨i, hi, rfl⟩ := List.mem_map.1 ht
      exact (hq i (List.mem_range.1 hi)).2.2.2.2
abbrev laidT : List (String × DataW Unit) := [("math/bits.deBruijn32tab", Rows.laid_math_bits_deBruijn32tab), ("math/bits.deBruijn64tab", Rows.laid_math_bits_deBruijn64tab), ("internal/strconv.uint64pow10", Rows.laid_internal_strconv_uint64pow10)]
set_option maxRecDepth 100000 in
theorem door_metT (os : Os) (args : Array Value) : laidMetH Tryd.prog laidT ((World.laidAll Tryd.prog os laidT).forCall (fun _ _ => 0) ⟨#[], args, []⟩).memory := by
  rw [MakeChecks.laidMetH_plain _ _ _ (by kernel_rfl)]
  exact laidMet_laidAll _ (by kernel_rfl) (by kernel_rfl)
theorem laid_pow : (Rows.laid_internal_strconv_uint64pow10 : DataW Unit) = Lib.tabData .u64 Lib.pow10Tab := by kernel_rfl
theorem laidMet_tail {P : Program} {x : String × DataW Unit} {l : List (String × DataW Unit)} {W : World} (h : laidMet P (x :: l) W) : laidMet P l W := by
  obtain ⟨ps, ⟨g', t', cs, fuel, p, q, hg', ht', hvar, hd, hrest, e⟩, hnd, hcell⟩ := h
  subst e
  exact ⟨q, hrest, (List.nodup_append.1 hnd).2.1, fun b off hm => hcell b off (List.mem_append_right _ hm)⟩
theorem pow_of_laid {W : World} (hL : laidMetH Tryd.prog laidT W) : Lib.TabIs Tryd.prog W "internal/strconv.uint64pow10" .u64 Lib.pow10Tab := by
  have h : laidMet Tryd.prog laidT W := hL
  have h' := laidMet_tail (laidMet_tail h)
  rw [laid_pow] at h'
  exact Lib.tabIs_of_head (g := 1) (t := 115) (e := 101) (n := 20) (by kernel_rfl) (by kernel_rfl) Tryd.underlying115 Tryd.underlying101 (by kernel_rfl) (by kernel_rfl) h'
end Go.Proofs.YtpnamkpoapcgeaaDoor
