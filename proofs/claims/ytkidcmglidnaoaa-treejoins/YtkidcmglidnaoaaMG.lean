import Derived.Test.YtkidcmglidnaoaaSn
import Derived.Test.YtkidcmglidnaoaaSo
namespace Go.Proofs.Ytkidcmglidnaoaa
open Go.RowKit Go.Shelf
set_option linter.unusedVariables false
set_option linter.unusedSimpArgs false
theorem alB_ndE (c d : Nd) : alB c d = true ↔ ndE false c d := by
  unfold alB ndE
  simp only [Bool.and_eq_true, beq_iff_eq, decide_eq_true_eq]
  constructor
  · rintro ⟨⟨⟨h1, h2⟩, h3⟩, h4⟩; exact ⟨h1, h2, h3, (fun h => absurd h (by decide)), h4⟩
  · rintro ⟨h1, h2, h3, -, h4⟩; exact ⟨⟨⟨h1, h2⟩, h3⟩, h4⟩
theorem reqP_same (T U : List Nd) : reqP false T U ↔ sameB T U = true := by
  rw [sameB_iff]
  unfold reqP
  constructor
  · rintro ⟨h1, h2⟩; exact ⟨h1, fun i c d hc hd => (alB_ndE c d).2 (h2 i c d hc hd)⟩
  · rintro ⟨h1, h2⟩; exact ⟨h1, fun i c d hc hd => (alB_ndE c d).1 (h2 i c d hc hd)⟩
theorem reqP_eq (T U : List Nd) : reqP true T U ↔ T = U := by
  unfold reqP
  constructor
  · rintro ⟨h1, h2⟩
    apply List.ext_getElem? 
    intro i
    rcases Nat.lt_or_ge i T.length with h | h
    · obtain ⟨d, hd⟩ : ∃ d, T[i]? = some d := ⟨_, List.getElem?_eq_getElem h⟩
      obtain ⟨e, he⟩ : ∃ e, U[i]? = some e := ⟨_, List.getElem?_eq_getElem (by omega)⟩
      obtain ⟨g1, g2, g3, g4, g5⟩ := h2 i d e hd he
      rw [hd, he]
      obtain ⟨⟨dk, dp, dn, ds⟩, dl⟩ := d
      obtain ⟨⟨ek, ep, en, es⟩, el⟩ := e
      have g6 := g4 rfl
      clear g4
      simp only at g1 g2 g3 g5 g6
      rw [g1, g2, g3, g5, g6]
    · rw [List.getElem?_eq_none h, List.getElem?_eq_none (by omega)]
  · rintro rfl
    exact ⟨rfl, fun i d e hd he => by rw [hd] at he; cases he; exact ⟨rfl, rfl, rfl, fun _ => rfl, rfl⟩⟩
set_option maxRecDepth 100000 in
set_option maxHeartbeats 4000000 in
theorem rsame_any (T U : List Nd) (a b : Option Addr) (ca cb : Nat) (w : World) (hT : TAt w a T) (hU : TAt w b U) (hS : Sm T) (hS2 : Sm U) (r : Bool) (hr : r = true ↔ Mayb okP T ∧ Mayb okP U ∧ sameB T U = true) :
    Calls Try.prog 29 #[trV a T.length ca, trV b U.length cb] w fun e w' => e = .returned (.bool r) ∧ Below w.heap.size w w' := by
  have HNO : Hid (¬ (Mayb okP T ∧ Mayb okP U ∧ sameB T U = true) → r = false) := hidE fun h => by
    cases r with
    | false => rfl
    | true => exact absurd (hr.1 rfl) h
  obtain ⟨W2, hW2⟩ : ∃ W2, W2 = (w.alloc (Tro a T.length ca)).alloc (Tro b U.length cb) := ⟨_, rfl⟩
  have B2 : Below w.heap.size w W2 := by rw [hW2]; exact belA (belA (Below.refl _ _))
  have A1 : At W2 w.heap.size (Tro a T.length ca) := by rw [hW2]; exact at_fst _ _ _
  have A2 : At W2 (w.heap.size + 1) (Tro b U.length cb) := by rw [hW2]; exact at_snd _ _ _
  obtain ⟨c0, f0⟩ := A1.one
  obtain ⟨d0, g0⟩ := A2.one
  have HW2 : Hid ((w.alloc (.cells #[.slice a T.length ca] 24)).alloc (.cells #[.slice b U.length cb] 24) = W2) := hidE hW2.symm
  have HA1 := hidE A1
  have HA2 := hidE A2
  have HY1 : Hid (Mayb okP T → ∀ W, Below w.heap.size w W → Calls Try.prog 48 #[trV a T.length ca] W fun e w' => e = .returned (.bool true) ∧ Below W.heap.size W w') := hidE fun h W hW => rmay_yes (hT.below hW) hS h
  have HN1 : Hid (¬ Mayb okP T → ∀ W, Below w.heap.size w W → Calls Try.prog 48 #[trV a T.length ca] W fun e w' => e = .returned (.bool false) ∧ Below W.heap.size W w') := hidE fun h W hW => rmay_no (hT.below hW) hS h
  have HY2 : Hid (Mayb okP U → ∀ W, Below w.heap.size w W → Calls Try.prog 48 #[trV b U.length cb] W fun e w' => e = .returned (.bool true) ∧ Below W.heap.size W w') := hidE fun h W hW => rmay_yes (hU.below hW) hS2 h
  have HN2 : Hid (¬ Mayb okP U → ∀ W, Below w.heap.size w W → Calls Try.prog 48 #[trV b U.length cb] W fun e w' => e = .returned (.bool false) ∧ Below W.heap.size W w') := hidE fun h W hW => rmay_no (hU.below hW) hS2 h
  have HQ : Hid (Mayb okP T → Mayb okP U → ∀ W, Below w.heap.size w W → Calls Try.prog 19 #[trV a T.length ca, trV b U.length cb, .bool false] W fun e w' => e = .returned (.bool r) ∧ Below W.heap.size W w') := hidE fun h1 h2 W hW => req_bool T U a b ca cb false W (hT.below hW) (hU.below hW) hS hS2 r (by rw [hr, reqP_same]; exact ⟨fun h => h.2.2, fun h => ⟨h1, h2, h⟩⟩)
  clear hW2 A1 A2 hT hU hS hS2 hr
  by_cases h1 : Mayb okP T
  · have H1 := hidE (HY1.out h1)
    by_cases h2 : Mayb okP U
    · have H2 := hidE (HY2.out h2)
      have H3 := hidE (HQ.out h1 h2)
      clear h1 h2 HY1 HY2 HN1 HN2 HQ HNO
      have st1 : Stg' 1 := .mk 1
      go_enter Try.func29, Try.ntmps29
      (first | go_wp2_with fail | skip)
      try rw [HW2.out]
      go_wp2_with (first
        | (have _s := st1; clear st1 _s; go_at_call 48; refine (H1.out _ B2).mono ?_; rintro e w1 ⟨rfl, hb1⟩; have st2 : Stg' 2 := .mk 2; obtain ⟨c1, f1⟩ := (At.below HA1.out hb1).one; obtain ⟨d1, g1⟩ := (At.below HA2.out hb1).one)
        | (have _s := st2; clear st2 _s; go_at_call 48; refine (H2.out _ (below_aft B2 hb1)).mono ?_; rintro e w2 ⟨rfl, hb2⟩; obtain ⟨c2, f2⟩ := (At.below (At.below HA1.out hb1) hb2).one; obtain ⟨d2, g2⟩ := (At.below (At.below HA2.out hb1) hb2).one)
        | (go_at_call 19; refine (H3.out _ (below_aft (below_aft B2 hb1) hb2)).mono ?_; rintro e w3 ⟨rfl, hb3⟩))
      go_ret
      exact ⟨rfl, below_aft (below_aft (below_aft B2 hb1) hb2) hb3⟩
    · have H2 := hidE (HN2.out h2)
      have HRR : Hid (r = false) := hidE (HNO.out fun h => h2 h.2.1)
      clear h1 h2 HY1 HY2 HN1 HN2 HQ HNO
      have st1 : Stg' 1 := .mk 1
      go_enter Try.func29, Try.ntmps29
      (first | go_wp2_with fail | skip)
      try rw [HW2.out]
      go_wp2_with (first
        | (have _s := st1; clear st1 _s; go_at_call 48; refine (H1.out _ B2).mono ?_; rintro e w1 ⟨rfl, hb1⟩; have st2 : Stg' 2 := .mk 2; obtain ⟨c1, f1⟩ := (At.below HA1.out hb1).one; obtain ⟨d1, g1⟩ := (At.below HA2.out hb1).one)
        | (have _s := st2; clear st2 _s; go_at_call 48; refine (H2.out _ (below_aft B2 hb1)).mono ?_; rintro e w2 ⟨rfl, hb2⟩))
      go_ret
      exact ⟨ret_bool HRR.out.symm, below_aft (below_aft B2 hb1) hb2⟩
  · have H1 := hidE (HN1.out h1)
    have HRR : Hid (r = false) := hidE (HNO.out fun h => h1 h.1)
    clear h1 HY1 HY2 HN1 HN2 HQ HNO
    go_enter Try.func29, Try.ntmps29
    (first | go_wp2_with fail | skip)
    try rw [HW2.out]
    go_wp2_with (go_at_call 48; refine (H1.out _ B2).mono ?_; rintro e w1 ⟨rfl, hb1⟩)
    go_ret
    exact ⟨ret_bool HRR.out.symm, below_aft B2 hb1⟩
end Go.Proofs.Ytkidcmglidnaoaa
namespace Go.Proofs.Ytkidcmglidnaoaa
open Go.RowKit Go.Shelf
set_option linter.unusedVariables false
set_option linter.unusedSimpArgs false
/-- A made tree's shape in memory: what may be written over. -/
structure SpI (lo hi g n : Nat) (T : List Nd) (W : World) : Prop where
  gb : lo ≤ g ∧ g < hi
  ex : ∃ cur, W.heap[g]? = some (.cells cur 48 (0, 0)) ∧ cur.size = n * 5 ∧ ∀ (i : Nat) (d : Nd), T[i]? = some d → ∃ a c, cur[i * 5 + 4]? = some (.slice a d.l.length c) ∧ (0 < d.l.length → ∃ b, a = some ⟨b, 0, none⟩ ∧ lo ≤ b ∧ b < hi ∧ b ≠ g ∧ ∃ cu, W.heap[b]? = some (.cells cu 3 (0, 0)) ∧ d.l.length ≤ cu.size)
/-- All but these blocks is as it was. -/
structure OutK (lo hi : Nat) (w W : World) : Prop where
  os : W.os = w.os
  tape : W.tape = w.tape
  output : W.output = w.output
  size : w.heap.size ≤ W.heap.size
  same : ∀ b, b < w.heap.size → (b < lo ∨ hi ≤ b) → W.heap[b]? = w.heap[b]?
theorem OutK.refl (lo hi : Nat) (w : World) : OutK lo hi w w := ⟨rfl, rfl, rfl, Nat.le_refl _, fun _ _ _ => rfl⟩
theorem OutK.alloc {lo hi : Nat} {w W : World} (h : OutK lo hi w W) (o : Obj) : OutK lo hi w (W.alloc o) := ⟨h.os, h.tape, h.output, by have := h.size; simp; omega, fun b hb hl => (Below.heap_alloc W o b (Nat.lt_of_lt_of_le hb h.size)).trans (h.same b hb hl)⟩
theorem OutK.set {lo hi : Nat} {w W : World} (h : OutK lo hi w W) {b o : Nat} (hb : lo ≤ b ∧ b < hi) (u : Value) : OutK lo hi w (W.setCell ⟨b, o, none⟩ u) := ⟨h.os, h.tape, h.output, by have := h.size; simp; omega, fun c hc hl => (Below.heap_setCell W ⟨b, o, none⟩ u c (by show c ≠ b; omega)).trans (h.same c hc hl)⟩
theorem SpI.row {lo hi g n : Nat} {T : List Nd} {W : World} (h : SpI lo hi g n T W) {b j : Nat} (hb : b ≠ g) (u : Value) : SpI lo hi g n T (W.setCell ⟨b, j, none⟩ u) := by
  obtain ⟨cur, h1, h2, h3⟩ := h.ex
  refine ⟨h.gb, cur, (Below.heap_setCell W ⟨b, j, none⟩ u g (fun e => hb e.symm)).trans h1, h2, fun i d hd => ?_⟩
  obtain ⟨a, c, k1, k2⟩ := h3 i d hd
  refine ⟨a, c, k1, fun hl => ?_⟩
  obtain ⟨b', e1, e2, e3, e4, cu, e5, e6⟩ := k2 hl
  refine ⟨b', e1, e2, e3, e4, ?_⟩
  by_cases hbb : b' = b
  · subst hbb
    exact ⟨cu.setIfInBounds j u, heap_setCell_same W b' j _ 3 u e5, by simpa using e6⟩
  · exact ⟨cu, (Below.heap_setCell W ⟨b, j, none⟩ u b' hbb).trans e5, e6⟩
theorem SpI.txt {lo hi g n : Nat} {T : List Nd} {W : World} (h : SpI lo hi g n T W) (i : Nat) (u : Value) : SpI lo hi g n T (W.setCell ⟨g, i * 5 + 3, none⟩ u) := by
  obtain ⟨cur, h1, h2, h3⟩ := h.ex
  refine ⟨h.gb, cur.setIfInBounds (i * 5 + 3) u, heap_setCell_same W g _ _ 48 u h1, by simpa using h2, fun q d hd => ?_⟩
  obtain ⟨a, c, k1, k2⟩ := h3 q d hd
  refine ⟨a, c, by rw [Array.getElem?_setIfInBounds_ne (by omega)]; exact k1, fun hl => ?_⟩
  obtain ⟨b', e1, e2, e3, e4, cu, e5, e6⟩ := k2 hl
  exact ⟨b', e1, e2, e3, e4, cu, (Below.heap_setCell W ⟨g, i * 5 + 3, none⟩ u b' e4).trans e5, e6⟩
theorem SpI.keep {lo hi g n : Nat} {T : List Nd} {w W : World} (h : SpI lo hi g n T w) (hh : Keep hi w W) : SpI lo hi g n T W := by
  obtain ⟨cur, h1, h2, h3⟩ := h.ex
  refine ⟨h.gb, cur, (hh.same g h.gb.2).trans h1, h2, fun i d hd => ?_⟩
  obtain ⟨a, c, k1, k2⟩ := h3 i d hd
  refine ⟨a, c, k1, fun hl => ?_⟩
  obtain ⟨b', e1, e2, e3, e4, cu, e5, e6⟩ := k2 hl
  exact ⟨b', e1, e2, e3, e4, cu, (hh.same b' e3).trans e5, e6⟩
set_option maxRecDepth 100000 in
set_option maxHeartbeats 4000000 in
theorem spoil_any (T : List Nd) (lo hi g cap : Nat) (w : World) (hI : SpI lo hi g T.length T w) (hhi : hi ≤ w.heap.size) (hn : T.length ≤ 20000) (hl : ∀ d ∈ T, d.l.length ≤ 20000) :
    Calls Try.prog 46 #[trV (some ⟨g, 0, none⟩) T.length cap] w fun e w' => e = .returned (.tuple #[]) ∧ OutK lo hi w w' := by
  have A1 := At.new w (Tro (some ⟨g, 0, none⟩) T.length cap)
  obtain ⟨c0, f0⟩ := A1.one
  have hO : OutK lo hi w (w.alloc (Tro (some ⟨g, 0, none⟩) T.length cap)) := (OutK.refl lo hi w).alloc _
  have hI1 : SpI lo hi g T.length T (w.alloc (Tro (some ⟨g, 0, none⟩) T.length cap)) := hI.keep (Keep.alloc w _ hhi)
  have HL : Hid (∀ d ∈ T, d.l.length ≤ 20000) := hidE hl
  obtain ⟨n, hnn⟩ : ∃ n, n = T.length := ⟨_, rfl⟩
  have HN : Hid (n = T.length) := hidE hnn
  rw [← hnn] at c0 f0 A1 hO hI1 hn ⊢
  clear hI hl hnn
  go_enter Try.func46, Try.ntmps46
  go_wp2_with fail
  go_loopw [2] (fun v W => ∃ i : Nat, i ≤ n ∧ v = .int .i64 (i : Int) ∧ SpI lo hi g n T W ∧ At W w.heap.size (Tro (some ⟨g, 0, none⟩) n cap) ∧ OutK lo hi w W) (fun v _ => n - (intOf v).toNat)
  case atStart => exact ⟨0, Nat.zero_le _, rfl, hI1, A1, hO⟩
  case round =>
    obtain ⟨i, hi', rfl, hI, hA, hO'⟩ := hrel
    clear hI1 A1 hO c0 f0
    obtain ⟨c0, f0⟩ := hA.one
    have HA : Hid (At wr w.heap.size (Tro (some ⟨g, 0, none⟩) n cap)) := hidE hA
    have HO : Hid (OutK lo hi w wr) := hidE hO'
    have HI : Hid (SpI lo hi g n T wr) := hidE hI
    clear hA hO' hI
    by_cases hin : i < n
    · have i0 : (0 : Int) ≤ (i : Int) := by omega
      have i1 : (i : Int) < (n : Int) := by omega
      have i3 : IntKind.i64.wrap ((i : Int) + 1) = (i : Int) + 1 := by rw [IntKind.wrap_i64]; omega
      obtain ⟨d, hd⟩ : ∃ d, T[i]? = some d := ⟨_, List.getElem?_eq_getElem (by have := HN.out; omega)⟩
      obtain ⟨m, hm⟩ : ∃ m, m = d.l.length := ⟨_, rfl⟩
      have hm2 : m ≤ 20000 := by have := HL.out d (List.mem_of_getElem? hd); omega
      have HD : Hid (T[i]? = some d ∧ m = d.l.length) := hidE ⟨hd, hm⟩
      clear hd hm
      go_wp2_with fail
      clear c0 f0
      go_loopw [3] (fun v W => ∃ j : Nat, j ≤ m ∧ v = .int .i64 (j : Int) ∧ SpI lo hi g n T W ∧ At W w.heap.size (Tro (some ⟨g, 0, none⟩) n cap) ∧ OutK lo hi w W) (fun v _ => m - (intOf v).toNat)
      case atStart => exact ⟨0, Nat.zero_le _, rfl, HI.out, HA.out, HO.out⟩
      case round =>
        obtain ⟨j, hj, rfl, hI, hA, hO'⟩ := hrel
        clear HA HO HI
        obtain ⟨c0, f0⟩ := hA.one
        have HA : Hid (At wr w.heap.size (Tro (some ⟨g, 0, none⟩) n cap)) := hidE hA
        have HO : Hid (OutK lo hi w wr) := hidE hO'
        have HI : Hid (SpI lo hi g n T wr) := hidE hI
        have hgb := hI.gb
        obtain ⟨cur, h1, h2, h3⟩ := hI.ex
        obtain ⟨a, c, k1, k2⟩ := h3 i d HD.out.1
        rw [← HD.out.2] at k1 k2
        have v4 : wr.cell? ⟨g, i * 5 + 4, none⟩ = some (.slice a m c) := by simp [World.cell?, h1, k1]
        have hgs : g < w.heap.size := by omega
        have hgne : w.heap.size ≠ g := by omega
        obtain ⟨x3, hx3⟩ : ∃ x3, cur[i * 5 + 3]? = some x3 := ⟨_, Array.getElem?_eq_getElem (by omega)⟩
        have v3 : wr.cell? ⟨g, i * 5 + 3, none⟩ = some x3 := by simp [World.cell?, h1, hx3]
        have vf : wr.frozen? ⟨g, i * 5 + 3, none⟩ = false := frozen_of_row wr g _ _ 48 h1
        have j3 : IntKind.i64.wrap ((j : Int) + 1) = (j : Int) + 1 := by rw [IntKind.wrap_i64]; omega
        clear hA hO' hI h1 h2 h3 k1 hx3
        by_cases hjm : j < m
        · obtain ⟨b, rfl, b1, b2, b3, cu, b4, b5⟩ := k2 (by omega)
          obtain ⟨y, hy⟩ : ∃ y, cu[j]? = some y := ⟨_, Array.getElem?_eq_getElem (by omega)⟩
          have w3 : wr.cell? ⟨b, j, none⟩ = some y := by simp [World.cell?, b4, hy]
          have wf : wr.frozen? ⟨b, j, none⟩ = false := frozen_of_row wr b _ _ 3 b4
          have j0 : (0 : Int) ≤ (j : Int) := by omega
          have j1 : (j : Int) < (m : Int) := by omega
          have HB : Hid (lo ≤ b ∧ b < hi ∧ b ≠ g) := hidE ⟨b1, b2, b3⟩
          clear b4 hy k2
          go_wp2_with fail
          have hbn : w.heap.size ≠ b := by have := HB.out; omega
          exact ⟨⟨j + 1, by omega, by go_num, HI.out.row HB.out.2.2 _, At.set HA.out hbn _, HO.out.set ⟨HB.out.1, HB.out.2.1⟩ _⟩, by simp [intOf]; omega⟩
        · obtain rfl : j = m := by omega
          have lt : ¬ (j : Int) < (j : Int) := by omega
          clear k2
          go_wp2_with fail
          exact ⟨⟨i + 1, by omega, by go_num, HI.out.txt i _, At.set HA.out hgne _, HO.out.set ⟨hgb.1, hgb.2⟩ _⟩, by simp [intOf]; omega⟩
    · obtain rfl : i = n := by omega
      have lt : ¬ (i : Int) < (i : Int) := by omega
      go_wp2_with fail
      go_end0
      exact ⟨rfl, HO.out⟩
/-- What a made copy has: it may be written over. -/
theorem OC.spi {W : World} {lo hi g : Nat} {T : List Nd} {cur : Array Value} (h : OC W lo hi g T.length T T.length cur) : SpI lo hi g T.length T W := by
  refine ⟨⟨h.lg, h.gh⟩, cur, h.at_, h.size, fun i d hd => ?_⟩
  obtain ⟨v, hv, ho, hb⟩ := h.nd i d (List.getElem?_eq_some_iff.1 hd).1 hd
  obtain ⟨a, c, rfl⟩ := row_slice3 ho
  refine ⟨a, c, hv.2.2.2.2, fun hl => ?_⟩
  rcases ho.2 with ⟨-, h2⟩ | ⟨b, c', cr, e1, e2, e3, e4⟩
  · have := ho.1; rw [h2] at this; simp at this; omega
  · simp only [Value.slice.injEq] at e1
    obtain ⟨rfl, -, -⟩ := e1
    refine ⟨b, rfl, e2, (hb b rfl).2, (hb b rfl).1, ?_⟩
    obtain ⟨f1, f2, f3, f4⟩ := e4
    exact ⟨cr, e3, by omega⟩
end Go.Proofs.Ytkidcmglidnaoaa
