import Derived.Test.YtnohcppipkpgmaaDoorQa
import Derived.Test.YtnohcppipkpgmaaDoorAp
import Derived.Test.YtnohcppipkpgmaaDoorDk
namespace Go.Proofs.YtnohcppipkpgmaaDoor
open Go.RowKit Go.Shelf
set_option linter.unusedVariables false
set_option linter.unusedSimpArgs false

/-- A place's two cells. -/
structure Pt where
  l : Int
  a : Option Addr
  n : Nat
  cap : Nat
abbrev plV (l : Int) (a : Option Addr) (n cap : Nat) : Value := .agg #[.int .i64 l, .slice a n cap]
abbrev plO (l : Int) (a : Option Addr) (n cap : Nat) : Obj := .cells #[.int .i64 l, .slice a n cap] 26 (0, 0)
abbrev Pt.v (x : Pt) : Value := plV x.l x.a x.n x.cap
abbrev Pt.o (x : Pt) : Obj := plO x.l x.a x.n x.cap
/-- A place in memory. -/
structure PAt (w : World) (x : Pt) (p : List Int) : Prop where
  row : IntR w x.a x.n x.cap p
  l0 : -9223372036854775808 ≤ x.l
  l1 : x.l ≤ 9223372036854775807
theorem PAt.bel {w w' : World} {x : Pt} {p : List Int} (h : PAt w x p) (hb : Below w.heap.size w w') : PAt w' x p := ⟨h.row.bel hb, h.l0, h.l1⟩
theorem At.pl {w : World} {b : Nat} {l : Int} {a : Option Addr} {n cap : Nat} (h : At w b (plO l a n cap)) : w.cell? ⟨b, 0, none⟩ = some (.int .i64 l) ∧ w.cell? ⟨b, 1, none⟩ = some (.slice a n cap) := by
  unfold At at h
  exact ⟨by simp [World.cell?, h], by simp [World.cell?, h]⟩
theorem IntR.nth {w : World} {a : Option Addr} {n cap : Nat} {L : List Int} (h : IntR w a n cap L) {i : Nat} {x : Int} (hi : L[i]? = some x) : ∃ g off, a = some ⟨g, off, none⟩ ∧ g < w.heap.size ∧ w.cell? ⟨g, off + i, none⟩ = some (.int .i64 x) ∧ -9223372036854775808 ≤ x ∧ x ≤ 9223372036854775807 := by
  obtain ⟨g, off, h1, h2, h3⟩ := h.cells (fun e => by subst e; simp at hi)
  exact ⟨g, off, h1, h2, h3 i x hi, h.rng x (List.mem_of_getElem? hi)⟩
theorem IntR.drewN {w : World} {a : Option Addr} {n cap : Nat} {L : List Int} (h : IntR w a n cap L) (d : Nat) : IntR (w.drewN d) a n cap L := h.bel (belN (Below.refl _ _) d)
/-- A shorter one of the same row. -/
theorem IntR.cut {w : World} {a : Option Addr} {n cap : Nat} {L : List Int} (h : IntR w a n cap L) (k : Nat) (hk : k ≤ n) : IntR w a k cap (L.take k) where
  len := by rw [List.length_take, ← h.len]; omega
  le := Nat.le_trans hk h.le
  big := h.big
  cells := fun hne => by
    obtain ⟨g, off, h1, h2, h3⟩ := h.cells (fun e => hne (by rw [e]; simp))
    exact ⟨g, off, h1, h2, fun i x hx => h3 i x (by rw [List.getElem?_take] at hx; split at hx; exact hx; cases hx)⟩
  rng := fun x hx => h.rng x (List.mem_of_mem_take hx)
  nil := h.nil
theorem drew_ex (w : World) (a b : Nat) : ∃ d, (w.drewN a).drewN b = w.drewN d := ⟨a + b, World.drewN_drewN ..⟩
set_option maxRecDepth 100000 in
set_option maxHeartbeats 2000000 in
/-- slices.Equal of two paths. -/
theorem equal_any {w : World} {a a' : Option Addr} {n n' cap cap' : Nat} {L M : List Int} (h : IntR w a n cap L) (h' : IntR w a' n' cap' M) (b : Bool) (hb : b = true ↔ L = M) :
    Calls Tryd.prog 46 #[.slice a n cap, .slice a' n' cap'] w fun e w' => e = .returned (.bool b) ∧ ∃ d, w' = w.drewN d := by
  have big : n ≤ 9223372036854775807 ∧ n' ≤ 9223372036854775807 := by
    have := h.le; have := h.big; have := h'.le; have := h'.big
    unfold maxLen at *
    omega
  by_cases hn : n = n'
  · subst hn
    have HH := hidD h
    have HH' := hidD h'
    have HB := hidD hb
    have e1 := h.len
    have e2 := h'.len
    have HL := hidD e1
    have HM := hidD e2
    have big1 := big.1
    have HBIG := hidD big1
    clear h h' hb e1 e2 big big1
    go_enter Tryd.func46, Tryd.ntmps46
    go_wp2_with fail
    go_loopw [13] (fun v V => ∃ i : Nat, i ≤ n ∧ v = .int .i64 i ∧ L.take i = M.take i ∧ ∃ d, V = w.drewN d) (fun v _ => n - (intOf v).toNat)
    case atStart => exact ⟨0, Nat.zero_le _, rfl, rfl, 0, rfl⟩
    case round =>
      obtain ⟨i, hi, rfl, hT, d, rfl⟩ := hrel
      have HT := hidD hT
      clear hT
      by_cases hlt : i < n
      · obtain ⟨x, hx⟩ : ∃ x, L[i]? = some x := ⟨_, List.getElem?_eq_getElem (by have := HL.out; omega)⟩
        obtain ⟨y, hy⟩ : ∃ y, M[i]? = some y := ⟨_, List.getElem?_eq_getElem (by have := HM.out; omega)⟩
        obtain ⟨g, off, ea, hg, hc, -⟩ := HH.out.nth hx
        obtain ⟨g', off', ea', hg', hc', -⟩ := HH'.out.nth hy
        have HX := hidD hx
        have HY := hidD hy
        subst ea ea'
        clear hx hy
        have j0 : (0 : Int) ≤ (i : Int) := by omega
        have j1 : (i : Int) < (n : Int) := by omega
        have j2 : (i : Int) + 1 ≤ 9223372036854775807 := by have := HBIG.out; omega
        by_cases hxy : x = y
        · subst hxy
          go_wp2_with fail
          go_quiet (fail)
          go_wp2_with fail
          refine ⟨⟨i + 1, hlt, rfl, ?_, _, rfl⟩, ?_⟩
          · rw [List.take_add_one, List.take_add_one, HT.out, HX.out, HY.out]
          · show n - ((i : Int) + 1).toNat < n - (i : Int).toNat
            omega
        · go_wp2_with fail
          go_quiet (fail)
          clear j0 j1 j2 hi hlt hc hc' hg hg'
          go_wp2_with fail
          go_ret
          refine ⟨?_, drew_ex _ _ _⟩
          cases hb : b with
          | false => rfl
          | true =>
            have := HB.out.1 hb
            rw [this, HY.out] at HX
            exact absurd (Option.some.inj HX.out).symm hxy
      · obtain rfl : i = n := by omega
        have lt : ¬ (i : Int) < (i : Int) := by omega
        go_wp2_with fail
        go_ret
        refine ⟨ret_bool ?_, d, rfl⟩
        refine (HB.out.2 ?_).symm
        have := HT.out
        rw [HL.out, List.take_length, ← HL.out, HM.out, List.take_length] at this
        exact this
  · have ne : ¬ (n : Int) = (n' : Int) := by omega
    have hbf : b = false := by
      cases hbb : b with
      | false => rfl
      | true =>
        have := hb.1 hbb
        exact absurd (h.len.trans ((congrArg List.length this).trans h'.len.symm)) hn
    subst hbf
    clear hb h h' big
    go_enter Tryd.func46, Tryd.ntmps46
    go_wp2_with fail
    go_ret
    exact ⟨rfl, 0, rfl⟩
theorem belD {w w' : World} (h : ∃ d, w' = w.drewN d) : Below w.heap.size w w' := by
  obtain ⟨d, rfl⟩ := h
  exact belN (Below.refl _ _) d
set_option maxRecDepth 100000 in
theorem nan_any (x : Int) (w : World) : Calls Tryd.prog 76 #[.int .i64 x] w fun e w' => e = .returned (.bool false) ∧ w' = w := by
  go_enter Tryd.func76, Tryd.ntmps76
  go_wp2_with fail
  go_ret
  exact ⟨by simp, rfl⟩
set_option maxRecDepth 100000 in
/-- cmp.Compare of two steps. -/
theorem cmp_any (x y : Int) (w : World) : Calls Tryd.prog 63 #[.int .i64 x, .int .i64 y] w fun e w' => e = .returned (.int .i64 (Lib.compareInt x y)) ∧ w' = w := by
  have C : Hid (∀ z, Calls Tryd.prog 76 #[.int .i64 z] w fun e w' => e = .returned (.bool false) ∧ w' = w) := fun z => nan_any z w
  have e : Lib.compareInt x y = if x < y then -1 else if y < x then 1 else 0 := rfl
  rw [e]
  clear e
  by_cases h1 : x < y
  · rw [if_pos h1]
    go_enter Tryd.func63, Tryd.ntmps63
    go_wp2_with (go_at_call 76; refine (C.out _).mono ?_; rintro e w' ⟨rfl, hw⟩; subst hw)
    go_ret
    exact ⟨rfl, rfl⟩
  · rw [if_neg h1]
    by_cases h2 : y < x
    · rw [if_pos h2]
      go_enter Tryd.func63, Tryd.ntmps63
      go_wp2_with (go_at_call 76; refine (C.out _).mono ?_; rintro e w' ⟨rfl, hw⟩; subst hw)
      go_ret
      exact ⟨rfl, rfl⟩
    · rw [if_neg h2]
      go_enter Tryd.func63, Tryd.ntmps63
      go_wp2_with (go_at_call 76; refine (C.out _).mono ?_; rintro e w' ⟨rfl, hw⟩; subst hw)
      go_ret
      exact ⟨rfl, rfl⟩
theorem ordL_step {L M : List Int} {i : Nat} {x y : Int} (hx : L[i]? = some x) (hy : M[i]? = some y) : ordL (L.drop i) (M.drop i) = if x < y then -1 else if y < x then 1 else ordL (L.drop (i + 1)) (M.drop (i + 1)) := by
  obtain ⟨h1, rfl⟩ := List.getElem?_eq_some_iff.1 hx
  obtain ⟨h2, rfl⟩ := List.getElem?_eq_some_iff.1 hy
  rw [List.drop_eq_getElem_cons h1, List.drop_eq_getElem_cons h2]
  rfl
set_option maxRecDepth 100000 in
set_option maxHeartbeats 2000000 in
/-- slices.Compare of two paths. -/
theorem compare_any {w : World} {a a' : Option Addr} {n n' cap cap' : Nat} {L M : List Int} (h : IntR w a n cap L) (h' : IntR w a' n' cap' M) (r : Int) (hr : r = ordL L M) :
    Calls Tryd.prog 49 #[.slice a n cap, .slice a' n' cap'] w fun e w' => e = .returned (.int .i64 r) ∧ w' = w := by
  have big : n ≤ 9223372036854775807 ∧ n' ≤ 9223372036854775807 := by
    have := h.le; have := h.big; have := h'.le; have := h'.big
    unfold maxLen at *
    omega
  have C : Hid (∀ x y w, Calls Tryd.prog 63 #[.int .i64 x, .int .i64 y] w fun e w' => e = .returned (.int .i64 (Lib.compareInt x y)) ∧ w' = w) := fun x y w => cmp_any x y w
  have HH := hidD h
  have HH' := hidD h'
  have HR := hidD hr
  have e1 := h.len
  have e2 := h'.len
  have HL := hidD e1
  have HM := hidD e2
  have HBIG := hidD big
  clear h h' hr e1 e2 big
  go_enter Tryd.func49, Tryd.ntmps49
  go_wp2_with fail
  go_loopw [11] (fun v V => ∃ i : Nat, i ≤ n ∧ i ≤ n' ∧ v = .int .i64 i ∧ r = ordL (L.drop i) (M.drop i) ∧ V = w) (fun v _ => n - (intOf v).toNat)
  case atStart => exact ⟨0, Nat.zero_le _, Nat.zero_le _, rfl, HR.out, rfl⟩
  case round =>
    obtain ⟨i, hi, hi', rfl, hT, rfl⟩ := hrel
    have HT := hidD hT
    clear hT
    by_cases hlt : i < n
    · obtain ⟨x, hx⟩ : ∃ x, L[i]? = some x := ⟨_, List.getElem?_eq_getElem (by have := HL.out; omega)⟩
      obtain ⟨g, off, ea, hg, hc, -⟩ := HH.out.nth hx
      have HX := hidD hx
      subst ea
      clear hx
      have j0 : (0 : Int) ≤ (i : Int) := by omega
      have j1 : (i : Int) < (n : Int) := by omega
      have j2 : (i : Int) + 1 ≤ 9223372036854775807 := by have := HBIG.out; omega
      by_cases hlt' : i < n'
      · obtain ⟨y, hy⟩ : ∃ y, M[i]? = some y := ⟨_, List.getElem?_eq_getElem (by have := HM.out; omega)⟩
        obtain ⟨g', off', ea', hg', hc', -⟩ := HH'.out.nth hy
        have HY := hidD hy
        subst ea'
        have j3 : ¬ (n' : Int) ≤ (i : Int) := by omega
        have j4 : (i : Int) < (n' : Int) := by omega
        have st := ordL_step HX.out hy
        rw [← HT.out] at st
        have ST := hidD st
        clear st hy
        by_cases c1 : x < y
        · have CC : Hid (∀ w, Calls Tryd.prog 63 #[.int .i64 x, .int .i64 y] w fun e w' => e = .returned (.int .i64 (-1)) ∧ w' = w) := fun w => by
            have := cmp_any x y w
            rw [show Lib.compareInt x y = -1 from if_pos c1] at this
            exact this
          have e := ST.out
          rw [if_pos c1] at e
          subst e
          clear ST HT HR c1 C
          go_wp2_with (go_at_call 63; refine (CC.out _).mono ?_; rintro e w' ⟨rfl, hw⟩; subst hw)
          go_ret
          exact ⟨rfl, rfl⟩
        · by_cases c2 : y < x
          · have CC : Hid (∀ w, Calls Tryd.prog 63 #[.int .i64 x, .int .i64 y] w fun e w' => e = .returned (.int .i64 1) ∧ w' = w) := fun w => by
              have := cmp_any x y w
              rw [show Lib.compareInt x y = 1 from (if_neg c1).trans (if_pos c2)] at this
              exact this
            have e := ST.out
            rw [if_neg c1, if_pos c2] at e
            subst e
            clear ST HT HR c1 c2 C
            go_wp2_with (go_at_call 63; refine (CC.out _).mono ?_; rintro e w' ⟨rfl, hw⟩; subst hw)
            go_ret
            exact ⟨rfl, rfl⟩
          · have CC : Hid (∀ w, Calls Tryd.prog 63 #[.int .i64 x, .int .i64 y] w fun e w' => e = .returned (.int .i64 0) ∧ w' = w) := fun w => by
              have := cmp_any x y w
              rw [show Lib.compareInt x y = 0 from (if_neg c1).trans (if_neg c2)] at this
              exact this
            have e := ST.out
            rw [if_neg c1, if_neg c2] at e
            have HE := hidD e
            clear ST HT HR c1 c2 C e
            go_wp2_with (go_at_call 63; refine (CC.out _).mono ?_; rintro e w' ⟨rfl, hw⟩; subst hw)
            refine ⟨⟨i + 1, hlt, hlt', rfl, HE.out, trivial⟩, ?_⟩
            show n - ((i : Int) + 1).toNat < n - (i : Int).toNat
            omega
      · have hr1 : r = 1 := by
          have := HT.out
          rw [this, show M.drop i = [] from List.drop_eq_nil_of_le (by have := HM.out; omega)]
          obtain ⟨h1, -⟩ := List.getElem?_eq_some_iff.1 HX.out
          rw [List.drop_eq_getElem_cons h1]
          rfl
        have j3 : (n' : Int) ≤ (i : Int) := by omega
        subst hr1
        clear HR HT
        go_wp2_with fail
        go_ret
        exact ⟨rfl, rfl⟩
    · obtain rfl : i = n := by omega
      have lt : ¬ (i : Int) < (i : Int) := by omega
      by_cases hlt' : i < n'
      · have hr1 : r = -1 := by
          have := HT.out
          rw [this, show L.drop i = [] from List.drop_eq_nil_of_le (by have := HL.out; omega), List.drop_eq_getElem_cons (l := M) (by have := HM.out; omega)]
          rfl
        have j3 : (i : Int) < (n' : Int) := by omega
        subst hr1
        clear HR HT
        go_wp2_with fail
        go_ret
        exact ⟨rfl, rfl⟩
      · have hr1 : r = 0 := by
          have := HT.out
          rw [this, show L.drop i = [] from List.drop_eq_nil_of_le (by have := HL.out; omega), show M.drop i = [] from List.drop_eq_nil_of_le (by have := HM.out; omega)]
          rfl
        have j3 : ¬ (i : Int) < (n' : Int) := by omega
        subst hr1
        clear HR HT
        go_wp2_with fail
        go_ret
        exact ⟨rfl, rfl⟩
end Go.Proofs.YtnohcppipkpgmaaDoor
