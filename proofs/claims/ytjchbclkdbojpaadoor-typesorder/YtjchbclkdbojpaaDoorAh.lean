import Derived.Test.YtjchbclkdbojpaaDoorAf
namespace Go.Proofs.YtjchbclkdbojpaaDoor
open Go.RowKit Go.Shelf
set_option linter.unusedVariables false
set_option linter.unusedSimpArgs false

theorem row_pair {W : World} {B cap n : Nat} {a : Option Addr} {X : List (Int × Int)} (h : W.ownsRow B 67 2 (.slice a n cap) n (cCells X)) (hn : X.length = n) {j : Nat} {x : Int × Int} (hx : X[j]? = some x) : ∃ g, a = some ⟨g, 0, none⟩ ∧ B ≤ g ∧ g < W.heap.size ∧ W.cell? ⟨g, j * 2, none⟩ = some (.int .i64 x.1) ∧ W.cell? ⟨g, j * 2 + 1, none⟩ = some (.int .i64 x.2) := by
  have hj : j < X.length := (List.getElem?_eq_some_iff.1 hx).1
  obtain ⟨q1, q2⟩ := cCells_at X j x hx
  obtain ⟨g, rfl, b, l, k, _⟩ := row_at h (by omega)
  exact ⟨g, rfl, b, l, by rw [k _ (by omega), q1], by rw [k _ (by omega), q2]⟩
theorem At.pair {W : World} {b t : Nat} {p q : Value} (h : At W b (.cells #[p, q] t)) : b < W.heap.size ∧ W.cell? ⟨b, 0, none⟩ = some p ∧ W.cell? ⟨b, 1, none⟩ = some q := by
  refine ⟨h.lt, ?_, ?_⟩ <;> · unfold At at h; simp [World.cell?, h]
set_option maxRecDepth 100000 in
set_option maxHeartbeats 2000000 in
theorem has_any (X : List (Int × Int)) (v : Value) (B : Nat) (cp cq : Int) (w : World) (h : w.ownsRow B 67 2 v X.length (cCells X)) (hX : X.length ≤ 1000000) :
    Calls Tryd.prog 45 #[v, .agg #[.int .i64 cp, .int .i64 cq]] w fun e w' => e = .returned (.bool (decide ((cp, cq) ∈ X))) ∧ Below w.heap.size w w' := by
  obtain ⟨a, cap, rfl⟩ := own_sl h
  have HO := hid h
  obtain ⟨b, hb⟩ : ∃ b, b = decide ((cp, cq) ∈ X) := ⟨_, rfl⟩
  rw [← hb]
  have HB := hid hb
  clear hb h
  go_enter Tryd.func45, Tryd.ntmps45
  go_wp2_with fail
  go_loopw [5] (fun i W => ∃ j : Nat, j ≤ X.length ∧ i = .int .i64 j ∧ (∀ t, t < j → ∀ x, X[t]? = some x → x ≠ (cp, cq)) ∧ W.ownsRow B 67 2 (.slice a X.length cap) X.length (cCells X) ∧ At W w.heap.size (.cells #[.int .i64 cp, .int .i64 cq] 67) ∧ Below w.heap.size w W) (fun i _ => X.length - (intOf i).toNat)
  case atStart => exact ⟨0, Nat.zero_le _, rfl, fun t h => absurd h (Nat.not_lt_zero t), HO.out.alloc _, At.new _ _, belA (Below.refl _ _)⟩
  case round =>
    obtain ⟨j, hj, rfl, hall, hrow, hat, hbel⟩ := hrel
    have HALL := hid hall
    have HR := hid hrow
    have HT := hid hat
    have HL := hid hbel
    clear hall hrow hat hbel HO
    by_cases hlt : j < X.length
    · obtain ⟨⟨xa, xb⟩, hx⟩ : ∃ x, X[j]? = some x := ⟨_, List.getElem?_eq_getElem hlt⟩
      obtain ⟨g, rfl, hBg, hg, x1, x2⟩ := row_pair HR.out rfl hx
      obtain ⟨lb, y1, y2⟩ := HT.out.pair
      have HX := hid hx
      have k0 : (0 : Int) ≤ (j : Int) := by omega
      have k1 : (j : Int) < (X.length : Int) := by omega
      have w9 : IntKind.i64.wrap ((j : Int) + 1) = (j : Int) + 1 := by rw [IntKind.wrap_i64]; omega
      clear hx hBg
      simp only at x1 x2
      by_cases e1 : xa = cp
      · subst e1
        by_cases e2 : xb = cq
        · subst e2
          have HT2 : Hid (b = true) := hid (by rw [HB.out]; exact decide_eq_true (List.mem_of_getElem? HX.out))
          go_wp2_with fail
          go_quiet (fail)
          go_wp2_with fail
          go_ret
          exact ⟨by rw [HT2.out]; rfl, belN HL.out _⟩
        · have NX : Hid ((xa, xb) ≠ (xa, cq)) := hid (fun e => e2 (by injection e))
          go_wp2_with fail
          go_quiet (fail)
          go_wp2_with fail
          refine ⟨⟨j + 1, hlt, rfl, fun t ht y hy => ?_, HR.out, HT.out, belN HL.out _⟩, ?_⟩
          · rcases Nat.lt_or_ge t j with h' | h'
            · exact HALL.out t h' y hy
            · obtain rfl : t = j := by omega
              rw [HX.out] at hy
              cases hy
              exact NX.out
          · show X.length - ((j : Int) + 1).toNat < X.length - (j : Int).toNat
            omega
      · have NX : Hid ((xa, xb) ≠ (cp, cq)) := hid (fun e => e1 (by injection e))
        go_wp2_with fail
        go_quiet (fail)
        go_wp2_with fail
        refine ⟨⟨j + 1, hlt, rfl, fun t ht y hy => ?_, HR.out, HT.out, belN HL.out _⟩, ?_⟩
        · rcases Nat.lt_or_ge t j with h' | h'
          · exact HALL.out t h' y hy
          · obtain rfl : t = j := by omega
            rw [HX.out] at hy
            cases hy
            exact NX.out
        · show X.length - ((j : Int) + 1).toNat < X.length - (j : Int).toNat
          omega
    · obtain rfl : j = X.length := by omega
      have HF : Hid (b = false) := hid (by
        rw [HB.out]
        refine decide_eq_false fun hm => ?_
        obtain ⟨t, ht⟩ := List.mem_iff_getElem?.1 hm
        exact HALL.out t (List.getElem?_eq_some_iff.1 ht).1 _ ht rfl)
      go_wp2_with fail
      go_ret
      exact ⟨by rw [HF.out]; rfl, HL.out⟩
end Go.Proofs.YtjchbclkdbojpaaDoor
