import Derived.Test.YtpnamkpoapcgeaaDoorLj
namespace Go.Proofs.YtpnamkpoapcgeaaDoor
open Go.RowKit Go.Shelf
set_option linter.unusedVariables false
set_option linter.unusedSimpArgs false

/-- Both tell the same of a place. -/
theorem line_both (S : List UInt8) (p : Int) (hm : S.length ≤ maxLen) : ∃ x y er : Int, (∀ W, Calls Tryd.prog 23 #[.string (str S), .int .i64 p] W fun e w' => e = .returned (.tuple #[.int .i64 x, .int .i64 y, .int .i64 er]) ∧ w' = W) ∧
    (∀ W, Calls Tryd.prog 24 #[.string (str S), .int .i64 p] W fun e w' => e = .returned (.tuple #[.int .i64 x, .int .i64 y, .int .i64 er]) ∧ w' = W) := by
  by_cases hS : S.length ≤ 65536
  · by_cases hp : p < 0 ∨ (S.length : Int) < p
    · exact ⟨0, 0, 2, fun W => line_arg S p W hS hp, fun W => rline_arg S p W hS hp⟩
    · obtain ⟨q, rfl⟩ := Int.eq_ofNat_of_zero_le (show 0 ≤ p by omega)
      exact ⟨_, _, _, fun W => line_la S q W hS (by omega), fun W => rline_ok S q W hS (by omega)⟩
  · exact ⟨0, 0, 3, fun W => line_long S p W (by omega) hm, fun W => rline_long S p W (by omega) hm⟩
theorem lns_pos (S : List UInt8) : 0 < (lns S).length := List.length_pos_iff.2 (lns_ne S)
theorem sown_cells {w : World} {B : Nat} {v : Value} {ls : List (List UInt8)} (h : SOwn w B v ls) (hl : 0 < ls.length) : ∃ g c, v = .slice (some ⟨g, 0, none⟩) ls.length c ∧ B ≤ g ∧ g < w.heap.size ∧ ∀ (i : Nat) (q : List UInt8), ls[i]? = some q → w.cell? ⟨g, i, none⟩ = some (.string (str q)) := by
  rcases h.2 with ⟨_, h0⟩ | ⟨g, cap, cur, rfl, hb, hg, hc, _, hcs, ht⟩
  · omega
  · refine ⟨g, cap, rfl, hb, (Array.getElem?_eq_some_iff.1 hg).1, fun i q hi => ?_⟩
    rw [cell_of_row w g i cur 9 (0, 0) hg]
    have hu : (ls.map (fun l => Value.string (str l)))[i]? = some (.string (str q)) := by rw [List.getElem?_map, hi]; rfl
    rw [← ht, List.getElem?_take] at hu
    split at hu
    · simpa using hu
    · cases hu
set_option maxRecDepth 100000 in
set_option maxHeartbeats 4000000 in
theorem lexLines_walk (S : List UInt8) (p : Int) (w : World) (hsh : w.ShapedOpen Tryd.prog) (hm : S.length ≤ maxLen) :
    Calls Tryd.prog 5 #[.string (str S), .int .i64 p] w fun e w' => e = .returned (.bool true) ∧ Below w.heap.size w w' := by
  have hsz := str_size S
  have HA : Hid (∀ W, Calls Tryd.prog 9 #[] W fun e w' => e = .returned (.bool true) ∧ Below W.heap.size W w') := awake_any
  by_cases hbig : 131072 < S.length
  · have hgt : (131072 : Int) < (S.length : Int) := by omega
    go_enter Tryd.func5, Tryd.ntmps5
    go_wp2_with (first | (go_at_call 9; refine (HA.out _).mono ?_; rintro e w1 ⟨rfl, hb1⟩))
    go_ret
    exact ⟨rfl, hb1⟩
  · have hgt : ¬ (131072 : Int) < (S.length : Int) := by omega
    obtain ⟨x, y, er, h23, h24⟩ := line_both S p hm
    have H23 : Hid (∀ W, Calls Tryd.prog 23 #[.string (str S), .int .i64 p] W fun e w' => e = .returned (.tuple #[.int .i64 x, .int .i64 y, .int .i64 er]) ∧ w' = W) := h23
    have H24 : Hid (∀ W, Calls Tryd.prog 24 #[.string (str S), .int .i64 p] W fun e w' => e = .returned (.tuple #[.int .i64 x, .int .i64 y, .int .i64 er]) ∧ w' = W) := h24
    clear h23 h24
    by_cases hS : S.length ≤ 65536
    · have H25 : Hid (Calls Tryd.prog 25 #[.string (str S)] w fun e w' => e = .returned (.tuple #[.slice (some ⟨w.heap.size, 0, none⟩) (lns S).length (lns S).length, .int .i64 0]) ∧ SRow w' w.heap.size (lns S) ∧ Below w.heap.size w w') := lines_ok S w hsh hS
      have H26 : Hid (∀ W, Calls Tryd.prog 26 #[.string (str S)] W fun e w' => ∃ v, e = .returned (.tuple #[v, .int .i64 0]) ∧ SOwn w' W.heap.size v (lns S) ∧ Below W.heap.size W w') := fun W => rlines_ok S W hS
      have hpos := lns_pos S
      have hln := lns_len S
      generalize lns S = L at *
      go_enter Tryd.func5, Tryd.ntmps5
      go_wp2_with (first
        | (go_at_call 23; refine (H23.out _).mono ?_; rintro e w1 ⟨rfl, rfl⟩)
        | (go_at_call 24; refine (H24.out _).mono ?_; rintro e w1 ⟨rfl, rfl⟩)
        | (go_at_call 25; refine H25.out.mono ?_; rintro e w2 ⟨rfl, hR2, hb2⟩)
        | (go_at_call 26; refine (H26.out _).mono ?_; rintro e w3 ⟨v, rfl, hO3, hb3⟩; obtain ⟨g, cp, rfl, hg1, hg2, hc3⟩ := sown_cells hO3 hpos; have hR3 := hR2.below hb3; have BB := below_aft hb2 hb3; clear H25 H26 hb2 hb3 hO3 hR2))
      have HC3 : Hid (∀ (i : Nat) (q : List UInt8), L[i]? = some q → w3.cell? ⟨g, i, none⟩ = some (.string (str q))) := hc3
      clear hc3
      go_loopw [13] (fun i W => ∃ k d : Nat, k ≤ L.length ∧ i = .int .i64 k ∧ W = w3.drewN d) (fun i _ => L.length - (intOf i).toNat)
      case atStart => exact ⟨0, 0, Nat.zero_le _, rfl, rfl⟩
      case round =>
        obtain ⟨k, d, hk, rfl, rfl⟩ := hrel
        by_cases hlt : k < L.length
        · obtain ⟨q, hq⟩ : ∃ q, L[k]? = some q := ⟨_, List.getElem?_eq_getElem hlt⟩
          have g1 : (0 : Int) ≤ (k : Int) := by omega
          have g2 : (k : Int) < (L.length : Int) := by omega
          have w3' : IntKind.i64.wrap ((k : Int) + 1) = (k : Int) + 1 := by rw [IntKind.wrap_i64]; omega
          obtain ⟨c0, f0⟩ := hR3.cell hq
          have c1 := HC3.out k q hq
          clear hq
          have hb : ((str q).toList == (str q).toList) = true := by simp
          go_wp2
          go_quiet (fail)
          go_wp2
          exact ⟨⟨k + 1, _, by omega, by go_num, rfl⟩, by simp [intOf]; omega⟩
        · obtain rfl : k = L.length := by omega
          go_wp2_with (first | (go_at_call 9; refine (HA.out _).mono ?_; rintro e w4 ⟨rfl, hb4⟩))
          go_ret
          exact ⟨rfl, below_aft (below_drewN BB _) hb4⟩
    · have H25 : Hid (∀ W, Calls Tryd.prog 25 #[.string (str S)] W fun e w' => e = .returned (.tuple #[.slice none 0 0, .int .i64 3]) ∧ w' = W) := fun W => lines_long S W (by omega) hm
      have H26 : Hid (∀ W, Calls Tryd.prog 26 #[.string (str S)] W fun e w' => e = .returned (.tuple #[.slice none 0 0, .int .i64 3]) ∧ w' = W) := fun W => rlines_long S W (by omega) hm
      go_enter Tryd.func5, Tryd.ntmps5
      go_wp2_with (first
        | (go_at_call 23; refine (H23.out _).mono ?_; rintro e w1 ⟨rfl, hw⟩; replace hw := hw.symm; subst hw)
        | (go_at_call 24; refine (H24.out _).mono ?_; rintro e w1 ⟨rfl, hw⟩; replace hw := hw.symm; subst hw)
        | (go_at_call 25; refine (H25.out _).mono ?_; rintro e w2 ⟨rfl, hw⟩; replace hw := hw.symm; subst hw)
        | (go_at_call 26; refine (H26.out _).mono ?_; rintro e w3 ⟨rfl, hw⟩; replace hw := hw.symm; subst hw))
      go_loopw [13] (fun i W => i = .int .i64 0 ∧ W = w) (fun i _ => 0)
      case atStart => exact ⟨rfl, rfl⟩
      case round =>
        obtain ⟨rfl, rfl⟩ := hrel
        go_wp2_with (first | (go_at_call 9; refine (HA.out _).mono ?_; rintro e w4 ⟨rfl, hb4⟩))
        go_ret
        exact ⟨rfl, hb4⟩
end Go.Proofs.YtpnamkpoapcgeaaDoor
