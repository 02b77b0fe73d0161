import Derived.Test.YtpnamkpoapcgeaaDoorLe
namespace Go.Proofs.YtpnamkpoapcgeaaDoor
open Go.RowKit Go.Shelf
set_option linter.unusedVariables false
set_option linter.unusedSimpArgs false

theorem pcs_one : pcs 13 [38, 38, 109, 117, 116, 39, 97, 32, 45, 62, 32, 48, 55] = [⟨6, 0, 0, [38, 38]⟩, ⟨1, 2, 0, [109, 117, 116]⟩, ⟨4, 5, 0, [97]⟩, ⟨6, 8, 0, [45, 62]⟩] ++ [⟨0, 12, 0, []⟩] := by kernel_rfl
theorem pcs_two : pcs 8 [97, 47, 47, 98, 10, 45, 62, 99] = [⟨2, 0, 0, [97]⟩, ⟨6, 5, 0, [45, 62]⟩, ⟨2, 7, 0, [99]⟩] := by kernel_rfl
theorem pcs_ab : pcs 3 [97, 45, 62] = [⟨2, 0, 0, [97]⟩, ⟨6, 1, 0, [45, 62]⟩] := by kernel_rfl
theorem pcs_bc : pcs 3 [45, 62, 99] = [⟨6, 0, 0, [45, 62]⟩, ⟨2, 2, 0, [99]⟩] := by kernel_rfl
/-- Three tokens that are named. -/
abbrev ta : Tz := ⟨2, 0, 0, [97]⟩
abbrev tb : Tz := ⟨6, 5, 0, [45, 62]⟩
abbrev tc : Tz := ⟨2, 7, 0, [99]⟩
theorem lex_one (w : World) : Calls Tryd.prog 10 #[.string ⟨#[38, 38, 109, 117, 116, 39, 97, 32, 45, 62, 32, 48, 55]⟩] w fun e w' => e = .returned (.tuple #[.slice none 0 0, .int .i64 12, .int .i64 20]) ∧ Below w.heap.size w w' := by
  refine (lex_any w [38, 38, 109, 117, 116, 39, 97, 32, 45, 62, 32, 48, 55] (by decide)).mono ?_
  rintro e w' ⟨hb, ⟨v, rfl, hr, hz⟩ | ⟨p, t, rfl, hp, hk⟩⟩
  · exact absurd rfl (hz ⟨0, 12, 0, []⟩ (by rw [show ([38, 38, 109, 117, 116, 39, 97, 32, 45, 62, 32, 48, 55] : List UInt8).length = 13 from rfl, pcs_one]; simp))
  · rw [show ([38, 38, 109, 117, 116, 39, 97, 32, 45, 62, 32, 48, 55] : List UInt8).length = 13 from rfl, pcs_one] at hp
    have := (List.append_inj' hp rfl).2
    simp only [List.cons.injEq, and_true] at this
    subst this
    exact ⟨rfl, hb⟩
theorem lex_two (w : World) : Calls Tryd.prog 10 #[.string ⟨#[97, 47, 47, 98, 10, 45, 62, 99]⟩] w fun e w' => ∃ g c, e = .returned (.tuple #[.slice (some ⟨g, 0, none⟩) 3 c, .int .i64 0, .int .i64 0]) ∧ ZRow w' g 0 [ta, tb, tc] ∧ 3 ≤ c ∧ w.heap.size ≤ g ∧ Below w.heap.size w w' := by
  refine (lex_any w [97, 47, 47, 98, 10, 45, 62, 99] (by decide)).mono ?_
  rintro e w' ⟨hb, ⟨v, rfl, hr, hz⟩ | ⟨p, t, rfl, hp, hk⟩⟩
  · rw [show ([97, 47, 47, 98, 10, 45, 62, 99] : List UInt8).length = 8 from rfl, pcs_two] at hr
    rcases hr.2 with ⟨_, h0⟩ | ⟨g, cap, cur, rfl, hbg, hg, hc, _, hcs, ht⟩
    · cases h0
    · have hlt := (Array.getElem?_eq_some_iff.1 hg).1
      have key : ∀ (j : Nat) (u : Value), (tkCells [⟨2, 0, 0, [97]⟩, ⟨6, 5, 0, [45, 62]⟩, ⟨2, 7, 0, [99]⟩])[j]? = some u → w'.cell? ⟨g, j, none⟩ = some u := by
        intro j u hu
        rw [cell_of_row w' g j cur 32 (0, 0) hg]
        rw [← ht, List.getElem?_take] at hu
        split at hu
        · simpa using hu
        · cases hu
      refine ⟨g, cap, rfl, ?_, hc, hbg, hb⟩
      intro i t hi
      match i, hi with
      | 0, hi => cases hi; exact ⟨hlt, key 0 _ rfl, key 1 _ rfl, key 2 _ rfl, key 3 _ rfl⟩
      | 1, hi => cases hi; exact ⟨hlt, key 4 _ rfl, key 5 _ rfl, key 6 _ rfl, key 7 _ rfl⟩
      | 2, hi => cases hi; exact ⟨hlt, key 8 _ rfl, key 9 _ rfl, key 10 _ rfl, key 11 _ rfl⟩
      | i + 3, hi => cases hi
  · rw [show ([97, 47, 47, 98, 10, 45, 62, 99] : List UInt8).length = 8 from rfl, pcs_two] at hp
    have hm : t ∈ ([⟨2, 0, 0, [97]⟩, ⟨6, 5, 0, [45, 62]⟩, ⟨2, 7, 0, [99]⟩] : List Tk) := by rw [hp]; simp
    simp only [List.mem_cons, List.not_mem_nil, or_false] at hm
    rcases hm with rfl | rfl | rfl <;> cases hk
theorem num_not {t : Tz} (h : t.k ≠ 5) (W : World) : Num W t := fun h' => absurd h' h
theorem tight_two (w : World) (g c : Nat) (hr : ZRow w g 0 [ta, tb, tc]) : Calls Tryd.prog 21 #[.slice (some ⟨g, 0, none⟩) 3 c] w fun e w' => e = .returned (.tuple #[.string ⟨#[97, 45, 62, 99]⟩, .int .i64 0]) ∧ Below w.heap.size w w' := by
  refine tight_of _ _ _ w ?_
  have hk : ∀ t ∈ [ta, tb, tc], t.k ≠ 5 := by decide
  refine together_ok_41 (fun _ _ => false) [ta, tb, tc] g 0 c w hr (by decide) (by decide) ?_ (fun W _ t ht => num_not (hk t ht) W) ?_ ?_ ?_
  · decide
  · decide
  · intro W hW k hk2
    match k, hk2 with
    | 0, _ =>
      refine (clash_two ta tb ⟨2, 0, 0, [97]⟩ ⟨6, 1, 0, [45, 62]⟩ W (by decide) (by decide) (by decide) (by decide) (fun W _ => num_not (by decide) W) (fun W _ => num_not (by decide) W) ?_ (by decide)).mono ?_
      · kernel_rfl
      · rintro e w' ⟨rfl, hb⟩; exact ⟨rfl, hb⟩
    | 1, _ =>
      refine (clash_two tb tc ⟨6, 0, 0, [45, 62]⟩ ⟨2, 2, 0, [99]⟩ W (by decide) (by decide) (by decide) (by decide) (fun W _ => num_not (by decide) W) (fun W _ => num_not (by decide) W) ?_ (by decide)).mono ?_
      · kernel_rfl
      · rintro e w' ⟨rfl, hb⟩; exact ⟨rfl, hb⟩
    | k + 2, h => simp at h; omega
  · intro k hk
    match k, hk with
    | 0, _ => decide
    | 1, _ => decide
    | 2, _ => decide
    | 3, _ => decide
    | k + 4, h => simp at h; try omega
theorem line_two (w : World) : Calls Tryd.prog 23 #[.string ⟨#[97, 10, 98, 99]⟩, .int .i64 3] w fun e w' => e = .returned (.tuple #[.int .i64 2, .int .i64 2, .int .i64 0]) ∧ w' = w := line_ok [97, 10, 98, 99] 3 w (by decide) (by decide)
theorem may_a (w : World) : Calls Tryd.prog 17 #[tok 2 0 0 (str [97])] w fun e w' => e = .returned (.bool true) ∧ Below w.heap.size w w' := may_any ta w (by decide) (by decide) (fun W _ => num_not (by decide) W)
theorem neq_func (gf : Nat) (lb : Array Value) (w : World) : (binOp .neq 34 (.func (.func gf) #[] lb) .nilFunc).run Tryd.prog w = .ok (.bool true) w := by
  kernel_rfl
set_option maxRecDepth 100000 in
set_option maxHeartbeats 4000000 in
theorem awake_any (w : World) : Calls Tryd.prog 9 #[] w fun e w' => e = .returned (.bool true) ∧ Below w.heap.size w w' := by
  have H1 : Hid (∀ W, Calls Tryd.prog 10 #[.string ⟨#[38, 38, 109, 117, 116, 39, 97, 32, 45, 62, 32, 48, 55]⟩] W fun e w' => e = .returned (.tuple #[.slice none 0 0, .int .i64 12, .int .i64 20]) ∧ Below W.heap.size W w') := lex_one
  have H2 : Hid (∀ W, Calls Tryd.prog 10 #[.string ⟨#[97, 47, 47, 98, 10, 45, 62, 99]⟩] W fun e w' => ∃ g c, e = .returned (.tuple #[.slice (some ⟨g, 0, none⟩) 3 c, .int .i64 0, .int .i64 0]) ∧ ZRow w' g 0 [ta, tb, tc] ∧ 3 ≤ c ∧ W.heap.size ≤ g ∧ Below W.heap.size W w') := lex_two
  have H3 : Hid (∀ W g c, ZRow W g 0 [ta, tb, tc] → Calls Tryd.prog 21 #[.slice (some ⟨g, 0, none⟩) 3 c] W fun e w' => e = .returned (.tuple #[.string ⟨#[97, 45, 62, 99]⟩, .int .i64 0]) ∧ Below W.heap.size W w') := tight_two
  have H4 : Hid (∀ W, Calls Tryd.prog 23 #[.string ⟨#[97, 10, 98, 99]⟩, .int .i64 3] W fun e w' => e = .returned (.tuple #[.int .i64 2, .int .i64 2, .int .i64 0]) ∧ w' = W) := line_two
  have H5 : Hid (∀ W, Calls Tryd.prog 13 #[.string ⟨#[120]⟩] W fun e w' => ∃ b, e = .returned (.func (.func 54) #[] #[.pointer (some ⟨b, 0, none⟩)]) ∧ Below W.heap.size W w') := fun W => by
    refine (each_any [120] (by decide) W).mono ?_
    rintro e w' ⟨b, v, rfl, _, _, hb⟩
    exact ⟨b, rfl, hb⟩
  have H6 : Hid (∀ W, Calls Tryd.prog 17 #[tok 2 0 0 (str [97])] W fun e w' => e = .returned (.bool true) ∧ Below W.heap.size W w') := may_a
  go_enter Tryd.func9, Tryd.ntmps9
  go_wp2_with (first
    | (go_at_call 10; refine (H1.out _).mono ?_; clear H1; rintro e w1 ⟨rfl, hb1⟩)
    | (go_at_call 10; refine (H2.out _).mono ?_; rintro e w2 ⟨g, c, rfl, hr2, hc2, hg2, hb2⟩)
    | (go_at_call 21; refine (H3.out _ g c hr2).mono ?_; rintro e w3 ⟨rfl, hb3⟩; have hr3 := hr2.below hb3; obtain ⟨_, a0, a1, a2, a3⟩ := hr3 0 ta rfl; obtain ⟨_, b0, b1, b2, b3⟩ := hr3 1 tb rfl; dsimp only at a0 a1 a2 a3 b0 b1 b2 b3; simp only [Nat.zero_mul, Nat.zero_add, Nat.one_mul, Nat.add_zero, Nat.reduceAdd, Nat.reduceMul] at a0 a1 a2 a3 b0 b1 b2 b3; replace b3 : w3.cell? ⟨g, 7, none⟩ = some (.string ⟨#[45, 62]⟩) := b3)
    | (go_at_call 23; refine (H4.out _).mono ?_; rintro e w4 ⟨rfl, rfl⟩)
    | (go_at_call 13; refine (H5.out _).mono ?_; rintro e w5 ⟨b5, rfl, hb5⟩; have hnf := neq_func 54 #[.pointer (some ⟨b5, 0, none⟩)] w5; have hr5 := hr3.below hb5; clear a0 a1 a2 a3; obtain ⟨_, a0, a1, a2, a3⟩ := hr5 0 ta rfl; dsimp only at a0 a1 a2 a3; simp only [Nat.zero_mul, Nat.zero_add, Nat.one_mul, Nat.add_zero, Nat.reduceAdd, Nat.reduceMul] at a0 a1 a2 a3)
    | (go_at_call 17; refine (H6.out _).mono ?_; rintro e w6 ⟨rfl, hb6⟩))
  go_ret
  exact ⟨rfl, below_aft (below_aft (below_aft (below_aft hb1 hb2) hb3) hb5) hb6⟩
end Go.Proofs.YtpnamkpoapcgeaaDoor
