import Derived.Test.YtkidcmglidnaoaaZn
import Derived.Test.YtkidcmglidnaoaaZo
namespace Go.Proofs.Ytkidcmglidnaoaa
open Go.RowKit
set_option linter.unusedVariables false
set_option linter.unusedSimpArgs false

set_option maxRecDepth 100000 in
set_option maxHeartbeats 4000000 in
theorem walks_big (T : List Nd) (m0 : Nat) (hm0 : T.length = m0) (a : Option Addr) (cap : Nat) (w : World) (hT : TAt w a T) (hL : Lg T) (hF : ¬ Fit T) :
    Calls Try.prog 8 #[trV a m0 cap] w fun e w' => e = .returned (.bool true) ∧ Below w.heap.size w w' := by
  obtain ⟨W2, hW2⟩ : ∃ W2, W2 = (w.alloc (Tro a m0 cap)).alloc (One (.bool false) 4) := ⟨_, rfl⟩
  have B2 : Below w.heap.size w W2 := by rw [hW2]; exact belA (belA (Below.refl _ _))
  have A2 : At W2 (w.heap.size + 1) (One (.bool false) 4) := by
    have := At.new (w.alloc (Tro a m0 cap)) (One (.bool false) 4)
    rw [World.size_alloc] at this
    rw [hW2]
    exact this
  have HW2 : Hid ((w.alloc (.cells #[.slice a m0 cap] 24)).alloc (.cells #[.bool false] 4) = W2) := hW2.symm
  have HFIT : Hid (Calls Try.prog 9 #[trV a m0 cap] W2 fun e w' => e = .returned (.bool false) ∧ Below W2.heap.size W2 w') := fits_any T m0 hm0 false ⟨fun h => (by cases h), fun h => absurd h hF⟩ a cap W2 (hT.below B2) hL
  clear hm0 hT hL hF hW2
  go_enter Try.func8, Try.ntmps8
  go_wp2_with (first
    | (go_at_call 9; rw [HW2.out]; refine HFIT.out.mono ?_; rintro e w1 ⟨rfl, hb1⟩; have B1 := below_aft B2 hb1; have A1 := A2.below hb1)
    | (go_at_call 10; refine (awake_true _).mono ?_; rintro e w3 ⟨rfl, hb3⟩; obtain ⟨x0, xf⟩ := (A1.below hb3).one; have D5 := (A1.below hb3).setOne (.bool true); have r5 := D5.one.1))
  refine bodyPost_ret (v := .bool true) (by simp [results, Try.results8, go_sem, r5]) rfl ⟨rfl, (below_aft B1 hb3).setCell (by simp) _⟩
set_option maxRecDepth 100000 in
set_option maxHeartbeats 4000000 in
theorem walks_none (T : List Nd) (m0 : Nat) (hm0 : T.length = m0) (a : Option Addr) (cap : Nat) (w : World) (hT : TAt w a T) (hL : Lg T) (hF : Fit T) (hM : ¬ Mayb okP T) :
    Calls Try.prog 8 #[trV a m0 cap] w fun e w' => e = .returned (.bool true) ∧ Below w.heap.size w w' := by
  obtain ⟨W2, hW2⟩ : ∃ W2, W2 = (w.alloc (Tro a m0 cap)).alloc (One (.bool false) 4) := ⟨_, rfl⟩
  have B2 : Below w.heap.size w W2 := by rw [hW2]; exact belA (belA (Below.refl _ _))
  have A2 : At W2 (w.heap.size + 1) (One (.bool false) 4) := by
    have := At.new (w.alloc (Tro a m0 cap)) (One (.bool false) 4)
    rw [World.size_alloc] at this
    rw [hW2]
    exact this
  have HW2 : Hid ((w.alloc (.cells #[.slice a m0 cap] 24)).alloc (.cells #[.bool false] 4) = W2) := hW2.symm
  have A0 : At W2 w.heap.size (Tro a m0 cap) := by rw [hW2]; exact at_fst _ _ _
  have HFIT : Hid (Calls Try.prog 9 #[trV a m0 cap] W2 fun e w' => e = .returned (.bool true) ∧ Below W2.heap.size W2 w') := fits_any T m0 hm0 true ⟨fun _ => hF, fun _ => rfl⟩ a cap W2 (hT.below B2) hL
  have HM : Hid (∀ W, Below w.heap.size w W → Calls Try.prog 14 #[trV a m0 cap] W fun e w' => e = .returned (.bool false) ∧ Below W.heap.size W w') := fun W hW => by
    have := may_no (cap := cap) (hT.below hW) (hL.sm hF.1 hF.l) hM
    rw [hm0] at this
    exact this
  clear hm0 hT hL hF hW2 hM
  go_enter Try.func8, Try.ntmps8
  go_wp2_with (first
    | (go_at_call 9; rw [HW2.out]; refine HFIT.out.mono ?_; rintro e w1 ⟨rfl, hb1⟩; have B1 := below_aft B2 hb1; have A1 := A2.below hb1; obtain ⟨z0, zf⟩ := (A0.below hb1).one)
    | (go_at_call 14; refine (HM.out _ B1).mono ?_; rintro e w4 ⟨rfl, hb4⟩; have B4 := below_aft B1 hb4; have A4 := A1.below hb4)
    | (go_at_call 10; refine (awake_true _).mono ?_; rintro e w3 ⟨rfl, hb3⟩; obtain ⟨x0, xf⟩ := (A4.below hb3).one; have D5 := (A4.below hb3).setOne (.bool true); have r5 := D5.one.1))
  refine bodyPost_ret (v := .bool true) (by simp [results, Try.results8, go_sem, r5]) rfl ⟨rfl, (below_aft B4 hb3).setCell (by simp) _⟩
end Go.Proofs.Ytkidcmglidnaoaa
