import Derived.Test.YtahdnfogdnondaaGreatDoorC
namespace Go.Proofs.YtahdnfogdnondaaGreatDoor
open Go.RowKit
set_option linter.unusedVariables false
set_option linter.unusedSimpArgs false

theorem cells_two {W : World} {b t : Nat} {u v : Value} (h : W.heap[b]? = some (.cells #[u, v] t)) : W.cell? ⟨b, 0, none⟩ = some u ∧ W.cell? ⟨b, 1, none⟩ = some v := ⟨by simp [World.cell?, h], by simp [World.cell?, h]⟩
theorem two_cells (w : World) (u v : Value) (t : Nat) : (w.alloc (.cells #[u, v] t)).cell? ⟨w.heap.size, 0, none⟩ = some u ∧ (w.alloc (.cells #[u, v] t)).cell? ⟨w.heap.size, 1, none⟩ = some v := cells_two (heap_alloc_new w (.cells #[u, v] t))
set_option maxRecDepth 100000 in
set_option maxHeartbeats 2000000 in
theorem name_any (S : List UInt8) (w : World) (hS : S.length ≤ maxLen) :
    Calls Tryz.prog 128 #[.string (str S)] w fun e w' => e = .returned (.bool (nmB S && !isK (str S))) ∧ Below w.heap.size w w' := by
  have HS : Hid (∀ b W, W.cell? ⟨b, 0, none⟩ = some (fnV 147) → W.cell? ⟨b, 1, none⟩ = some (fnV 148) → Calls Tryz.prog 146 #[.string (str S), fnV 147, .slice (some ⟨b, 0, none⟩) 2 2] W fun e w' => e = .returned (.bool (nmB S)) ∧ w' = W) := fun b W h0 h1 => spelt_name S b W hS h0 h1
  have HK : Hid (∀ W, Calls Tryz.prog 149 #[.string (str S)] W fun e w' => e = .returned (.bool (isK (str S))) ∧ w' = W) := fun W => keyword_any (str S) W
  generalize nmB S = x at *
  generalize isK (str S) = y at *
  have hB : ∀ o, Below w.heap.size w (w.alloc o) := fun o => (Below.refl _ _).alloc (Nat.le_refl _) o
  cases x with
  | false =>
    go_enter Tryz.func128, Tryz.ntmps128
    go_wp2_with (go_at_call 146; refine (HS.out _ _ (two_cells w _ _ _).1 (two_cells w _ _ _).2).mono ?_; rintro e w1 ⟨rfl, hw1⟩; replace hw1 := hw1.symm; subst hw1)
    go_ret
    exact ⟨rfl, hB _⟩
  | true =>
    go_enter Tryz.func128, Tryz.ntmps128
    go_wp2_with (first
      | (go_at_call 146; refine (HS.out _ _ (two_cells w _ _ _).1 (two_cells w _ _ _).2).mono ?_; rintro e w1 ⟨rfl, hw1⟩; replace hw1 := hw1.symm; subst hw1)
      | (go_at_call 149; refine (HK.out _).mono ?_; rintro e w1 ⟨rfl, hw1⟩; replace hw1 := hw1.symm; subst hw1))
    go_ret
    exact ⟨rfl, hB _⟩
end Go.Proofs.YtahdnfogdnondaaGreatDoor
