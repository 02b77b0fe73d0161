import Derived.Test.YtahdnfogdnondaaGreatDoorA
namespace Go.Proofs.YtahdnfogdnondaaGreatDoor
open Go.RowKit
set_option linter.unusedVariables false
set_option linter.unusedSimpArgs false

abbrev fnV (f : Nat) : Value := .func (.func f) #[] #[]
set_option maxRecDepth 100000 in
set_option maxHeartbeats 2000000 in
theorem oneOf_two (c b : Nat) (w : World) (h0 : w.cell? ⟨b, 0, none⟩ = some (fnV 147)) (h1 : w.cell? ⟨b, 1, none⟩ = some (fnV 148)) :
    Calls Tryz.prog 155 #[.int .u8 (c : Int), .slice (some ⟨b, 0, none⟩) 2 2] w fun e w' => e = .returned (.bool (isL c || isO c)) ∧ w' = w := by
  have HS : Hid (∀ w, Calls Tryz.prog 147 #[.int .u8 (c : Int)] w fun e w' => e = .returned (.bool (isL c)) ∧ w' = w) := small_any c
  have HO : Hid (∀ w, Calls Tryz.prog 148 #[.int .u8 (c : Int)] w fun e w' => e = .returned (.bool (isO c)) ∧ w' = w) := rest_any c
  generalize isL c = x at *
  generalize isO c = y at *
  go_enter Tryz.func155, Tryz.ntmps155
  go_wp2
  go_loopw [9] (fun i W => ∃ k : Nat, k ≤ 2 ∧ i = .int .i64 k ∧ (0 < k → x = false) ∧ (1 < k → y = false) ∧ W = w) (fun i _ => 2 - (intOf i).toNat)
  case atStart => exact ⟨0, by omega, rfl, fun h => absurd h (by omega), fun h => absurd h (by omega), rfl⟩
  case round =>
    obtain ⟨k, hk, rfl, hx, hy, rfl⟩ := hrel
    have hk' : k = 0 ∨ k = 1 ∨ k = 2 := by omega
    rcases hk' with rfl | rfl | rfl
    · clear hx hy
      cases x with
      | true =>
        go_wp2_with (go_at_call 147; refine (HS.out _).mono ?_; rintro e w1 ⟨rfl, rfl⟩)
        go_ret
        exact ⟨rfl, rfl⟩
      | false =>
        go_wp2_with (go_at_call 147; refine (HS.out _).mono ?_; rintro e w1 ⟨rfl, rfl⟩)
        exact ⟨⟨1, by omega, by go_num, (fun _ => by first | rfl | trivial), (fun h => absurd h (by omega)), by first | rfl | trivial⟩, by simp [intOf]⟩
    · obtain rfl := hx (by omega)
      clear hx hy
      cases y with
      | true =>
        go_wp2_with (go_at_call 148; refine (HO.out _).mono ?_; rintro e w1 ⟨rfl, rfl⟩)
        go_ret
        exact ⟨rfl, rfl⟩
      | false =>
        go_wp2_with (go_at_call 148; refine (HO.out _).mono ?_; rintro e w1 ⟨rfl, rfl⟩)
        exact ⟨⟨2, by omega, by go_num, (fun _ => by first | rfl | trivial), (fun _ => by first | rfl | trivial), by first | rfl | trivial⟩, by simp [intOf]⟩
    · obtain rfl := hx (by omega)
      obtain rfl := hy (by omega)
      go_wp2
      go_ret
      exact ⟨rfl, rfl⟩
end Go.Proofs.YtahdnfogdnondaaGreatDoor
