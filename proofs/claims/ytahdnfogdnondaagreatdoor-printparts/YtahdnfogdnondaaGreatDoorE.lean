import Derived.Test.YtahdnfogdnondaaGreatDoorD
namespace Go.Proofs.YtahdnfogdnondaaGreatDoor
open Go.RowKit
set_option linter.unusedVariables false
set_option linter.unusedSimpArgs false

theorem nmB_first {S : List UInt8} (h : 0 < S.length) (hf : isL S[0].toNat = false) : nmB S = false := by
  cases S with
  | nil => simp at h
  | cons a r => simp at hf; unfold nmB; simp [hf]
theorem nmB_byte {S : List UInt8} {k : Nat} (h : k < S.length) (h1 : isL S[k].toNat = false) (h2 : isO S[k].toNat = false) : nmB S = false := by
  have : S.all (fun c => isL c.toNat || isO c.toNat) = false := by
    rw [List.all_eq_false]
    exact ⟨S[k], List.getElem_mem h, by simp [h1, h2]⟩
  unfold nmB
  rw [this, Bool.and_false]
theorem nmB_yes {S : List UInt8} (h1 : 0 < S.length) (h2 : S.length ≤ 32) (h : ∀ j (hj : j < S.length), (isL S[j].toNat || (decide (j ≠ 0) && isO S[j].toNat)) = true) : nmB S = true := by
  have h0 := h 0 h1
  have ha : S.all (fun c => isL c.toNat || isO c.toNat) = true := by
    rw [List.all_eq_true]
    intro x hx
    obtain ⟨j, hj, rfl⟩ := List.getElem_of_mem hx
    have := h j hj
    simp only [Bool.or_eq_true, Bool.and_eq_true] at this ⊢
    rcases this with h | h
    · exact .inl h
    · exact .inr h.2
  unfold nmB
  rw [ha, decide_eq_true (by omega)]
  cases S with
  | nil => simp at h1
  | cons a r => simpa using h0
set_option maxRecDepth 100000 in
set_option maxHeartbeats 2000000 in
theorem rname_any (S : List UInt8) (w : World) (hS : S.length ≤ maxLen) :
    Calls Tryz.prog 106 #[.string (str S)] w fun e w' => e = .returned (.bool (nmB S && !isK (str S))) ∧ w' = w := by
  unfold maxLen at hS
  have hsz := str_size S
  have HK : Hid (∀ W, Calls Tryz.prog 127 #[.string (str S)] W fun e w' => e = .returned (.bool (isK (str S))) ∧ w' = W) := fun W => rkeyword_any (str S) W
  obtain ⟨x, hx⟩ : ∃ x, x = nmB S := ⟨_, rfl⟩
  rw [← hx]
  have HX : Hid (x = nmB S) := hx
  clear hx
  generalize isK (str S) = y at *
  go_enter Tryz.func106, Tryz.ntmps106
  go_wp2
  go_loopw [3] (fun i W => ∃ k : Nat, k ≤ S.length ∧ i = .int .i64 k ∧ (∀ j (hj : j < S.length), j < k → (isL S[j].toNat || (decide (j ≠ 0) && isO S[j].toNat)) = true) ∧ W = w) (fun i _ => S.length - (intOf i).toNat)
  case atStart => exact ⟨0, by omega, rfl, fun j _ h => absurd h (Nat.not_lt_zero j), rfl⟩
  case round =>
    obtain ⟨k, hk, rfl, hall, hww⟩ := hrel
    replace hww := hww.symm
    subst hww
    have HALL : Hid (∀ j (hj : j < S.length), j < k → (isL S[j].toNat || (decide (j ≠ 0) && isO S[j].toNat)) = true) := hall
    clear hall
    by_cases hlt : k < S.length
    · obtain ⟨d, hd⟩ : ∃ d, d = S[k] := ⟨_, rfl⟩
      have hc : (str S)[k]'(by rw [hsz]; exact hlt) = d := by rw [hd]; rfl
      have k0 : (0 : Int) ≤ (k : Int) := by omega
      have k1 : (k : Int) < (S.length : Int) := by omega
      have w3 : IntKind.i64.wrap ((k : Int) + 1) = (k : Int) + 1 := by rw [IntKind.wrap_i64]; omega
      have HD : Hid (d = S[k]) := hd
      clear hd
      cases hl : isL d.toNat with
      | true =>
        have HS : Hid (∀ w, Calls Tryz.prog 125 #[.int .u8 (d.toNat : Int)] w fun e w' => e = .returned (.bool true) ∧ w' = w) := fun w => by rw [← hl]; exact rsmall_any d.toNat w
        have HL : Hid (isL d.toNat = true) := hl
        clear hl
        go_wp2_with (go_at_call 125; refine (HS.out _).mono ?_; rintro e w1 ⟨rfl, hw1⟩; replace hw1 := hw1.symm; subst hw1)
        refine ⟨⟨k + 1, by omega, by go_num, fun j hj hjk => ?_, by first | rfl | trivial⟩, by simp [intOf]; omega⟩
        rcases Nat.lt_or_ge j k with h | h
        · exact HALL.out j hj h
        · obtain rfl : j = k := by omega
          rw [← HD.out, HL.out]; rfl
      | false =>
        have HS : Hid (∀ w, Calls Tryz.prog 125 #[.int .u8 (d.toNat : Int)] w fun e w' => e = .returned (.bool false) ∧ w' = w) := fun w => by rw [← hl]; exact rsmall_any d.toNat w
        by_cases hz : k = 0
        · have hxx : x = false := by
            subst hz
            rw [HX.out]; exact nmB_first hlt (by rw [← HD.out]; exact hl)
          subst hxx
          have z1 : ((k : Int) == 0) = true := by simp [hz]
          subst hz
          clear hl HALL
          go_wp2_with (go_at_call 125; refine (HS.out _).mono ?_; rintro e w1 ⟨rfl, hw1⟩; replace hw1 := hw1.symm; subst hw1)
          go_ret
          exact ⟨rfl, rfl⟩
        · have z1 : ((k : Int) == 0) = false := by simpa using hz
          have z2 : (k == 0) = false := by simpa using hz
          cases ho : isO d.toNat with
          | true =>
            have HO : Hid (∀ w, Calls Tryz.prog 126 #[.int .u8 (d.toNat : Int)] w fun e w' => e = .returned (.bool true) ∧ w' = w) := fun w => by rw [← ho]; exact other_any d.toNat w
            have HL : Hid (isO d.toNat = true) := ho
            have HZ : Hid (¬ k = 0) := hz
            clear hl ho
            go_wp2_with (first
              | (go_at_call 125; refine (HS.out _).mono ?_; rintro e w1 ⟨rfl, hw1⟩; replace hw1 := hw1.symm; subst hw1)
              | (go_at_call 126; refine (HO.out _).mono ?_; rintro e w1 ⟨rfl, hw1⟩; replace hw1 := hw1.symm; subst hw1))
            refine ⟨⟨k + 1, by omega, by go_num, fun j hj hjk => ?_, by first | rfl | trivial⟩, by simp [intOf]; omega⟩
            rcases Nat.lt_or_ge j k with h | h
            · exact HALL.out j hj h
            · obtain rfl : j = k := by omega
              rw [← HD.out, HL.out, decide_eq_true HZ.out]; simp
          | false =>
            have HO : Hid (∀ w, Calls Tryz.prog 126 #[.int .u8 (d.toNat : Int)] w fun e w' => e = .returned (.bool false) ∧ w' = w) := fun w => by rw [← ho]; exact other_any d.toNat w
            have hxx : x = false := by rw [HX.out]; exact nmB_byte hlt (by rw [← HD.out]; exact hl) (by rw [← HD.out]; exact ho)
            subst hxx
            clear hl ho
            go_wp2_with (first
              | (go_at_call 125; refine (HS.out _).mono ?_; rintro e w1 ⟨rfl, hw1⟩; replace hw1 := hw1.symm; subst hw1)
              | (go_at_call 126; refine (HO.out _).mono ?_; rintro e w1 ⟨rfl, hw1⟩; replace hw1 := hw1.symm; subst hw1))
            go_ret
            exact ⟨rfl, rfl⟩
    · obtain rfl : k = S.length := by omega
      by_cases hl1 : S.length < 1
      · have g1 : ¬ (1 : Int) ≤ (S.length : Int) := by omega
        have g2 : decide ((1 : Int) ≤ (S.length : Int)) = false := decide_eq_false g1
        have hxx : x = false := by rw [HX.out]; exact nmB_no (by omega)
        subst hxx
        go_wp2
        go_ret
        exact ⟨rfl, rfl⟩
      · have g1 : (1 : Int) ≤ (S.length : Int) := by omega
        have g2 : decide ((1 : Int) ≤ (S.length : Int)) = true := decide_eq_true g1
        by_cases hl2 : 32 < S.length
        · have g3 : ¬ (S.length : Int) ≤ 32 := by omega
          have g4 : decide ((S.length : Int) ≤ 32) = false := decide_eq_false g3
          have hxx : x = false := by rw [HX.out]; exact nmB_no (by omega)
          subst hxx
          go_wp2
          go_ret
          exact ⟨rfl, rfl⟩
        · have g3 : (S.length : Int) ≤ 32 := by omega
          have g4 : decide ((S.length : Int) ≤ 32) = true := decide_eq_true g3
          have hxx : x = true := by rw [HX.out]; exact nmB_yes (by omega) (by omega) (fun j hj => HALL.out j hj hj)
          subst hxx
          go_wp2_with (go_at_call 127; refine (HK.out _).mono ?_; rintro e w1 ⟨rfl, hw1⟩; replace hw1 := hw1.symm; subst hw1)
          go_ret
          exact ⟨rfl, rfl⟩
end Go.Proofs.YtahdnfogdnondaaGreatDoor
