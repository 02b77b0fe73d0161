import Derived.Test.YtahdnfogdnondaaGreatDoorB
namespace Go.Proofs.YtahdnfogdnondaaGreatDoor
open Go.RowKit
set_option linter.unusedVariables false
set_option linter.unusedSimpArgs false

/-- Bytes as a string. -/
def str (l : List UInt8) : ByteArray := ⟨l.toArray⟩
theorem str_size (l : List UInt8) : (str l).size = l.length := rfl
/-- A text spelt as a name: as long as one is, a letter first, no other bytes. -/
def nmB (l : List UInt8) : Bool := decide (1 ≤ l.length ∧ l.length ≤ 32) && l.head?.any (fun c => isL c.toNat) && l.all (fun c => isL c.toNat || isO c.toNat)
theorem nmB_no {l : List UInt8} (h : ¬ (1 ≤ l.length ∧ l.length ≤ 32)) : nmB l = false := by unfold nmB; rw [decide_eq_false h]; rfl
set_option maxRecDepth 100000 in
set_option maxHeartbeats 2000000 in
theorem spelt_name (S : List UInt8) (b : Nat) (w : World) (hS : S.length ≤ maxLen) (h0 : w.cell? ⟨b, 0, none⟩ = some (fnV 147)) (h1 : w.cell? ⟨b, 1, none⟩ = some (fnV 148)) :
    Calls Tryz.prog 146 #[.string (str S), fnV 147, .slice (some ⟨b, 0, none⟩) 2 2] w fun e w' => e = .returned (.bool (nmB S)) ∧ w' = w := by
  unfold maxLen at hS
  have hsz := str_size S
  have HO : Hid (∀ c : Nat, Calls Tryz.prog 155 #[.int .u8 (c : Int), .slice (some ⟨b, 0, none⟩) 2 2] w fun e w' => e = .returned (.bool (isL c || isO c)) ∧ w' = w) := fun c => oneOf_two c b w h0 h1
  clear h0 h1
  by_cases hl1 : S.length < 1
  · have g1 : (S.length : Int) < 1 := by omega
    have g2 : decide ((S.length : Int) < 1) = true := decide_eq_true g1
    rw [nmB_no (by omega)]
    go_enter Tryz.func146, Tryz.ntmps146
    go_wp2
    go_ret
    exact ⟨rfl, rfl⟩
  have g1 : ¬ (S.length : Int) < 1 := by omega
  have g2 : decide ((S.length : Int) < 1) = false := decide_eq_false g1
  by_cases hl2 : 32 < S.length
  · have g3 : (32 : Int) < (S.length : Int) := by omega
    have g4 : decide ((32 : Int) < (S.length : Int)) = true := decide_eq_true g3
    rw [nmB_no (by omega)]
    go_enter Tryz.func146, Tryz.ntmps146
    go_wp2
    go_ret
    exact ⟨rfl, rfl⟩
  have g3 : ¬ (32 : Int) < (S.length : Int) := by omega
  have g4 : decide ((32 : Int) < (S.length : Int)) = false := decide_eq_false g3
  have hpos : 0 < S.length := by omega
  obtain ⟨c, hcl⟩ : ∃ c, c = S[0] := ⟨_, rfl⟩
  have HS : Hid (∀ w, Calls Tryz.prog 147 #[.int .u8 (c.toNat : Int)] w fun e w' => e = .returned (.bool (isL c.toNat)) ∧ w' = w) := small_any c.toNat
  have hc0 : (str S)[0]'(by rw [str_size]; exact hpos) = c := by rw [hcl]; rfl
  have hn : nmB S = (isL c.toNat && S.all (fun c => isL c.toNat || isO c.toNat)) := by
    unfold nmB
    rw [decide_eq_true (by omega), hcl]
    cases S with
    | nil => simp at hpos
    | cons a r => simp
  clear hcl
  rw [hn]
  clear hn
  obtain ⟨n, hnl⟩ : ∃ n, S.length = n := ⟨_, rfl⟩
  have hszn : (str S).size = n := hsz.trans hnl
  clear hsz
  rw [hnl] at g1 g2 g3 g4 hl1 hl2 hS hpos
  have z0 : (0 : Int) < (n : Int) := by omega
  cases hf : isL c.toNat with
  | false =>
    rw [hf] at HS
    go_enter Tryz.func146, Tryz.ntmps146
    go_wp2_with (go_at_call 147; refine (HS.out _).mono ?_; rintro e w1 ⟨rfl, hw1⟩; replace hw1 := hw1.symm; subst hw1)
    go_ret
    exact ⟨rfl, rfl⟩
  | true =>
    rw [hf] at HS
    clear hf
    obtain ⟨al, hal⟩ : ∃ al, al = S.all (fun c => isL c.toNat || isO c.toNat) := ⟨_, rfl⟩
    rw [← hal, Bool.true_and]
    have HAL : Hid (al = S.all (fun c => isL c.toNat || isO c.toNat)) := hal
    clear hal
    have HN : Hid (S.length = n) := hnl
    clear hnl
    go_enter Tryz.func146, Tryz.ntmps146
    go_wp2_with (go_at_call 147; refine (HS.out _).mono ?_; rintro e w1 ⟨rfl, hw1⟩; replace hw1 := hw1.symm; subst hw1)
    go_loopw [25] (fun i W => ∃ k : Nat, k ≤ n ∧ i = .int .i64 k ∧ (∀ j (h : j < S.length), j < k → (isL S[j].toNat || isO S[j].toNat) = true) ∧ W = w) (fun i _ => n - (intOf i).toNat)
    case atStart => exact ⟨0, by omega, rfl, fun j _ h => absurd h (Nat.not_lt_zero j), rfl⟩
    case round =>
      obtain ⟨k, hk, rfl, hall, hww⟩ := hrel
      replace hww := hww.symm
      subst hww
      have HALL : Hid (∀ j (h : j < S.length), j < k → (isL S[j].toNat || isO S[j].toNat) = true) := hall
      clear hall
      by_cases hlt : k < n
      · have hlt' : k < S.length := by rw [HN.out]; exact hlt
        obtain ⟨d, hd⟩ : ∃ d, d = S[k] := ⟨_, rfl⟩
        have hc : (str S)[k]'(by rw [hszn]; exact hlt) = d := by rw [hd]; rfl
        have k0 : (0 : Int) ≤ (k : Int) := by omega
        have k1 : (k : Int) < (n : Int) := by omega
        have HOd : Hid (Calls Tryz.prog 155 #[.int .u8 (d.toNat : Int), .slice (some ⟨b, 0, none⟩) 2 2] w fun e w' => e = .returned (.bool (isL d.toNat || isO d.toNat)) ∧ w' = w) := HO.out d.toNat
        have HD : Hid (d = S[k]) := hd
        clear hd
        cases hv : (isL d.toNat || isO d.toNat) with
        | true =>
          rw [hv] at HOd
          have HV : Hid ((isL d.toNat || isO d.toNat) = true) := hv
          clear hv
          go_wp2_with (go_at_call 155; refine HOd.out.mono ?_; rintro e w1 ⟨rfl, hw1⟩; replace hw1 := hw1.symm; subst hw1)
          go_roundw
          case rel =>
            refine ⟨k + 1, by omega, by go_num, fun j hj hjk => ?_, by first | rfl | trivial⟩
            rcases Nat.lt_or_ge j k with h | h
            · exact HALL.out j hj h
            · obtain rfl : j = k := by omega
              rw [← HD.out]; exact HV.out
          case measure => simp [intOf]; omega
        | false =>
          rw [hv] at HOd
          have hno : al = false := by
            rw [HAL.out]
            apply Classical.byContradiction
            intro hh
            have ht : S.all (fun c => isL c.toNat || isO c.toNat) = true := by simpa only [Bool.not_eq_false] using hh
            have h2 := List.all_eq_true.1 ht S[k] (List.getElem_mem hlt')
            rw [← HD.out, hv] at h2
            cases h2
          subst hno
          clear hv
          go_wp2_with (go_at_call 155; refine HOd.out.mono ?_; rintro e w1 ⟨rfl, hw1⟩; replace hw1 := hw1.symm; subst hw1)
          go_ret
          exact ⟨rfl, rfl⟩
      · obtain rfl : k = n := by omega
        have hyes : al = true := by
          rw [HAL.out, List.all_eq_true]
          intro x hx
          obtain ⟨j, hj, rfl⟩ := List.getElem_of_mem hx
          exact HALL.out j hj (by rw [HN.out] at hj; exact hj)
        subst hyes
        go_wp2
        go_ret
        exact ⟨rfl, rfl⟩
end Go.Proofs.YtahdnfogdnondaaGreatDoor
