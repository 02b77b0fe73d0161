import Derived.Test.YtkidcmglidnaoaaRows
import Derived.WalkKit
import Derived.WalkSpells
import Derived.WalkSmall
import Derived.BigQuiet
import Derived.Deep.QuietTactic
namespace Go.Proofs.Ytkidcmglidnaoaa
open Go.RowKit
set_option linter.unusedVariables false
set_option linter.unusedSimpArgs false

theorem ret_bool {a b : Bool} (h : a = b) : Ending.returned (.bool a) = .returned (.bool b) := by rw [h]
/-- The classes of bytes in names. -/
def isL (c : Nat) : Bool := decide (97 ≤ c ∧ c ≤ 122)
def isG (c : Nat) : Bool := decide (65 ≤ c ∧ c ≤ 90)
def isO (c : Nat) : Bool := decide ((48 ≤ c ∧ c ≤ 57) ∨ c = 95)
theorem small_any (c : Nat) (w : World) : Calls Try.prog 54 #[.int .u8 (c : Int)] w fun e w' => e = .returned (.bool (isL c)) ∧ w' = w := by
  go_enter Try.func54, Try.ntmps54
  go_wp2
  all_goals go_ret
  all_goals refine ⟨ret_bool ?_, rfl⟩
  all_goals (unfold isL; first | (symm; apply decide_eq_false; omega) | (apply decide_eq_decide.2; omega) | (symm; apply decide_eq_true; omega))
theorem great_any (c : Nat) (w : World) : Calls Try.prog 60 #[.int .u8 (c : Int)] w fun e w' => e = .returned (.bool (isG c)) ∧ w' = w := by
  go_enter Try.func60, Try.ntmps60
  go_wp2
  all_goals go_ret
  all_goals refine ⟨ret_bool ?_, rfl⟩
  all_goals (unfold isG; first | (symm; apply decide_eq_false; omega) | (apply decide_eq_decide.2; omega) | (symm; apply decide_eq_true; omega))
theorem rsmall_any (c : Nat) (w : World) : Calls Try.prog 57 #[.int .u8 (c : Int)] w fun e w' => e = .returned (.bool (isL c)) ∧ w' = w := by
  go_enter Try.func57, Try.ntmps57
  go_wp2
  all_goals go_ret
  all_goals refine ⟨ret_bool ?_, rfl⟩
  all_goals (unfold isL; first | (symm; apply decide_eq_false; omega) | (apply decide_eq_decide.2; omega) | (symm; apply decide_eq_true; omega))
theorem rgreat_any (c : Nat) (w : World) : Calls Try.prog 61 #[.int .u8 (c : Int)] w fun e w' => e = .returned (.bool (isG c)) ∧ w' = w := by
  go_enter Try.func61, Try.ntmps61
  go_wp2
  all_goals go_ret
  all_goals refine ⟨ret_bool ?_, rfl⟩
  all_goals (unfold isG; first | (symm; apply decide_eq_false; omega) | (apply decide_eq_decide.2; omega) | (symm; apply decide_eq_true; omega))
theorem rest_any (c : Nat) (w : World) : Calls Try.prog 55 #[.int .u8 (c : Int)] w fun e w' => e = .returned (.bool (isO c)) ∧ w' = w := by
  by_cases h1 : 48 ≤ c
  · by_cases h2 : c ≤ 57
    · have g1 : (48 : Int) ≤ (c : Int) := by omega
      have g2 : (c : Int) ≤ 57 := by omega
      have e1 : isO c = true := decide_eq_true (by omega)
      rw [e1]
      go_enter Try.func55, Try.ntmps55
      go_wp2
      go_ret
      exact ⟨rfl, rfl⟩
    · have g1 : (48 : Int) ≤ (c : Int) := by omega
      have g2 : ¬ (c : Int) ≤ 57 := by omega
      by_cases h3 : c = 95
      · subst h3
        have e1 : isO 95 = true := by decide
        rw [e1]
        go_enter Try.func55, Try.ntmps55
        go_wp2
        go_ret
        exact ⟨rfl, rfl⟩
      · have g3 : ((c : Int) == 95) = false := by simpa using (by omega : ¬ (c : Int) = 95)
        have g4 : (c == 95) = false := by simpa using h3
        have e1 : isO c = false := decide_eq_false (by omega)
        rw [e1]
        go_enter Try.func55, Try.ntmps55
        go_wp2
        go_ret
        exact ⟨by simp [h3], rfl⟩
  · have g1 : ¬ (48 : Int) ≤ (c : Int) := by omega
    have g3 : ((c : Int) == 95) = false := by simpa using (by omega : ¬ (c : Int) = 95)
    have g4 : (c == 95) = false := by simpa using (by omega : ¬ c = 95)
    have h3 : ¬ c = 95 := by omega
    have e1 : isO c = false := decide_eq_false (by omega)
    rw [e1]
    go_enter Try.func55, Try.ntmps55
    go_wp2
    go_ret
    exact ⟨by simp [h3], rfl⟩
theorem other_any (c : Nat) (w : World) : Calls Try.prog 58 #[.int .u8 (c : Int)] w fun e w' => e = .returned (.bool (isO c)) ∧ w' = w := by
  by_cases h1 : 48 ≤ c
  · by_cases h2 : c ≤ 57
    · have g1 : (48 : Int) ≤ (c : Int) := by omega
      have g2 : (c : Int) ≤ 57 := by omega
      have e1 : isO c = true := decide_eq_true (by omega)
      rw [e1]
      go_enter Try.func58, Try.ntmps58
      go_wp2
      go_ret
      exact ⟨rfl, rfl⟩
    · have g1 : (48 : Int) ≤ (c : Int) := by omega
      have g2 : ¬ (c : Int) ≤ 57 := by omega
      by_cases h3 : c = 95
      · subst h3
        have e1 : isO 95 = true := by decide
        rw [e1]
        go_enter Try.func58, Try.ntmps58
        go_wp2
        go_ret
        exact ⟨rfl, rfl⟩
      · have g3 : ((c : Int) == 95) = false := by simpa using (by omega : ¬ (c : Int) = 95)
        have g4 : (c == 95) = false := by simpa using h3
        have e1 : isO c = false := decide_eq_false (by omega)
        rw [e1]
        go_enter Try.func58, Try.ntmps58
        go_wp2
        go_ret
        exact ⟨by simp [h3], rfl⟩
  · have g1 : ¬ (48 : Int) ≤ (c : Int) := by omega
    have g3 : ((c : Int) == 95) = false := by simpa using (by omega : ¬ (c : Int) = 95)
    have g4 : (c == 95) = false := by simpa using (by omega : ¬ c = 95)
    have h3 : ¬ c = 95 := by omega
    have e1 : isO c = false := decide_eq_false (by omega)
    rw [e1]
    go_enter Try.func58, Try.ntmps58
    go_wp2
    go_ret
    exact ⟨by simp [h3], rfl⟩
/-- The words that are no names. -/
def kws : List (List UInt8) := [[102, 110], [115, 116, 114, 117, 99, 116], [108, 101, 116], [105, 102], [101, 108, 115, 101], [108, 111, 111, 112], [119, 104, 105, 108, 101], [98, 114, 101, 97, 107], [99, 111, 110, 116, 105, 110, 117, 101], [114, 101, 116, 117, 114, 110], [116, 114, 117, 101], [102, 97, 108, 115, 101], [109, 117, 116], [112, 114, 105, 110, 116], [114, 101, 97, 100], [98, 111, 120], [105, 54, 52], [98, 111, 111, 108]]
def isK (s : ByteArray) : Bool := kws.any (s.toList == ·)
set_option maxRecDepth 100000 in
set_option maxHeartbeats 2000000 in
theorem keyword_any (s : ByteArray) (w : World) : Calls Try.prog 56 #[.string s] w fun e w' => e = .returned (.bool (isK s)) ∧ w' = w := by
  go_enter Try.func56, Try.ntmps56
  go_wp2
  all_goals go_ret
  all_goals refine ⟨ret_bool ?_, rfl⟩
  all_goals (simp only [isK, kws, List.any_cons, List.any_nil]; simp_all)
set_option maxRecDepth 100000 in
set_option maxHeartbeats 2000000 in
theorem rkeyword_any (s : ByteArray) (w : World) : Calls Try.prog 59 #[.string s] w fun e w' => e = .returned (.bool (isK s)) ∧ w' = w := by
  go_enter Try.func59, Try.ntmps59
  go_wp2
  all_goals go_ret
  all_goals refine ⟨ret_bool ?_, rfl⟩
  all_goals (simp only [isK, kws, List.any_cons, List.any_nil]; simp_all)
end Go.Proofs.Ytkidcmglidnaoaa
namespace Go.Proofs.Ytkidcmglidnaoaa
open Go.RowKit
set_option linter.unusedVariables false
set_option linter.unusedSimpArgs false

abbrev fnV (f : Nat) : Value := .func (.func f) #[] #[]
set_option maxRecDepth 100000 in
set_option maxHeartbeats 2000000 in
theorem oneOf_two (c b : Nat) (w : World) (h0 : w.cell? ⟨b, 0, none⟩ = some (fnV 54)) (h1 : w.cell? ⟨b, 1, none⟩ = some (fnV 55)) :
    Calls Try.prog 69 #[.int .u8 (c : Int), .slice (some ⟨b, 0, none⟩) 2 2] w fun e w' => e = .returned (.bool (isL c || isO c)) ∧ w' = w := by
  have HS : Hid (∀ w, Calls Try.prog 54 #[.int .u8 (c : Int)] w fun e w' => e = .returned (.bool (isL c)) ∧ w' = w) := small_any c
  have HO : Hid (∀ w, Calls Try.prog 55 #[.int .u8 (c : Int)] w fun e w' => e = .returned (.bool (isO c)) ∧ w' = w) := rest_any c
  generalize isL c = x at *
  generalize isO c = y at *
  go_enter Try.func69, Try.ntmps69
  go_wp2
  go_loopw [9] (fun i W => ∃ k : Nat, k ≤ 2 ∧ i = .int .i64 k ∧ (0 < k → x = false) ∧ (1 < k → y = false) ∧ W = w) (fun i _ => 2 - (intOf i).toNat)
  case atStart => exact ⟨0, by omega, rfl, fun h => absurd h (by omega), fun h => absurd h (by omega), rfl⟩
  case round =>
    obtain ⟨k, hk, rfl, hx, hy, rfl⟩ := hrel
    have hk' : k = 0 ∨ k = 1 ∨ k = 2 := by omega
    rcases hk' with rfl | rfl | rfl
    · clear hx hy
      cases x with
      | true =>
        go_wp2_with (go_at_call 54; refine (HS.out _).mono ?_; rintro e w1 ⟨rfl, rfl⟩)
        go_ret
        exact ⟨rfl, rfl⟩
      | false =>
        go_wp2_with (go_at_call 54; refine (HS.out _).mono ?_; rintro e w1 ⟨rfl, rfl⟩)
        exact ⟨⟨1, by omega, by go_num, (fun _ => by first | rfl | trivial), (fun h => absurd h (by omega)), by first | rfl | trivial⟩, by simp [intOf]⟩
    · obtain rfl := hx (by omega)
      clear hx hy
      cases y with
      | true =>
        go_wp2_with (go_at_call 55; refine (HO.out _).mono ?_; rintro e w1 ⟨rfl, rfl⟩)
        go_ret
        exact ⟨rfl, rfl⟩
      | false =>
        go_wp2_with (go_at_call 55; refine (HO.out _).mono ?_; rintro e w1 ⟨rfl, rfl⟩)
        exact ⟨⟨2, by omega, by go_num, (fun _ => by first | rfl | trivial), (fun _ => by first | rfl | trivial), by first | rfl | trivial⟩, by simp [intOf]⟩
    · obtain rfl := hx (by omega)
      obtain rfl := hy (by omega)
      go_wp2
      go_ret
      exact ⟨rfl, rfl⟩
end Go.Proofs.Ytkidcmglidnaoaa
namespace Go.Proofs.Ytkidcmglidnaoaa
open Go.RowKit
set_option linter.unusedVariables false
set_option linter.unusedSimpArgs false

/-- Bytes as a string. -/
def str (l : List UInt8) : ByteArray := ⟨l.toArray⟩
theorem str_size (l : List UInt8) : (str l).size = l.length := rfl
/-- A text spelt as a name: as long as one is, a letter first, no other bytes. -/
def nmB (l : List UInt8) : Bool := decide (1 ≤ l.length ∧ l.length ≤ 32) && l.head?.any (fun c => isL c.toNat) && l.all (fun c => isL c.toNat || isO c.toNat)
theorem nmB_no {l : List UInt8} (h : ¬ (1 ≤ l.length ∧ l.length ≤ 32)) : nmB l = false := by unfold nmB; rw [decide_eq_false h]; rfl
set_option maxRecDepth 100000 in
set_option maxHeartbeats 2000000 in
theorem spelt_name (S : List UInt8) (b : Nat) (w : World) (hS : S.length ≤ maxLen) (h0 : w.cell? ⟨b, 0, none⟩ = some (fnV 54)) (h1 : w.cell? ⟨b, 1, none⟩ = some (fnV 55)) :
    Calls Try.prog 53 #[.string (str S), fnV 54, .slice (some ⟨b, 0, none⟩) 2 2] w fun e w' => e = .returned (.bool (nmB S)) ∧ w' = w := by
  unfold maxLen at hS
  have hsz := str_size S
  have HO : Hid (∀ c : Nat, Calls Try.prog 69 #[.int .u8 (c : Int), .slice (some ⟨b, 0, none⟩) 2 2] w fun e w' => e = .returned (.bool (isL c || isO c)) ∧ w' = w) := fun c => oneOf_two c b w h0 h1
  clear h0 h1
  by_cases hl1 : S.length < 1
  · have g1 : (S.length : Int) < 1 := by omega
    have g2 : decide ((S.length : Int) < 1) = true := decide_eq_true g1
    rw [nmB_no (by omega)]
    go_enter Try.func53, Try.ntmps53
    go_wp2
    go_ret
    exact ⟨rfl, rfl⟩
  have g1 : ¬ (S.length : Int) < 1 := by omega
  have g2 : decide ((S.length : Int) < 1) = false := decide_eq_false g1
  by_cases hl2 : 32 < S.length
  · have g3 : (32 : Int) < (S.length : Int) := by omega
    have g4 : decide ((32 : Int) < (S.length : Int)) = true := decide_eq_true g3
    rw [nmB_no (by omega)]
    go_enter Try.func53, Try.ntmps53
    go_wp2
    go_ret
    exact ⟨rfl, rfl⟩
  have g3 : ¬ (32 : Int) < (S.length : Int) := by omega
  have g4 : decide ((32 : Int) < (S.length : Int)) = false := decide_eq_false g3
  have hpos : 0 < S.length := by omega
  obtain ⟨c, hcl⟩ : ∃ c, c = S[0] := ⟨_, rfl⟩
  have HS : Hid (∀ w, Calls Try.prog 54 #[.int .u8 (c.toNat : Int)] w fun e w' => e = .returned (.bool (isL c.toNat)) ∧ w' = w) := small_any c.toNat
  have hc0 : (str S)[0]'(by rw [str_size]; exact hpos) = c := by rw [hcl]; rfl
  have hn : nmB S = (isL c.toNat && S.all (fun c => isL c.toNat || isO c.toNat)) := by
    unfold nmB
    rw [decide_eq_true (by omega), hcl]
    cases S with
    | nil => simp at hpos
    | cons a r => simp
  clear hcl
  rw [hn]
  clear hn
  obtain ⟨n, hnl⟩ : ∃ n, S.length = n := ⟨_, rfl⟩
  have hszn : (str S).size = n := hsz.trans hnl
  clear hsz
  rw [hnl] at g1 g2 g3 g4 hl1 hl2 hS hpos
  have z0 : (0 : Int) < (n : Int) := by omega
  cases hf : isL c.toNat with
  | false =>
    rw [hf] at HS
    go_enter Try.func53, Try.ntmps53
    go_wp2_with (go_at_call 54; refine (HS.out _).mono ?_; rintro e w1 ⟨rfl, hw1⟩; replace hw1 := hw1.symm; subst hw1)
    go_ret
    exact ⟨rfl, rfl⟩
  | true =>
    rw [hf] at HS
    clear hf
    obtain ⟨al, hal⟩ : ∃ al, al = S.all (fun c => isL c.toNat || isO c.toNat) := ⟨_, rfl⟩
    rw [← hal, Bool.true_and]
    have HAL : Hid (al = S.all (fun c => isL c.toNat || isO c.toNat)) := hal
    clear hal
    have HN : Hid (S.length = n) := hnl
    clear hnl
    go_enter Try.func53, Try.ntmps53
    go_wp2_with (go_at_call 54; refine (HS.out _).mono ?_; rintro e w1 ⟨rfl, hw1⟩; replace hw1 := hw1.symm; subst hw1)
    go_loopw [25] (fun i W => ∃ k : Nat, k ≤ n ∧ i = .int .i64 k ∧ (∀ j (h : j < S.length), j < k → (isL S[j].toNat || isO S[j].toNat) = true) ∧ W = w) (fun i _ => n - (intOf i).toNat)
    case atStart => exact ⟨0, by omega, rfl, fun j _ h => absurd h (Nat.not_lt_zero j), rfl⟩
    case round =>
      obtain ⟨k, hk, rfl, hall, hww⟩ := hrel
      replace hww := hww.symm
      subst hww
      have HALL : Hid (∀ j (h : j < S.length), j < k → (isL S[j].toNat || isO S[j].toNat) = true) := hall
      clear hall
      by_cases hlt : k < n
      · have hlt' : k < S.length := by rw [HN.out]; exact hlt
        obtain ⟨d, hd⟩ : ∃ d, d = S[k] := ⟨_, rfl⟩
        have hc : (str S)[k]'(by rw [hszn]; exact hlt) = d := by rw [hd]; rfl
        have k0 : (0 : Int) ≤ (k : Int) := by omega
        have k1 : (k : Int) < (n : Int) := by omega
        have HOd : Hid (Calls Try.prog 69 #[.int .u8 (d.toNat : Int), .slice (some ⟨b, 0, none⟩) 2 2] w fun e w' => e = .returned (.bool (isL d.toNat || isO d.toNat)) ∧ w' = w) := HO.out d.toNat
        have HD : Hid (d = S[k]) := hd
        clear hd
        cases hv : (isL d.toNat || isO d.toNat) with
        | true =>
          rw [hv] at HOd
          have HV : Hid ((isL d.toNat || isO d.toNat) = true) := hv
          clear hv
          go_wp2_with (go_at_call 69; refine HOd.out.mono ?_; rintro e w1 ⟨rfl, hw1⟩; replace hw1 := hw1.symm; subst hw1)
          go_roundw
          case rel =>
            refine ⟨k + 1, by omega, by go_num, fun j hj hjk => ?_, by first | rfl | trivial⟩
            rcases Nat.lt_or_ge j k with h | h
            · exact HALL.out j hj h
            · obtain rfl : j = k := by omega
              rw [← HD.out]; exact HV.out
          case measure => simp [intOf]; omega
        | false =>
          rw [hv] at HOd
          have hno : al = false := by
            rw [HAL.out]
            apply Classical.byContradiction
            intro hh
            have ht : S.all (fun c => isL c.toNat || isO c.toNat) = true := by simpa only [Bool.not_eq_false] using hh
            have h2 := List.all_eq_true.1 ht S[k] (List.getElem_mem hlt')
            rw [← HD.out, hv] at h2
            cases h2
          subst hno
          clear hv
          go_wp2_with (go_at_call 69; refine HOd.out.mono ?_; rintro e w1 ⟨rfl, hw1⟩; replace hw1 := hw1.symm; subst hw1)
          go_ret
          exact ⟨rfl, rfl⟩
      · obtain rfl : k = n := by omega
        have hyes : al = true := by
          rw [HAL.out, List.all_eq_true]
          intro x hx
          obtain ⟨j, hj, rfl⟩ := List.getElem_of_mem hx
          exact HALL.out j hj (by rw [HN.out] at hj; exact hj)
        subst hyes
        go_wp2
        go_ret
        exact ⟨rfl, rfl⟩
end Go.Proofs.Ytkidcmglidnaoaa
namespace Go.Proofs.Ytkidcmglidnaoaa
open Go.RowKit
set_option linter.unusedVariables false
set_option linter.unusedSimpArgs false

theorem cells_two {W : World} {b t : Nat} {u v : Value} (h : W.heap[b]? = some (.cells #[u, v] t)) : W.cell? ⟨b, 0, none⟩ = some u ∧ W.cell? ⟨b, 1, none⟩ = some v := ⟨by simp [World.cell?, h], by simp [World.cell?, h]⟩
theorem two_cells (w : World) (u v : Value) (t : Nat) : (w.alloc (.cells #[u, v] t)).cell? ⟨w.heap.size, 0, none⟩ = some u ∧ (w.alloc (.cells #[u, v] t)).cell? ⟨w.heap.size, 1, none⟩ = some v := cells_two (heap_alloc_new w (.cells #[u, v] t))
set_option maxRecDepth 100000 in
set_option maxHeartbeats 2000000 in
theorem name_any (S : List UInt8) (w : World) (hS : S.length ≤ maxLen) :
    Calls Try.prog 30 #[.string (str S)] w fun e w' => e = .returned (.bool (nmB S && !isK (str S))) ∧ Below w.heap.size w w' := by
  have HS : Hid (∀ b W, W.cell? ⟨b, 0, none⟩ = some (fnV 54) → W.cell? ⟨b, 1, none⟩ = some (fnV 55) → Calls Try.prog 53 #[.string (str S), fnV 54, .slice (some ⟨b, 0, none⟩) 2 2] W fun e w' => e = .returned (.bool (nmB S)) ∧ w' = W) := fun b W h0 h1 => spelt_name S b W hS h0 h1
  have HK : Hid (∀ W, Calls Try.prog 56 #[.string (str S)] W fun e w' => e = .returned (.bool (isK (str S))) ∧ w' = W) := fun W => keyword_any (str S) W
  generalize nmB S = x at *
  generalize isK (str S) = y at *
  have hB : ∀ o, Below w.heap.size w (w.alloc o) := fun o => (Below.refl _ _).alloc (Nat.le_refl _) o
  cases x with
  | false =>
    go_enter Try.func30, Try.ntmps30
    go_wp2_with (go_at_call 53; refine (HS.out _ _ (two_cells w _ _ _).1 (two_cells w _ _ _).2).mono ?_; rintro e w1 ⟨rfl, hw1⟩; replace hw1 := hw1.symm; subst hw1)
    go_ret
    exact ⟨rfl, hB _⟩
  | true =>
    go_enter Try.func30, Try.ntmps30
    go_wp2_with (first
      | (go_at_call 53; refine (HS.out _ _ (two_cells w _ _ _).1 (two_cells w _ _ _).2).mono ?_; rintro e w1 ⟨rfl, hw1⟩; replace hw1 := hw1.symm; subst hw1)
      | (go_at_call 56; refine (HK.out _).mono ?_; rintro e w1 ⟨rfl, hw1⟩; replace hw1 := hw1.symm; subst hw1))
    go_ret
    exact ⟨rfl, hB _⟩
end Go.Proofs.Ytkidcmglidnaoaa
namespace Go.Proofs.Ytkidcmglidnaoaa
open Go.RowKit
set_option linter.unusedVariables false
set_option linter.unusedSimpArgs false

theorem nmB_first {S : List UInt8} (h : 0 < S.length) (hf : isL S[0].toNat = false) : nmB S = false := by
  cases S with
  | nil => simp at h
  | cons a r => simp at hf; unfold nmB; simp [hf]
theorem nmB_byte {S : List UInt8} {k : Nat} (h : k < S.length) (h1 : isL S[k].toNat = false) (h2 : isO S[k].toNat = false) : nmB S = false := by
  have : S.all (fun c => isL c.toNat || isO c.toNat) = false := by
    rw [List.all_eq_false]
    exact ⟨S[k], List.getElem_mem h, by simp [h1, h2]⟩
  unfold nmB
  rw [this, Bool.and_false]
theorem nmB_yes {S : List UInt8} (h1 : 0 < S.length) (h2 : S.length ≤ 32) (h : ∀ j (hj : j < S.length), (isL S[j].toNat || (decide (j ≠ 0) && isO S[j].toNat)) = true) : nmB S = true := by
  have h0 := h 0 h1
  have ha : S.all (fun c => isL c.toNat || isO c.toNat) = true := by
    rw [List.all_eq_true]
    intro x hx
    obtain ⟨j, hj, rfl⟩ := List.getElem_of_mem hx
    have := h j hj
    simp only [Bool.or_eq_true, Bool.and_eq_true] at this ⊢
    rcases this with h | h
    · exact .inl h
    · exact .inr h.2
  unfold nmB
  rw [ha, decide_eq_true (by omega)]
  cases S with
  | nil => simp at h1
  | cons a r => simpa using h0
set_option maxRecDepth 100000 in
set_option maxHeartbeats 2000000 in
theorem rname_any (S : List UInt8) (w : World) (hS : S.length ≤ maxLen) :
    Calls Try.prog 31 #[.string (str S)] w fun e w' => e = .returned (.bool (nmB S && !isK (str S))) ∧ w' = w := by
  unfold maxLen at hS
  have hsz := str_size S
  have HK : Hid (∀ W, Calls Try.prog 59 #[.string (str S)] W fun e w' => e = .returned (.bool (isK (str S))) ∧ w' = W) := fun W => rkeyword_any (str S) W
  obtain ⟨x, hx⟩ : ∃ x, x = nmB S := ⟨_, rfl⟩
  rw [← hx]
  have HX : Hid (x = nmB S) := hx
  clear hx
  generalize isK (str S) = y at *
  go_enter Try.func31, Try.ntmps31
  go_wp2
  go_loopw [3] (fun i W => ∃ k : Nat, k ≤ S.length ∧ i = .int .i64 k ∧ (∀ j (hj : j < S.length), j < k → (isL S[j].toNat || (decide (j ≠ 0) && isO S[j].toNat)) = true) ∧ W = w) (fun i _ => S.length - (intOf i).toNat)
  case atStart => exact ⟨0, by omega, rfl, fun j _ h => absurd h (Nat.not_lt_zero j), rfl⟩
  case round =>
    obtain ⟨k, hk, rfl, hall, hww⟩ := hrel
    replace hww := hww.symm
    subst hww
    have HALL : Hid (∀ j (hj : j < S.length), j < k → (isL S[j].toNat || (decide (j ≠ 0) && isO S[j].toNat)) = true) := hall
    clear hall
    by_cases hlt : k < S.length
    · obtain ⟨d, hd⟩ : ∃ d, d = S[k] := ⟨_, rfl⟩
      have hc : (str S)[k]'(by rw [hsz]; exact hlt) = d := by rw [hd]; rfl
      have k0 : (0 : Int) ≤ (k : Int) := by omega
      have k1 : (k : Int) < (S.length : Int) := by omega
      have w3 : IntKind.i64.wrap ((k : Int) + 1) = (k : Int) + 1 := by rw [IntKind.wrap_i64]; omega
      have HD : Hid (d = S[k]) := hd
      clear hd
      cases hl : isL d.toNat with
      | true =>
        have HS : Hid (∀ w, Calls Try.prog 57 #[.int .u8 (d.toNat : Int)] w fun e w' => e = .returned (.bool true) ∧ w' = w) := fun w => by rw [← hl]; exact rsmall_any d.toNat w
        have HL : Hid (isL d.toNat = true) := hl
        clear hl
        go_wp2_with (go_at_call 57; refine (HS.out _).mono ?_; rintro e w1 ⟨rfl, hw1⟩; replace hw1 := hw1.symm; subst hw1)
        refine ⟨⟨k + 1, by omega, by go_num, fun j hj hjk => ?_, by first | rfl | trivial⟩, by simp [intOf]; omega⟩
        rcases Nat.lt_or_ge j k with h | h
        · exact HALL.out j hj h
        · obtain rfl : j = k := by omega
          rw [← HD.out, HL.out]; rfl
      | false =>
        have HS : Hid (∀ w, Calls Try.prog 57 #[.int .u8 (d.toNat : Int)] w fun e w' => e = .returned (.bool false) ∧ w' = w) := fun w => by rw [← hl]; exact rsmall_any d.toNat w
        by_cases hz : k = 0
        · have hxx : x = false := by
            subst hz
            rw [HX.out]; exact nmB_first hlt (by rw [← HD.out]; exact hl)
          subst hxx
          have z1 : ((k : Int) == 0) = true := by simp [hz]
          subst hz
          clear hl HALL
          go_wp2_with (go_at_call 57; refine (HS.out _).mono ?_; rintro e w1 ⟨rfl, hw1⟩; replace hw1 := hw1.symm; subst hw1)
          go_ret
          exact ⟨rfl, rfl⟩
        · have z1 : ((k : Int) == 0) = false := by simpa using hz
          have z2 : (k == 0) = false := by simpa using hz
          cases ho : isO d.toNat with
          | true =>
            have HO : Hid (∀ w, Calls Try.prog 58 #[.int .u8 (d.toNat : Int)] w fun e w' => e = .returned (.bool true) ∧ w' = w) := fun w => by rw [← ho]; exact other_any d.toNat w
            have HL : Hid (isO d.toNat = true) := ho
            have HZ : Hid (¬ k = 0) := hz
            clear hl ho
            go_wp2_with (first
              | (go_at_call 57; refine (HS.out _).mono ?_; rintro e w1 ⟨rfl, hw1⟩; replace hw1 := hw1.symm; subst hw1)
              | (go_at_call 58; refine (HO.out _).mono ?_; rintro e w1 ⟨rfl, hw1⟩; replace hw1 := hw1.symm; subst hw1))
            refine ⟨⟨k + 1, by omega, by go_num, fun j hj hjk => ?_, by first | rfl | trivial⟩, by simp [intOf]; omega⟩
            rcases Nat.lt_or_ge j k with h | h
            · exact HALL.out j hj h
            · obtain rfl : j = k := by omega
              rw [← HD.out, HL.out, decide_eq_true HZ.out]; simp
          | false =>
            have HO : Hid (∀ w, Calls Try.prog 58 #[.int .u8 (d.toNat : Int)] w fun e w' => e = .returned (.bool false) ∧ w' = w) := fun w => by rw [← ho]; exact other_any d.toNat w
            have hxx : x = false := by rw [HX.out]; exact nmB_byte hlt (by rw [← HD.out]; exact hl) (by rw [← HD.out]; exact ho)
            subst hxx
            clear hl ho
            go_wp2_with (first
              | (go_at_call 57; refine (HS.out _).mono ?_; rintro e w1 ⟨rfl, hw1⟩; replace hw1 := hw1.symm; subst hw1)
              | (go_at_call 58; refine (HO.out _).mono ?_; rintro e w1 ⟨rfl, hw1⟩; replace hw1 := hw1.symm; subst hw1))
            go_ret
            exact ⟨rfl, rfl⟩
    · obtain rfl : k = S.length := by omega
      by_cases hl1 : S.length < 1
      · have g1 : ¬ (1 : Int) ≤ (S.length : Int) := by omega
        have g2 : decide ((1 : Int) ≤ (S.length : Int)) = false := decide_eq_false g1
        have hxx : x = false := by rw [HX.out]; exact nmB_no (by omega)
        subst hxx
        go_wp2
        go_ret
        exact ⟨rfl, rfl⟩
      · have g1 : (1 : Int) ≤ (S.length : Int) := by omega
        have g2 : decide ((1 : Int) ≤ (S.length : Int)) = true := decide_eq_true g1
        by_cases hl2 : 32 < S.length
        · have g3 : ¬ (S.length : Int) ≤ 32 := by omega
          have g4 : decide ((S.length : Int) ≤ 32) = false := decide_eq_false g3
          have hxx : x = false := by rw [HX.out]; exact nmB_no (by omega)
          subst hxx
          go_wp2
          go_ret
          exact ⟨rfl, rfl⟩
        · have g3 : (S.length : Int) ≤ 32 := by omega
          have g4 : decide ((S.length : Int) ≤ 32) = true := decide_eq_true g3
          have hxx : x = true := by rw [HX.out]; exact nmB_yes (by omega) (by omega) (fun j hj => HALL.out j hj hj)
          subst hxx
          go_wp2_with (go_at_call 59; refine (HK.out _).mono ?_; rintro e w1 ⟨rfl, hw1⟩; replace hw1 := hw1.symm; subst hw1)
          go_ret
          exact ⟨rfl, rfl⟩
end Go.Proofs.Ytkidcmglidnaoaa
