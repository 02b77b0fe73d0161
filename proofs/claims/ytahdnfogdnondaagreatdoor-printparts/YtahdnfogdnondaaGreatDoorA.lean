import Derived.Test.YtahdnfogdnondaaGreatDoorRows
import Derived.WalkKit
import Derived.WalkSpells
import Derived.WalkSmall
import Derived.BigQuiet
import Derived.Deep.QuietTactic
namespace Go.Proofs.YtahdnfogdnondaaGreatDoor
open Go.RowKit
set_option linter.unusedVariables false
set_option linter.unusedSimpArgs false

theorem ret_bool {a b : Bool} (h : a = b) : Ending.returned (.bool a) = .returned (.bool b) := by rw [h]
/-- The classes of bytes in names. -/
def isL (c : Nat) : Bool := decide (97 ≤ c ∧ c ≤ 122)
def isG (c : Nat) : Bool := decide (65 ≤ c ∧ c ≤ 90)
def isO (c : Nat) : Bool := decide ((48 ≤ c ∧ c ≤ 57) ∨ c = 95)
theorem small_any (c : Nat) (w : World) : Calls Tryz.prog 147 #[.int .u8 (c : Int)] w fun e w' => e = .returned (.bool (isL c)) ∧ w' = w := by
  go_enter Tryz.func147, Tryz.ntmps147
  go_wp2
  all_goals go_ret
  all_goals refine ⟨ret_bool ?_, rfl⟩
  all_goals (unfold isL; first | (symm; apply decide_eq_false; omega) | (apply decide_eq_decide.2; omega) | (symm; apply decide_eq_true; omega))
theorem great_any (c : Nat) (w : World) : Calls Tryz.prog 150 #[.int .u8 (c : Int)] w fun e w' => e = .returned (.bool (isG c)) ∧ w' = w := by
  go_enter Tryz.func150, Tryz.ntmps150
  go_wp2
  all_goals go_ret
  all_goals refine ⟨ret_bool ?_, rfl⟩
  all_goals (unfold isG; first | (symm; apply decide_eq_false; omega) | (apply decide_eq_decide.2; omega) | (symm; apply decide_eq_true; omega))
theorem rsmall_any (c : Nat) (w : World) : Calls Tryz.prog 125 #[.int .u8 (c : Int)] w fun e w' => e = .returned (.bool (isL c)) ∧ w' = w := by
  go_enter Tryz.func125, Tryz.ntmps125
  go_wp2
  all_goals go_ret
  all_goals refine ⟨ret_bool ?_, rfl⟩
  all_goals (unfold isL; first | (symm; apply decide_eq_false; omega) | (apply decide_eq_decide.2; omega) | (symm; apply decide_eq_true; omega))
theorem rgreat_any (c : Nat) (w : World) : Calls Tryz.prog 124 #[.int .u8 (c : Int)] w fun e w' => e = .returned (.bool (isG c)) ∧ w' = w := by
  go_enter Tryz.func124, Tryz.ntmps124
  go_wp2
  all_goals go_ret
  all_goals refine ⟨ret_bool ?_, rfl⟩
  all_goals (unfold isG; first | (symm; apply decide_eq_false; omega) | (apply decide_eq_decide.2; omega) | (symm; apply decide_eq_true; omega))
theorem rest_any (c : Nat) (w : World) : Calls Tryz.prog 148 #[.int .u8 (c : Int)] w fun e w' => e = .returned (.bool (isO c)) ∧ w' = w := by
  by_cases h1 : 48 ≤ c
  · by_cases h2 : c ≤ 57
    · have g1 : (48 : Int) ≤ (c : Int) := by omega
      have g2 : (c : Int) ≤ 57 := by omega
      have e1 : isO c = true := decide_eq_true (by omega)
      rw [e1]
      go_enter Tryz.func148, Tryz.ntmps148
      go_wp2
      go_ret
      exact ⟨rfl, rfl⟩
    · have g1 : (48 : Int) ≤ (c : Int) := by omega
      have g2 : ¬ (c : Int) ≤ 57 := by omega
      by_cases h3 : c = 95
      · subst h3
        have e1 : isO 95 = true := by decide
        rw [e1]
        go_enter Tryz.func148, Tryz.ntmps148
        go_wp2
        go_ret
        exact ⟨rfl, rfl⟩
      · have g3 : ((c : Int) == 95) = false := by simpa using (by omega : ¬ (c : Int) = 95)
        have g4 : (c == 95) = false := by simpa using h3
        have e1 : isO c = false := decide_eq_false (by omega)
        rw [e1]
        go_enter Tryz.func148, Tryz.ntmps148
        go_wp2
        go_ret
        exact ⟨by simp [h3], rfl⟩
  · have g1 : ¬ (48 : Int) ≤ (c : Int) := by omega
    have g3 : ((c : Int) == 95) = false := by simpa using (by omega : ¬ (c : Int) = 95)
    have g4 : (c == 95) = false := by simpa using (by omega : ¬ c = 95)
    have h3 : ¬ c = 95 := by omega
    have e1 : isO c = false := decide_eq_false (by omega)
    rw [e1]
    go_enter Tryz.func148, Tryz.ntmps148
    go_wp2
    go_ret
    exact ⟨by simp [h3], rfl⟩
theorem other_any (c : Nat) (w : World) : Calls Tryz.prog 126 #[.int .u8 (c : Int)] w fun e w' => e = .returned (.bool (isO c)) ∧ w' = w := by
  by_cases h1 : 48 ≤ c
  · by_cases h2 : c ≤ 57
    · have g1 : (48 : Int) ≤ (c : Int) := by omega
      have g2 : (c : Int) ≤ 57 := by omega
      have e1 : isO c = true := decide_eq_true (by omega)
      rw [e1]
      go_enter Tryz.func126, Tryz.ntmps126
      go_wp2
      go_ret
      exact ⟨rfl, rfl⟩
    · have g1 : (48 : Int) ≤ (c : Int) := by omega
      have g2 : ¬ (c : Int) ≤ 57 := by omega
      by_cases h3 : c = 95
      · subst h3
        have e1 : isO 95 = true := by decide
        rw [e1]
        go_enter Tryz.func126, Tryz.ntmps126
        go_wp2
        go_ret
        exact ⟨rfl, rfl⟩
      · have g3 : ((c : Int) == 95) = false := by simpa using (by omega : ¬ (c : Int) = 95)
        have g4 : (c == 95) = false := by simpa using h3
        have e1 : isO c = false := decide_eq_false (by omega)
        rw [e1]
        go_enter Tryz.func126, Tryz.ntmps126
        go_wp2
        go_ret
        exact ⟨by simp [h3], rfl⟩
  · have g1 : ¬ (48 : Int) ≤ (c : Int) := by omega
    have g3 : ((c : Int) == 95) = false := by simpa using (by omega : ¬ (c : Int) = 95)
    have g4 : (c == 95) = false := by simpa using (by omega : ¬ c = 95)
    have h3 : ¬ c = 95 := by omega
    have e1 : isO c = false := decide_eq_false (by omega)
    rw [e1]
    go_enter Tryz.func126, Tryz.ntmps126
    go_wp2
    go_ret
    exact ⟨by simp [h3], rfl⟩
/-- The words that are no names. -/
def kws : List (List UInt8) := [[102, 110], [115, 116, 114, 117, 99, 116], [108, 101, 116], [105, 102], [101, 108, 115, 101], [108, 111, 111, 112], [119, 104, 105, 108, 101], [98, 114, 101, 97, 107], [99, 111, 110, 116, 105, 110, 117, 101], [114, 101, 116, 117, 114, 110], [116, 114, 117, 101], [102, 97, 108, 115, 101], [109, 117, 116], [112, 114, 105, 110, 116], [114, 101, 97, 100], [98, 111, 120], [105, 54, 52], [98, 111, 111, 108]]
def isK (s : ByteArray) : Bool := kws.any (s.toList == ·)
set_option maxRecDepth 100000 in
set_option maxHeartbeats 2000000 in
theorem keyword_any (s : ByteArray) (w : World) : Calls Tryz.prog 149 #[.string s] w fun e w' => e = .returned (.bool (isK s)) ∧ w' = w := by
  go_enter Tryz.func149, Tryz.ntmps149
  go_wp2
  all_goals go_ret
  all_goals refine ⟨ret_bool ?_, rfl⟩
  all_goals (simp only [isK, kws, List.any_cons, List.any_nil]; simp_all)
set_option maxRecDepth 100000 in
set_option maxHeartbeats 2000000 in
theorem rkeyword_any (s : ByteArray) (w : World) : Calls Tryz.prog 127 #[.string s] w fun e w' => e = .returned (.bool (isK s)) ∧ w' = w := by
  go_enter Tryz.func127, Tryz.ntmps127
  go_wp2
  all_goals go_ret
  all_goals refine ⟨ret_bool ?_, rfl⟩
  all_goals (simp only [isK, kws, List.any_cons, List.any_nil]; simp_all)
end Go.Proofs.YtahdnfogdnondaaGreatDoor
