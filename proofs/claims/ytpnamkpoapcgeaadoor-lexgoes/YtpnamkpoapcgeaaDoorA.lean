import Derived.Test.YtpnamkpoapcgeaaDoorRows
import Derived.WalkKit
import Derived.WalkSpells
import Derived.WalkSmall
import Derived.BigQuiet
import Derived.Deep.QuietTactic
namespace Go.Proofs.YtpnamkpoapcgeaaDoor
open Go.RowKit
set_option linter.unusedVariables false
set_option linter.unusedSimpArgs false

theorem ret_int {k : IntKind} {a b : Int} (h : a = b) : Ending.returned (.int k a) = .returned (.int k b) := by rw [h]
theorem ret_bool {a b : Bool} (h : a = b) : Ending.returned (.bool a) = .returned (.bool b) := by rw [h]
/-- What a byte may be a part of: 0 other, 1 blank, 2 letter, 3 great, 4 digit, 5 score, 6 quote. -/
def cls (c : Nat) : Nat := if c = 9 ∨ c = 10 ∨ c = 13 ∨ c = 32 then 1 else if 97 ≤ c ∧ c ≤ 122 then 2 else if 65 ≤ c ∧ c ≤ 90 then 3 else if 48 ≤ c ∧ c ≤ 57 then 4 else if c = 95 then 5 else if c = 39 then 6 else 0
def isB (c : Nat) : Bool := decide (c = 9 ∨ c = 10 ∨ c = 13 ∨ c = 32)
def isL (c : Nat) : Bool := decide (97 ≤ c ∧ c ≤ 122)
def isG (c : Nat) : Bool := decide (65 ≤ c ∧ c ≤ 90)
def isD (c : Nat) : Bool := decide (48 ≤ c ∧ c ≤ 57)
/-- A byte of a name. -/
def isN (c : Nat) : Bool := decide ((97 ≤ c ∧ c ≤ 122) ∨ (48 ≤ c ∧ c ≤ 57) ∨ c = 95)
/-- A byte of a row. -/
def isR (c : Nat) : Bool := decide ((97 ≤ c ∧ c ≤ 122) ∨ (65 ≤ c ∧ c ≤ 90) ∨ (48 ≤ c ∧ c ≤ 57) ∨ c = 95)
theorem cls_any (c : Nat) (w : World) : Calls Tryd.prog 57 #[.int .u8 (c : Int)] w fun e w' => e = .returned (.int .u8 (cls c : Int)) ∧ w' = w := by
  go_enter Tryd.func57, Tryd.ntmps57
  go_wp2
  all_goals go_ret
  all_goals refine ⟨ret_int ?_, rfl⟩
  all_goals (try simp only [beq_iff_eq, beq_eq_false_iff_ne, ne_eq] at *)
  all_goals (unfold cls; repeat (first | rw [if_pos (by omega)] | rw [if_neg (by omega)]))
  all_goals rfl
theorem cls_cases (c : Nat) : (cls c = 1 ∧ isB c = true) ∨ (cls c = 2 ∧ isL c = true) ∨ (cls c = 3 ∧ isG c = true) ∨ (cls c = 4 ∧ isD c = true) ∨ (cls c = 5 ∧ c = 95) ∨ (cls c = 6 ∧ c = 39) ∨ (cls c = 0 ∧ isB c = false ∧ isL c = false ∧ isG c = false ∧ isD c = false ∧ c ≠ 95 ∧ c ≠ 39) := by
  unfold cls isB isL isG isD
  simp only [decide_eq_true_eq, decide_eq_false_iff_not]
  repeat' split
  all_goals omega
theorem cls_N (c : Nat) : (cls c = 2 ∨ cls c = 4 ∨ cls c = 5) ↔ isN c = true := by
  unfold cls isN
  simp only [decide_eq_true_eq]
  repeat' split
  all_goals omega
theorem cls_G (c : Nat) : cls c = 3 ↔ isG c = true := by
  unfold cls isG
  simp only [decide_eq_true_eq]
  repeat' split
  all_goals omega
theorem cls_L (c : Nat) : cls c = 2 ↔ isL c = true := by
  unfold cls isL
  simp only [decide_eq_true_eq]
  repeat' split
  all_goals omega
theorem cls_D (c : Nat) : cls c = 4 ↔ isD c = true := by
  unfold cls isD
  simp only [decide_eq_true_eq]
  repeat' split
  all_goals omega
theorem cls_B (c : Nat) : cls c = 1 ↔ isB c = true := by
  unfold cls isB
  simp only [decide_eq_true_eq]
  repeat' split
  all_goals omega
theorem isR_NG (c : Nat) : isR c = (isN c || isG c) := by
  rw [Bool.eq_iff_iff]
  unfold isR isN isG
  simp only [decide_eq_true_eq, Bool.or_eq_true]
  omega
theorem inName_any (c : Nat) (w : World) : Calls Tryd.prog 59 #[.int .u8 (c : Int)] w fun e w' => e = .returned (.bool (isN c)) ∧ w' = w := by
  have h := cls_N c
  obtain ⟨k, hk⟩ : ∃ k, k = cls c := ⟨_, rfl⟩
  have H : Hid (∀ w, Calls Tryd.prog 57 #[.int .u8 (c : Int)] w fun e w' => e = .returned (.int .u8 (k : Int)) ∧ w' = w) := fun w => by rw [hk]; exact cls_any c w
  rw [← hk] at h
  clear hk
  have HH : Hid ((k = 2 ∨ k = 4 ∨ k = 5) ↔ isN c = true) := h
  clear h
  go_enter Tryd.func59, Tryd.ntmps59
  go_wp2_with (go_at_call 57; refine (H.out _).mono ?_; rintro e w' ⟨rfl, rfl⟩)
  all_goals go_ret
  all_goals refine ⟨ret_bool ?_, rfl⟩
  all_goals (try simp only [beq_iff_eq, beq_eq_false_iff_ne, ne_eq] at *)
  all_goals (have h := HH.out; rw [Bool.eq_iff_iff, ← h]; simp; omega)
theorem inRow_any (c : Nat) (w : World) : Calls Tryd.prog 60 #[.int .u8 (c : Int)] w fun e w' => e = .returned (.bool (isR c)) ∧ w' = w := by
  have h := cls_G c
  obtain ⟨k, hk⟩ : ∃ k, k = cls c := ⟨_, rfl⟩
  have H : Hid (∀ w, Calls Tryd.prog 57 #[.int .u8 (c : Int)] w fun e w' => e = .returned (.int .u8 (k : Int)) ∧ w' = w) := fun w => by rw [hk]; exact cls_any c w
  rw [← hk] at h
  clear hk
  have HH : Hid (k = 3 ↔ isG c = true) := h
  clear h
  cases hn : isN c
  · have H2 : Hid (∀ w, Calls Tryd.prog 59 #[.int .u8 (c : Int)] w fun e w' => e = .returned (.bool false) ∧ w' = w) := fun w => by rw [← hn]; exact inName_any c w
    have hr : isR c = isG c := by rw [isR_NG, hn]; rfl
    rw [hr]
    clear hr hn
    go_enter Tryd.func60, Tryd.ntmps60
    go_wp2_with (first | (go_at_call 57; refine (H.out _).mono ?_; rintro e w' ⟨rfl, rfl⟩) | (go_at_call 59; refine (H2.out _).mono ?_; rintro e w' ⟨rfl, rfl⟩))
    go_ret
    refine ⟨ret_bool ?_, rfl⟩
    have h := HH.out
    rw [Bool.eq_iff_iff, ← h]; simp; omega
  · have H2 : Hid (∀ w, Calls Tryd.prog 59 #[.int .u8 (c : Int)] w fun e w' => e = .returned (.bool true) ∧ w' = w) := fun w => by rw [← hn]; exact inName_any c w
    have hr : isR c = true := by rw [isR_NG, hn]; rfl
    rw [hr]
    clear hr hn
    go_enter Tryd.func60, Tryd.ntmps60
    go_wp2_with (first | (go_at_call 59; refine (H2.out _).mono ?_; rintro e w' ⟨rfl, rfl⟩))
    go_ret
    exact ⟨rfl, rfl⟩
theorem rBlank_any (c : Nat) (w : World) : Calls Tryd.prog 30 #[.int .u8 (c : Int)] w fun e w' => e = .returned (.bool (isB c)) ∧ w' = w := by
  go_enter Tryd.func30, Tryd.ntmps30
  go_wp2
  all_goals go_ret
  all_goals refine ⟨ret_bool ?_, rfl⟩
  all_goals (try simp only [beq_iff_eq, beq_eq_false_iff_ne, ne_eq] at *)
  all_goals (unfold isB; rw [Bool.eq_iff_iff]; simp; omega)
theorem rLetter_any (c : Nat) (w : World) : Calls Tryd.prog 47 #[.int .u8 (c : Int)] w fun e w' => e = .returned (.bool (isL c)) ∧ w' = w := by
  go_enter Tryd.func47, Tryd.ntmps47
  go_wp2
  all_goals go_ret
  all_goals refine ⟨ret_bool ?_, rfl⟩
  all_goals (try simp only [beq_iff_eq, beq_eq_false_iff_ne, ne_eq] at *)
  all_goals (unfold isL; rw [Bool.eq_iff_iff]; simp; omega)
theorem rGreat_any (c : Nat) (w : World) : Calls Tryd.prog 48 #[.int .u8 (c : Int)] w fun e w' => e = .returned (.bool (isG c)) ∧ w' = w := by
  go_enter Tryd.func48, Tryd.ntmps48
  go_wp2
  all_goals go_ret
  all_goals refine ⟨ret_bool ?_, rfl⟩
  all_goals (try simp only [beq_iff_eq, beq_eq_false_iff_ne, ne_eq] at *)
  all_goals (unfold isG; rw [Bool.eq_iff_iff]; simp; omega)
theorem rDigit_any (c : Nat) (w : World) : Calls Tryd.prog 51 #[.int .u8 (c : Int)] w fun e w' => e = .returned (.bool (isD c)) ∧ w' = w := by
  go_enter Tryd.func51, Tryd.ntmps51
  go_wp2
  all_goals go_ret
  all_goals refine ⟨ret_bool ?_, rfl⟩
  all_goals (try simp only [beq_iff_eq, beq_eq_false_iff_ne, ne_eq] at *)
  all_goals (unfold isD; rw [Bool.eq_iff_iff]; simp; omega)
end Go.Proofs.YtpnamkpoapcgeaaDoor
