import Derived.Test.YtahdnfogdnondaaGreatDoorJ
namespace Go.Proofs.YtahdnfogdnondaaGreatDoor
open Go.RowKit
set_option linter.unusedVariables false
set_option linter.unusedSimpArgs false

theorem nu_other {k : Nat} (h1 : k ≠ 4) (h2 : k ≠ 14) (h3 : k ≠ 11) (h4 : k ≠ 16) (h5 : k ≠ 25) (h6 : k ≠ 29) (h7 : k ≠ 24) (n : Int) : nuB k n = decide (n = 0) := by
  unfold nuB; rw [if_neg h1, if_neg h2, if_neg (by omega), if_neg h7]
set_option maxRecDepth 100000 in
set_option maxHeartbeats 2000000 in
theorem num_4 (p n : Int) (s : List UInt8) (a : Option Addr) (m cap : Nat) (w : World) :
    Calls Tryz.prog 113 #[ndV ⟨4, p, n, s⟩ a m cap] w fun e w' => e = .returned (.bool (decide (0 ≤ n) && decide (n ≤ 8))) ∧ Below w.heap.size w w' := by
  have hB : ∀ o, Below w.heap.size w (w.alloc o) := fun o => belA (Below.refl _ _)
  have A1 := At.new w (Ndo ⟨4, p, n, s⟩ a m cap)
  obtain ⟨c0, c1, c2, c3, c4, cf⟩ := A1.nd
  clear A1
  by_cases h1 : (0 : Int) ≤ n
  · have g1 : decide ((0 : Int) ≤ n) = true := decide_eq_true h1
    by_cases h2 : n ≤ 8
    · have g2 : decide (n ≤ 8) = true := decide_eq_true h2
      go_enter Tryz.func113, Tryz.ntmps113
      go_wp2
      go_ret
      exact ⟨ret_bool (by first | rfl | simp_all), hB _⟩
    · have g2 : decide (n ≤ 8) = false := decide_eq_false h2
      go_enter Tryz.func113, Tryz.ntmps113
      go_wp2
      go_ret
      exact ⟨ret_bool (by first | rfl | simp_all), hB _⟩
  · have g1 : decide ((0 : Int) ≤ n) = false := decide_eq_false h1
    go_enter Tryz.func113, Tryz.ntmps113
    go_wp2
    go_ret
    exact ⟨ret_bool (by first | rfl | simp_all), hB _⟩

set_option maxRecDepth 100000 in
set_option maxHeartbeats 2000000 in
theorem num_14 (p n : Int) (s : List UInt8) (a : Option Addr) (m cap : Nat) (w : World) :
    Calls Tryz.prog 113 #[ndV ⟨14, p, n, s⟩ a m cap] w fun e w' => e = .returned (.bool (decide (1 ≤ n) && decide (n ≤ 3))) ∧ Below w.heap.size w w' := by
  have hB : ∀ o, Below w.heap.size w (w.alloc o) := fun o => belA (Below.refl _ _)
  have A1 := At.new w (Ndo ⟨14, p, n, s⟩ a m cap)
  obtain ⟨c0, c1, c2, c3, c4, cf⟩ := A1.nd
  clear A1
  by_cases h1 : (1 : Int) ≤ n
  · have g1 : decide ((1 : Int) ≤ n) = true := decide_eq_true h1
    by_cases h2 : n ≤ 3
    · have g2 : decide (n ≤ 3) = true := decide_eq_true h2
      go_enter Tryz.func113, Tryz.ntmps113
      go_wp2
      go_ret
      exact ⟨ret_bool (by first | rfl | simp_all), hB _⟩
    · have g2 : decide (n ≤ 3) = false := decide_eq_false h2
      go_enter Tryz.func113, Tryz.ntmps113
      go_wp2
      go_ret
      exact ⟨ret_bool (by first | rfl | simp_all), hB _⟩
  · have g1 : decide ((1 : Int) ≤ n) = false := decide_eq_false h1
    go_enter Tryz.func113, Tryz.ntmps113
    go_wp2
    go_ret
    exact ⟨ret_bool (by first | rfl | simp_all), hB _⟩

set_option maxRecDepth 100000 in
set_option maxHeartbeats 2000000 in
theorem num_11 (p n : Int) (s : List UInt8) (a : Option Addr) (m cap : Nat) (w : World) :
    Calls Tryz.prog 113 #[ndV ⟨11, p, n, s⟩ a m cap] w fun e w' => e = .returned (.bool (decide (n = 0) || decide (n = 1))) ∧ Below w.heap.size w w' := by
  have hB : ∀ o, Below w.heap.size w (w.alloc o) := fun o => belA (Below.refl _ _)
  have A1 := At.new w (Ndo ⟨11, p, n, s⟩ a m cap)
  obtain ⟨c0, c1, c2, c3, c4, cf⟩ := A1.nd
  clear A1
  by_cases h1 : n = 0
  · have g1 : (n == 0) = true := by simpa using h1
    subst h1
    go_enter Tryz.func113, Tryz.ntmps113
    go_wp2
    go_ret
    exact ⟨ret_bool (by first | rfl | simp_all), hB _⟩
  · have g1 : (n == 0) = false := by simpa using h1
    by_cases h2 : n = 1
    · subst h2
      go_enter Tryz.func113, Tryz.ntmps113
      go_wp2
      go_ret
      exact ⟨ret_bool (by first | rfl | simp_all), hB _⟩
    · have g2 : (n == 1) = false := by simpa using h2
      go_enter Tryz.func113, Tryz.ntmps113
      go_wp2
      go_ret
      exact ⟨ret_bool (by first | rfl | simp_all), hB _⟩

set_option maxRecDepth 100000 in
set_option maxHeartbeats 2000000 in
theorem num_16 (p n : Int) (s : List UInt8) (a : Option Addr) (m cap : Nat) (w : World) :
    Calls Tryz.prog 113 #[ndV ⟨16, p, n, s⟩ a m cap] w fun e w' => e = .returned (.bool (decide (n = 0) || decide (n = 1))) ∧ Below w.heap.size w w' := by
  have hB : ∀ o, Below w.heap.size w (w.alloc o) := fun o => belA (Below.refl _ _)
  have A1 := At.new w (Ndo ⟨16, p, n, s⟩ a m cap)
  obtain ⟨c0, c1, c2, c3, c4, cf⟩ := A1.nd
  clear A1
  by_cases h1 : n = 0
  · have g1 : (n == 0) = true := by simpa using h1
    subst h1
    go_enter Tryz.func113, Tryz.ntmps113
    go_wp2
    go_ret
    exact ⟨ret_bool (by first | rfl | simp_all), hB _⟩
  · have g1 : (n == 0) = false := by simpa using h1
    by_cases h2 : n = 1
    · subst h2
      go_enter Tryz.func113, Tryz.ntmps113
      go_wp2
      go_ret
      exact ⟨ret_bool (by first | rfl | simp_all), hB _⟩
    · have g2 : (n == 1) = false := by simpa using h2
      go_enter Tryz.func113, Tryz.ntmps113
      go_wp2
      go_ret
      exact ⟨ret_bool (by first | rfl | simp_all), hB _⟩

set_option maxRecDepth 100000 in
set_option maxHeartbeats 2000000 in
theorem num_25 (p n : Int) (s : List UInt8) (a : Option Addr) (m cap : Nat) (w : World) :
    Calls Tryz.prog 113 #[ndV ⟨25, p, n, s⟩ a m cap] w fun e w' => e = .returned (.bool (decide (n = 0) || decide (n = 1))) ∧ Below w.heap.size w w' := by
  have hB : ∀ o, Below w.heap.size w (w.alloc o) := fun o => belA (Below.refl _ _)
  have A1 := At.new w (Ndo ⟨25, p, n, s⟩ a m cap)
  obtain ⟨c0, c1, c2, c3, c4, cf⟩ := A1.nd
  clear A1
  by_cases h1 : n = 0
  · have g1 : (n == 0) = true := by simpa using h1
    subst h1
    go_enter Tryz.func113, Tryz.ntmps113
    go_wp2
    go_ret
    exact ⟨ret_bool (by first | rfl | simp_all), hB _⟩
  · have g1 : (n == 0) = false := by simpa using h1
    by_cases h2 : n = 1
    · subst h2
      go_enter Tryz.func113, Tryz.ntmps113
      go_wp2
      go_ret
      exact ⟨ret_bool (by first | rfl | simp_all), hB _⟩
    · have g2 : (n == 1) = false := by simpa using h2
      go_enter Tryz.func113, Tryz.ntmps113
      go_wp2
      go_ret
      exact ⟨ret_bool (by first | rfl | simp_all), hB _⟩

set_option maxRecDepth 100000 in
set_option maxHeartbeats 2000000 in
theorem num_29 (p n : Int) (s : List UInt8) (a : Option Addr) (m cap : Nat) (w : World) :
    Calls Tryz.prog 113 #[ndV ⟨29, p, n, s⟩ a m cap] w fun e w' => e = .returned (.bool (decide (n = 0) || decide (n = 1))) ∧ Below w.heap.size w w' := by
  have hB : ∀ o, Below w.heap.size w (w.alloc o) := fun o => belA (Below.refl _ _)
  have A1 := At.new w (Ndo ⟨29, p, n, s⟩ a m cap)
  obtain ⟨c0, c1, c2, c3, c4, cf⟩ := A1.nd
  clear A1
  by_cases h1 : n = 0
  · have g1 : (n == 0) = true := by simpa using h1
    subst h1
    go_enter Tryz.func113, Tryz.ntmps113
    go_wp2
    go_ret
    exact ⟨ret_bool (by first | rfl | simp_all), hB _⟩
  · have g1 : (n == 0) = false := by simpa using h1
    by_cases h2 : n = 1
    · subst h2
      go_enter Tryz.func113, Tryz.ntmps113
      go_wp2
      go_ret
      exact ⟨ret_bool (by first | rfl | simp_all), hB _⟩
    · have g2 : (n == 1) = false := by simpa using h2
      go_enter Tryz.func113, Tryz.ntmps113
      go_wp2
      go_ret
      exact ⟨ret_bool (by first | rfl | simp_all), hB _⟩

set_option maxRecDepth 100000 in
set_option maxHeartbeats 2000000 in
theorem num_24 (p n : Int) (s : List UInt8) (a : Option Addr) (m cap : Nat) (w : World) :
    Calls Tryz.prog 113 #[ndV ⟨24, p, n, s⟩ a m cap] w fun e w' => e = .returned (.bool (decide (0 ≤ n))) ∧ Below w.heap.size w w' := by
  have hB : ∀ o, Below w.heap.size w (w.alloc o) := fun o => belA (Below.refl _ _)
  have A1 := At.new w (Ndo ⟨24, p, n, s⟩ a m cap)
  obtain ⟨c0, c1, c2, c3, c4, cf⟩ := A1.nd
  clear A1
  go_enter Tryz.func113, Tryz.ntmps113
  go_wp2
  go_ret
  exact ⟨ret_bool (by first | rfl | simp_all), hB _⟩

set_option maxRecDepth 100000 in
set_option maxHeartbeats 2000000 in
theorem num_0 (p n : Int) (s : List UInt8) (a : Option Addr) (m cap : Nat) (w : World) :
    Calls Tryz.prog 113 #[ndV ⟨0, p, n, s⟩ a m cap] w fun e w' => e = .returned (.bool (decide (n = 0))) ∧ Below w.heap.size w w' := by
  have hB : ∀ o, Below w.heap.size w (w.alloc o) := fun o => belA (Below.refl _ _)
  have A1 := At.new w (Ndo ⟨0, p, n, s⟩ a m cap)
  obtain ⟨c0, c1, c2, c3, c4, cf⟩ := A1.nd
  clear A1
  go_enter Tryz.func113, Tryz.ntmps113
  go_wp2
  go_ret
  exact ⟨ret_bool (by first | rfl | simp_all), hB _⟩

set_option maxRecDepth 100000 in
set_option maxHeartbeats 2000000 in
theorem num_1 (p n : Int) (s : List UInt8) (a : Option Addr) (m cap : Nat) (w : World) :
    Calls Tryz.prog 113 #[ndV ⟨1, p, n, s⟩ a m cap] w fun e w' => e = .returned (.bool (decide (n = 0))) ∧ Below w.heap.size w w' := by
  have hB : ∀ o, Below w.heap.size w (w.alloc o) := fun o => belA (Below.refl _ _)
  have A1 := At.new w (Ndo ⟨1, p, n, s⟩ a m cap)
  obtain ⟨c0, c1, c2, c3, c4, cf⟩ := A1.nd
  clear A1
  go_enter Tryz.func113, Tryz.ntmps113
  go_wp2
  go_ret
  exact ⟨ret_bool (by first | rfl | simp_all), hB _⟩

set_option maxRecDepth 100000 in
set_option maxHeartbeats 2000000 in
theorem num_2 (p n : Int) (s : List UInt8) (a : Option Addr) (m cap : Nat) (w : World) :
    Calls Tryz.prog 113 #[ndV ⟨2, p, n, s⟩ a m cap] w fun e w' => e = .returned (.bool (decide (n = 0))) ∧ Below w.heap.size w w' := by
  have hB : ∀ o, Below w.heap.size w (w.alloc o) := fun o => belA (Below.refl _ _)
  have A1 := At.new w (Ndo ⟨2, p, n, s⟩ a m cap)
  obtain ⟨c0, c1, c2, c3, c4, cf⟩ := A1.nd
  clear A1
  go_enter Tryz.func113, Tryz.ntmps113
  go_wp2
  go_ret
  exact ⟨ret_bool (by first | rfl | simp_all), hB _⟩

set_option maxRecDepth 100000 in
set_option maxHeartbeats 2000000 in
theorem num_3 (p n : Int) (s : List UInt8) (a : Option Addr) (m cap : Nat) (w : World) :
    Calls Tryz.prog 113 #[ndV ⟨3, p, n, s⟩ a m cap] w fun e w' => e = .returned (.bool (decide (n = 0))) ∧ Below w.heap.size w w' := by
  have hB : ∀ o, Below w.heap.size w (w.alloc o) := fun o => belA (Below.refl _ _)
  have A1 := At.new w (Ndo ⟨3, p, n, s⟩ a m cap)
  obtain ⟨c0, c1, c2, c3, c4, cf⟩ := A1.nd
  clear A1
  go_enter Tryz.func113, Tryz.ntmps113
  go_wp2
  go_ret
  exact ⟨ret_bool (by first | rfl | simp_all), hB _⟩

set_option maxRecDepth 100000 in
set_option maxHeartbeats 2000000 in
theorem num_5 (p n : Int) (s : List UInt8) (a : Option Addr) (m cap : Nat) (w : World) :
    Calls Tryz.prog 113 #[ndV ⟨5, p, n, s⟩ a m cap] w fun e w' => e = .returned (.bool (decide (n = 0))) ∧ Below w.heap.size w w' := by
  have hB : ∀ o, Below w.heap.size w (w.alloc o) := fun o => belA (Below.refl _ _)
  have A1 := At.new w (Ndo ⟨5, p, n, s⟩ a m cap)
  obtain ⟨c0, c1, c2, c3, c4, cf⟩ := A1.nd
  clear A1
  go_enter Tryz.func113, Tryz.ntmps113
  go_wp2
  go_ret
  exact ⟨ret_bool (by first | rfl | simp_all), hB _⟩

set_option maxRecDepth 100000 in
set_option maxHeartbeats 2000000 in
theorem num_6 (p n : Int) (s : List UInt8) (a : Option Addr) (m cap : Nat) (w : World) :
    Calls Tryz.prog 113 #[ndV ⟨6, p, n, s⟩ a m cap] w fun e w' => e = .returned (.bool (decide (n = 0))) ∧ Below w.heap.size w w' := by
  have hB : ∀ o, Below w.heap.size w (w.alloc o) := fun o => belA (Below.refl _ _)
  have A1 := At.new w (Ndo ⟨6, p, n, s⟩ a m cap)
  obtain ⟨c0, c1, c2, c3, c4, cf⟩ := A1.nd
  clear A1
  go_enter Tryz.func113, Tryz.ntmps113
  go_wp2
  go_ret
  exact ⟨ret_bool (by first | rfl | simp_all), hB _⟩

set_option maxRecDepth 100000 in
set_option maxHeartbeats 2000000 in
theorem num_7 (p n : Int) (s : List UInt8) (a : Option Addr) (m cap : Nat) (w : World) :
    Calls Tryz.prog 113 #[ndV ⟨7, p, n, s⟩ a m cap] w fun e w' => e = .returned (.bool (decide (n = 0))) ∧ Below w.heap.size w w' := by
  have hB : ∀ o, Below w.heap.size w (w.alloc o) := fun o => belA (Below.refl _ _)
  have A1 := At.new w (Ndo ⟨7, p, n, s⟩ a m cap)
  obtain ⟨c0, c1, c2, c3, c4, cf⟩ := A1.nd
  clear A1
  go_enter Tryz.func113, Tryz.ntmps113
  go_wp2
  go_ret
  exact ⟨ret_bool (by first | rfl | simp_all), hB _⟩

set_option maxRecDepth 100000 in
set_option maxHeartbeats 2000000 in
theorem num_8 (p n : Int) (s : List UInt8) (a : Option Addr) (m cap : Nat) (w : World) :
    Calls Tryz.prog 113 #[ndV ⟨8, p, n, s⟩ a m cap] w fun e w' => e = .returned (.bool (decide (n = 0))) ∧ Below w.heap.size w w' := by
  have hB : ∀ o, Below w.heap.size w (w.alloc o) := fun o => belA (Below.refl _ _)
  have A1 := At.new w (Ndo ⟨8, p, n, s⟩ a m cap)
  obtain ⟨c0, c1, c2, c3, c4, cf⟩ := A1.nd
  clear A1
  go_enter Tryz.func113, Tryz.ntmps113
  go_wp2
  go_ret
  exact ⟨ret_bool (by first | rfl | simp_all), hB _⟩

set_option maxRecDepth 100000 in
set_option maxHeartbeats 2000000 in
theorem num_9 (p n : Int) (s : List UInt8) (a : Option Addr) (m cap : Nat) (w : World) :
    Calls Tryz.prog 113 #[ndV ⟨9, p, n, s⟩ a m cap] w fun e w' => e = .returned (.bool (decide (n = 0))) ∧ Below w.heap.size w w' := by
  have hB : ∀ o, Below w.heap.size w (w.alloc o) := fun o => belA (Below.refl _ _)
  have A1 := At.new w (Ndo ⟨9, p, n, s⟩ a m cap)
  obtain ⟨c0, c1, c2, c3, c4, cf⟩ := A1.nd
  clear A1
  go_enter Tryz.func113, Tryz.ntmps113
  go_wp2
  go_ret
  exact ⟨ret_bool (by first | rfl | simp_all), hB _⟩

set_option maxRecDepth 100000 in
set_option maxHeartbeats 2000000 in
theorem num_10 (p n : Int) (s : List UInt8) (a : Option Addr) (m cap : Nat) (w : World) :
    Calls Tryz.prog 113 #[ndV ⟨10, p, n, s⟩ a m cap] w fun e w' => e = .returned (.bool (decide (n = 0))) ∧ Below w.heap.size w w' := by
  have hB : ∀ o, Below w.heap.size w (w.alloc o) := fun o => belA (Below.refl _ _)
  have A1 := At.new w (Ndo ⟨10, p, n, s⟩ a m cap)
  obtain ⟨c0, c1, c2, c3, c4, cf⟩ := A1.nd
  clear A1
  go_enter Tryz.func113, Tryz.ntmps113
  go_wp2
  go_ret
  exact ⟨ret_bool (by first | rfl | simp_all), hB _⟩

set_option maxRecDepth 100000 in
set_option maxHeartbeats 2000000 in
theorem num_12 (p n : Int) (s : List UInt8) (a : Option Addr) (m cap : Nat) (w : World) :
    Calls Tryz.prog 113 #[ndV ⟨12, p, n, s⟩ a m cap] w fun e w' => e = .returned (.bool (decide (n = 0))) ∧ Below w.heap.size w w' := by
  have hB : ∀ o, Below w.heap.size w (w.alloc o) := fun o => belA (Below.refl _ _)
  have A1 := At.new w (Ndo ⟨12, p, n, s⟩ a m cap)
  obtain ⟨c0, c1, c2, c3, c4, cf⟩ := A1.nd
  clear A1
  go_enter Tryz.func113, Tryz.ntmps113
  go_wp2
  go_ret
  exact ⟨ret_bool (by first | rfl | simp_all), hB _⟩

set_option maxRecDepth 100000 in
set_option maxHeartbeats 2000000 in
theorem num_13 (p n : Int) (s : List UInt8) (a : Option Addr) (m cap : Nat) (w : World) :
    Calls Tryz.prog 113 #[ndV ⟨13, p, n, s⟩ a m cap] w fun e w' => e = .returned (.bool (decide (n = 0))) ∧ Below w.heap.size w w' := by
  have hB : ∀ o, Below w.heap.size w (w.alloc o) := fun o => belA (Below.refl _ _)
  have A1 := At.new w (Ndo ⟨13, p, n, s⟩ a m cap)
  obtain ⟨c0, c1, c2, c3, c4, cf⟩ := A1.nd
  clear A1
  go_enter Tryz.func113, Tryz.ntmps113
  go_wp2
  go_ret
  exact ⟨ret_bool (by first | rfl | simp_all), hB _⟩

set_option maxRecDepth 100000 in
set_option maxHeartbeats 2000000 in
theorem num_15 (p n : Int) (s : List UInt8) (a : Option Addr) (m cap : Nat) (w : World) :
    Calls Tryz.prog 113 #[ndV ⟨15, p, n, s⟩ a m cap] w fun e w' => e = .returned (.bool (decide (n = 0))) ∧ Below w.heap.size w w' := by
  have hB : ∀ o, Below w.heap.size w (w.alloc o) := fun o => belA (Below.refl _ _)
  have A1 := At.new w (Ndo ⟨15, p, n, s⟩ a m cap)
  obtain ⟨c0, c1, c2, c3, c4, cf⟩ := A1.nd
  clear A1
  go_enter Tryz.func113, Tryz.ntmps113
  go_wp2
  go_ret
  exact ⟨ret_bool (by first | rfl | simp_all), hB _⟩

set_option maxRecDepth 100000 in
set_option maxHeartbeats 2000000 in
theorem num_17 (p n : Int) (s : List UInt8) (a : Option Addr) (m cap : Nat) (w : World) :
    Calls Tryz.prog 113 #[ndV ⟨17, p, n, s⟩ a m cap] w fun e w' => e = .returned (.bool (decide (n = 0))) ∧ Below w.heap.size w w' := by
  have hB : ∀ o, Below w.heap.size w (w.alloc o) := fun o => belA (Below.refl _ _)
  have A1 := At.new w (Ndo ⟨17, p, n, s⟩ a m cap)
  obtain ⟨c0, c1, c2, c3, c4, cf⟩ := A1.nd
  clear A1
  go_enter Tryz.func113, Tryz.ntmps113
  go_wp2
  go_ret
  exact ⟨ret_bool (by first | rfl | simp_all), hB _⟩

set_option maxRecDepth 100000 in
set_option maxHeartbeats 2000000 in
theorem num_18 (p n : Int) (s : List UInt8) (a : Option Addr) (m cap : Nat) (w : World) :
    Calls Tryz.prog 113 #[ndV ⟨18, p, n, s⟩ a m cap] w fun e w' => e = .returned (.bool (decide (n = 0))) ∧ Below w.heap.size w w' := by
  have hB : ∀ o, Below w.heap.size w (w.alloc o) := fun o => belA (Below.refl _ _)
  have A1 := At.new w (Ndo ⟨18, p, n, s⟩ a m cap)
  obtain ⟨c0, c1, c2, c3, c4, cf⟩ := A1.nd
  clear A1
  go_enter Tryz.func113, Tryz.ntmps113
  go_wp2
  go_ret
  exact ⟨ret_bool (by first | rfl | simp_all), hB _⟩

set_option maxRecDepth 100000 in
set_option maxHeartbeats 2000000 in
theorem num_19 (p n : Int) (s : List UInt8) (a : Option Addr) (m cap : Nat) (w : World) :
    Calls Tryz.prog 113 #[ndV ⟨19, p, n, s⟩ a m cap] w fun e w' => e = .returned (.bool (decide (n = 0))) ∧ Below w.heap.size w w' := by
  have hB : ∀ o, Below w.heap.size w (w.alloc o) := fun o => belA (Below.refl _ _)
  have A1 := At.new w (Ndo ⟨19, p, n, s⟩ a m cap)
  obtain ⟨c0, c1, c2, c3, c4, cf⟩ := A1.nd
  clear A1
  go_enter Tryz.func113, Tryz.ntmps113
  go_wp2
  go_ret
  exact ⟨ret_bool (by first | rfl | simp_all), hB _⟩

set_option maxRecDepth 100000 in
set_option maxHeartbeats 2000000 in
theorem num_20 (p n : Int) (s : List UInt8) (a : Option Addr) (m cap : Nat) (w : World) :
    Calls Tryz.prog 113 #[ndV ⟨20, p, n, s⟩ a m cap] w fun e w' => e = .returned (.bool (decide (n = 0))) ∧ Below w.heap.size w w' := by
  have hB : ∀ o, Below w.heap.size w (w.alloc o) := fun o => belA (Below.refl _ _)
  have A1 := At.new w (Ndo ⟨20, p, n, s⟩ a m cap)
  obtain ⟨c0, c1, c2, c3, c4, cf⟩ := A1.nd
  clear A1
  go_enter Tryz.func113, Tryz.ntmps113
  go_wp2
  go_ret
  exact ⟨ret_bool (by first | rfl | simp_all), hB _⟩

set_option maxRecDepth 100000 in
set_option maxHeartbeats 2000000 in
theorem num_21 (p n : Int) (s : List UInt8) (a : Option Addr) (m cap : Nat) (w : World) :
    Calls Tryz.prog 113 #[ndV ⟨21, p, n, s⟩ a m cap] w fun e w' => e = .returned (.bool (decide (n = 0))) ∧ Below w.heap.size w w' := by
  have hB : ∀ o, Below w.heap.size w (w.alloc o) := fun o => belA (Below.refl _ _)
  have A1 := At.new w (Ndo ⟨21, p, n, s⟩ a m cap)
  obtain ⟨c0, c1, c2, c3, c4, cf⟩ := A1.nd
  clear A1
  go_enter Tryz.func113, Tryz.ntmps113
  go_wp2
  go_ret
  exact ⟨ret_bool (by first | rfl | simp_all), hB _⟩

set_option maxRecDepth 100000 in
set_option maxHeartbeats 2000000 in
theorem num_22 (p n : Int) (s : List UInt8) (a : Option Addr) (m cap : Nat) (w : World) :
    Calls Tryz.prog 113 #[ndV ⟨22, p, n, s⟩ a m cap] w fun e w' => e = .returned (.bool (decide (n = 0))) ∧ Below w.heap.size w w' := by
  have hB : ∀ o, Below w.heap.size w (w.alloc o) := fun o => belA (Below.refl _ _)
  have A1 := At.new w (Ndo ⟨22, p, n, s⟩ a m cap)
  obtain ⟨c0, c1, c2, c3, c4, cf⟩ := A1.nd
  clear A1
  go_enter Tryz.func113, Tryz.ntmps113
  go_wp2
  go_ret
  exact ⟨ret_bool (by first | rfl | simp_all), hB _⟩

set_option maxRecDepth 100000 in
set_option maxHeartbeats 2000000 in
theorem num_23 (p n : Int) (s : List UInt8) (a : Option Addr) (m cap : Nat) (w : World) :
    Calls Tryz.prog 113 #[ndV ⟨23, p, n, s⟩ a m cap] w fun e w' => e = .returned (.bool (decide (n = 0))) ∧ Below w.heap.size w w' := by
  have hB : ∀ o, Below w.heap.size w (w.alloc o) := fun o => belA (Below.refl _ _)
  have A1 := At.new w (Ndo ⟨23, p, n, s⟩ a m cap)
  obtain ⟨c0, c1, c2, c3, c4, cf⟩ := A1.nd
  clear A1
  go_enter Tryz.func113, Tryz.ntmps113
  go_wp2
  go_ret
  exact ⟨ret_bool (by first | rfl | simp_all), hB _⟩

set_option maxRecDepth 100000 in
set_option maxHeartbeats 2000000 in
theorem num_26 (p n : Int) (s : List UInt8) (a : Option Addr) (m cap : Nat) (w : World) :
    Calls Tryz.prog 113 #[ndV ⟨26, p, n, s⟩ a m cap] w fun e w' => e = .returned (.bool (decide (n = 0))) ∧ Below w.heap.size w w' := by
  have hB : ∀ o, Below w.heap.size w (w.alloc o) := fun o => belA (Below.refl _ _)
  have A1 := At.new w (Ndo ⟨26, p, n, s⟩ a m cap)
  obtain ⟨c0, c1, c2, c3, c4, cf⟩ := A1.nd
  clear A1
  go_enter Tryz.func113, Tryz.ntmps113
  go_wp2
  go_ret
  exact ⟨ret_bool (by first | rfl | simp_all), hB _⟩

set_option maxRecDepth 100000 in
set_option maxHeartbeats 2000000 in
theorem num_27 (p n : Int) (s : List UInt8) (a : Option Addr) (m cap : Nat) (w : World) :
    Calls Tryz.prog 113 #[ndV ⟨27, p, n, s⟩ a m cap] w fun e w' => e = .returned (.bool (decide (n = 0))) ∧ Below w.heap.size w w' := by
  have hB : ∀ o, Below w.heap.size w (w.alloc o) := fun o => belA (Below.refl _ _)
  have A1 := At.new w (Ndo ⟨27, p, n, s⟩ a m cap)
  obtain ⟨c0, c1, c2, c3, c4, cf⟩ := A1.nd
  clear A1
  go_enter Tryz.func113, Tryz.ntmps113
  go_wp2
  go_ret
  exact ⟨ret_bool (by first | rfl | simp_all), hB _⟩

set_option maxRecDepth 100000 in
set_option maxHeartbeats 2000000 in
theorem num_28 (p n : Int) (s : List UInt8) (a : Option Addr) (m cap : Nat) (w : World) :
    Calls Tryz.prog 113 #[ndV ⟨28, p, n, s⟩ a m cap] w fun e w' => e = .returned (.bool (decide (n = 0))) ∧ Below w.heap.size w w' := by
  have hB : ∀ o, Below w.heap.size w (w.alloc o) := fun o => belA (Below.refl _ _)
  have A1 := At.new w (Ndo ⟨28, p, n, s⟩ a m cap)
  obtain ⟨c0, c1, c2, c3, c4, cf⟩ := A1.nd
  clear A1
  go_enter Tryz.func113, Tryz.ntmps113
  go_wp2
  go_ret
  exact ⟨ret_bool (by first | rfl | simp_all), hB _⟩

set_option maxRecDepth 100000 in
set_option maxHeartbeats 2000000 in
theorem num_30 (p n : Int) (s : List UInt8) (a : Option Addr) (m cap : Nat) (w : World) :
    Calls Tryz.prog 113 #[ndV ⟨30, p, n, s⟩ a m cap] w fun e w' => e = .returned (.bool (decide (n = 0))) ∧ Below w.heap.size w w' := by
  have hB : ∀ o, Below w.heap.size w (w.alloc o) := fun o => belA (Below.refl _ _)
  have A1 := At.new w (Ndo ⟨30, p, n, s⟩ a m cap)
  obtain ⟨c0, c1, c2, c3, c4, cf⟩ := A1.nd
  clear A1
  go_enter Tryz.func113, Tryz.ntmps113
  go_wp2
  go_ret
  exact ⟨ret_bool (by first | rfl | simp_all), hB _⟩

set_option maxRecDepth 100000 in
set_option maxHeartbeats 2000000 in
theorem num_31 (p n : Int) (s : List UInt8) (a : Option Addr) (m cap : Nat) (w : World) :
    Calls Tryz.prog 113 #[ndV ⟨31, p, n, s⟩ a m cap] w fun e w' => e = .returned (.bool (decide (n = 0))) ∧ Below w.heap.size w w' := by
  have hB : ∀ o, Below w.heap.size w (w.alloc o) := fun o => belA (Below.refl _ _)
  have A1 := At.new w (Ndo ⟨31, p, n, s⟩ a m cap)
  obtain ⟨c0, c1, c2, c3, c4, cf⟩ := A1.nd
  clear A1
  go_enter Tryz.func113, Tryz.ntmps113
  go_wp2
  go_ret
  exact ⟨ret_bool (by first | rfl | simp_all), hB _⟩

set_option maxRecDepth 100000 in
set_option maxHeartbeats 2000000 in
theorem num_32 (p n : Int) (s : List UInt8) (a : Option Addr) (m cap : Nat) (w : World) :
    Calls Tryz.prog 113 #[ndV ⟨32, p, n, s⟩ a m cap] w fun e w' => e = .returned (.bool (decide (n = 0))) ∧ Below w.heap.size w w' := by
  have hB : ∀ o, Below w.heap.size w (w.alloc o) := fun o => belA (Below.refl _ _)
  have A1 := At.new w (Ndo ⟨32, p, n, s⟩ a m cap)
  obtain ⟨c0, c1, c2, c3, c4, cf⟩ := A1.nd
  clear A1
  go_enter Tryz.func113, Tryz.ntmps113
  go_wp2
  go_ret
  exact ⟨ret_bool (by first | rfl | simp_all), hB _⟩

set_option maxRecDepth 100000 in
set_option maxHeartbeats 2000000 in
theorem num_33 (p n : Int) (s : List UInt8) (a : Option Addr) (m cap : Nat) (w : World) :
    Calls Tryz.prog 113 #[ndV ⟨33, p, n, s⟩ a m cap] w fun e w' => e = .returned (.bool (decide (n = 0))) ∧ Below w.heap.size w w' := by
  have hB : ∀ o, Below w.heap.size w (w.alloc o) := fun o => belA (Below.refl _ _)
  have A1 := At.new w (Ndo ⟨33, p, n, s⟩ a m cap)
  obtain ⟨c0, c1, c2, c3, c4, cf⟩ := A1.nd
  clear A1
  go_enter Tryz.func113, Tryz.ntmps113
  go_wp2
  go_ret
  exact ⟨ret_bool (by first | rfl | simp_all), hB _⟩

set_option maxRecDepth 100000 in
set_option maxHeartbeats 2000000 in
theorem num_34 (p n : Int) (s : List UInt8) (a : Option Addr) (m cap : Nat) (w : World) :
    Calls Tryz.prog 113 #[ndV ⟨34, p, n, s⟩ a m cap] w fun e w' => e = .returned (.bool (decide (n = 0))) ∧ Below w.heap.size w w' := by
  have hB : ∀ o, Below w.heap.size w (w.alloc o) := fun o => belA (Below.refl _ _)
  have A1 := At.new w (Ndo ⟨34, p, n, s⟩ a m cap)
  obtain ⟨c0, c1, c2, c3, c4, cf⟩ := A1.nd
  clear A1
  go_enter Tryz.func113, Tryz.ntmps113
  go_wp2
  go_ret
  exact ⟨ret_bool (by first | rfl | simp_all), hB _⟩

set_option maxRecDepth 100000 in
set_option maxHeartbeats 2000000 in
theorem num_35 (p n : Int) (s : List UInt8) (a : Option Addr) (m cap : Nat) (w : World) :
    Calls Tryz.prog 113 #[ndV ⟨35, p, n, s⟩ a m cap] w fun e w' => e = .returned (.bool (decide (n = 0))) ∧ Below w.heap.size w w' := by
  have hB : ∀ o, Below w.heap.size w (w.alloc o) := fun o => belA (Below.refl _ _)
  have A1 := At.new w (Ndo ⟨35, p, n, s⟩ a m cap)
  obtain ⟨c0, c1, c2, c3, c4, cf⟩ := A1.nd
  clear A1
  go_enter Tryz.func113, Tryz.ntmps113
  go_wp2
  go_ret
  exact ⟨ret_bool (by first | rfl | simp_all), hB _⟩

set_option maxRecDepth 100000 in
set_option maxHeartbeats 2000000 in
theorem num_36 (p n : Int) (s : List UInt8) (a : Option Addr) (m cap : Nat) (w : World) :
    Calls Tryz.prog 113 #[ndV ⟨36, p, n, s⟩ a m cap] w fun e w' => e = .returned (.bool (decide (n = 0))) ∧ Below w.heap.size w w' := by
  have hB : ∀ o, Below w.heap.size w (w.alloc o) := fun o => belA (Below.refl _ _)
  have A1 := At.new w (Ndo ⟨36, p, n, s⟩ a m cap)
  obtain ⟨c0, c1, c2, c3, c4, cf⟩ := A1.nd
  clear A1
  go_enter Tryz.func113, Tryz.ntmps113
  go_wp2
  go_ret
  exact ⟨ret_bool (by first | rfl | simp_all), hB _⟩

set_option maxRecDepth 100000 in
set_option maxHeartbeats 2000000 in
theorem num_37 (p n : Int) (s : List UInt8) (a : Option Addr) (m cap : Nat) (w : World) :
    Calls Tryz.prog 113 #[ndV ⟨37, p, n, s⟩ a m cap] w fun e w' => e = .returned (.bool (decide (n = 0))) ∧ Below w.heap.size w w' := by
  have hB : ∀ o, Below w.heap.size w (w.alloc o) := fun o => belA (Below.refl _ _)
  have A1 := At.new w (Ndo ⟨37, p, n, s⟩ a m cap)
  obtain ⟨c0, c1, c2, c3, c4, cf⟩ := A1.nd
  clear A1
  go_enter Tryz.func113, Tryz.ntmps113
  go_wp2
  go_ret
  exact ⟨ret_bool (by first | rfl | simp_all), hB _⟩

set_option maxRecDepth 100000 in
set_option maxHeartbeats 2000000 in
theorem num_far (k : Nat) (hk : 38 ≤ k) (p n : Int) (s : List UInt8) (a : Option Addr) (m cap : Nat) (w : World) :
    Calls Tryz.prog 113 #[ndV ⟨k, p, n, s⟩ a m cap] w fun e w' => e = .returned (.bool (decide (n = 0))) ∧ Below w.heap.size w w' := by
  have hB : ∀ o, Below w.heap.size w (w.alloc o) := fun o => belA (Below.refl _ _)
  have A1 := At.new w (Ndo ⟨k, p, n, s⟩ a m cap)
  obtain ⟨c0, c1, c2, c3, c4, cf⟩ := A1.nd
  clear A1
  have g0 : ((k : Int) == 0) = false := by simpa using (by omega : ¬ (k : Int) = 0)
  have q0 : (k == 0) = false := by simpa using (by omega : ¬ k = 0)
  have g1 : ((k : Int) == 1) = false := by simpa using (by omega : ¬ (k : Int) = 1)
  have q1 : (k == 1) = false := by simpa using (by omega : ¬ k = 1)
  have g2 : ((k : Int) == 2) = false := by simpa using (by omega : ¬ (k : Int) = 2)
  have q2 : (k == 2) = false := by simpa using (by omega : ¬ k = 2)
  have g3 : ((k : Int) == 3) = false := by simpa using (by omega : ¬ (k : Int) = 3)
  have q3 : (k == 3) = false := by simpa using (by omega : ¬ k = 3)
  have g4 : ((k : Int) == 4) = false := by simpa using (by omega : ¬ (k : Int) = 4)
  have q4 : (k == 4) = false := by simpa using (by omega : ¬ k = 4)
  have g5 : ((k : Int) == 5) = false := by simpa using (by omega : ¬ (k : Int) = 5)
  have q5 : (k == 5) = false := by simpa using (by omega : ¬ k = 5)
  have g6 : ((k : Int) == 6) = false := by simpa using (by omega : ¬ (k : Int) = 6)
  have q6 : (k == 6) = false := by simpa using (by omega : ¬ k = 6)
  have g7 : ((k : Int) == 7) = false := by simpa using (by omega : ¬ (k : Int) = 7)
  have q7 : (k == 7) = false := by simpa using (by omega : ¬ k = 7)
  have g8 : ((k : Int) == 8) = false := by simpa using (by omega : ¬ (k : Int) = 8)
  have q8 : (k == 8) = false := by simpa using (by omega : ¬ k = 8)
  have g9 : ((k : Int) == 9) = false := by simpa using (by omega : ¬ (k : Int) = 9)
  have q9 : (k == 9) = false := by simpa using (by omega : ¬ k = 9)
  have g10 : ((k : Int) == 10) = false := by simpa using (by omega : ¬ (k : Int) = 10)
  have q10 : (k == 10) = false := by simpa using (by omega : ¬ k = 10)
  have g11 : ((k : Int) == 11) = false := by simpa using (by omega : ¬ (k : Int) = 11)
  have q11 : (k == 11) = false := by simpa using (by omega : ¬ k = 11)
  have g12 : ((k : Int) == 12) = false := by simpa using (by omega : ¬ (k : Int) = 12)
  have q12 : (k == 12) = false := by simpa using (by omega : ¬ k = 12)
  have g13 : ((k : Int) == 13) = false := by simpa using (by omega : ¬ (k : Int) = 13)
  have q13 : (k == 13) = false := by simpa using (by omega : ¬ k = 13)
  have g14 : ((k : Int) == 14) = false := by simpa using (by omega : ¬ (k : Int) = 14)
  have q14 : (k == 14) = false := by simpa using (by omega : ¬ k = 14)
  have g15 : ((k : Int) == 15) = false := by simpa using (by omega : ¬ (k : Int) = 15)
  have q15 : (k == 15) = false := by simpa using (by omega : ¬ k = 15)
  have g16 : ((k : Int) == 16) = false := by simpa using (by omega : ¬ (k : Int) = 16)
  have q16 : (k == 16) = false := by simpa using (by omega : ¬ k = 16)
  have g17 : ((k : Int) == 17) = false := by simpa using (by omega : ¬ (k : Int) = 17)
  have q17 : (k == 17) = false := by simpa using (by omega : ¬ k = 17)
  have g18 : ((k : Int) == 18) = false := by simpa using (by omega : ¬ (k : Int) = 18)
  have q18 : (k == 18) = false := by simpa using (by omega : ¬ k = 18)
  have g19 : ((k : Int) == 19) = false := by simpa using (by omega : ¬ (k : Int) = 19)
  have q19 : (k == 19) = false := by simpa using (by omega : ¬ k = 19)
  have g20 : ((k : Int) == 20) = false := by simpa using (by omega : ¬ (k : Int) = 20)
  have q20 : (k == 20) = false := by simpa using (by omega : ¬ k = 20)
  have g21 : ((k : Int) == 21) = false := by simpa using (by omega : ¬ (k : Int) = 21)
  have q21 : (k == 21) = false := by simpa using (by omega : ¬ k = 21)
  have g22 : ((k : Int) == 22) = false := by simpa using (by omega : ¬ (k : Int) = 22)
  have q22 : (k == 22) = false := by simpa using (by omega : ¬ k = 22)
  have g23 : ((k : Int) == 23) = false := by simpa using (by omega : ¬ (k : Int) = 23)
  have q23 : (k == 23) = false := by simpa using (by omega : ¬ k = 23)
  have g24 : ((k : Int) == 24) = false := by simpa using (by omega : ¬ (k : Int) = 24)
  have q24 : (k == 24) = false := by simpa using (by omega : ¬ k = 24)
  have g25 : ((k : Int) == 25) = false := by simpa using (by omega : ¬ (k : Int) = 25)
  have q25 : (k == 25) = false := by simpa using (by omega : ¬ k = 25)
  have g26 : ((k : Int) == 26) = false := by simpa using (by omega : ¬ (k : Int) = 26)
  have q26 : (k == 26) = false := by simpa using (by omega : ¬ k = 26)
  have g27 : ((k : Int) == 27) = false := by simpa using (by omega : ¬ (k : Int) = 27)
  have q27 : (k == 27) = false := by simpa using (by omega : ¬ k = 27)
  have g28 : ((k : Int) == 28) = false := by simpa using (by omega : ¬ (k : Int) = 28)
  have q28 : (k == 28) = false := by simpa using (by omega : ¬ k = 28)
  have g29 : ((k : Int) == 29) = false := by simpa using (by omega : ¬ (k : Int) = 29)
  have q29 : (k == 29) = false := by simpa using (by omega : ¬ k = 29)
  have g30 : ((k : Int) == 30) = false := by simpa using (by omega : ¬ (k : Int) = 30)
  have q30 : (k == 30) = false := by simpa using (by omega : ¬ k = 30)
  have g31 : ((k : Int) == 31) = false := by simpa using (by omega : ¬ (k : Int) = 31)
  have q31 : (k == 31) = false := by simpa using (by omega : ¬ k = 31)
  have g32 : ((k : Int) == 32) = false := by simpa using (by omega : ¬ (k : Int) = 32)
  have q32 : (k == 32) = false := by simpa using (by omega : ¬ k = 32)
  have g33 : ((k : Int) == 33) = false := by simpa using (by omega : ¬ (k : Int) = 33)
  have q33 : (k == 33) = false := by simpa using (by omega : ¬ k = 33)
  have g34 : ((k : Int) == 34) = false := by simpa using (by omega : ¬ (k : Int) = 34)
  have q34 : (k == 34) = false := by simpa using (by omega : ¬ k = 34)
  have g35 : ((k : Int) == 35) = false := by simpa using (by omega : ¬ (k : Int) = 35)
  have q35 : (k == 35) = false := by simpa using (by omega : ¬ k = 35)
  have g36 : ((k : Int) == 36) = false := by simpa using (by omega : ¬ (k : Int) = 36)
  have q36 : (k == 36) = false := by simpa using (by omega : ¬ k = 36)
  have g37 : ((k : Int) == 37) = false := by simpa using (by omega : ¬ (k : Int) = 37)
  have q37 : (k == 37) = false := by simpa using (by omega : ¬ k = 37)
  clear hk
  go_enter Tryz.func113, Tryz.ntmps113
  go_wp2
  go_ret
  exact ⟨ret_bool (by first | rfl | simp_all), hB _⟩
theorem numberFits_any (x : Nx) (a : Option Addr) (m cap : Nat) (w : World) :
    Calls Tryz.prog 113 #[ndV x a m cap] w fun e w' => e = .returned (.bool (nuB x.k x.n)) ∧ Below w.heap.size w w' := by
  obtain ⟨k, p, n, s⟩ := x
  show Calls Tryz.prog 113 _ _ fun e w' => e = .returned (.bool (nuB k n)) ∧ _
  rcases kind_cases k with rfl | rfl | rfl | rfl | rfl | rfl | rfl | rfl | rfl | rfl | rfl | rfl | rfl | rfl | rfl | rfl | rfl | rfl | rfl | rfl | rfl | rfl | rfl | rfl | rfl | rfl | rfl | rfl | rfl | rfl | rfl | rfl | rfl | rfl | rfl | rfl | rfl | rfl | hk
  · exact num_0 p n s a m cap w
  · exact num_1 p n s a m cap w
  · exact num_2 p n s a m cap w
  · exact num_3 p n s a m cap w
  · exact num_4 p n s a m cap w
  · exact num_5 p n s a m cap w
  · exact num_6 p n s a m cap w
  · exact num_7 p n s a m cap w
  · exact num_8 p n s a m cap w
  · exact num_9 p n s a m cap w
  · exact num_10 p n s a m cap w
  · exact num_11 p n s a m cap w
  · exact num_12 p n s a m cap w
  · exact num_13 p n s a m cap w
  · exact num_14 p n s a m cap w
  · exact num_15 p n s a m cap w
  · exact num_16 p n s a m cap w
  · exact num_17 p n s a m cap w
  · exact num_18 p n s a m cap w
  · exact num_19 p n s a m cap w
  · exact num_20 p n s a m cap w
  · exact num_21 p n s a m cap w
  · exact num_22 p n s a m cap w
  · exact num_23 p n s a m cap w
  · exact num_24 p n s a m cap w
  · exact num_25 p n s a m cap w
  · exact num_26 p n s a m cap w
  · exact num_27 p n s a m cap w
  · exact num_28 p n s a m cap w
  · exact num_29 p n s a m cap w
  · exact num_30 p n s a m cap w
  · exact num_31 p n s a m cap w
  · exact num_32 p n s a m cap w
  · exact num_33 p n s a m cap w
  · exact num_34 p n s a m cap w
  · exact num_35 p n s a m cap w
  · exact num_36 p n s a m cap w
  · exact num_37 p n s a m cap w
  · rw [nu_other (by omega) (by omega) (by omega) (by omega) (by omega) (by omega) (by omega)]
    exact num_far k hk p n s a m cap w
end Go.Proofs.YtahdnfogdnondaaGreatDoor
