import Derived.Test.YtahdnfogdnondaaGreatDoorJ
namespace Go.Proofs.YtahdnfogdnondaaGreatDoor
open Go.RowKit
set_option linter.unusedVariables false
set_option linter.unusedSimpArgs false

theorem tx_other {k : Nat} (h1 : ¬ (k = 3 ∨ k = 7 ∨ k = 4 ∨ k = 5 ∨ k = 6 ∨ k = 14 ∨ k = 26 ∨ k = 27 ∨ k = 33 ∨ k = 35)) (h2 : ¬ (k = 2 ∨ k = 12 ∨ k = 34)) (h3 : ¬ k = 11) (h4 : ¬ k = 32) (s : List UInt8) : txB k s = emS s := by
  unfold txB; rw [if_neg h1, if_neg h2, if_neg h3, if_neg h4]
set_option maxRecDepth 100000 in
set_option maxHeartbeats 2000000 in
theorem text_3 (p n : Int) (s : List UInt8) (a : Option Addr) (m cap : Nat) (w : World) (hs : s.length ≤ maxLen) :
    Calls Tryz.prog 112 #[ndV ⟨3, p, n, s⟩ a m cap] w fun e w' => e = .returned (.bool (nmS s)) ∧ Below w.heap.size w w' := by
  have hB : ∀ o, Below w.heap.size w (w.alloc o) := fun o => belA (Below.refl _ _)
  have A1 := At.new w (Ndo ⟨3, p, n, s⟩ a m cap)
  obtain ⟨c0, c1, c2, c3, c4, cf⟩ := A1.nd
  clear A1
  go_enter Tryz.func112, Tryz.ntmps112
  go_wp2_with (go_at_call 128; refine (name_any s _ hs).mono ?_; rintro e w1 ⟨rfl, hb1⟩)
  go_ret
  exact ⟨rfl, below1 hb1⟩
set_option maxRecDepth 100000 in
set_option maxHeartbeats 2000000 in
theorem text_7 (p n : Int) (s : List UInt8) (a : Option Addr) (m cap : Nat) (w : World) (hs : s.length ≤ maxLen) :
    Calls Tryz.prog 112 #[ndV ⟨7, p, n, s⟩ a m cap] w fun e w' => e = .returned (.bool (nmS s)) ∧ Below w.heap.size w w' := by
  have hB : ∀ o, Below w.heap.size w (w.alloc o) := fun o => belA (Below.refl _ _)
  have A1 := At.new w (Ndo ⟨7, p, n, s⟩ a m cap)
  obtain ⟨c0, c1, c2, c3, c4, cf⟩ := A1.nd
  clear A1
  go_enter Tryz.func112, Tryz.ntmps112
  go_wp2_with (go_at_call 128; refine (name_any s _ hs).mono ?_; rintro e w1 ⟨rfl, hb1⟩)
  go_ret
  exact ⟨rfl, below1 hb1⟩
set_option maxRecDepth 100000 in
set_option maxHeartbeats 2000000 in
theorem text_4 (p n : Int) (s : List UInt8) (a : Option Addr) (m cap : Nat) (w : World) (hs : s.length ≤ maxLen) :
    Calls Tryz.prog 112 #[ndV ⟨4, p, n, s⟩ a m cap] w fun e w' => e = .returned (.bool (nmS s)) ∧ Below w.heap.size w w' := by
  have hB : ∀ o, Below w.heap.size w (w.alloc o) := fun o => belA (Below.refl _ _)
  have A1 := At.new w (Ndo ⟨4, p, n, s⟩ a m cap)
  obtain ⟨c0, c1, c2, c3, c4, cf⟩ := A1.nd
  clear A1
  go_enter Tryz.func112, Tryz.ntmps112
  go_wp2_with (go_at_call 128; refine (name_any s _ hs).mono ?_; rintro e w1 ⟨rfl, hb1⟩)
  go_ret
  exact ⟨rfl, below1 hb1⟩
set_option maxRecDepth 100000 in
set_option maxHeartbeats 2000000 in
theorem text_5 (p n : Int) (s : List UInt8) (a : Option Addr) (m cap : Nat) (w : World) (hs : s.length ≤ maxLen) :
    Calls Tryz.prog 112 #[ndV ⟨5, p, n, s⟩ a m cap] w fun e w' => e = .returned (.bool (nmS s)) ∧ Below w.heap.size w w' := by
  have hB : ∀ o, Below w.heap.size w (w.alloc o) := fun o => belA (Below.refl _ _)
  have A1 := At.new w (Ndo ⟨5, p, n, s⟩ a m cap)
  obtain ⟨c0, c1, c2, c3, c4, cf⟩ := A1.nd
  clear A1
  go_enter Tryz.func112, Tryz.ntmps112
  go_wp2_with (go_at_call 128; refine (name_any s _ hs).mono ?_; rintro e w1 ⟨rfl, hb1⟩)
  go_ret
  exact ⟨rfl, below1 hb1⟩
set_option maxRecDepth 100000 in
set_option maxHeartbeats 2000000 in
theorem text_6 (p n : Int) (s : List UInt8) (a : Option Addr) (m cap : Nat) (w : World) (hs : s.length ≤ maxLen) :
    Calls Tryz.prog 112 #[ndV ⟨6, p, n, s⟩ a m cap] w fun e w' => e = .returned (.bool (nmS s)) ∧ Below w.heap.size w w' := by
  have hB : ∀ o, Below w.heap.size w (w.alloc o) := fun o => belA (Below.refl _ _)
  have A1 := At.new w (Ndo ⟨6, p, n, s⟩ a m cap)
  obtain ⟨c0, c1, c2, c3, c4, cf⟩ := A1.nd
  clear A1
  go_enter Tryz.func112, Tryz.ntmps112
  go_wp2_with (go_at_call 128; refine (name_any s _ hs).mono ?_; rintro e w1 ⟨rfl, hb1⟩)
  go_ret
  exact ⟨rfl, below1 hb1⟩
set_option maxRecDepth 100000 in
set_option maxHeartbeats 2000000 in
theorem text_14 (p n : Int) (s : List UInt8) (a : Option Addr) (m cap : Nat) (w : World) (hs : s.length ≤ maxLen) :
    Calls Tryz.prog 112 #[ndV ⟨14, p, n, s⟩ a m cap] w fun e w' => e = .returned (.bool (nmS s)) ∧ Below w.heap.size w w' := by
  have hB : ∀ o, Below w.heap.size w (w.alloc o) := fun o => belA (Below.refl _ _)
  have A1 := At.new w (Ndo ⟨14, p, n, s⟩ a m cap)
  obtain ⟨c0, c1, c2, c3, c4, cf⟩ := A1.nd
  clear A1
  go_enter Tryz.func112, Tryz.ntmps112
  go_wp2_with (go_at_call 128; refine (name_any s _ hs).mono ?_; rintro e w1 ⟨rfl, hb1⟩)
  go_ret
  exact ⟨rfl, below1 hb1⟩
set_option maxRecDepth 100000 in
set_option maxHeartbeats 2000000 in
theorem text_26 (p n : Int) (s : List UInt8) (a : Option Addr) (m cap : Nat) (w : World) (hs : s.length ≤ maxLen) :
    Calls Tryz.prog 112 #[ndV ⟨26, p, n, s⟩ a m cap] w fun e w' => e = .returned (.bool (nmS s)) ∧ Below w.heap.size w w' := by
  have hB : ∀ o, Below w.heap.size w (w.alloc o) := fun o => belA (Below.refl _ _)
  have A1 := At.new w (Ndo ⟨26, p, n, s⟩ a m cap)
  obtain ⟨c0, c1, c2, c3, c4, cf⟩ := A1.nd
  clear A1
  go_enter Tryz.func112, Tryz.ntmps112
  go_wp2_with (go_at_call 128; refine (name_any s _ hs).mono ?_; rintro e w1 ⟨rfl, hb1⟩)
  go_ret
  exact ⟨rfl, below1 hb1⟩
set_option maxRecDepth 100000 in
set_option maxHeartbeats 2000000 in
theorem text_27 (p n : Int) (s : List UInt8) (a : Option Addr) (m cap : Nat) (w : World) (hs : s.length ≤ maxLen) :
    Calls Tryz.prog 112 #[ndV ⟨27, p, n, s⟩ a m cap] w fun e w' => e = .returned (.bool (nmS s)) ∧ Below w.heap.size w w' := by
  have hB : ∀ o, Below w.heap.size w (w.alloc o) := fun o => belA (Below.refl _ _)
  have A1 := At.new w (Ndo ⟨27, p, n, s⟩ a m cap)
  obtain ⟨c0, c1, c2, c3, c4, cf⟩ := A1.nd
  clear A1
  go_enter Tryz.func112, Tryz.ntmps112
  go_wp2_with (go_at_call 128; refine (name_any s _ hs).mono ?_; rintro e w1 ⟨rfl, hb1⟩)
  go_ret
  exact ⟨rfl, below1 hb1⟩
set_option maxRecDepth 100000 in
set_option maxHeartbeats 2000000 in
theorem text_33 (p n : Int) (s : List UInt8) (a : Option Addr) (m cap : Nat) (w : World) (hs : s.length ≤ maxLen) :
    Calls Tryz.prog 112 #[ndV ⟨33, p, n, s⟩ a m cap] w fun e w' => e = .returned (.bool (nmS s)) ∧ Below w.heap.size w w' := by
  have hB : ∀ o, Below w.heap.size w (w.alloc o) := fun o => belA (Below.refl _ _)
  have A1 := At.new w (Ndo ⟨33, p, n, s⟩ a m cap)
  obtain ⟨c0, c1, c2, c3, c4, cf⟩ := A1.nd
  clear A1
  go_enter Tryz.func112, Tryz.ntmps112
  go_wp2_with (go_at_call 128; refine (name_any s _ hs).mono ?_; rintro e w1 ⟨rfl, hb1⟩)
  go_ret
  exact ⟨rfl, below1 hb1⟩
set_option maxRecDepth 100000 in
set_option maxHeartbeats 2000000 in
theorem text_35 (p n : Int) (s : List UInt8) (a : Option Addr) (m cap : Nat) (w : World) (hs : s.length ≤ maxLen) :
    Calls Tryz.prog 112 #[ndV ⟨35, p, n, s⟩ a m cap] w fun e w' => e = .returned (.bool (nmS s)) ∧ Below w.heap.size w w' := by
  have hB : ∀ o, Below w.heap.size w (w.alloc o) := fun o => belA (Below.refl _ _)
  have A1 := At.new w (Ndo ⟨35, p, n, s⟩ a m cap)
  obtain ⟨c0, c1, c2, c3, c4, cf⟩ := A1.nd
  clear A1
  go_enter Tryz.func112, Tryz.ntmps112
  go_wp2_with (go_at_call 128; refine (name_any s _ hs).mono ?_; rintro e w1 ⟨rfl, hb1⟩)
  go_ret
  exact ⟨rfl, below1 hb1⟩
set_option maxRecDepth 100000 in
set_option maxHeartbeats 2000000 in
theorem text_2 (p n : Int) (s : List UInt8) (a : Option Addr) (m cap : Nat) (w : World) (hs : s.length ≤ maxLen) :
    Calls Tryz.prog 112 #[ndV ⟨2, p, n, s⟩ a m cap] w fun e w' => e = .returned (.bool (tnS s)) ∧ Below w.heap.size w w' := by
  have hB : ∀ o, Below w.heap.size w (w.alloc o) := fun o => belA (Below.refl _ _)
  have A1 := At.new w (Ndo ⟨2, p, n, s⟩ a m cap)
  obtain ⟨c0, c1, c2, c3, c4, cf⟩ := A1.nd
  clear A1
  go_enter Tryz.func112, Tryz.ntmps112
  go_wp2_with (go_at_call 129; refine (typeName_any s _ hs).mono ?_; rintro e w1 ⟨rfl, hb1⟩)
  go_ret
  exact ⟨rfl, below1 hb1⟩
set_option maxRecDepth 100000 in
set_option maxHeartbeats 2000000 in
theorem text_12 (p n : Int) (s : List UInt8) (a : Option Addr) (m cap : Nat) (w : World) (hs : s.length ≤ maxLen) :
    Calls Tryz.prog 112 #[ndV ⟨12, p, n, s⟩ a m cap] w fun e w' => e = .returned (.bool (tnS s)) ∧ Below w.heap.size w w' := by
  have hB : ∀ o, Below w.heap.size w (w.alloc o) := fun o => belA (Below.refl _ _)
  have A1 := At.new w (Ndo ⟨12, p, n, s⟩ a m cap)
  obtain ⟨c0, c1, c2, c3, c4, cf⟩ := A1.nd
  clear A1
  go_enter Tryz.func112, Tryz.ntmps112
  go_wp2_with (go_at_call 129; refine (typeName_any s _ hs).mono ?_; rintro e w1 ⟨rfl, hb1⟩)
  go_ret
  exact ⟨rfl, below1 hb1⟩
set_option maxRecDepth 100000 in
set_option maxHeartbeats 2000000 in
theorem text_34 (p n : Int) (s : List UInt8) (a : Option Addr) (m cap : Nat) (w : World) (hs : s.length ≤ maxLen) :
    Calls Tryz.prog 112 #[ndV ⟨34, p, n, s⟩ a m cap] w fun e w' => e = .returned (.bool (tnS s)) ∧ Below w.heap.size w w' := by
  have hB : ∀ o, Below w.heap.size w (w.alloc o) := fun o => belA (Below.refl _ _)
  have A1 := At.new w (Ndo ⟨34, p, n, s⟩ a m cap)
  obtain ⟨c0, c1, c2, c3, c4, cf⟩ := A1.nd
  clear A1
  go_enter Tryz.func112, Tryz.ntmps112
  go_wp2_with (go_at_call 129; refine (typeName_any s _ hs).mono ?_; rintro e w1 ⟨rfl, hb1⟩)
  go_ret
  exact ⟨rfl, below1 hb1⟩
set_option maxRecDepth 100000 in
set_option maxHeartbeats 2000000 in
theorem text_11 (p n : Int) (s : List UInt8) (a : Option Addr) (m cap : Nat) (w : World) (hs : s.length ≤ maxLen) :
    Calls Tryz.prog 112 #[ndV ⟨11, p, n, s⟩ a m cap] w fun e w' => e = .returned (.bool (emS s || nmS s)) ∧ Below w.heap.size w w' := by
  have hB : ∀ o, Below w.heap.size w (w.alloc o) := fun o => belA (Below.refl _ _)
  have A1 := At.new w (Ndo ⟨11, p, n, s⟩ a m cap)
  obtain ⟨c0, c1, c2, c3, c4, cf⟩ := A1.nd
  clear A1
  unfold emS
  cases he : (str s).toList.isEmpty with
  | true =>
    go_enter Tryz.func112, Tryz.ntmps112
    go_wp2
    go_ret
    exact ⟨rfl, hB _⟩
  | false =>
    rw [Bool.false_or]
    go_enter Tryz.func112, Tryz.ntmps112
    go_wp2_with (go_at_call 128; refine (name_any s _ hs).mono ?_; rintro e w1 ⟨rfl, hb1⟩)
    go_ret
    exact ⟨rfl, below1 hb1⟩
set_option maxRecDepth 100000 in
set_option maxHeartbeats 2000000 in
theorem text_32 (p n : Int) (s : List UInt8) (a : Option Addr) (m cap : Nat) (w : World) (hs : s.length ≤ maxLen) :
    Calls Tryz.prog 112 #[ndV ⟨32, p, n, s⟩ a m cap] w fun e w' => e = .returned (.bool (isS (str s))) ∧ Below w.heap.size w w' := by
  have hB : ∀ o, Below w.heap.size w (w.alloc o) := fun o => belA (Below.refl _ _)
  have A1 := At.new w (Ndo ⟨32, p, n, s⟩ a m cap)
  obtain ⟨c0, c1, c2, c3, c4, cf⟩ := A1.nd
  clear A1
  go_enter Tryz.func112, Tryz.ntmps112
  go_wp2_with (go_at_call 130; refine (isSign_any (str s) _).mono ?_; rintro e w1 ⟨rfl, rfl⟩)
  go_ret
  exact ⟨rfl, hB _⟩
set_option maxRecDepth 100000 in
set_option maxHeartbeats 2000000 in
theorem text_0 (p n : Int) (s : List UInt8) (a : Option Addr) (m cap : Nat) (w : World) (hs : s.length ≤ maxLen) :
    Calls Tryz.prog 112 #[ndV ⟨0, p, n, s⟩ a m cap] w fun e w' => e = .returned (.bool (emS s)) ∧ Below w.heap.size w w' := by
  have hB : ∀ o, Below w.heap.size w (w.alloc o) := fun o => belA (Below.refl _ _)
  have A1 := At.new w (Ndo ⟨0, p, n, s⟩ a m cap)
  obtain ⟨c0, c1, c2, c3, c4, cf⟩ := A1.nd
  clear A1
  go_enter Tryz.func112, Tryz.ntmps112
  go_wp2
  go_ret
  exact ⟨rfl, hB _⟩
set_option maxRecDepth 100000 in
set_option maxHeartbeats 2000000 in
theorem text_1 (p n : Int) (s : List UInt8) (a : Option Addr) (m cap : Nat) (w : World) (hs : s.length ≤ maxLen) :
    Calls Tryz.prog 112 #[ndV ⟨1, p, n, s⟩ a m cap] w fun e w' => e = .returned (.bool (emS s)) ∧ Below w.heap.size w w' := by
  have hB : ∀ o, Below w.heap.size w (w.alloc o) := fun o => belA (Below.refl _ _)
  have A1 := At.new w (Ndo ⟨1, p, n, s⟩ a m cap)
  obtain ⟨c0, c1, c2, c3, c4, cf⟩ := A1.nd
  clear A1
  go_enter Tryz.func112, Tryz.ntmps112
  go_wp2
  go_ret
  exact ⟨rfl, hB _⟩
set_option maxRecDepth 100000 in
set_option maxHeartbeats 2000000 in
theorem text_8 (p n : Int) (s : List UInt8) (a : Option Addr) (m cap : Nat) (w : World) (hs : s.length ≤ maxLen) :
    Calls Tryz.prog 112 #[ndV ⟨8, p, n, s⟩ a m cap] w fun e w' => e = .returned (.bool (emS s)) ∧ Below w.heap.size w w' := by
  have hB : ∀ o, Below w.heap.size w (w.alloc o) := fun o => belA (Below.refl _ _)
  have A1 := At.new w (Ndo ⟨8, p, n, s⟩ a m cap)
  obtain ⟨c0, c1, c2, c3, c4, cf⟩ := A1.nd
  clear A1
  go_enter Tryz.func112, Tryz.ntmps112
  go_wp2
  go_ret
  exact ⟨rfl, hB _⟩
set_option maxRecDepth 100000 in
set_option maxHeartbeats 2000000 in
theorem text_9 (p n : Int) (s : List UInt8) (a : Option Addr) (m cap : Nat) (w : World) (hs : s.length ≤ maxLen) :
    Calls Tryz.prog 112 #[ndV ⟨9, p, n, s⟩ a m cap] w fun e w' => e = .returned (.bool (emS s)) ∧ Below w.heap.size w w' := by
  have hB : ∀ o, Below w.heap.size w (w.alloc o) := fun o => belA (Below.refl _ _)
  have A1 := At.new w (Ndo ⟨9, p, n, s⟩ a m cap)
  obtain ⟨c0, c1, c2, c3, c4, cf⟩ := A1.nd
  clear A1
  go_enter Tryz.func112, Tryz.ntmps112
  go_wp2
  go_ret
  exact ⟨rfl, hB _⟩
set_option maxRecDepth 100000 in
set_option maxHeartbeats 2000000 in
theorem text_10 (p n : Int) (s : List UInt8) (a : Option Addr) (m cap : Nat) (w : World) (hs : s.length ≤ maxLen) :
    Calls Tryz.prog 112 #[ndV ⟨10, p, n, s⟩ a m cap] w fun e w' => e = .returned (.bool (emS s)) ∧ Below w.heap.size w w' := by
  have hB : ∀ o, Below w.heap.size w (w.alloc o) := fun o => belA (Below.refl _ _)
  have A1 := At.new w (Ndo ⟨10, p, n, s⟩ a m cap)
  obtain ⟨c0, c1, c2, c3, c4, cf⟩ := A1.nd
  clear A1
  go_enter Tryz.func112, Tryz.ntmps112
  go_wp2
  go_ret
  exact ⟨rfl, hB _⟩
set_option maxRecDepth 100000 in
set_option maxHeartbeats 2000000 in
theorem text_13 (p n : Int) (s : List UInt8) (a : Option Addr) (m cap : Nat) (w : World) (hs : s.length ≤ maxLen) :
    Calls Tryz.prog 112 #[ndV ⟨13, p, n, s⟩ a m cap] w fun e w' => e = .returned (.bool (emS s)) ∧ Below w.heap.size w w' := by
  have hB : ∀ o, Below w.heap.size w (w.alloc o) := fun o => belA (Below.refl _ _)
  have A1 := At.new w (Ndo ⟨13, p, n, s⟩ a m cap)
  obtain ⟨c0, c1, c2, c3, c4, cf⟩ := A1.nd
  clear A1
  go_enter Tryz.func112, Tryz.ntmps112
  go_wp2
  go_ret
  exact ⟨rfl, hB _⟩
set_option maxRecDepth 100000 in
set_option maxHeartbeats 2000000 in
theorem text_15 (p n : Int) (s : List UInt8) (a : Option Addr) (m cap : Nat) (w : World) (hs : s.length ≤ maxLen) :
    Calls Tryz.prog 112 #[ndV ⟨15, p, n, s⟩ a m cap] w fun e w' => e = .returned (.bool (emS s)) ∧ Below w.heap.size w w' := by
  have hB : ∀ o, Below w.heap.size w (w.alloc o) := fun o => belA (Below.refl _ _)
  have A1 := At.new w (Ndo ⟨15, p, n, s⟩ a m cap)
  obtain ⟨c0, c1, c2, c3, c4, cf⟩ := A1.nd
  clear A1
  go_enter Tryz.func112, Tryz.ntmps112
  go_wp2
  go_ret
  exact ⟨rfl, hB _⟩
set_option maxRecDepth 100000 in
set_option maxHeartbeats 2000000 in
theorem text_16 (p n : Int) (s : List UInt8) (a : Option Addr) (m cap : Nat) (w : World) (hs : s.length ≤ maxLen) :
    Calls Tryz.prog 112 #[ndV ⟨16, p, n, s⟩ a m cap] w fun e w' => e = .returned (.bool (emS s)) ∧ Below w.heap.size w w' := by
  have hB : ∀ o, Below w.heap.size w (w.alloc o) := fun o => belA (Below.refl _ _)
  have A1 := At.new w (Ndo ⟨16, p, n, s⟩ a m cap)
  obtain ⟨c0, c1, c2, c3, c4, cf⟩ := A1.nd
  clear A1
  go_enter Tryz.func112, Tryz.ntmps112
  go_wp2
  go_ret
  exact ⟨rfl, hB _⟩
set_option maxRecDepth 100000 in
set_option maxHeartbeats 2000000 in
theorem text_17 (p n : Int) (s : List UInt8) (a : Option Addr) (m cap : Nat) (w : World) (hs : s.length ≤ maxLen) :
    Calls Tryz.prog 112 #[ndV ⟨17, p, n, s⟩ a m cap] w fun e w' => e = .returned (.bool (emS s)) ∧ Below w.heap.size w w' := by
  have hB : ∀ o, Below w.heap.size w (w.alloc o) := fun o => belA (Below.refl _ _)
  have A1 := At.new w (Ndo ⟨17, p, n, s⟩ a m cap)
  obtain ⟨c0, c1, c2, c3, c4, cf⟩ := A1.nd
  clear A1
  go_enter Tryz.func112, Tryz.ntmps112
  go_wp2
  go_ret
  exact ⟨rfl, hB _⟩
set_option maxRecDepth 100000 in
set_option maxHeartbeats 2000000 in
theorem text_18 (p n : Int) (s : List UInt8) (a : Option Addr) (m cap : Nat) (w : World) (hs : s.length ≤ maxLen) :
    Calls Tryz.prog 112 #[ndV ⟨18, p, n, s⟩ a m cap] w fun e w' => e = .returned (.bool (emS s)) ∧ Below w.heap.size w w' := by
  have hB : ∀ o, Below w.heap.size w (w.alloc o) := fun o => belA (Below.refl _ _)
  have A1 := At.new w (Ndo ⟨18, p, n, s⟩ a m cap)
  obtain ⟨c0, c1, c2, c3, c4, cf⟩ := A1.nd
  clear A1
  go_enter Tryz.func112, Tryz.ntmps112
  go_wp2
  go_ret
  exact ⟨rfl, hB _⟩
set_option maxRecDepth 100000 in
set_option maxHeartbeats 2000000 in
theorem text_19 (p n : Int) (s : List UInt8) (a : Option Addr) (m cap : Nat) (w : World) (hs : s.length ≤ maxLen) :
    Calls Tryz.prog 112 #[ndV ⟨19, p, n, s⟩ a m cap] w fun e w' => e = .returned (.bool (emS s)) ∧ Below w.heap.size w w' := by
  have hB : ∀ o, Below w.heap.size w (w.alloc o) := fun o => belA (Below.refl _ _)
  have A1 := At.new w (Ndo ⟨19, p, n, s⟩ a m cap)
  obtain ⟨c0, c1, c2, c3, c4, cf⟩ := A1.nd
  clear A1
  go_enter Tryz.func112, Tryz.ntmps112
  go_wp2
  go_ret
  exact ⟨rfl, hB _⟩
set_option maxRecDepth 100000 in
set_option maxHeartbeats 2000000 in
theorem text_20 (p n : Int) (s : List UInt8) (a : Option Addr) (m cap : Nat) (w : World) (hs : s.length ≤ maxLen) :
    Calls Tryz.prog 112 #[ndV ⟨20, p, n, s⟩ a m cap] w fun e w' => e = .returned (.bool (emS s)) ∧ Below w.heap.size w w' := by
  have hB : ∀ o, Below w.heap.size w (w.alloc o) := fun o => belA (Below.refl _ _)
  have A1 := At.new w (Ndo ⟨20, p, n, s⟩ a m cap)
  obtain ⟨c0, c1, c2, c3, c4, cf⟩ := A1.nd
  clear A1
  go_enter Tryz.func112, Tryz.ntmps112
  go_wp2
  go_ret
  exact ⟨rfl, hB _⟩
set_option maxRecDepth 100000 in
set_option maxHeartbeats 2000000 in
theorem text_21 (p n : Int) (s : List UInt8) (a : Option Addr) (m cap : Nat) (w : World) (hs : s.length ≤ maxLen) :
    Calls Tryz.prog 112 #[ndV ⟨21, p, n, s⟩ a m cap] w fun e w' => e = .returned (.bool (emS s)) ∧ Below w.heap.size w w' := by
  have hB : ∀ o, Below w.heap.size w (w.alloc o) := fun o => belA (Below.refl _ _)
  have A1 := At.new w (Ndo ⟨21, p, n, s⟩ a m cap)
  obtain ⟨c0, c1, c2, c3, c4, cf⟩ := A1.nd
  clear A1
  go_enter Tryz.func112, Tryz.ntmps112
  go_wp2
  go_ret
  exact ⟨rfl, hB _⟩
set_option maxRecDepth 100000 in
set_option maxHeartbeats 2000000 in
theorem text_22 (p n : Int) (s : List UInt8) (a : Option Addr) (m cap : Nat) (w : World) (hs : s.length ≤ maxLen) :
    Calls Tryz.prog 112 #[ndV ⟨22, p, n, s⟩ a m cap] w fun e w' => e = .returned (.bool (emS s)) ∧ Below w.heap.size w w' := by
  have hB : ∀ o, Below w.heap.size w (w.alloc o) := fun o => belA (Below.refl _ _)
  have A1 := At.new w (Ndo ⟨22, p, n, s⟩ a m cap)
  obtain ⟨c0, c1, c2, c3, c4, cf⟩ := A1.nd
  clear A1
  go_enter Tryz.func112, Tryz.ntmps112
  go_wp2
  go_ret
  exact ⟨rfl, hB _⟩
set_option maxRecDepth 100000 in
set_option maxHeartbeats 2000000 in
theorem text_23 (p n : Int) (s : List UInt8) (a : Option Addr) (m cap : Nat) (w : World) (hs : s.length ≤ maxLen) :
    Calls Tryz.prog 112 #[ndV ⟨23, p, n, s⟩ a m cap] w fun e w' => e = .returned (.bool (emS s)) ∧ Below w.heap.size w w' := by
  have hB : ∀ o, Below w.heap.size w (w.alloc o) := fun o => belA (Below.refl _ _)
  have A1 := At.new w (Ndo ⟨23, p, n, s⟩ a m cap)
  obtain ⟨c0, c1, c2, c3, c4, cf⟩ := A1.nd
  clear A1
  go_enter Tryz.func112, Tryz.ntmps112
  go_wp2
  go_ret
  exact ⟨rfl, hB _⟩
set_option maxRecDepth 100000 in
set_option maxHeartbeats 2000000 in
theorem text_24 (p n : Int) (s : List UInt8) (a : Option Addr) (m cap : Nat) (w : World) (hs : s.length ≤ maxLen) :
    Calls Tryz.prog 112 #[ndV ⟨24, p, n, s⟩ a m cap] w fun e w' => e = .returned (.bool (emS s)) ∧ Below w.heap.size w w' := by
  have hB : ∀ o, Below w.heap.size w (w.alloc o) := fun o => belA (Below.refl _ _)
  have A1 := At.new w (Ndo ⟨24, p, n, s⟩ a m cap)
  obtain ⟨c0, c1, c2, c3, c4, cf⟩ := A1.nd
  clear A1
  go_enter Tryz.func112, Tryz.ntmps112
  go_wp2
  go_ret
  exact ⟨rfl, hB _⟩
set_option maxRecDepth 100000 in
set_option maxHeartbeats 2000000 in
theorem text_25 (p n : Int) (s : List UInt8) (a : Option Addr) (m cap : Nat) (w : World) (hs : s.length ≤ maxLen) :
    Calls Tryz.prog 112 #[ndV ⟨25, p, n, s⟩ a m cap] w fun e w' => e = .returned (.bool (emS s)) ∧ Below w.heap.size w w' := by
  have hB : ∀ o, Below w.heap.size w (w.alloc o) := fun o => belA (Below.refl _ _)
  have A1 := At.new w (Ndo ⟨25, p, n, s⟩ a m cap)
  obtain ⟨c0, c1, c2, c3, c4, cf⟩ := A1.nd
  clear A1
  go_enter Tryz.func112, Tryz.ntmps112
  go_wp2
  go_ret
  exact ⟨rfl, hB _⟩
set_option maxRecDepth 100000 in
set_option maxHeartbeats 2000000 in
theorem text_28 (p n : Int) (s : List UInt8) (a : Option Addr) (m cap : Nat) (w : World) (hs : s.length ≤ maxLen) :
    Calls Tryz.prog 112 #[ndV ⟨28, p, n, s⟩ a m cap] w fun e w' => e = .returned (.bool (emS s)) ∧ Below w.heap.size w w' := by
  have hB : ∀ o, Below w.heap.size w (w.alloc o) := fun o => belA (Below.refl _ _)
  have A1 := At.new w (Ndo ⟨28, p, n, s⟩ a m cap)
  obtain ⟨c0, c1, c2, c3, c4, cf⟩ := A1.nd
  clear A1
  go_enter Tryz.func112, Tryz.ntmps112
  go_wp2
  go_ret
  exact ⟨rfl, hB _⟩
set_option maxRecDepth 100000 in
set_option maxHeartbeats 2000000 in
theorem text_29 (p n : Int) (s : List UInt8) (a : Option Addr) (m cap : Nat) (w : World) (hs : s.length ≤ maxLen) :
    Calls Tryz.prog 112 #[ndV ⟨29, p, n, s⟩ a m cap] w fun e w' => e = .returned (.bool (emS s)) ∧ Below w.heap.size w w' := by
  have hB : ∀ o, Below w.heap.size w (w.alloc o) := fun o => belA (Below.refl _ _)
  have A1 := At.new w (Ndo ⟨29, p, n, s⟩ a m cap)
  obtain ⟨c0, c1, c2, c3, c4, cf⟩ := A1.nd
  clear A1
  go_enter Tryz.func112, Tryz.ntmps112
  go_wp2
  go_ret
  exact ⟨rfl, hB _⟩
set_option maxRecDepth 100000 in
set_option maxHeartbeats 2000000 in
theorem text_30 (p n : Int) (s : List UInt8) (a : Option Addr) (m cap : Nat) (w : World) (hs : s.length ≤ maxLen) :
    Calls Tryz.prog 112 #[ndV ⟨30, p, n, s⟩ a m cap] w fun e w' => e = .returned (.bool (emS s)) ∧ Below w.heap.size w w' := by
  have hB : ∀ o, Below w.heap.size w (w.alloc o) := fun o => belA (Below.refl _ _)
  have A1 := At.new w (Ndo ⟨30, p, n, s⟩ a m cap)
  obtain ⟨c0, c1, c2, c3, c4, cf⟩ := A1.nd
  clear A1
  go_enter Tryz.func112, Tryz.ntmps112
  go_wp2
  go_ret
  exact ⟨rfl, hB _⟩
set_option maxRecDepth 100000 in
set_option maxHeartbeats 2000000 in
theorem text_31 (p n : Int) (s : List UInt8) (a : Option Addr) (m cap : Nat) (w : World) (hs : s.length ≤ maxLen) :
    Calls Tryz.prog 112 #[ndV ⟨31, p, n, s⟩ a m cap] w fun e w' => e = .returned (.bool (emS s)) ∧ Below w.heap.size w w' := by
  have hB : ∀ o, Below w.heap.size w (w.alloc o) := fun o => belA (Below.refl _ _)
  have A1 := At.new w (Ndo ⟨31, p, n, s⟩ a m cap)
  obtain ⟨c0, c1, c2, c3, c4, cf⟩ := A1.nd
  clear A1
  go_enter Tryz.func112, Tryz.ntmps112
  go_wp2
  go_ret
  exact ⟨rfl, hB _⟩
set_option maxRecDepth 100000 in
set_option maxHeartbeats 2000000 in
theorem text_36 (p n : Int) (s : List UInt8) (a : Option Addr) (m cap : Nat) (w : World) (hs : s.length ≤ maxLen) :
    Calls Tryz.prog 112 #[ndV ⟨36, p, n, s⟩ a m cap] w fun e w' => e = .returned (.bool (emS s)) ∧ Below w.heap.size w w' := by
  have hB : ∀ o, Below w.heap.size w (w.alloc o) := fun o => belA (Below.refl _ _)
  have A1 := At.new w (Ndo ⟨36, p, n, s⟩ a m cap)
  obtain ⟨c0, c1, c2, c3, c4, cf⟩ := A1.nd
  clear A1
  go_enter Tryz.func112, Tryz.ntmps112
  go_wp2
  go_ret
  exact ⟨rfl, hB _⟩
set_option maxRecDepth 100000 in
set_option maxHeartbeats 2000000 in
theorem text_37 (p n : Int) (s : List UInt8) (a : Option Addr) (m cap : Nat) (w : World) (hs : s.length ≤ maxLen) :
    Calls Tryz.prog 112 #[ndV ⟨37, p, n, s⟩ a m cap] w fun e w' => e = .returned (.bool (emS s)) ∧ Below w.heap.size w w' := by
  have hB : ∀ o, Below w.heap.size w (w.alloc o) := fun o => belA (Below.refl _ _)
  have A1 := At.new w (Ndo ⟨37, p, n, s⟩ a m cap)
  obtain ⟨c0, c1, c2, c3, c4, cf⟩ := A1.nd
  clear A1
  go_enter Tryz.func112, Tryz.ntmps112
  go_wp2
  go_ret
  exact ⟨rfl, hB _⟩
set_option maxRecDepth 100000 in
set_option maxHeartbeats 2000000 in
theorem text_far (k : Nat) (hk : 38 ≤ k) (p n : Int) (s : List UInt8) (a : Option Addr) (m cap : Nat) (w : World) :
    Calls Tryz.prog 112 #[ndV ⟨k, p, n, s⟩ a m cap] w fun e w' => e = .returned (.bool (emS s)) ∧ Below w.heap.size w w' := by
  have hB : ∀ o, Below w.heap.size w (w.alloc o) := fun o => belA (Below.refl _ _)
  have A1 := At.new w (Ndo ⟨k, p, n, s⟩ a m cap)
  obtain ⟨c0, c1, c2, c3, c4, cf⟩ := A1.nd
  clear A1
  have g0 : ((k : Int) == 0) = false := by simpa using (by omega : ¬ (k : Int) = 0)
  have q0 : (k == 0) = false := by simpa using (by omega : ¬ k = 0)
  have g1 : ((k : Int) == 1) = false := by simpa using (by omega : ¬ (k : Int) = 1)
  have q1 : (k == 1) = false := by simpa using (by omega : ¬ k = 1)
  have g2 : ((k : Int) == 2) = false := by simpa using (by omega : ¬ (k : Int) = 2)
  have q2 : (k == 2) = false := by simpa using (by omega : ¬ k = 2)
  have g3 : ((k : Int) == 3) = false := by simpa using (by omega : ¬ (k : Int) = 3)
  have q3 : (k == 3) = false := by simpa using (by omega : ¬ k = 3)
  have g4 : ((k : Int) == 4) = false := by simpa using (by omega : ¬ (k : Int) = 4)
  have q4 : (k == 4) = false := by simpa using (by omega : ¬ k = 4)
  have g5 : ((k : Int) == 5) = false := by simpa using (by omega : ¬ (k : Int) = 5)
  have q5 : (k == 5) = false := by simpa using (by omega : ¬ k = 5)
  have g6 : ((k : Int) == 6) = false := by simpa using (by omega : ¬ (k : Int) = 6)
  have q6 : (k == 6) = false := by simpa using (by omega : ¬ k = 6)
  have g7 : ((k : Int) == 7) = false := by simpa using (by omega : ¬ (k : Int) = 7)
  have q7 : (k == 7) = false := by simpa using (by omega : ¬ k = 7)
  have g8 : ((k : Int) == 8) = false := by simpa using (by omega : ¬ (k : Int) = 8)
  have q8 : (k == 8) = false := by simpa using (by omega : ¬ k = 8)
  have g9 : ((k : Int) == 9) = false := by simpa using (by omega : ¬ (k : Int) = 9)
  have q9 : (k == 9) = false := by simpa using (by omega : ¬ k = 9)
  have g10 : ((k : Int) == 10) = false := by simpa using (by omega : ¬ (k : Int) = 10)
  have q10 : (k == 10) = false := by simpa using (by omega : ¬ k = 10)
  have g11 : ((k : Int) == 11) = false := by simpa using (by omega : ¬ (k : Int) = 11)
  have q11 : (k == 11) = false := by simpa using (by omega : ¬ k = 11)
  have g12 : ((k : Int) == 12) = false := by simpa using (by omega : ¬ (k : Int) = 12)
  have q12 : (k == 12) = false := by simpa using (by omega : ¬ k = 12)
  have g13 : ((k : Int) == 13) = false := by simpa using (by omega : ¬ (k : Int) = 13)
  have q13 : (k == 13) = false := by simpa using (by omega : ¬ k = 13)
  have g14 : ((k : Int) == 14) = false := by simpa using (by omega : ¬ (k : Int) = 14)
  have q14 : (k == 14) = false := by simpa using (by omega : ¬ k = 14)
  have g15 : ((k : Int) == 15) = false := by simpa using (by omega : ¬ (k : Int) = 15)
  have q15 : (k == 15) = false := by simpa using (by omega : ¬ k = 15)
  have g16 : ((k : Int) == 16) = false := by simpa using (by omega : ¬ (k : Int) = 16)
  have q16 : (k == 16) = false := by simpa using (by omega : ¬ k = 16)
  have g17 : ((k : Int) == 17) = false := by simpa using (by omega : ¬ (k : Int) = 17)
  have q17 : (k == 17) = false := by simpa using (by omega : ¬ k = 17)
  have g18 : ((k : Int) == 18) = false := by simpa using (by omega : ¬ (k : Int) = 18)
  have q18 : (k == 18) = false := by simpa using (by omega : ¬ k = 18)
  have g19 : ((k : Int) == 19) = false := by simpa using (by omega : ¬ (k : Int) = 19)
  have q19 : (k == 19) = false := by simpa using (by omega : ¬ k = 19)
  have g20 : ((k : Int) == 20) = false := by simpa using (by omega : ¬ (k : Int) = 20)
  have q20 : (k == 20) = false := by simpa using (by omega : ¬ k = 20)
  have g21 : ((k : Int) == 21) = false := by simpa using (by omega : ¬ (k : Int) = 21)
  have q21 : (k == 21) = false := by simpa using (by omega : ¬ k = 21)
  have g22 : ((k : Int) == 22) = false := by simpa using (by omega : ¬ (k : Int) = 22)
  have q22 : (k == 22) = false := by simpa using (by omega : ¬ k = 22)
  have g23 : ((k : Int) == 23) = false := by simpa using (by omega : ¬ (k : Int) = 23)
  have q23 : (k == 23) = false := by simpa using (by omega : ¬ k = 23)
  have g24 : ((k : Int) == 24) = false := by simpa using (by omega : ¬ (k : Int) = 24)
  have q24 : (k == 24) = false := by simpa using (by omega : ¬ k = 24)
  have g25 : ((k : Int) == 25) = false := by simpa using (by omega : ¬ (k : Int) = 25)
  have q25 : (k == 25) = false := by simpa using (by omega : ¬ k = 25)
  have g26 : ((k : Int) == 26) = false := by simpa using (by omega : ¬ (k : Int) = 26)
  have q26 : (k == 26) = false := by simpa using (by omega : ¬ k = 26)
  have g27 : ((k : Int) == 27) = false := by simpa using (by omega : ¬ (k : Int) = 27)
  have q27 : (k == 27) = false := by simpa using (by omega : ¬ k = 27)
  have g28 : ((k : Int) == 28) = false := by simpa using (by omega : ¬ (k : Int) = 28)
  have q28 : (k == 28) = false := by simpa using (by omega : ¬ k = 28)
  have g29 : ((k : Int) == 29) = false := by simpa using (by omega : ¬ (k : Int) = 29)
  have q29 : (k == 29) = false := by simpa using (by omega : ¬ k = 29)
  have g30 : ((k : Int) == 30) = false := by simpa using (by omega : ¬ (k : Int) = 30)
  have q30 : (k == 30) = false := by simpa using (by omega : ¬ k = 30)
  have g31 : ((k : Int) == 31) = false := by simpa using (by omega : ¬ (k : Int) = 31)
  have q31 : (k == 31) = false := by simpa using (by omega : ¬ k = 31)
  have g32 : ((k : Int) == 32) = false := by simpa using (by omega : ¬ (k : Int) = 32)
  have q32 : (k == 32) = false := by simpa using (by omega : ¬ k = 32)
  have g33 : ((k : Int) == 33) = false := by simpa using (by omega : ¬ (k : Int) = 33)
  have q33 : (k == 33) = false := by simpa using (by omega : ¬ k = 33)
  have g34 : ((k : Int) == 34) = false := by simpa using (by omega : ¬ (k : Int) = 34)
  have q34 : (k == 34) = false := by simpa using (by omega : ¬ k = 34)
  have g35 : ((k : Int) == 35) = false := by simpa using (by omega : ¬ (k : Int) = 35)
  have q35 : (k == 35) = false := by simpa using (by omega : ¬ k = 35)
  have g36 : ((k : Int) == 36) = false := by simpa using (by omega : ¬ (k : Int) = 36)
  have q36 : (k == 36) = false := by simpa using (by omega : ¬ k = 36)
  have g37 : ((k : Int) == 37) = false := by simpa using (by omega : ¬ (k : Int) = 37)
  have q37 : (k == 37) = false := by simpa using (by omega : ¬ k = 37)
  clear hk
  go_enter Tryz.func112, Tryz.ntmps112
  go_wp2
  go_ret
  exact ⟨rfl, hB _⟩
theorem textFits_any (x : Nx) (a : Option Addr) (m cap : Nat) (w : World) (hs : x.s.length ≤ maxLen) :
    Calls Tryz.prog 112 #[ndV x a m cap] w fun e w' => e = .returned (.bool (txB x.k x.s)) ∧ Below w.heap.size w w' := by
  obtain ⟨k, p, n, s⟩ := x
  show Calls Tryz.prog 112 _ _ fun e w' => e = .returned (.bool (txB k s)) ∧ _
  rcases kind_cases k with rfl | rfl | rfl | rfl | rfl | rfl | rfl | rfl | rfl | rfl | rfl | rfl | rfl | rfl | rfl | rfl | rfl | rfl | rfl | rfl | rfl | rfl | rfl | rfl | rfl | rfl | rfl | rfl | rfl | rfl | rfl | rfl | rfl | rfl | rfl | rfl | rfl | rfl | hk
  · exact text_0 p n s a m cap w hs
  · exact text_1 p n s a m cap w hs
  · exact text_2 p n s a m cap w hs
  · exact text_3 p n s a m cap w hs
  · exact text_4 p n s a m cap w hs
  · exact text_5 p n s a m cap w hs
  · exact text_6 p n s a m cap w hs
  · exact text_7 p n s a m cap w hs
  · exact text_8 p n s a m cap w hs
  · exact text_9 p n s a m cap w hs
  · exact text_10 p n s a m cap w hs
  · exact text_11 p n s a m cap w hs
  · exact text_12 p n s a m cap w hs
  · exact text_13 p n s a m cap w hs
  · exact text_14 p n s a m cap w hs
  · exact text_15 p n s a m cap w hs
  · exact text_16 p n s a m cap w hs
  · exact text_17 p n s a m cap w hs
  · exact text_18 p n s a m cap w hs
  · exact text_19 p n s a m cap w hs
  · exact text_20 p n s a m cap w hs
  · exact text_21 p n s a m cap w hs
  · exact text_22 p n s a m cap w hs
  · exact text_23 p n s a m cap w hs
  · exact text_24 p n s a m cap w hs
  · exact text_25 p n s a m cap w hs
  · exact text_26 p n s a m cap w hs
  · exact text_27 p n s a m cap w hs
  · exact text_28 p n s a m cap w hs
  · exact text_29 p n s a m cap w hs
  · exact text_30 p n s a m cap w hs
  · exact text_31 p n s a m cap w hs
  · exact text_32 p n s a m cap w hs
  · exact text_33 p n s a m cap w hs
  · exact text_34 p n s a m cap w hs
  · exact text_35 p n s a m cap w hs
  · exact text_36 p n s a m cap w hs
  · exact text_37 p n s a m cap w hs
  · rw [tx_other (by omega) (by omega) (by omega) (by omega)]
    exact text_far k hk p n s a m cap w
end Go.Proofs.YtahdnfogdnondaaGreatDoor
