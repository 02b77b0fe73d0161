import Derived.Test.YtahdnfogdnondaaGreatDoorL
namespace Go.Proofs.YtahdnfogdnondaaGreatDoor
open Go.RowKit
set_option linter.unusedVariables false
set_option linter.unusedSimpArgs false

theorem inTurn_1b (ks : List Nat) (a : Option Addr) (cap : Nat) (W : World) (b : Nat) (hb : W.heap.size = b) (u : Value) (P : Nat → Bool) (hK : KRow W a ks) (hn : ks.length ≤ 20000) (hu : Cl W u P) (t : Nat) :
    Calls Tryz.prog 135 #[.slice a ks.length cap, .slice (some ⟨b, 0, none⟩) 1 1] (W.alloc (.cells #[u] t)) fun e w' => e = .returned (.bool (turn ks [P])) ∧ w' = W.alloc (.cells #[u] t) := by
  subst hb
  exact inTurn_1 ks a cap W u P hK hn hu t
theorem inTurn_2b (ks : List Nat) (a : Option Addr) (cap : Nat) (W : World) (b : Nat) (hb : W.heap.size = b) (u v : Value) (P Q : Nat → Bool) (hK : KRow W a ks) (hn : ks.length ≤ 20000) (hu : Cl W u P) (hv : Cl W v Q) (t : Nat) :
    Calls Tryz.prog 135 #[.slice a ks.length cap, .slice (some ⟨b, 0, none⟩) 2 2] (W.alloc (.cells #[u, v] t)) fun e w' => e = .returned (.bool (turn ks [P, Q])) ∧ w' = W.alloc (.cells #[u, v] t) := by
  subst hb
  exact inTurn_2 ks a cap W u v P Q hK hn hu hv t
/-- What a kind asks of its children. -/
def cfB (k : Nat) (n : Int) (ks : List Nat) : Bool :=
  if k = 1 then ks.all kItem
  else if k = 2 then decide (1 ≤ ks.length) && decide (ks.length ≤ 8) && ks.all (kIs 3)
  else if k = 4 then fnB n.toNat ks
  else if k = 5 then decide (ks.length ≤ 8) && ks.all (kIs 6)
  else if k = 3 ∨ k = 7 ∨ k = 10 ∨ k = 11 then turn ks [kType]
  else if k = 13 then ks.all kStmt
  else if k = 14 then letB n ks
  else if k = 16 then ifB n ks
  else if k = 17 then turn ks [kExpr, kIs 13]
  else if k = 18 then turn ks [kIs 13]
  else if k = 23 then turn ks [kIs 33]
  else if k = 15 ∨ k = 32 then turn ks [kExpr, kExpr]
  else if k = 21 ∨ k = 22 ∨ k = 27 ∨ k = 28 ∨ k = 29 ∨ k = 30 ∨ k = 31 ∨ k = 36 ∨ k = 35 then turn ks [kExpr]
  else if k = 33 then decide (ks.length ≤ 8) && ks.all kExpr
  else if k = 34 then decide (1 ≤ ks.length) && decide (ks.length ≤ 8) && ks.all (kIs 35)
  else if k = 6 ∨ k = 8 ∨ k = 9 ∨ k = 12 ∨ k = 19 ∨ k = 20 ∨ k = 24 ∨ k = 25 ∨ k = 26 ∨ k = 37 then decide (ks.length = 0)
  else false
set_option maxRecDepth 100000 in
set_option maxHeartbeats 2000000 in
theorem cf_1 (p n : Int) (s : List UInt8) (a0 : Option Addr) (m0 cap0 : Nat) (ks : List Nat) (a : Option Addr) (cap : Nat) (w : World) (hK : KRow w a ks) (h3 : ks.length ≤ 20000) (h4 : ks.length ≤ cap) (h5 : cap ≤ 140737488355328) :
    Calls Tryz.prog 115 #[ndV ⟨1, p, n, s⟩ a0 m0 cap0, .slice a ks.length cap] w fun e w' => e = .returned (.bool (ks.all kItem)) ∧ Below w.heap.size w w' := by
  have hB : ∀ o, Below w.heap.size w (w.alloc o) := fun o => belA (Below.refl _ _)
  have A1 := At.new w (Ndo ⟨1, p, n, s⟩ a0 m0 cap0)
  obtain ⟨c0, c1, c2, c3, c4, cf⟩ := A1.nd
  clear A1
  have hK1 := hK.below (hB (Ndo ⟨1, p, n, s⟩ a0 m0 cap0))
  go_enter Tryz.func115, Tryz.ntmps115
  go_wp2_with (go_at_call 131; refine (allAre_any ks a cap _ _ _ hK1 h3 .item).mono ?_; rintro e w1 ⟨rfl, rfl⟩)
  go_ret
  exact ⟨rfl, hB _⟩
set_option maxRecDepth 100000 in
set_option maxHeartbeats 2000000 in
theorem cf_13 (p n : Int) (s : List UInt8) (a0 : Option Addr) (m0 cap0 : Nat) (ks : List Nat) (a : Option Addr) (cap : Nat) (w : World) (hK : KRow w a ks) (h3 : ks.length ≤ 20000) (h4 : ks.length ≤ cap) (h5 : cap ≤ 140737488355328) :
    Calls Tryz.prog 115 #[ndV ⟨13, p, n, s⟩ a0 m0 cap0, .slice a ks.length cap] w fun e w' => e = .returned (.bool (ks.all kStmt)) ∧ Below w.heap.size w w' := by
  have hB : ∀ o, Below w.heap.size w (w.alloc o) := fun o => belA (Below.refl _ _)
  have A1 := At.new w (Ndo ⟨13, p, n, s⟩ a0 m0 cap0)
  obtain ⟨c0, c1, c2, c3, c4, cf⟩ := A1.nd
  clear A1
  have hK1 := hK.below (hB (Ndo ⟨13, p, n, s⟩ a0 m0 cap0))
  go_enter Tryz.func115, Tryz.ntmps115
  go_wp2_with (go_at_call 131; refine (allAre_any ks a cap _ _ _ hK1 h3 .stmt).mono ?_; rintro e w1 ⟨rfl, rfl⟩)
  go_ret
  exact ⟨rfl, hB _⟩
set_option maxRecDepth 100000 in
set_option maxHeartbeats 2000000 in
theorem cf_2 (p n : Int) (s : List UInt8) (a0 : Option Addr) (m0 cap0 : Nat) (ks : List Nat) (a : Option Addr) (cap : Nat) (w : World) (hK : KRow w a ks) (h3 : ks.length ≤ 20000) (h4 : ks.length ≤ cap) (h5 : cap ≤ 140737488355328) :
    Calls Tryz.prog 115 #[ndV ⟨2, p, n, s⟩ a0 m0 cap0, .slice a ks.length cap] w fun e w' => e = .returned (.bool (decide (1 ≤ ks.length) && decide (ks.length ≤ 8) && ks.all (kIs 3))) ∧ Below w.heap.size w w' := by
  have hB : ∀ o, Below w.heap.size w (w.alloc o) := fun o => belA (Below.refl _ _)
  have A1 := At.new w (Ndo ⟨2, p, n, s⟩ a0 m0 cap0)
  obtain ⟨c0, c1, c2, c3, c4, cf⟩ := A1.nd
  clear A1
  have hK1 := hK.below (hB (Ndo ⟨2, p, n, s⟩ a0 m0 cap0))
  by_cases hl1 : 1 ≤ ks.length
  case neg =>
    have g1 : ¬ (1 : Int) ≤ (ks.length : Int) := by omega
    have g2 : decide ((1 : Int) ≤ (ks.length : Int)) = false := decide_eq_false g1
    rw [decide_eq_false hl1, Bool.false_and, Bool.false_and]
    go_enter Tryz.func115, Tryz.ntmps115
    go_wp2
    go_ret
    exact ⟨rfl, hB _⟩
  have g1 : (1 : Int) ≤ (ks.length : Int) := by omega
  have g2 : decide ((1 : Int) ≤ (ks.length : Int)) = true := decide_eq_true g1
  rw [decide_eq_true hl1, Bool.true_and]
  by_cases hl2 : ks.length ≤ 8
  case neg =>
    have g3 : ¬ (ks.length : Int) ≤ 8 := by omega
    have g4 : decide ((ks.length : Int) ≤ 8) = false := decide_eq_false g3
    rw [decide_eq_false hl2, Bool.false_and]
    go_enter Tryz.func115, Tryz.ntmps115
    go_wp2
    go_ret
    exact ⟨rfl, hB _⟩
  have g3 : (ks.length : Int) ≤ 8 := by omega
  have g4 : decide ((ks.length : Int) ≤ 8) = true := decide_eq_true g3
  rw [decide_eq_true hl2, Bool.true_and]
  go_enter Tryz.func115, Tryz.ntmps115
  go_wp2_with (first
    | (go_at_call 133; refine (is_any 3 _).mono ?_; rintro e w1 ⟨b1, rfl, hcl, hb1⟩)
    | (go_at_call 131; refine (allAre_any ks a cap _ _ _ (hK1.below hb1) h3 hcl).mono ?_; rintro e w2 ⟨rfl, hw2⟩; replace hw2 := hw2.symm; subst hw2))
  go_ret
  exact ⟨rfl, below1 hb1⟩
set_option maxRecDepth 100000 in
set_option maxHeartbeats 2000000 in
theorem cf_34 (p n : Int) (s : List UInt8) (a0 : Option Addr) (m0 cap0 : Nat) (ks : List Nat) (a : Option Addr) (cap : Nat) (w : World) (hK : KRow w a ks) (h3 : ks.length ≤ 20000) (h4 : ks.length ≤ cap) (h5 : cap ≤ 140737488355328) :
    Calls Tryz.prog 115 #[ndV ⟨34, p, n, s⟩ a0 m0 cap0, .slice a ks.length cap] w fun e w' => e = .returned (.bool (decide (1 ≤ ks.length) && decide (ks.length ≤ 8) && ks.all (kIs 35))) ∧ Below w.heap.size w w' := by
  have hB : ∀ o, Below w.heap.size w (w.alloc o) := fun o => belA (Below.refl _ _)
  have A1 := At.new w (Ndo ⟨34, p, n, s⟩ a0 m0 cap0)
  obtain ⟨c0, c1, c2, c3, c4, cf⟩ := A1.nd
  clear A1
  have hK1 := hK.below (hB (Ndo ⟨34, p, n, s⟩ a0 m0 cap0))
  by_cases hl1 : 1 ≤ ks.length
  case neg =>
    have g1 : ¬ (1 : Int) ≤ (ks.length : Int) := by omega
    have g2 : decide ((1 : Int) ≤ (ks.length : Int)) = false := decide_eq_false g1
    rw [decide_eq_false hl1, Bool.false_and, Bool.false_and]
    go_enter Tryz.func115, Tryz.ntmps115
    go_wp2
    go_ret
    exact ⟨rfl, hB _⟩
  have g1 : (1 : Int) ≤ (ks.length : Int) := by omega
  have g2 : decide ((1 : Int) ≤ (ks.length : Int)) = true := decide_eq_true g1
  rw [decide_eq_true hl1, Bool.true_and]
  by_cases hl2 : ks.length ≤ 8
  case neg =>
    have g3 : ¬ (ks.length : Int) ≤ 8 := by omega
    have g4 : decide ((ks.length : Int) ≤ 8) = false := decide_eq_false g3
    rw [decide_eq_false hl2, Bool.false_and]
    go_enter Tryz.func115, Tryz.ntmps115
    go_wp2
    go_ret
    exact ⟨rfl, hB _⟩
  have g3 : (ks.length : Int) ≤ 8 := by omega
  have g4 : decide ((ks.length : Int) ≤ 8) = true := decide_eq_true g3
  rw [decide_eq_true hl2, Bool.true_and]
  go_enter Tryz.func115, Tryz.ntmps115
  go_wp2_with (first
    | (go_at_call 133; refine (is_any 35 _).mono ?_; rintro e w1 ⟨b1, rfl, hcl, hb1⟩)
    | (go_at_call 131; refine (allAre_any ks a cap _ _ _ (hK1.below hb1) h3 hcl).mono ?_; rintro e w2 ⟨rfl, hw2⟩; replace hw2 := hw2.symm; subst hw2))
  go_ret
  exact ⟨rfl, below1 hb1⟩
set_option maxRecDepth 100000 in
set_option maxHeartbeats 2000000 in
theorem cf_5 (p n : Int) (s : List UInt8) (a0 : Option Addr) (m0 cap0 : Nat) (ks : List Nat) (a : Option Addr) (cap : Nat) (w : World) (hK : KRow w a ks) (h3 : ks.length ≤ 20000) (h4 : ks.length ≤ cap) (h5 : cap ≤ 140737488355328) :
    Calls Tryz.prog 115 #[ndV ⟨5, p, n, s⟩ a0 m0 cap0, .slice a ks.length cap] w fun e w' => e = .returned (.bool (decide (ks.length ≤ 8) && ks.all (kIs 6))) ∧ Below w.heap.size w w' := by
  have hB : ∀ o, Below w.heap.size w (w.alloc o) := fun o => belA (Below.refl _ _)
  have A1 := At.new w (Ndo ⟨5, p, n, s⟩ a0 m0 cap0)
  obtain ⟨c0, c1, c2, c3, c4, cf⟩ := A1.nd
  clear A1
  have hK1 := hK.below (hB (Ndo ⟨5, p, n, s⟩ a0 m0 cap0))
  by_cases hl2 : ks.length ≤ 8
  case neg =>
    have g3 : ¬ (ks.length : Int) ≤ 8 := by omega
    have g4 : decide ((ks.length : Int) ≤ 8) = false := decide_eq_false g3
    rw [decide_eq_false hl2, Bool.false_and]
    go_enter Tryz.func115, Tryz.ntmps115
    go_wp2
    go_ret
    exact ⟨rfl, hB _⟩
  have g3 : (ks.length : Int) ≤ 8 := by omega
  have g4 : decide ((ks.length : Int) ≤ 8) = true := decide_eq_true g3
  rw [decide_eq_true hl2, Bool.true_and]
  go_enter Tryz.func115, Tryz.ntmps115
  go_wp2_with (first
    | (go_at_call 133; refine (is_any 6 _).mono ?_; rintro e w1 ⟨b1, rfl, hcl, hb1⟩)
    | (go_at_call 131; refine (allAre_any ks a cap _ _ _ (hK1.below hb1) h3 hcl).mono ?_; rintro e w2 ⟨rfl, hw2⟩; replace hw2 := hw2.symm; subst hw2))
  go_ret
  exact ⟨rfl, below1 hb1⟩
set_option maxRecDepth 100000 in
set_option maxHeartbeats 2000000 in
theorem cf_33 (p n : Int) (s : List UInt8) (a0 : Option Addr) (m0 cap0 : Nat) (ks : List Nat) (a : Option Addr) (cap : Nat) (w : World) (hK : KRow w a ks) (h3 : ks.length ≤ 20000) (h4 : ks.length ≤ cap) (h5 : cap ≤ 140737488355328) :
    Calls Tryz.prog 115 #[ndV ⟨33, p, n, s⟩ a0 m0 cap0, .slice a ks.length cap] w fun e w' => e = .returned (.bool (decide (ks.length ≤ 8) && ks.all kExpr)) ∧ Below w.heap.size w w' := by
  have hB : ∀ o, Below w.heap.size w (w.alloc o) := fun o => belA (Below.refl _ _)
  have A1 := At.new w (Ndo ⟨33, p, n, s⟩ a0 m0 cap0)
  obtain ⟨c0, c1, c2, c3, c4, cf⟩ := A1.nd
  clear A1
  have hK1 := hK.below (hB (Ndo ⟨33, p, n, s⟩ a0 m0 cap0))
  by_cases hl2 : ks.length ≤ 8
  case neg =>
    have g3 : ¬ (ks.length : Int) ≤ 8 := by omega
    have g4 : decide ((ks.length : Int) ≤ 8) = false := decide_eq_false g3
    rw [decide_eq_false hl2, Bool.false_and]
    go_enter Tryz.func115, Tryz.ntmps115
    go_wp2
    go_ret
    exact ⟨rfl, hB _⟩
  have g3 : (ks.length : Int) ≤ 8 := by omega
  have g4 : decide ((ks.length : Int) ≤ 8) = true := decide_eq_true g3
  rw [decide_eq_true hl2, Bool.true_and]
  go_enter Tryz.func115, Tryz.ntmps115
  go_wp2_with (go_at_call 131; refine (allAre_any ks a cap _ _ _ hK1 h3 .expr).mono ?_; rintro e w1 ⟨rfl, rfl⟩)
  go_ret
  exact ⟨rfl, hB _⟩
set_option maxRecDepth 100000 in
set_option maxHeartbeats 2000000 in
theorem cf_4 (p n : Int) (s : List UInt8) (a0 : Option Addr) (m0 cap0 : Nat) (ks : List Nat) (a : Option Addr) (cap : Nat) (w : World) (hK : KRow w a ks) (h3 : ks.length ≤ 20000) (h4 : ks.length ≤ cap) (h5 : cap ≤ 140737488355328) (hn0 : 0 ≤ n) (hn8 : n ≤ 8) :
    Calls Tryz.prog 115 #[ndV ⟨4, p, n, s⟩ a0 m0 cap0, .slice a ks.length cap] w fun e w' => e = .returned (.bool (fnB n.toNat ks)) ∧ Below w.heap.size w w' := by
  have hB : ∀ o, Below w.heap.size w (w.alloc o) := fun o => belA (Below.refl _ _)
  have A1 := At.new w (Ndo ⟨4, p, n, s⟩ a0 m0 cap0)
  obtain ⟨c0, c1, c2, c3, c4, cf⟩ := A1.nd
  clear A1
  have hK1 := hK.below (hB (Ndo ⟨4, p, n, s⟩ a0 m0 cap0))
  obtain ⟨q, rfl⟩ : ∃ q : Nat, n = (q : Int) := ⟨n.toNat, by omega⟩
  rw [show ((q : Int)).toNat = q by omega]
  go_enter Tryz.func115, Tryz.ntmps115
  go_wp2_with (go_at_call 134; refine (fnFits_any q ks a cap _ hK1 (by omega) h3 h4 h5).mono ?_; rintro e w1 ⟨rfl, hb1⟩)
  go_ret
  exact ⟨rfl, below1 hb1⟩
set_option maxRecDepth 100000 in
set_option maxHeartbeats 2000000 in
theorem cf_14 (p n : Int) (s : List UInt8) (a0 : Option Addr) (m0 cap0 : Nat) (ks : List Nat) (a : Option Addr) (cap : Nat) (w : World) (hK : KRow w a ks) (h3 : ks.length ≤ 20000) (h4 : ks.length ≤ cap) (h5 : cap ≤ 140737488355328) :
    Calls Tryz.prog 115 #[ndV ⟨14, p, n, s⟩ a0 m0 cap0, .slice a ks.length cap] w fun e w' => e = .returned (.bool (letB n ks)) ∧ Below w.heap.size w w' := by
  have hB : ∀ o, Below w.heap.size w (w.alloc o) := fun o => belA (Below.refl _ _)
  have A1 := At.new w (Ndo ⟨14, p, n, s⟩ a0 m0 cap0)
  obtain ⟨c0, c1, c2, c3, c4, cf⟩ := A1.nd
  clear A1
  have hK1 := hK.below (hB (Ndo ⟨14, p, n, s⟩ a0 m0 cap0))
  go_enter Tryz.func115, Tryz.ntmps115
  go_wp2_with (go_at_call 138; refine (letFits_any n ks a cap _ hK1 h3).mono ?_; rintro e w1 ⟨rfl, hb1⟩)
  go_ret
  exact ⟨rfl, below1 hb1⟩
set_option maxRecDepth 100000 in
set_option maxHeartbeats 2000000 in
theorem cf_16 (p n : Int) (s : List UInt8) (a0 : Option Addr) (m0 cap0 : Nat) (ks : List Nat) (a : Option Addr) (cap : Nat) (w : World) (hK : KRow w a ks) (h3 : ks.length ≤ 20000) (h4 : ks.length ≤ cap) (h5 : cap ≤ 140737488355328) :
    Calls Tryz.prog 115 #[ndV ⟨16, p, n, s⟩ a0 m0 cap0, .slice a ks.length cap] w fun e w' => e = .returned (.bool (ifB n ks)) ∧ Below w.heap.size w w' := by
  have hB : ∀ o, Below w.heap.size w (w.alloc o) := fun o => belA (Below.refl _ _)
  have A1 := At.new w (Ndo ⟨16, p, n, s⟩ a0 m0 cap0)
  obtain ⟨c0, c1, c2, c3, c4, cf⟩ := A1.nd
  clear A1
  have hK1 := hK.below (hB (Ndo ⟨16, p, n, s⟩ a0 m0 cap0))
  go_enter Tryz.func115, Tryz.ntmps115
  go_wp2_with (go_at_call 139; refine (ifFits_any n ks a cap _ hK1 h3).mono ?_; rintro e w1 ⟨rfl, hb1⟩)
  go_ret
  exact ⟨rfl, below1 hb1⟩
set_option maxRecDepth 100000 in
set_option maxHeartbeats 2000000 in
theorem cf_3 (p n : Int) (s : List UInt8) (a0 : Option Addr) (m0 cap0 : Nat) (ks : List Nat) (a : Option Addr) (cap : Nat) (w : World) (hK : KRow w a ks) (h3 : ks.length ≤ 20000) (h4 : ks.length ≤ cap) (h5 : cap ≤ 140737488355328) :
    Calls Tryz.prog 115 #[ndV ⟨3, p, n, s⟩ a0 m0 cap0, .slice a ks.length cap] w fun e w' => e = .returned (.bool (turn ks [kType])) ∧ Below w.heap.size w w' := by
  have hB : ∀ o, Below w.heap.size w (w.alloc o) := fun o => belA (Below.refl _ _)
  have A1 := At.new w (Ndo ⟨3, p, n, s⟩ a0 m0 cap0)
  obtain ⟨c0, c1, c2, c3, c4, cf⟩ := A1.nd
  clear A1
  have hK1 := hK.below (hB (Ndo ⟨3, p, n, s⟩ a0 m0 cap0))
  go_enter Tryz.func115, Tryz.ntmps115
  go_wp2_with (go_at_call 135; refine (inTurn_1b ks a cap (w.alloc (Ndo ⟨3, p, n, s⟩ a0 m0 cap0)) _ (by simp) _ _ hK1 h3 .type _).mono ?_; rintro e w1 ⟨rfl, rfl⟩)
  go_ret
  exact ⟨rfl, belA (hB _)⟩
set_option maxRecDepth 100000 in
set_option maxHeartbeats 2000000 in
theorem cf_7 (p n : Int) (s : List UInt8) (a0 : Option Addr) (m0 cap0 : Nat) (ks : List Nat) (a : Option Addr) (cap : Nat) (w : World) (hK : KRow w a ks) (h3 : ks.length ≤ 20000) (h4 : ks.length ≤ cap) (h5 : cap ≤ 140737488355328) :
    Calls Tryz.prog 115 #[ndV ⟨7, p, n, s⟩ a0 m0 cap0, .slice a ks.length cap] w fun e w' => e = .returned (.bool (turn ks [kType])) ∧ Below w.heap.size w w' := by
  have hB : ∀ o, Below w.heap.size w (w.alloc o) := fun o => belA (Below.refl _ _)
  have A1 := At.new w (Ndo ⟨7, p, n, s⟩ a0 m0 cap0)
  obtain ⟨c0, c1, c2, c3, c4, cf⟩ := A1.nd
  clear A1
  have hK1 := hK.below (hB (Ndo ⟨7, p, n, s⟩ a0 m0 cap0))
  go_enter Tryz.func115, Tryz.ntmps115
  go_wp2_with (go_at_call 135; refine (inTurn_1b ks a cap (w.alloc (Ndo ⟨7, p, n, s⟩ a0 m0 cap0)) _ (by simp) _ _ hK1 h3 .type _).mono ?_; rintro e w1 ⟨rfl, rfl⟩)
  go_ret
  exact ⟨rfl, belA (hB _)⟩
set_option maxRecDepth 100000 in
set_option maxHeartbeats 2000000 in
theorem cf_10 (p n : Int) (s : List UInt8) (a0 : Option Addr) (m0 cap0 : Nat) (ks : List Nat) (a : Option Addr) (cap : Nat) (w : World) (hK : KRow w a ks) (h3 : ks.length ≤ 20000) (h4 : ks.length ≤ cap) (h5 : cap ≤ 140737488355328) :
    Calls Tryz.prog 115 #[ndV ⟨10, p, n, s⟩ a0 m0 cap0, .slice a ks.length cap] w fun e w' => e = .returned (.bool (turn ks [kType])) ∧ Below w.heap.size w w' := by
  have hB : ∀ o, Below w.heap.size w (w.alloc o) := fun o => belA (Below.refl _ _)
  have A1 := At.new w (Ndo ⟨10, p, n, s⟩ a0 m0 cap0)
  obtain ⟨c0, c1, c2, c3, c4, cf⟩ := A1.nd
  clear A1
  have hK1 := hK.below (hB (Ndo ⟨10, p, n, s⟩ a0 m0 cap0))
  go_enter Tryz.func115, Tryz.ntmps115
  go_wp2_with (go_at_call 135; refine (inTurn_1b ks a cap (w.alloc (Ndo ⟨10, p, n, s⟩ a0 m0 cap0)) _ (by simp) _ _ hK1 h3 .type _).mono ?_; rintro e w1 ⟨rfl, rfl⟩)
  go_ret
  exact ⟨rfl, belA (hB _)⟩
set_option maxRecDepth 100000 in
set_option maxHeartbeats 2000000 in
theorem cf_11 (p n : Int) (s : List UInt8) (a0 : Option Addr) (m0 cap0 : Nat) (ks : List Nat) (a : Option Addr) (cap : Nat) (w : World) (hK : KRow w a ks) (h3 : ks.length ≤ 20000) (h4 : ks.length ≤ cap) (h5 : cap ≤ 140737488355328) :
    Calls Tryz.prog 115 #[ndV ⟨11, p, n, s⟩ a0 m0 cap0, .slice a ks.length cap] w fun e w' => e = .returned (.bool (turn ks [kType])) ∧ Below w.heap.size w w' := by
  have hB : ∀ o, Below w.heap.size w (w.alloc o) := fun o => belA (Below.refl _ _)
  have A1 := At.new w (Ndo ⟨11, p, n, s⟩ a0 m0 cap0)
  obtain ⟨c0, c1, c2, c3, c4, cf⟩ := A1.nd
  clear A1
  have hK1 := hK.below (hB (Ndo ⟨11, p, n, s⟩ a0 m0 cap0))
  go_enter Tryz.func115, Tryz.ntmps115
  go_wp2_with (go_at_call 135; refine (inTurn_1b ks a cap (w.alloc (Ndo ⟨11, p, n, s⟩ a0 m0 cap0)) _ (by simp) _ _ hK1 h3 .type _).mono ?_; rintro e w1 ⟨rfl, rfl⟩)
  go_ret
  exact ⟨rfl, belA (hB _)⟩
set_option maxRecDepth 100000 in
set_option maxHeartbeats 2000000 in
theorem cf_21 (p n : Int) (s : List UInt8) (a0 : Option Addr) (m0 cap0 : Nat) (ks : List Nat) (a : Option Addr) (cap : Nat) (w : World) (hK : KRow w a ks) (h3 : ks.length ≤ 20000) (h4 : ks.length ≤ cap) (h5 : cap ≤ 140737488355328) :
    Calls Tryz.prog 115 #[ndV ⟨21, p, n, s⟩ a0 m0 cap0, .slice a ks.length cap] w fun e w' => e = .returned (.bool (turn ks [kExpr])) ∧ Below w.heap.size w w' := by
  have hB : ∀ o, Below w.heap.size w (w.alloc o) := fun o => belA (Below.refl _ _)
  have A1 := At.new w (Ndo ⟨21, p, n, s⟩ a0 m0 cap0)
  obtain ⟨c0, c1, c2, c3, c4, cf⟩ := A1.nd
  clear A1
  have hK1 := hK.below (hB (Ndo ⟨21, p, n, s⟩ a0 m0 cap0))
  go_enter Tryz.func115, Tryz.ntmps115
  go_wp2_with (go_at_call 135; refine (inTurn_1b ks a cap (w.alloc (Ndo ⟨21, p, n, s⟩ a0 m0 cap0)) _ (by simp) _ _ hK1 h3 .expr _).mono ?_; rintro e w1 ⟨rfl, rfl⟩)
  go_ret
  exact ⟨rfl, belA (hB _)⟩
set_option maxRecDepth 100000 in
set_option maxHeartbeats 2000000 in
theorem cf_22 (p n : Int) (s : List UInt8) (a0 : Option Addr) (m0 cap0 : Nat) (ks : List Nat) (a : Option Addr) (cap : Nat) (w : World) (hK : KRow w a ks) (h3 : ks.length ≤ 20000) (h4 : ks.length ≤ cap) (h5 : cap ≤ 140737488355328) :
    Calls Tryz.prog 115 #[ndV ⟨22, p, n, s⟩ a0 m0 cap0, .slice a ks.length cap] w fun e w' => e = .returned (.bool (turn ks [kExpr])) ∧ Below w.heap.size w w' := by
  have hB : ∀ o, Below w.heap.size w (w.alloc o) := fun o => belA (Below.refl _ _)
  have A1 := At.new w (Ndo ⟨22, p, n, s⟩ a0 m0 cap0)
  obtain ⟨c0, c1, c2, c3, c4, cf⟩ := A1.nd
  clear A1
  have hK1 := hK.below (hB (Ndo ⟨22, p, n, s⟩ a0 m0 cap0))
  go_enter Tryz.func115, Tryz.ntmps115
  go_wp2_with (go_at_call 135; refine (inTurn_1b ks a cap (w.alloc (Ndo ⟨22, p, n, s⟩ a0 m0 cap0)) _ (by simp) _ _ hK1 h3 .expr _).mono ?_; rintro e w1 ⟨rfl, rfl⟩)
  go_ret
  exact ⟨rfl, belA (hB _)⟩
set_option maxRecDepth 100000 in
set_option maxHeartbeats 2000000 in
theorem cf_27 (p n : Int) (s : List UInt8) (a0 : Option Addr) (m0 cap0 : Nat) (ks : List Nat) (a : Option Addr) (cap : Nat) (w : World) (hK : KRow w a ks) (h3 : ks.length ≤ 20000) (h4 : ks.length ≤ cap) (h5 : cap ≤ 140737488355328) :
    Calls Tryz.prog 115 #[ndV ⟨27, p, n, s⟩ a0 m0 cap0, .slice a ks.length cap] w fun e w' => e = .returned (.bool (turn ks [kExpr])) ∧ Below w.heap.size w w' := by
  have hB : ∀ o, Below w.heap.size w (w.alloc o) := fun o => belA (Below.refl _ _)
  have A1 := At.new w (Ndo ⟨27, p, n, s⟩ a0 m0 cap0)
  obtain ⟨c0, c1, c2, c3, c4, cf⟩ := A1.nd
  clear A1
  have hK1 := hK.below (hB (Ndo ⟨27, p, n, s⟩ a0 m0 cap0))
  go_enter Tryz.func115, Tryz.ntmps115
  go_wp2_with (go_at_call 135; refine (inTurn_1b ks a cap (w.alloc (Ndo ⟨27, p, n, s⟩ a0 m0 cap0)) _ (by simp) _ _ hK1 h3 .expr _).mono ?_; rintro e w1 ⟨rfl, rfl⟩)
  go_ret
  exact ⟨rfl, belA (hB _)⟩
set_option maxRecDepth 100000 in
set_option maxHeartbeats 2000000 in
theorem cf_28 (p n : Int) (s : List UInt8) (a0 : Option Addr) (m0 cap0 : Nat) (ks : List Nat) (a : Option Addr) (cap : Nat) (w : World) (hK : KRow w a ks) (h3 : ks.length ≤ 20000) (h4 : ks.length ≤ cap) (h5 : cap ≤ 140737488355328) :
    Calls Tryz.prog 115 #[ndV ⟨28, p, n, s⟩ a0 m0 cap0, .slice a ks.length cap] w fun e w' => e = .returned (.bool (turn ks [kExpr])) ∧ Below w.heap.size w w' := by
  have hB : ∀ o, Below w.heap.size w (w.alloc o) := fun o => belA (Below.refl _ _)
  have A1 := At.new w (Ndo ⟨28, p, n, s⟩ a0 m0 cap0)
  obtain ⟨c0, c1, c2, c3, c4, cf⟩ := A1.nd
  clear A1
  have hK1 := hK.below (hB (Ndo ⟨28, p, n, s⟩ a0 m0 cap0))
  go_enter Tryz.func115, Tryz.ntmps115
  go_wp2_with (go_at_call 135; refine (inTurn_1b ks a cap (w.alloc (Ndo ⟨28, p, n, s⟩ a0 m0 cap0)) _ (by simp) _ _ hK1 h3 .expr _).mono ?_; rintro e w1 ⟨rfl, rfl⟩)
  go_ret
  exact ⟨rfl, belA (hB _)⟩
set_option maxRecDepth 100000 in
set_option maxHeartbeats 2000000 in
theorem cf_29 (p n : Int) (s : List UInt8) (a0 : Option Addr) (m0 cap0 : Nat) (ks : List Nat) (a : Option Addr) (cap : Nat) (w : World) (hK : KRow w a ks) (h3 : ks.length ≤ 20000) (h4 : ks.length ≤ cap) (h5 : cap ≤ 140737488355328) :
    Calls Tryz.prog 115 #[ndV ⟨29, p, n, s⟩ a0 m0 cap0, .slice a ks.length cap] w fun e w' => e = .returned (.bool (turn ks [kExpr])) ∧ Below w.heap.size w w' := by
  have hB : ∀ o, Below w.heap.size w (w.alloc o) := fun o => belA (Below.refl _ _)
  have A1 := At.new w (Ndo ⟨29, p, n, s⟩ a0 m0 cap0)
  obtain ⟨c0, c1, c2, c3, c4, cf⟩ := A1.nd
  clear A1
  have hK1 := hK.below (hB (Ndo ⟨29, p, n, s⟩ a0 m0 cap0))
  go_enter Tryz.func115, Tryz.ntmps115
  go_wp2_with (go_at_call 135; refine (inTurn_1b ks a cap (w.alloc (Ndo ⟨29, p, n, s⟩ a0 m0 cap0)) _ (by simp) _ _ hK1 h3 .expr _).mono ?_; rintro e w1 ⟨rfl, rfl⟩)
  go_ret
  exact ⟨rfl, belA (hB _)⟩
set_option maxRecDepth 100000 in
set_option maxHeartbeats 2000000 in
theorem cf_30 (p n : Int) (s : List UInt8) (a0 : Option Addr) (m0 cap0 : Nat) (ks : List Nat) (a : Option Addr) (cap : Nat) (w : World) (hK : KRow w a ks) (h3 : ks.length ≤ 20000) (h4 : ks.length ≤ cap) (h5 : cap ≤ 140737488355328) :
    Calls Tryz.prog 115 #[ndV ⟨30, p, n, s⟩ a0 m0 cap0, .slice a ks.length cap] w fun e w' => e = .returned (.bool (turn ks [kExpr])) ∧ Below w.heap.size w w' := by
  have hB : ∀ o, Below w.heap.size w (w.alloc o) := fun o => belA (Below.refl _ _)
  have A1 := At.new w (Ndo ⟨30, p, n, s⟩ a0 m0 cap0)
  obtain ⟨c0, c1, c2, c3, c4, cf⟩ := A1.nd
  clear A1
  have hK1 := hK.below (hB (Ndo ⟨30, p, n, s⟩ a0 m0 cap0))
  go_enter Tryz.func115, Tryz.ntmps115
  go_wp2_with (go_at_call 135; refine (inTurn_1b ks a cap (w.alloc (Ndo ⟨30, p, n, s⟩ a0 m0 cap0)) _ (by simp) _ _ hK1 h3 .expr _).mono ?_; rintro e w1 ⟨rfl, rfl⟩)
  go_ret
  exact ⟨rfl, belA (hB _)⟩
set_option maxRecDepth 100000 in
set_option maxHeartbeats 2000000 in
theorem cf_31 (p n : Int) (s : List UInt8) (a0 : Option Addr) (m0 cap0 : Nat) (ks : List Nat) (a : Option Addr) (cap : Nat) (w : World) (hK : KRow w a ks) (h3 : ks.length ≤ 20000) (h4 : ks.length ≤ cap) (h5 : cap ≤ 140737488355328) :
    Calls Tryz.prog 115 #[ndV ⟨31, p, n, s⟩ a0 m0 cap0, .slice a ks.length cap] w fun e w' => e = .returned (.bool (turn ks [kExpr])) ∧ Below w.heap.size w w' := by
  have hB : ∀ o, Below w.heap.size w (w.alloc o) := fun o => belA (Below.refl _ _)
  have A1 := At.new w (Ndo ⟨31, p, n, s⟩ a0 m0 cap0)
  obtain ⟨c0, c1, c2, c3, c4, cf⟩ := A1.nd
  clear A1
  have hK1 := hK.below (hB (Ndo ⟨31, p, n, s⟩ a0 m0 cap0))
  go_enter Tryz.func115, Tryz.ntmps115
  go_wp2_with (go_at_call 135; refine (inTurn_1b ks a cap (w.alloc (Ndo ⟨31, p, n, s⟩ a0 m0 cap0)) _ (by simp) _ _ hK1 h3 .expr _).mono ?_; rintro e w1 ⟨rfl, rfl⟩)
  go_ret
  exact ⟨rfl, belA (hB _)⟩
set_option maxRecDepth 100000 in
set_option maxHeartbeats 2000000 in
theorem cf_36 (p n : Int) (s : List UInt8) (a0 : Option Addr) (m0 cap0 : Nat) (ks : List Nat) (a : Option Addr) (cap : Nat) (w : World) (hK : KRow w a ks) (h3 : ks.length ≤ 20000) (h4 : ks.length ≤ cap) (h5 : cap ≤ 140737488355328) :
    Calls Tryz.prog 115 #[ndV ⟨36, p, n, s⟩ a0 m0 cap0, .slice a ks.length cap] w fun e w' => e = .returned (.bool (turn ks [kExpr])) ∧ Below w.heap.size w w' := by
  have hB : ∀ o, Below w.heap.size w (w.alloc o) := fun o => belA (Below.refl _ _)
  have A1 := At.new w (Ndo ⟨36, p, n, s⟩ a0 m0 cap0)
  obtain ⟨c0, c1, c2, c3, c4, cf⟩ := A1.nd
  clear A1
  have hK1 := hK.below (hB (Ndo ⟨36, p, n, s⟩ a0 m0 cap0))
  go_enter Tryz.func115, Tryz.ntmps115
  go_wp2_with (go_at_call 135; refine (inTurn_1b ks a cap (w.alloc (Ndo ⟨36, p, n, s⟩ a0 m0 cap0)) _ (by simp) _ _ hK1 h3 .expr _).mono ?_; rintro e w1 ⟨rfl, rfl⟩)
  go_ret
  exact ⟨rfl, belA (hB _)⟩
set_option maxRecDepth 100000 in
set_option maxHeartbeats 2000000 in
theorem cf_35 (p n : Int) (s : List UInt8) (a0 : Option Addr) (m0 cap0 : Nat) (ks : List Nat) (a : Option Addr) (cap : Nat) (w : World) (hK : KRow w a ks) (h3 : ks.length ≤ 20000) (h4 : ks.length ≤ cap) (h5 : cap ≤ 140737488355328) :
    Calls Tryz.prog 115 #[ndV ⟨35, p, n, s⟩ a0 m0 cap0, .slice a ks.length cap] w fun e w' => e = .returned (.bool (turn ks [kExpr])) ∧ Below w.heap.size w w' := by
  have hB : ∀ o, Below w.heap.size w (w.alloc o) := fun o => belA (Below.refl _ _)
  have A1 := At.new w (Ndo ⟨35, p, n, s⟩ a0 m0 cap0)
  obtain ⟨c0, c1, c2, c3, c4, cf⟩ := A1.nd
  clear A1
  have hK1 := hK.below (hB (Ndo ⟨35, p, n, s⟩ a0 m0 cap0))
  go_enter Tryz.func115, Tryz.ntmps115
  go_wp2_with (go_at_call 135; refine (inTurn_1b ks a cap (w.alloc (Ndo ⟨35, p, n, s⟩ a0 m0 cap0)) _ (by simp) _ _ hK1 h3 .expr _).mono ?_; rintro e w1 ⟨rfl, rfl⟩)
  go_ret
  exact ⟨rfl, belA (hB _)⟩
set_option maxRecDepth 100000 in
set_option maxHeartbeats 2000000 in
theorem cf_15 (p n : Int) (s : List UInt8) (a0 : Option Addr) (m0 cap0 : Nat) (ks : List Nat) (a : Option Addr) (cap : Nat) (w : World) (hK : KRow w a ks) (h3 : ks.length ≤ 20000) (h4 : ks.length ≤ cap) (h5 : cap ≤ 140737488355328) :
    Calls Tryz.prog 115 #[ndV ⟨15, p, n, s⟩ a0 m0 cap0, .slice a ks.length cap] w fun e w' => e = .returned (.bool (turn ks [kExpr, kExpr])) ∧ Below w.heap.size w w' := by
  have hB : ∀ o, Below w.heap.size w (w.alloc o) := fun o => belA (Below.refl _ _)
  have A1 := At.new w (Ndo ⟨15, p, n, s⟩ a0 m0 cap0)
  obtain ⟨c0, c1, c2, c3, c4, cf⟩ := A1.nd
  clear A1
  have hK1 := hK.below (hB (Ndo ⟨15, p, n, s⟩ a0 m0 cap0))
  go_enter Tryz.func115, Tryz.ntmps115
  go_wp2_with (go_at_call 135; refine (inTurn_2b ks a cap (w.alloc (Ndo ⟨15, p, n, s⟩ a0 m0 cap0)) _ (by simp) _ _ _ _ hK1 h3 .expr .expr _).mono ?_; rintro e w1 ⟨rfl, rfl⟩)
  go_ret
  exact ⟨rfl, belA (hB _)⟩
set_option maxRecDepth 100000 in
set_option maxHeartbeats 2000000 in
theorem cf_32 (p n : Int) (s : List UInt8) (a0 : Option Addr) (m0 cap0 : Nat) (ks : List Nat) (a : Option Addr) (cap : Nat) (w : World) (hK : KRow w a ks) (h3 : ks.length ≤ 20000) (h4 : ks.length ≤ cap) (h5 : cap ≤ 140737488355328) :
    Calls Tryz.prog 115 #[ndV ⟨32, p, n, s⟩ a0 m0 cap0, .slice a ks.length cap] w fun e w' => e = .returned (.bool (turn ks [kExpr, kExpr])) ∧ Below w.heap.size w w' := by
  have hB : ∀ o, Below w.heap.size w (w.alloc o) := fun o => belA (Below.refl _ _)
  have A1 := At.new w (Ndo ⟨32, p, n, s⟩ a0 m0 cap0)
  obtain ⟨c0, c1, c2, c3, c4, cf⟩ := A1.nd
  clear A1
  have hK1 := hK.below (hB (Ndo ⟨32, p, n, s⟩ a0 m0 cap0))
  go_enter Tryz.func115, Tryz.ntmps115
  go_wp2_with (go_at_call 135; refine (inTurn_2b ks a cap (w.alloc (Ndo ⟨32, p, n, s⟩ a0 m0 cap0)) _ (by simp) _ _ _ _ hK1 h3 .expr .expr _).mono ?_; rintro e w1 ⟨rfl, rfl⟩)
  go_ret
  exact ⟨rfl, belA (hB _)⟩
set_option maxRecDepth 100000 in
set_option maxHeartbeats 2000000 in
theorem cf_18 (p n : Int) (s : List UInt8) (a0 : Option Addr) (m0 cap0 : Nat) (ks : List Nat) (a : Option Addr) (cap : Nat) (w : World) (hK : KRow w a ks) (h3 : ks.length ≤ 20000) (h4 : ks.length ≤ cap) (h5 : cap ≤ 140737488355328) :
    Calls Tryz.prog 115 #[ndV ⟨18, p, n, s⟩ a0 m0 cap0, .slice a ks.length cap] w fun e w' => e = .returned (.bool (turn ks [kIs 13])) ∧ Below w.heap.size w w' := by
  have hB : ∀ o, Below w.heap.size w (w.alloc o) := fun o => belA (Below.refl _ _)
  have A1 := At.new w (Ndo ⟨18, p, n, s⟩ a0 m0 cap0)
  obtain ⟨c0, c1, c2, c3, c4, cf⟩ := A1.nd
  clear A1
  have hK1 := hK.below (hB (Ndo ⟨18, p, n, s⟩ a0 m0 cap0))
  go_enter Tryz.func115, Tryz.ntmps115
  go_wp2_with (first
    | (go_at_call 133; refine (is_any 13 _).mono ?_; rintro e w1 ⟨b1, rfl, hcl, hb1⟩)
    | (go_at_call 135; refine (inTurn_1 ks a cap w1 _ _ (hK1.below hb1) h3 hcl _).mono ?_; rintro e w2 ⟨rfl, hw2⟩; subst hw2))
  go_ret
  exact ⟨rfl, belA (below1 hb1)⟩
set_option maxRecDepth 100000 in
set_option maxHeartbeats 2000000 in
theorem cf_23 (p n : Int) (s : List UInt8) (a0 : Option Addr) (m0 cap0 : Nat) (ks : List Nat) (a : Option Addr) (cap : Nat) (w : World) (hK : KRow w a ks) (h3 : ks.length ≤ 20000) (h4 : ks.length ≤ cap) (h5 : cap ≤ 140737488355328) :
    Calls Tryz.prog 115 #[ndV ⟨23, p, n, s⟩ a0 m0 cap0, .slice a ks.length cap] w fun e w' => e = .returned (.bool (turn ks [kIs 33])) ∧ Below w.heap.size w w' := by
  have hB : ∀ o, Below w.heap.size w (w.alloc o) := fun o => belA (Below.refl _ _)
  have A1 := At.new w (Ndo ⟨23, p, n, s⟩ a0 m0 cap0)
  obtain ⟨c0, c1, c2, c3, c4, cf⟩ := A1.nd
  clear A1
  have hK1 := hK.below (hB (Ndo ⟨23, p, n, s⟩ a0 m0 cap0))
  go_enter Tryz.func115, Tryz.ntmps115
  go_wp2_with (first
    | (go_at_call 133; refine (is_any 33 _).mono ?_; rintro e w1 ⟨b1, rfl, hcl, hb1⟩)
    | (go_at_call 135; refine (inTurn_1 ks a cap w1 _ _ (hK1.below hb1) h3 hcl _).mono ?_; rintro e w2 ⟨rfl, hw2⟩; subst hw2))
  go_ret
  exact ⟨rfl, belA (below1 hb1)⟩
set_option maxRecDepth 100000 in
set_option maxHeartbeats 2000000 in
theorem cf_17 (p n : Int) (s : List UInt8) (a0 : Option Addr) (m0 cap0 : Nat) (ks : List Nat) (a : Option Addr) (cap : Nat) (w : World) (hK : KRow w a ks) (h3 : ks.length ≤ 20000) (h4 : ks.length ≤ cap) (h5 : cap ≤ 140737488355328) :
    Calls Tryz.prog 115 #[ndV ⟨17, p, n, s⟩ a0 m0 cap0, .slice a ks.length cap] w fun e w' => e = .returned (.bool (turn ks [kExpr, kIs 13])) ∧ Below w.heap.size w w' := by
  have hB : ∀ o, Below w.heap.size w (w.alloc o) := fun o => belA (Below.refl _ _)
  have A1 := At.new w (Ndo ⟨17, p, n, s⟩ a0 m0 cap0)
  obtain ⟨c0, c1, c2, c3, c4, cf⟩ := A1.nd
  clear A1
  have hK1 := hK.below (hB (Ndo ⟨17, p, n, s⟩ a0 m0 cap0))
  go_enter Tryz.func115, Tryz.ntmps115
  go_wp2_with (first
    | (go_at_call 133; refine (is_any 13 _).mono ?_; rintro e w1 ⟨b1, rfl, hcl, hb1⟩)
    | (go_at_call 135; refine (inTurn_2 ks a cap w1 _ _ _ _ (hK1.below hb1) h3 .expr hcl _).mono ?_; rintro e w2 ⟨rfl, hw2⟩; subst hw2))
  go_ret
  exact ⟨rfl, belA (below1 hb1)⟩
set_option maxRecDepth 100000 in
set_option maxHeartbeats 2000000 in
theorem cf_6 (p n : Int) (s : List UInt8) (a0 : Option Addr) (m0 cap0 : Nat) (ks : List Nat) (a : Option Addr) (cap : Nat) (w : World) (hK : KRow w a ks) (h3 : ks.length ≤ 20000) (h4 : ks.length ≤ cap) (h5 : cap ≤ 140737488355328) :
    Calls Tryz.prog 115 #[ndV ⟨6, p, n, s⟩ a0 m0 cap0, .slice a ks.length cap] w fun e w' => e = .returned (.bool (decide (ks.length = 0))) ∧ Below w.heap.size w w' := by
  have hB : ∀ o, Below w.heap.size w (w.alloc o) := fun o => belA (Below.refl _ _)
  have A1 := At.new w (Ndo ⟨6, p, n, s⟩ a0 m0 cap0)
  obtain ⟨c0, c1, c2, c3, c4, cf⟩ := A1.nd
  clear A1
  have hK1 := hK.below (hB (Ndo ⟨6, p, n, s⟩ a0 m0 cap0))
  go_enter Tryz.func115, Tryz.ntmps115
  go_wp2
  go_ret
  refine ⟨ret_bool ?_, hB _⟩
  by_cases h : ks = []
  · subst h; rfl
  · have h2 : ¬ ks.length = 0 := by simpa using h
    simp [h, h2]
set_option maxRecDepth 100000 in
set_option maxHeartbeats 2000000 in
theorem cf_8 (p n : Int) (s : List UInt8) (a0 : Option Addr) (m0 cap0 : Nat) (ks : List Nat) (a : Option Addr) (cap : Nat) (w : World) (hK : KRow w a ks) (h3 : ks.length ≤ 20000) (h4 : ks.length ≤ cap) (h5 : cap ≤ 140737488355328) :
    Calls Tryz.prog 115 #[ndV ⟨8, p, n, s⟩ a0 m0 cap0, .slice a ks.length cap] w fun e w' => e = .returned (.bool (decide (ks.length = 0))) ∧ Below w.heap.size w w' := by
  have hB : ∀ o, Below w.heap.size w (w.alloc o) := fun o => belA (Below.refl _ _)
  have A1 := At.new w (Ndo ⟨8, p, n, s⟩ a0 m0 cap0)
  obtain ⟨c0, c1, c2, c3, c4, cf⟩ := A1.nd
  clear A1
  have hK1 := hK.below (hB (Ndo ⟨8, p, n, s⟩ a0 m0 cap0))
  go_enter Tryz.func115, Tryz.ntmps115
  go_wp2
  go_ret
  refine ⟨ret_bool ?_, hB _⟩
  by_cases h : ks = []
  · subst h; rfl
  · have h2 : ¬ ks.length = 0 := by simpa using h
    simp [h, h2]
set_option maxRecDepth 100000 in
set_option maxHeartbeats 2000000 in
theorem cf_9 (p n : Int) (s : List UInt8) (a0 : Option Addr) (m0 cap0 : Nat) (ks : List Nat) (a : Option Addr) (cap : Nat) (w : World) (hK : KRow w a ks) (h3 : ks.length ≤ 20000) (h4 : ks.length ≤ cap) (h5 : cap ≤ 140737488355328) :
    Calls Tryz.prog 115 #[ndV ⟨9, p, n, s⟩ a0 m0 cap0, .slice a ks.length cap] w fun e w' => e = .returned (.bool (decide (ks.length = 0))) ∧ Below w.heap.size w w' := by
  have hB : ∀ o, Below w.heap.size w (w.alloc o) := fun o => belA (Below.refl _ _)
  have A1 := At.new w (Ndo ⟨9, p, n, s⟩ a0 m0 cap0)
  obtain ⟨c0, c1, c2, c3, c4, cf⟩ := A1.nd
  clear A1
  have hK1 := hK.below (hB (Ndo ⟨9, p, n, s⟩ a0 m0 cap0))
  go_enter Tryz.func115, Tryz.ntmps115
  go_wp2
  go_ret
  refine ⟨ret_bool ?_, hB _⟩
  by_cases h : ks = []
  · subst h; rfl
  · have h2 : ¬ ks.length = 0 := by simpa using h
    simp [h, h2]
set_option maxRecDepth 100000 in
set_option maxHeartbeats 2000000 in
theorem cf_12 (p n : Int) (s : List UInt8) (a0 : Option Addr) (m0 cap0 : Nat) (ks : List Nat) (a : Option Addr) (cap : Nat) (w : World) (hK : KRow w a ks) (h3 : ks.length ≤ 20000) (h4 : ks.length ≤ cap) (h5 : cap ≤ 140737488355328) :
    Calls Tryz.prog 115 #[ndV ⟨12, p, n, s⟩ a0 m0 cap0, .slice a ks.length cap] w fun e w' => e = .returned (.bool (decide (ks.length = 0))) ∧ Below w.heap.size w w' := by
  have hB : ∀ o, Below w.heap.size w (w.alloc o) := fun o => belA (Below.refl _ _)
  have A1 := At.new w (Ndo ⟨12, p, n, s⟩ a0 m0 cap0)
  obtain ⟨c0, c1, c2, c3, c4, cf⟩ := A1.nd
  clear A1
  have hK1 := hK.below (hB (Ndo ⟨12, p, n, s⟩ a0 m0 cap0))
  go_enter Tryz.func115, Tryz.ntmps115
  go_wp2
  go_ret
  refine ⟨ret_bool ?_, hB _⟩
  by_cases h : ks = []
  · subst h; rfl
  · have h2 : ¬ ks.length = 0 := by simpa using h
    simp [h, h2]
set_option maxRecDepth 100000 in
set_option maxHeartbeats 2000000 in
theorem cf_19 (p n : Int) (s : List UInt8) (a0 : Option Addr) (m0 cap0 : Nat) (ks : List Nat) (a : Option Addr) (cap : Nat) (w : World) (hK : KRow w a ks) (h3 : ks.length ≤ 20000) (h4 : ks.length ≤ cap) (h5 : cap ≤ 140737488355328) :
    Calls Tryz.prog 115 #[ndV ⟨19, p, n, s⟩ a0 m0 cap0, .slice a ks.length cap] w fun e w' => e = .returned (.bool (decide (ks.length = 0))) ∧ Below w.heap.size w w' := by
  have hB : ∀ o, Below w.heap.size w (w.alloc o) := fun o => belA (Below.refl _ _)
  have A1 := At.new w (Ndo ⟨19, p, n, s⟩ a0 m0 cap0)
  obtain ⟨c0, c1, c2, c3, c4, cf⟩ := A1.nd
  clear A1
  have hK1 := hK.below (hB (Ndo ⟨19, p, n, s⟩ a0 m0 cap0))
  go_enter Tryz.func115, Tryz.ntmps115
  go_wp2
  go_ret
  refine ⟨ret_bool ?_, hB _⟩
  by_cases h : ks = []
  · subst h; rfl
  · have h2 : ¬ ks.length = 0 := by simpa using h
    simp [h, h2]
set_option maxRecDepth 100000 in
set_option maxHeartbeats 2000000 in
theorem cf_20 (p n : Int) (s : List UInt8) (a0 : Option Addr) (m0 cap0 : Nat) (ks : List Nat) (a : Option Addr) (cap : Nat) (w : World) (hK : KRow w a ks) (h3 : ks.length ≤ 20000) (h4 : ks.length ≤ cap) (h5 : cap ≤ 140737488355328) :
    Calls Tryz.prog 115 #[ndV ⟨20, p, n, s⟩ a0 m0 cap0, .slice a ks.length cap] w fun e w' => e = .returned (.bool (decide (ks.length = 0))) ∧ Below w.heap.size w w' := by
  have hB : ∀ o, Below w.heap.size w (w.alloc o) := fun o => belA (Below.refl _ _)
  have A1 := At.new w (Ndo ⟨20, p, n, s⟩ a0 m0 cap0)
  obtain ⟨c0, c1, c2, c3, c4, cf⟩ := A1.nd
  clear A1
  have hK1 := hK.below (hB (Ndo ⟨20, p, n, s⟩ a0 m0 cap0))
  go_enter Tryz.func115, Tryz.ntmps115
  go_wp2
  go_ret
  refine ⟨ret_bool ?_, hB _⟩
  by_cases h : ks = []
  · subst h; rfl
  · have h2 : ¬ ks.length = 0 := by simpa using h
    simp [h, h2]
set_option maxRecDepth 100000 in
set_option maxHeartbeats 2000000 in
theorem cf_24 (p n : Int) (s : List UInt8) (a0 : Option Addr) (m0 cap0 : Nat) (ks : List Nat) (a : Option Addr) (cap : Nat) (w : World) (hK : KRow w a ks) (h3 : ks.length ≤ 20000) (h4 : ks.length ≤ cap) (h5 : cap ≤ 140737488355328) :
    Calls Tryz.prog 115 #[ndV ⟨24, p, n, s⟩ a0 m0 cap0, .slice a ks.length cap] w fun e w' => e = .returned (.bool (decide (ks.length = 0))) ∧ Below w.heap.size w w' := by
  have hB : ∀ o, Below w.heap.size w (w.alloc o) := fun o => belA (Below.refl _ _)
  have A1 := At.new w (Ndo ⟨24, p, n, s⟩ a0 m0 cap0)
  obtain ⟨c0, c1, c2, c3, c4, cf⟩ := A1.nd
  clear A1
  have hK1 := hK.below (hB (Ndo ⟨24, p, n, s⟩ a0 m0 cap0))
  go_enter Tryz.func115, Tryz.ntmps115
  go_wp2
  go_ret
  refine ⟨ret_bool ?_, hB _⟩
  by_cases h : ks = []
  · subst h; rfl
  · have h2 : ¬ ks.length = 0 := by simpa using h
    simp [h, h2]
set_option maxRecDepth 100000 in
set_option maxHeartbeats 2000000 in
theorem cf_25 (p n : Int) (s : List UInt8) (a0 : Option Addr) (m0 cap0 : Nat) (ks : List Nat) (a : Option Addr) (cap : Nat) (w : World) (hK : KRow w a ks) (h3 : ks.length ≤ 20000) (h4 : ks.length ≤ cap) (h5 : cap ≤ 140737488355328) :
    Calls Tryz.prog 115 #[ndV ⟨25, p, n, s⟩ a0 m0 cap0, .slice a ks.length cap] w fun e w' => e = .returned (.bool (decide (ks.length = 0))) ∧ Below w.heap.size w w' := by
  have hB : ∀ o, Below w.heap.size w (w.alloc o) := fun o => belA (Below.refl _ _)
  have A1 := At.new w (Ndo ⟨25, p, n, s⟩ a0 m0 cap0)
  obtain ⟨c0, c1, c2, c3, c4, cf⟩ := A1.nd
  clear A1
  have hK1 := hK.below (hB (Ndo ⟨25, p, n, s⟩ a0 m0 cap0))
  go_enter Tryz.func115, Tryz.ntmps115
  go_wp2
  go_ret
  refine ⟨ret_bool ?_, hB _⟩
  by_cases h : ks = []
  · subst h; rfl
  · have h2 : ¬ ks.length = 0 := by simpa using h
    simp [h, h2]
set_option maxRecDepth 100000 in
set_option maxHeartbeats 2000000 in
theorem cf_26 (p n : Int) (s : List UInt8) (a0 : Option Addr) (m0 cap0 : Nat) (ks : List Nat) (a : Option Addr) (cap : Nat) (w : World) (hK : KRow w a ks) (h3 : ks.length ≤ 20000) (h4 : ks.length ≤ cap) (h5 : cap ≤ 140737488355328) :
    Calls Tryz.prog 115 #[ndV ⟨26, p, n, s⟩ a0 m0 cap0, .slice a ks.length cap] w fun e w' => e = .returned (.bool (decide (ks.length = 0))) ∧ Below w.heap.size w w' := by
  have hB : ∀ o, Below w.heap.size w (w.alloc o) := fun o => belA (Below.refl _ _)
  have A1 := At.new w (Ndo ⟨26, p, n, s⟩ a0 m0 cap0)
  obtain ⟨c0, c1, c2, c3, c4, cf⟩ := A1.nd
  clear A1
  have hK1 := hK.below (hB (Ndo ⟨26, p, n, s⟩ a0 m0 cap0))
  go_enter Tryz.func115, Tryz.ntmps115
  go_wp2
  go_ret
  refine ⟨ret_bool ?_, hB _⟩
  by_cases h : ks = []
  · subst h; rfl
  · have h2 : ¬ ks.length = 0 := by simpa using h
    simp [h, h2]
set_option maxRecDepth 100000 in
set_option maxHeartbeats 2000000 in
theorem cf_37 (p n : Int) (s : List UInt8) (a0 : Option Addr) (m0 cap0 : Nat) (ks : List Nat) (a : Option Addr) (cap : Nat) (w : World) (hK : KRow w a ks) (h3 : ks.length ≤ 20000) (h4 : ks.length ≤ cap) (h5 : cap ≤ 140737488355328) :
    Calls Tryz.prog 115 #[ndV ⟨37, p, n, s⟩ a0 m0 cap0, .slice a ks.length cap] w fun e w' => e = .returned (.bool (decide (ks.length = 0))) ∧ Below w.heap.size w w' := by
  have hB : ∀ o, Below w.heap.size w (w.alloc o) := fun o => belA (Below.refl _ _)
  have A1 := At.new w (Ndo ⟨37, p, n, s⟩ a0 m0 cap0)
  obtain ⟨c0, c1, c2, c3, c4, cf⟩ := A1.nd
  clear A1
  have hK1 := hK.below (hB (Ndo ⟨37, p, n, s⟩ a0 m0 cap0))
  go_enter Tryz.func115, Tryz.ntmps115
  go_wp2
  go_ret
  refine ⟨ret_bool ?_, hB _⟩
  by_cases h : ks = []
  · subst h; rfl
  · have h2 : ¬ ks.length = 0 := by simpa using h
    simp [h, h2]
set_option maxRecDepth 100000 in
set_option maxHeartbeats 2000000 in
theorem cf_0 (p n : Int) (s : List UInt8) (a0 : Option Addr) (m0 cap0 : Nat) (ks : List Nat) (a : Option Addr) (cap : Nat) (w : World) (hK : KRow w a ks) (h3 : ks.length ≤ 20000) (h4 : ks.length ≤ cap) (h5 : cap ≤ 140737488355328) :
    Calls Tryz.prog 115 #[ndV ⟨0, p, n, s⟩ a0 m0 cap0, .slice a ks.length cap] w fun e w' => e = .returned (.bool (false)) ∧ Below w.heap.size w w' := by
  have hB : ∀ o, Below w.heap.size w (w.alloc o) := fun o => belA (Below.refl _ _)
  have A1 := At.new w (Ndo ⟨0, p, n, s⟩ a0 m0 cap0)
  obtain ⟨c0, c1, c2, c3, c4, cf⟩ := A1.nd
  clear A1
  have hK1 := hK.below (hB (Ndo ⟨0, p, n, s⟩ a0 m0 cap0))
  go_enter Tryz.func115, Tryz.ntmps115
  go_wp2
  go_ret
  exact ⟨rfl, hB _⟩
set_option maxRecDepth 100000 in
set_option maxHeartbeats 2000000 in
theorem cf_far (k : Nat) (hk : 38 ≤ k) (p n : Int) (s : List UInt8) (a0 : Option Addr) (m0 cap0 : Nat) (ks : List Nat) (a : Option Addr) (cap : Nat) (w : World) :
    Calls Tryz.prog 115 #[ndV ⟨k, p, n, s⟩ a0 m0 cap0, .slice a ks.length cap] w fun e w' => e = .returned (.bool false) ∧ Below w.heap.size w w' := by
  have hB : ∀ o, Below w.heap.size w (w.alloc o) := fun o => belA (Below.refl _ _)
  have A1 := At.new w (Ndo ⟨k, p, n, s⟩ a0 m0 cap0)
  obtain ⟨c0, c1, c2, c3, c4, cf⟩ := A1.nd
  clear A1
  have g0 : ((k : Int) == 0) = false := by simpa using (by omega : ¬ (k : Int) = 0)
  have q0 : (k == 0) = false := by simpa using (by omega : ¬ k = 0)
  have g1 : ((k : Int) == 1) = false := by simpa using (by omega : ¬ (k : Int) = 1)
  have q1 : (k == 1) = false := by simpa using (by omega : ¬ k = 1)
  have g2 : ((k : Int) == 2) = false := by simpa using (by omega : ¬ (k : Int) = 2)
  have q2 : (k == 2) = false := by simpa using (by omega : ¬ k = 2)
  have g3 : ((k : Int) == 3) = false := by simpa using (by omega : ¬ (k : Int) = 3)
  have q3 : (k == 3) = false := by simpa using (by omega : ¬ k = 3)
  have g4 : ((k : Int) == 4) = false := by simpa using (by omega : ¬ (k : Int) = 4)
  have q4 : (k == 4) = false := by simpa using (by omega : ¬ k = 4)
  have g5 : ((k : Int) == 5) = false := by simpa using (by omega : ¬ (k : Int) = 5)
  have q5 : (k == 5) = false := by simpa using (by omega : ¬ k = 5)
  have g6 : ((k : Int) == 6) = false := by simpa using (by omega : ¬ (k : Int) = 6)
  have q6 : (k == 6) = false := by simpa using (by omega : ¬ k = 6)
  have g7 : ((k : Int) == 7) = false := by simpa using (by omega : ¬ (k : Int) = 7)
  have q7 : (k == 7) = false := by simpa using (by omega : ¬ k = 7)
  have g8 : ((k : Int) == 8) = false := by simpa using (by omega : ¬ (k : Int) = 8)
  have q8 : (k == 8) = false := by simpa using (by omega : ¬ k = 8)
  have g9 : ((k : Int) == 9) = false := by simpa using (by omega : ¬ (k : Int) = 9)
  have q9 : (k == 9) = false := by simpa using (by omega : ¬ k = 9)
  have g10 : ((k : Int) == 10) = false := by simpa using (by omega : ¬ (k : Int) = 10)
  have q10 : (k == 10) = false := by simpa using (by omega : ¬ k = 10)
  have g11 : ((k : Int) == 11) = false := by simpa using (by omega : ¬ (k : Int) = 11)
  have q11 : (k == 11) = false := by simpa using (by omega : ¬ k = 11)
  have g12 : ((k : Int) == 12) = false := by simpa using (by omega : ¬ (k : Int) = 12)
  have q12 : (k == 12) = false := by simpa using (by omega : ¬ k = 12)
  have g13 : ((k : Int) == 13) = false := by simpa using (by omega : ¬ (k : Int) = 13)
  have q13 : (k == 13) = false := by simpa using (by omega : ¬ k = 13)
  have g14 : ((k : Int) == 14) = false := by simpa using (by omega : ¬ (k : Int) = 14)
  have q14 : (k == 14) = false := by simpa using (by omega : ¬ k = 14)
  have g15 : ((k : Int) == 15) = false := by simpa using (by omega : ¬ (k : Int) = 15)
  have q15 : (k == 15) = false := by simpa using (by omega : ¬ k = 15)
  have g16 : ((k : Int) == 16) = false := by simpa using (by omega : ¬ (k : Int) = 16)
  have q16 : (k == 16) = false := by simpa using (by omega : ¬ k = 16)
  have g17 : ((k : Int) == 17) = false := by simpa using (by omega : ¬ (k : Int) = 17)
  have q17 : (k == 17) = false := by simpa using (by omega : ¬ k = 17)
  have g18 : ((k : Int) == 18) = false := by simpa using (by omega : ¬ (k : Int) = 18)
  have q18 : (k == 18) = false := by simpa using (by omega : ¬ k = 18)
  have g19 : ((k : Int) == 19) = false := by simpa using (by omega : ¬ (k : Int) = 19)
  have q19 : (k == 19) = false := by simpa using (by omega : ¬ k = 19)
  have g20 : ((k : Int) == 20) = false := by simpa using (by omega : ¬ (k : Int) = 20)
  have q20 : (k == 20) = false := by simpa using (by omega : ¬ k = 20)
  have g21 : ((k : Int) == 21) = false := by simpa using (by omega : ¬ (k : Int) = 21)
  have q21 : (k == 21) = false := by simpa using (by omega : ¬ k = 21)
  have g22 : ((k : Int) == 22) = false := by simpa using (by omega : ¬ (k : Int) = 22)
  have q22 : (k == 22) = false := by simpa using (by omega : ¬ k = 22)
  have g23 : ((k : Int) == 23) = false := by simpa using (by omega : ¬ (k : Int) = 23)
  have q23 : (k == 23) = false := by simpa using (by omega : ¬ k = 23)
  have g24 : ((k : Int) == 24) = false := by simpa using (by omega : ¬ (k : Int) = 24)
  have q24 : (k == 24) = false := by simpa using (by omega : ¬ k = 24)
  have g25 : ((k : Int) == 25) = false := by simpa using (by omega : ¬ (k : Int) = 25)
  have q25 : (k == 25) = false := by simpa using (by omega : ¬ k = 25)
  have g26 : ((k : Int) == 26) = false := by simpa using (by omega : ¬ (k : Int) = 26)
  have q26 : (k == 26) = false := by simpa using (by omega : ¬ k = 26)
  have g27 : ((k : Int) == 27) = false := by simpa using (by omega : ¬ (k : Int) = 27)
  have q27 : (k == 27) = false := by simpa using (by omega : ¬ k = 27)
  have g28 : ((k : Int) == 28) = false := by simpa using (by omega : ¬ (k : Int) = 28)
  have q28 : (k == 28) = false := by simpa using (by omega : ¬ k = 28)
  have g29 : ((k : Int) == 29) = false := by simpa using (by omega : ¬ (k : Int) = 29)
  have q29 : (k == 29) = false := by simpa using (by omega : ¬ k = 29)
  have g30 : ((k : Int) == 30) = false := by simpa using (by omega : ¬ (k : Int) = 30)
  have q30 : (k == 30) = false := by simpa using (by omega : ¬ k = 30)
  have g31 : ((k : Int) == 31) = false := by simpa using (by omega : ¬ (k : Int) = 31)
  have q31 : (k == 31) = false := by simpa using (by omega : ¬ k = 31)
  have g32 : ((k : Int) == 32) = false := by simpa using (by omega : ¬ (k : Int) = 32)
  have q32 : (k == 32) = false := by simpa using (by omega : ¬ k = 32)
  have g33 : ((k : Int) == 33) = false := by simpa using (by omega : ¬ (k : Int) = 33)
  have q33 : (k == 33) = false := by simpa using (by omega : ¬ k = 33)
  have g34 : ((k : Int) == 34) = false := by simpa using (by omega : ¬ (k : Int) = 34)
  have q34 : (k == 34) = false := by simpa using (by omega : ¬ k = 34)
  have g35 : ((k : Int) == 35) = false := by simpa using (by omega : ¬ (k : Int) = 35)
  have q35 : (k == 35) = false := by simpa using (by omega : ¬ k = 35)
  have g36 : ((k : Int) == 36) = false := by simpa using (by omega : ¬ (k : Int) = 36)
  have q36 : (k == 36) = false := by simpa using (by omega : ¬ k = 36)
  have g37 : ((k : Int) == 37) = false := by simpa using (by omega : ¬ (k : Int) = 37)
  have q37 : (k == 37) = false := by simpa using (by omega : ¬ k = 37)
  clear hk
  go_enter Tryz.func115, Tryz.ntmps115
  go_wp2
  go_ret
  exact ⟨rfl, hB _⟩
theorem cf_other {k : Nat} (hk : 38 ≤ k) (n : Int) (ks : List Nat) : cfB k n ks = false := by
  unfold cfB
  rw [if_neg (by omega), if_neg (by omega), if_neg (by omega), if_neg (by omega), if_neg (by omega), if_neg (by omega), if_neg (by omega), if_neg (by omega), if_neg (by omega), if_neg (by omega), if_neg (by omega), if_neg (by omega), if_neg (by omega), if_neg (by omega), if_neg (by omega), if_neg (by omega)]
theorem childrenFit_any (x : Nx) (a0 : Option Addr) (m0 cap0 : Nat) (ks : List Nat) (a : Option Addr) (cap : Nat) (w : World) (hK : KRow w a ks) (h3 : ks.length ≤ 20000) (h4 : ks.length ≤ cap) (h5 : cap ≤ 140737488355328) (hn : nuB x.k x.n = true) :
    Calls Tryz.prog 115 #[ndV x a0 m0 cap0, .slice a ks.length cap] w fun e w' => e = .returned (.bool (cfB x.k x.n ks)) ∧ Below w.heap.size w w' := by
  obtain ⟨k, p, n, s⟩ := x
  show Calls Tryz.prog 115 _ _ fun e w' => e = .returned (.bool (cfB k n ks)) ∧ _
  replace hn : nuB k n = true := hn
  rcases kind_cases k with rfl | rfl | rfl | rfl | rfl | rfl | rfl | rfl | rfl | rfl | rfl | rfl | rfl | rfl | rfl | rfl | rfl | rfl | rfl | rfl | rfl | rfl | rfl | rfl | rfl | rfl | rfl | rfl | rfl | rfl | rfl | rfl | rfl | rfl | rfl | rfl | rfl | rfl | hk
  · exact cf_0 p n s a0 m0 cap0 ks a cap w hK h3 h4 h5
  · exact cf_1 p n s a0 m0 cap0 ks a cap w hK h3 h4 h5
  · exact cf_2 p n s a0 m0 cap0 ks a cap w hK h3 h4 h5
  · exact cf_3 p n s a0 m0 cap0 ks a cap w hK h3 h4 h5
  · have h : 0 ≤ n ∧ n ≤ 8 := by simpa [nuB] using hn
    exact cf_4 p n s a0 m0 cap0 ks a cap w hK h3 h4 h5 h.1 h.2
  · exact cf_5 p n s a0 m0 cap0 ks a cap w hK h3 h4 h5
  · exact cf_6 p n s a0 m0 cap0 ks a cap w hK h3 h4 h5
  · exact cf_7 p n s a0 m0 cap0 ks a cap w hK h3 h4 h5
  · exact cf_8 p n s a0 m0 cap0 ks a cap w hK h3 h4 h5
  · exact cf_9 p n s a0 m0 cap0 ks a cap w hK h3 h4 h5
  · exact cf_10 p n s a0 m0 cap0 ks a cap w hK h3 h4 h5
  · exact cf_11 p n s a0 m0 cap0 ks a cap w hK h3 h4 h5
  · exact cf_12 p n s a0 m0 cap0 ks a cap w hK h3 h4 h5
  · exact cf_13 p n s a0 m0 cap0 ks a cap w hK h3 h4 h5
  · exact cf_14 p n s a0 m0 cap0 ks a cap w hK h3 h4 h5
  · exact cf_15 p n s a0 m0 cap0 ks a cap w hK h3 h4 h5
  · exact cf_16 p n s a0 m0 cap0 ks a cap w hK h3 h4 h5
  · exact cf_17 p n s a0 m0 cap0 ks a cap w hK h3 h4 h5
  · exact cf_18 p n s a0 m0 cap0 ks a cap w hK h3 h4 h5
  · exact cf_19 p n s a0 m0 cap0 ks a cap w hK h3 h4 h5
  · exact cf_20 p n s a0 m0 cap0 ks a cap w hK h3 h4 h5
  · exact cf_21 p n s a0 m0 cap0 ks a cap w hK h3 h4 h5
  · exact cf_22 p n s a0 m0 cap0 ks a cap w hK h3 h4 h5
  · exact cf_23 p n s a0 m0 cap0 ks a cap w hK h3 h4 h5
  · exact cf_24 p n s a0 m0 cap0 ks a cap w hK h3 h4 h5
  · exact cf_25 p n s a0 m0 cap0 ks a cap w hK h3 h4 h5
  · exact cf_26 p n s a0 m0 cap0 ks a cap w hK h3 h4 h5
  · exact cf_27 p n s a0 m0 cap0 ks a cap w hK h3 h4 h5
  · exact cf_28 p n s a0 m0 cap0 ks a cap w hK h3 h4 h5
  · exact cf_29 p n s a0 m0 cap0 ks a cap w hK h3 h4 h5
  · exact cf_30 p n s a0 m0 cap0 ks a cap w hK h3 h4 h5
  · exact cf_31 p n s a0 m0 cap0 ks a cap w hK h3 h4 h5
  · exact cf_32 p n s a0 m0 cap0 ks a cap w hK h3 h4 h5
  · exact cf_33 p n s a0 m0 cap0 ks a cap w hK h3 h4 h5
  · exact cf_34 p n s a0 m0 cap0 ks a cap w hK h3 h4 h5
  · exact cf_35 p n s a0 m0 cap0 ks a cap w hK h3 h4 h5
  · exact cf_36 p n s a0 m0 cap0 ks a cap w hK h3 h4 h5
  · exact cf_37 p n s a0 m0 cap0 ks a cap w hK h3 h4 h5
  · rw [cf_other hk]
    exact cf_far k hk p n s a0 m0 cap0 ks a cap w
end Go.Proofs.YtahdnfogdnondaaGreatDoor
