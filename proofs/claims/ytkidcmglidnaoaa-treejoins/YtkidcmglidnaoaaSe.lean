import Derived.Test.YtkidcmglidnaoaaSd
namespace Go.Proofs.Ytkidcmglidnaoaa
open Go.RowKit
set_option linter.unusedVariables false
set_option linter.unusedSimpArgs false

theorem js_one {W : World} {c : Int} {P : Nat → Bool} {t : Nat} (hu : Cs c P) : ∀ i R, [P][i]? = some R → ∃ d : Int, (W.alloc (.cells #[.int .i64 c] t)).cell? ⟨W.heap.size, i, none⟩ = some (.int .i64 d) ∧ Cs d R := by
  intro i R h
  have hN := heap_alloc_new W (.cells #[Value.int .i64 c] t)
  match i, h with
  | 0, h => simp at h; subst h; exact ⟨c, cells_one hN, hu⟩
  | i + 1, h => simp at h
theorem js_two {W : World} {c d : Int} {P Q : Nat → Bool} {t : Nat} (hu : Cs c P) (hv : Cs d Q) : ∀ i R, [P, Q][i]? = some R → ∃ e : Int, (W.alloc (.cells #[.int .i64 c, .int .i64 d] t)).cell? ⟨W.heap.size, i, none⟩ = some (.int .i64 e) ∧ Cs e R := by
  intro i R h
  have hN := heap_alloc_new W (.cells #[Value.int .i64 c, .int .i64 d] t)
  match i, h with
  | 0, h => simp at h; subst h; exact ⟨c, (cells_two hN).1, hu⟩
  | 1, h => simp at h; subst h; exact ⟨d, (cells_two hN).2, hv⟩
  | i + 2, h => simp at h
theorem js_three {W : World} {c d f : Int} {P Q S : Nat → Bool} {t : Nat} (hu : Cs c P) (hv : Cs d Q) (hx : Cs f S) : ∀ i R, [P, Q, S][i]? = some R → ∃ e : Int, (W.alloc (.cells #[.int .i64 c, .int .i64 d, .int .i64 f] t)).cell? ⟨W.heap.size, i, none⟩ = some (.int .i64 e) ∧ Cs e R := by
  intro i R h
  have hN := heap_alloc_new W (.cells #[Value.int .i64 c, .int .i64 d, .int .i64 f] t)
  match i, h with
  | 0, h => simp at h; subst h; exact ⟨c, (cells_three hN).1, hu⟩
  | 1, h => simp at h; subst h; exact ⟨d, (cells_three hN).2.1, hv⟩
  | 2, h => simp at h; subst h; exact ⟨f, (cells_three hN).2.2, hx⟩
  | i + 3, h => simp at h
theorem just_1 (ks : List Nat) (a : Option Addr) (cap : Nat) (W : World) (b : Nat) (hb : b = W.heap.size) (c : Int) (P : Nat → Bool) (hK : KRow W a ks) (hn : ks.length ≤ 20000) (hk : ∀ i d : Nat, ks[i]? = some d → d ≤ 255) (hu : Cs c P) (t : Nat) :
    Calls Try.prog 77 #[.slice a ks.length cap, .slice (some ⟨b, 0, none⟩) 1 1] (W.alloc (.cells #[.int .i64 c] t)) fun e w' => e = .returned (.bool (turn ks [P])) ∧ w' = W.alloc (.cells #[.int .i64 c] t) := by
  subst hb
  exact just_any ks a cap W.heap.size [P] _ (hK.below (belA (Below.refl _ _))) hn hk (by simp) (by simp) (js_one hu)
theorem just_2 (ks : List Nat) (a : Option Addr) (cap : Nat) (W : World) (b : Nat) (hb : b = W.heap.size) (c d : Int) (P Q : Nat → Bool) (hK : KRow W a ks) (hn : ks.length ≤ 20000) (hk : ∀ i d : Nat, ks[i]? = some d → d ≤ 255) (hu : Cs c P) (hv : Cs d Q) (t : Nat) :
    Calls Try.prog 77 #[.slice a ks.length cap, .slice (some ⟨b, 0, none⟩) 2 2] (W.alloc (.cells #[.int .i64 c, .int .i64 d] t)) fun e w' => e = .returned (.bool (turn ks [P, Q])) ∧ w' = W.alloc (.cells #[.int .i64 c, .int .i64 d] t) := by
  subst hb
  exact just_any ks a cap W.heap.size [P, Q] _ (hK.below (belA (Below.refl _ _))) hn hk (by simp) (by simp) (js_two hu hv)
theorem just_3 (ks : List Nat) (a : Option Addr) (cap : Nat) (W : World) (b : Nat) (hb : b = W.heap.size) (c d f : Int) (P Q S : Nat → Bool) (hK : KRow W a ks) (hn : ks.length ≤ 20000) (hk : ∀ i d : Nat, ks[i]? = some d → d ≤ 255) (hu : Cs c P) (hv : Cs d Q) (hx : Cs f S) (t : Nat) :
    Calls Try.prog 77 #[.slice a ks.length cap, .slice (some ⟨b, 0, none⟩) 3 3] (W.alloc (.cells #[.int .i64 c, .int .i64 d, .int .i64 f] t)) fun e w' => e = .returned (.bool (turn ks [P, Q, S])) ∧ w' = W.alloc (.cells #[.int .i64 c, .int .i64 d, .int .i64 f] t) := by
  subst hb
  exact just_any ks a cap W.heap.size [P, Q, S] _ (hK.below (belA (Below.refl _ _))) hn hk (by simp) (by simp) (js_three hu hv hx)
theorem all_whole (ks : List Nat) (a : Option Addr) (cap : Nat) (c : Int) (P : Nat → Bool) (w : World) (hK : KRow w a ks) (hn : ks.length ≤ 20000) (hk : ∀ i d : Nat, ks[i]? = some d → d ≤ 255) (hcl : Cs c P) :
    Calls Try.prog 75 #[.slice a ks.length cap, .int .i64 0, .int .i64 (ks.length : Int), .int .i64 c] w fun e w' => e = .returned (.bool (ks.all P)) ∧ w' = w := by
  have K := all_any ks a cap 0 ks.length c P w hK hn hk (by omega) (by omega) hcl
  rw [cut_all, show ((0 : Nat) : Int) = 0 from rfl] at K
  exact K
theorem cs103 : Cs 103 (kIs 3) := Cs.is 3 (by omega)
theorem cs106 : Cs 106 (kIs 6) := Cs.is 6 (by omega)
theorem cs113 : Cs 113 (kIs 13) := Cs.is 13 (by omega)
theorem cs116 : Cs 116 (kIs 16) := Cs.is 16 (by omega)
theorem cs133 : Cs 133 (kIs 33) := Cs.is 33 (by omega)
theorem cs135 : Cs 135 (kIs 35) := Cs.is 35 (by omega)
/-- What the reference asks of a node's children. -/
def letR (n : Int) (ks : List Nat) : Bool := if n = 1 then turn ks [kType] else if n = 2 then turn ks [kExprR] else turn ks [kType, kExprR]
def ifR (n : Int) (ks : List Nat) : Bool := if n = 0 then turn ks [kExprR, kIs 13] else turn ks [kExprR, kIs 13, kIs 13] || turn ks [kExprR, kIs 13, kIs 16]
def rcB (k : Nat) (n : Int) (ks : List Nat) : Bool :=
  if k = 1 then ks.all kItem
  else if k = 2 then decide (1 ≤ ks.length) && decide (ks.length ≤ 8) && ks.all (kIs 3)
  else if k = 4 then fnB n.toNat ks
  else if k = 5 then decide (ks.length ≤ 8) && ks.all (kIs 6)
  else if k = 3 ∨ k = 7 ∨ k = 10 ∨ k = 11 then turn ks [kType]
  else if k = 13 then ks.all kStmt
  else if k = 14 then letR n ks
  else if k = 16 then ifR n ks
  else if k = 17 then turn ks [kExprR, kIs 13]
  else if k = 18 then turn ks [kIs 13]
  else if k = 23 then turn ks [kIs 33]
  else if k = 15 ∨ k = 32 then turn ks [kExprR, kExprR]
  else if k = 21 ∨ k = 22 ∨ k = 27 ∨ k = 28 ∨ k = 29 ∨ k = 30 ∨ k = 31 ∨ k = 36 ∨ k = 35 then turn ks [kExprR]
  else if k = 33 then decide (ks.length ≤ 8) && ks.all kExprR
  else if k = 34 then decide (1 ≤ ks.length) && decide (ks.length ≤ 8) && ks.all (kIs 35)
  else decide (ks.length = 0)
set_option maxRecDepth 100000 in
set_option maxHeartbeats 1000000 in
theorem rc_3 (p n : Int) (s : List UInt8) (a0 : Option Addr) (m0 cap0 : Nat) (ks : List Nat) (a : Option Addr) (cap : Nat) (w : World) (hK : KRow w a ks) (h3 : ks.length ≤ 20000) (hk : ∀ i d : Nat, ks[i]? = some d → d ≤ 255) :
    Calls Try.prog 64 #[ndV ⟨3, p, n, s⟩ a0 m0 cap0, .slice a ks.length cap] w fun e w' => e = .returned (.bool (turn ks [kType])) ∧ Below w.heap.size w w' := by
  have hB : ∀ o, Below w.heap.size w (w.alloc o) := fun o => belA (Below.refl _ _)
  have A1 := At.new w (Ndo ⟨3, p, n, s⟩ a0 m0 cap0)
  obtain ⟨c0, c1, c2, c3, c4, cf⟩ := A1.nd
  clear A1
  have hK1 := hK.below (hB (Ndo ⟨3, p, n, s⟩ a0 m0 cap0))
  go_enter Try.func64, Try.ntmps64
  go_wp2_with (first | (go_at_call 76; refine (rkindI_any _ (by omega) (by omega) _).mono ?_; rintro e w1 ⟨rfl, hw1⟩; replace hw1 := hw1.symm; subst hw1) | (go_at_call 77; refine (just_1 ks a cap (w.alloc (Ndo ⟨3, p, n, s⟩ a0 m0 cap0)) _ (by simp) _ _ hK1 h3 hk .ty _).mono ?_; rintro e w1 ⟨rfl, rfl⟩))
  go_ret
  exact ⟨rfl, belA (hB _)⟩
set_option maxRecDepth 100000 in
set_option maxHeartbeats 1000000 in
theorem rc_7 (p n : Int) (s : List UInt8) (a0 : Option Addr) (m0 cap0 : Nat) (ks : List Nat) (a : Option Addr) (cap : Nat) (w : World) (hK : KRow w a ks) (h3 : ks.length ≤ 20000) (hk : ∀ i d : Nat, ks[i]? = some d → d ≤ 255) :
    Calls Try.prog 64 #[ndV ⟨7, p, n, s⟩ a0 m0 cap0, .slice a ks.length cap] w fun e w' => e = .returned (.bool (turn ks [kType])) ∧ Below w.heap.size w w' := by
  have hB : ∀ o, Below w.heap.size w (w.alloc o) := fun o => belA (Below.refl _ _)
  have A1 := At.new w (Ndo ⟨7, p, n, s⟩ a0 m0 cap0)
  obtain ⟨c0, c1, c2, c3, c4, cf⟩ := A1.nd
  clear A1
  have hK1 := hK.below (hB (Ndo ⟨7, p, n, s⟩ a0 m0 cap0))
  go_enter Try.func64, Try.ntmps64
  go_wp2_with (first | (go_at_call 76; refine (rkindI_any _ (by omega) (by omega) _).mono ?_; rintro e w1 ⟨rfl, hw1⟩; replace hw1 := hw1.symm; subst hw1) | (go_at_call 77; refine (just_1 ks a cap (w.alloc (Ndo ⟨7, p, n, s⟩ a0 m0 cap0)) _ (by simp) _ _ hK1 h3 hk .ty _).mono ?_; rintro e w1 ⟨rfl, rfl⟩))
  go_ret
  exact ⟨rfl, belA (hB _)⟩
set_option maxRecDepth 100000 in
set_option maxHeartbeats 1000000 in
theorem rc_10 (p n : Int) (s : List UInt8) (a0 : Option Addr) (m0 cap0 : Nat) (ks : List Nat) (a : Option Addr) (cap : Nat) (w : World) (hK : KRow w a ks) (h3 : ks.length ≤ 20000) (hk : ∀ i d : Nat, ks[i]? = some d → d ≤ 255) :
    Calls Try.prog 64 #[ndV ⟨10, p, n, s⟩ a0 m0 cap0, .slice a ks.length cap] w fun e w' => e = .returned (.bool (turn ks [kType])) ∧ Below w.heap.size w w' := by
  have hB : ∀ o, Below w.heap.size w (w.alloc o) := fun o => belA (Below.refl _ _)
  have A1 := At.new w (Ndo ⟨10, p, n, s⟩ a0 m0 cap0)
  obtain ⟨c0, c1, c2, c3, c4, cf⟩ := A1.nd
  clear A1
  have hK1 := hK.below (hB (Ndo ⟨10, p, n, s⟩ a0 m0 cap0))
  go_enter Try.func64, Try.ntmps64
  go_wp2_with (first | (go_at_call 76; refine (rkindI_any _ (by omega) (by omega) _).mono ?_; rintro e w1 ⟨rfl, hw1⟩; replace hw1 := hw1.symm; subst hw1) | (go_at_call 77; refine (just_1 ks a cap (w.alloc (Ndo ⟨10, p, n, s⟩ a0 m0 cap0)) _ (by simp) _ _ hK1 h3 hk .ty _).mono ?_; rintro e w1 ⟨rfl, rfl⟩))
  go_ret
  exact ⟨rfl, belA (hB _)⟩
set_option maxRecDepth 100000 in
set_option maxHeartbeats 1000000 in
theorem rc_11 (p n : Int) (s : List UInt8) (a0 : Option Addr) (m0 cap0 : Nat) (ks : List Nat) (a : Option Addr) (cap : Nat) (w : World) (hK : KRow w a ks) (h3 : ks.length ≤ 20000) (hk : ∀ i d : Nat, ks[i]? = some d → d ≤ 255) :
    Calls Try.prog 64 #[ndV ⟨11, p, n, s⟩ a0 m0 cap0, .slice a ks.length cap] w fun e w' => e = .returned (.bool (turn ks [kType])) ∧ Below w.heap.size w w' := by
  have hB : ∀ o, Below w.heap.size w (w.alloc o) := fun o => belA (Below.refl _ _)
  have A1 := At.new w (Ndo ⟨11, p, n, s⟩ a0 m0 cap0)
  obtain ⟨c0, c1, c2, c3, c4, cf⟩ := A1.nd
  clear A1
  have hK1 := hK.below (hB (Ndo ⟨11, p, n, s⟩ a0 m0 cap0))
  go_enter Try.func64, Try.ntmps64
  go_wp2_with (first | (go_at_call 76; refine (rkindI_any _ (by omega) (by omega) _).mono ?_; rintro e w1 ⟨rfl, hw1⟩; replace hw1 := hw1.symm; subst hw1) | (go_at_call 77; refine (just_1 ks a cap (w.alloc (Ndo ⟨11, p, n, s⟩ a0 m0 cap0)) _ (by simp) _ _ hK1 h3 hk .ty _).mono ?_; rintro e w1 ⟨rfl, rfl⟩))
  go_ret
  exact ⟨rfl, belA (hB _)⟩
set_option maxRecDepth 100000 in
set_option maxHeartbeats 1000000 in
theorem rc_21 (p n : Int) (s : List UInt8) (a0 : Option Addr) (m0 cap0 : Nat) (ks : List Nat) (a : Option Addr) (cap : Nat) (w : World) (hK : KRow w a ks) (h3 : ks.length ≤ 20000) (hk : ∀ i d : Nat, ks[i]? = some d → d ≤ 255) :
    Calls Try.prog 64 #[ndV ⟨21, p, n, s⟩ a0 m0 cap0, .slice a ks.length cap] w fun e w' => e = .returned (.bool (turn ks [kExprR])) ∧ Below w.heap.size w w' := by
  have hB : ∀ o, Below w.heap.size w (w.alloc o) := fun o => belA (Below.refl _ _)
  have A1 := At.new w (Ndo ⟨21, p, n, s⟩ a0 m0 cap0)
  obtain ⟨c0, c1, c2, c3, c4, cf⟩ := A1.nd
  clear A1
  have hK1 := hK.below (hB (Ndo ⟨21, p, n, s⟩ a0 m0 cap0))
  go_enter Try.func64, Try.ntmps64
  go_wp2_with (first | (go_at_call 76; refine (rkindI_any _ (by omega) (by omega) _).mono ?_; rintro e w1 ⟨rfl, hw1⟩; replace hw1 := hw1.symm; subst hw1) | (go_at_call 77; refine (just_1 ks a cap (w.alloc (Ndo ⟨21, p, n, s⟩ a0 m0 cap0)) _ (by simp) _ _ hK1 h3 hk .ex _).mono ?_; rintro e w1 ⟨rfl, rfl⟩))
  go_ret
  exact ⟨rfl, belA (hB _)⟩
set_option maxRecDepth 100000 in
set_option maxHeartbeats 1000000 in
theorem rc_22 (p n : Int) (s : List UInt8) (a0 : Option Addr) (m0 cap0 : Nat) (ks : List Nat) (a : Option Addr) (cap : Nat) (w : World) (hK : KRow w a ks) (h3 : ks.length ≤ 20000) (hk : ∀ i d : Nat, ks[i]? = some d → d ≤ 255) :
    Calls Try.prog 64 #[ndV ⟨22, p, n, s⟩ a0 m0 cap0, .slice a ks.length cap] w fun e w' => e = .returned (.bool (turn ks [kExprR])) ∧ Below w.heap.size w w' := by
  have hB : ∀ o, Below w.heap.size w (w.alloc o) := fun o => belA (Below.refl _ _)
  have A1 := At.new w (Ndo ⟨22, p, n, s⟩ a0 m0 cap0)
  obtain ⟨c0, c1, c2, c3, c4, cf⟩ := A1.nd
  clear A1
  have hK1 := hK.below (hB (Ndo ⟨22, p, n, s⟩ a0 m0 cap0))
  go_enter Try.func64, Try.ntmps64
  go_wp2_with (first | (go_at_call 76; refine (rkindI_any _ (by omega) (by omega) _).mono ?_; rintro e w1 ⟨rfl, hw1⟩; replace hw1 := hw1.symm; subst hw1) | (go_at_call 77; refine (just_1 ks a cap (w.alloc (Ndo ⟨22, p, n, s⟩ a0 m0 cap0)) _ (by simp) _ _ hK1 h3 hk .ex _).mono ?_; rintro e w1 ⟨rfl, rfl⟩))
  go_ret
  exact ⟨rfl, belA (hB _)⟩
set_option maxRecDepth 100000 in
set_option maxHeartbeats 1000000 in
theorem rc_27 (p n : Int) (s : List UInt8) (a0 : Option Addr) (m0 cap0 : Nat) (ks : List Nat) (a : Option Addr) (cap : Nat) (w : World) (hK : KRow w a ks) (h3 : ks.length ≤ 20000) (hk : ∀ i d : Nat, ks[i]? = some d → d ≤ 255) :
    Calls Try.prog 64 #[ndV ⟨27, p, n, s⟩ a0 m0 cap0, .slice a ks.length cap] w fun e w' => e = .returned (.bool (turn ks [kExprR])) ∧ Below w.heap.size w w' := by
  have hB : ∀ o, Below w.heap.size w (w.alloc o) := fun o => belA (Below.refl _ _)
  have A1 := At.new w (Ndo ⟨27, p, n, s⟩ a0 m0 cap0)
  obtain ⟨c0, c1, c2, c3, c4, cf⟩ := A1.nd
  clear A1
  have hK1 := hK.below (hB (Ndo ⟨27, p, n, s⟩ a0 m0 cap0))
  go_enter Try.func64, Try.ntmps64
  go_wp2_with (first | (go_at_call 76; refine (rkindI_any _ (by omega) (by omega) _).mono ?_; rintro e w1 ⟨rfl, hw1⟩; replace hw1 := hw1.symm; subst hw1) | (go_at_call 77; refine (just_1 ks a cap (w.alloc (Ndo ⟨27, p, n, s⟩ a0 m0 cap0)) _ (by simp) _ _ hK1 h3 hk .ex _).mono ?_; rintro e w1 ⟨rfl, rfl⟩))
  go_ret
  exact ⟨rfl, belA (hB _)⟩
set_option maxRecDepth 100000 in
set_option maxHeartbeats 1000000 in
theorem rc_28 (p n : Int) (s : List UInt8) (a0 : Option Addr) (m0 cap0 : Nat) (ks : List Nat) (a : Option Addr) (cap : Nat) (w : World) (hK : KRow w a ks) (h3 : ks.length ≤ 20000) (hk : ∀ i d : Nat, ks[i]? = some d → d ≤ 255) :
    Calls Try.prog 64 #[ndV ⟨28, p, n, s⟩ a0 m0 cap0, .slice a ks.length cap] w fun e w' => e = .returned (.bool (turn ks [kExprR])) ∧ Below w.heap.size w w' := by
  have hB : ∀ o, Below w.heap.size w (w.alloc o) := fun o => belA (Below.refl _ _)
  have A1 := At.new w (Ndo ⟨28, p, n, s⟩ a0 m0 cap0)
  obtain ⟨c0, c1, c2, c3, c4, cf⟩ := A1.nd
  clear A1
  have hK1 := hK.below (hB (Ndo ⟨28, p, n, s⟩ a0 m0 cap0))
  go_enter Try.func64, Try.ntmps64
  go_wp2_with (first | (go_at_call 76; refine (rkindI_any _ (by omega) (by omega) _).mono ?_; rintro e w1 ⟨rfl, hw1⟩; replace hw1 := hw1.symm; subst hw1) | (go_at_call 77; refine (just_1 ks a cap (w.alloc (Ndo ⟨28, p, n, s⟩ a0 m0 cap0)) _ (by simp) _ _ hK1 h3 hk .ex _).mono ?_; rintro e w1 ⟨rfl, rfl⟩))
  go_ret
  exact ⟨rfl, belA (hB _)⟩
set_option maxRecDepth 100000 in
set_option maxHeartbeats 1000000 in
theorem rc_29 (p n : Int) (s : List UInt8) (a0 : Option Addr) (m0 cap0 : Nat) (ks : List Nat) (a : Option Addr) (cap : Nat) (w : World) (hK : KRow w a ks) (h3 : ks.length ≤ 20000) (hk : ∀ i d : Nat, ks[i]? = some d → d ≤ 255) :
    Calls Try.prog 64 #[ndV ⟨29, p, n, s⟩ a0 m0 cap0, .slice a ks.length cap] w fun e w' => e = .returned (.bool (turn ks [kExprR])) ∧ Below w.heap.size w w' := by
  have hB : ∀ o, Below w.heap.size w (w.alloc o) := fun o => belA (Below.refl _ _)
  have A1 := At.new w (Ndo ⟨29, p, n, s⟩ a0 m0 cap0)
  obtain ⟨c0, c1, c2, c3, c4, cf⟩ := A1.nd
  clear A1
  have hK1 := hK.below (hB (Ndo ⟨29, p, n, s⟩ a0 m0 cap0))
  go_enter Try.func64, Try.ntmps64
  go_wp2_with (first | (go_at_call 76; refine (rkindI_any _ (by omega) (by omega) _).mono ?_; rintro e w1 ⟨rfl, hw1⟩; replace hw1 := hw1.symm; subst hw1) | (go_at_call 77; refine (just_1 ks a cap (w.alloc (Ndo ⟨29, p, n, s⟩ a0 m0 cap0)) _ (by simp) _ _ hK1 h3 hk .ex _).mono ?_; rintro e w1 ⟨rfl, rfl⟩))
  go_ret
  exact ⟨rfl, belA (hB _)⟩
set_option maxRecDepth 100000 in
set_option maxHeartbeats 1000000 in
theorem rc_30 (p n : Int) (s : List UInt8) (a0 : Option Addr) (m0 cap0 : Nat) (ks : List Nat) (a : Option Addr) (cap : Nat) (w : World) (hK : KRow w a ks) (h3 : ks.length ≤ 20000) (hk : ∀ i d : Nat, ks[i]? = some d → d ≤ 255) :
    Calls Try.prog 64 #[ndV ⟨30, p, n, s⟩ a0 m0 cap0, .slice a ks.length cap] w fun e w' => e = .returned (.bool (turn ks [kExprR])) ∧ Below w.heap.size w w' := by
  have hB : ∀ o, Below w.heap.size w (w.alloc o) := fun o => belA (Below.refl _ _)
  have A1 := At.new w (Ndo ⟨30, p, n, s⟩ a0 m0 cap0)
  obtain ⟨c0, c1, c2, c3, c4, cf⟩ := A1.nd
  clear A1
  have hK1 := hK.below (hB (Ndo ⟨30, p, n, s⟩ a0 m0 cap0))
  go_enter Try.func64, Try.ntmps64
  go_wp2_with (first | (go_at_call 76; refine (rkindI_any _ (by omega) (by omega) _).mono ?_; rintro e w1 ⟨rfl, hw1⟩; replace hw1 := hw1.symm; subst hw1) | (go_at_call 77; refine (just_1 ks a cap (w.alloc (Ndo ⟨30, p, n, s⟩ a0 m0 cap0)) _ (by simp) _ _ hK1 h3 hk .ex _).mono ?_; rintro e w1 ⟨rfl, rfl⟩))
  go_ret
  exact ⟨rfl, belA (hB _)⟩
set_option maxRecDepth 100000 in
set_option maxHeartbeats 1000000 in
theorem rc_31 (p n : Int) (s : List UInt8) (a0 : Option Addr) (m0 cap0 : Nat) (ks : List Nat) (a : Option Addr) (cap : Nat) (w : World) (hK : KRow w a ks) (h3 : ks.length ≤ 20000) (hk : ∀ i d : Nat, ks[i]? = some d → d ≤ 255) :
    Calls Try.prog 64 #[ndV ⟨31, p, n, s⟩ a0 m0 cap0, .slice a ks.length cap] w fun e w' => e = .returned (.bool (turn ks [kExprR])) ∧ Below w.heap.size w w' := by
  have hB : ∀ o, Below w.heap.size w (w.alloc o) := fun o => belA (Below.refl _ _)
  have A1 := At.new w (Ndo ⟨31, p, n, s⟩ a0 m0 cap0)
  obtain ⟨c0, c1, c2, c3, c4, cf⟩ := A1.nd
  clear A1
  have hK1 := hK.below (hB (Ndo ⟨31, p, n, s⟩ a0 m0 cap0))
  go_enter Try.func64, Try.ntmps64
  go_wp2_with (first | (go_at_call 76; refine (rkindI_any _ (by omega) (by omega) _).mono ?_; rintro e w1 ⟨rfl, hw1⟩; replace hw1 := hw1.symm; subst hw1) | (go_at_call 77; refine (just_1 ks a cap (w.alloc (Ndo ⟨31, p, n, s⟩ a0 m0 cap0)) _ (by simp) _ _ hK1 h3 hk .ex _).mono ?_; rintro e w1 ⟨rfl, rfl⟩))
  go_ret
  exact ⟨rfl, belA (hB _)⟩
set_option maxRecDepth 100000 in
set_option maxHeartbeats 1000000 in
theorem rc_35 (p n : Int) (s : List UInt8) (a0 : Option Addr) (m0 cap0 : Nat) (ks : List Nat) (a : Option Addr) (cap : Nat) (w : World) (hK : KRow w a ks) (h3 : ks.length ≤ 20000) (hk : ∀ i d : Nat, ks[i]? = some d → d ≤ 255) :
    Calls Try.prog 64 #[ndV ⟨35, p, n, s⟩ a0 m0 cap0, .slice a ks.length cap] w fun e w' => e = .returned (.bool (turn ks [kExprR])) ∧ Below w.heap.size w w' := by
  have hB : ∀ o, Below w.heap.size w (w.alloc o) := fun o => belA (Below.refl _ _)
  have A1 := At.new w (Ndo ⟨35, p, n, s⟩ a0 m0 cap0)
  obtain ⟨c0, c1, c2, c3, c4, cf⟩ := A1.nd
  clear A1
  have hK1 := hK.below (hB (Ndo ⟨35, p, n, s⟩ a0 m0 cap0))
  go_enter Try.func64, Try.ntmps64
  go_wp2_with (first | (go_at_call 76; refine (rkindI_any _ (by omega) (by omega) _).mono ?_; rintro e w1 ⟨rfl, hw1⟩; replace hw1 := hw1.symm; subst hw1) | (go_at_call 77; refine (just_1 ks a cap (w.alloc (Ndo ⟨35, p, n, s⟩ a0 m0 cap0)) _ (by simp) _ _ hK1 h3 hk .ex _).mono ?_; rintro e w1 ⟨rfl, rfl⟩))
  go_ret
  exact ⟨rfl, belA (hB _)⟩
set_option maxRecDepth 100000 in
set_option maxHeartbeats 1000000 in
theorem rc_36 (p n : Int) (s : List UInt8) (a0 : Option Addr) (m0 cap0 : Nat) (ks : List Nat) (a : Option Addr) (cap : Nat) (w : World) (hK : KRow w a ks) (h3 : ks.length ≤ 20000) (hk : ∀ i d : Nat, ks[i]? = some d → d ≤ 255) :
    Calls Try.prog 64 #[ndV ⟨36, p, n, s⟩ a0 m0 cap0, .slice a ks.length cap] w fun e w' => e = .returned (.bool (turn ks [kExprR])) ∧ Below w.heap.size w w' := by
  have hB : ∀ o, Below w.heap.size w (w.alloc o) := fun o => belA (Below.refl _ _)
  have A1 := At.new w (Ndo ⟨36, p, n, s⟩ a0 m0 cap0)
  obtain ⟨c0, c1, c2, c3, c4, cf⟩ := A1.nd
  clear A1
  have hK1 := hK.below (hB (Ndo ⟨36, p, n, s⟩ a0 m0 cap0))
  go_enter Try.func64, Try.ntmps64
  go_wp2_with (first | (go_at_call 76; refine (rkindI_any _ (by omega) (by omega) _).mono ?_; rintro e w1 ⟨rfl, hw1⟩; replace hw1 := hw1.symm; subst hw1) | (go_at_call 77; refine (just_1 ks a cap (w.alloc (Ndo ⟨36, p, n, s⟩ a0 m0 cap0)) _ (by simp) _ _ hK1 h3 hk .ex _).mono ?_; rintro e w1 ⟨rfl, rfl⟩))
  go_ret
  exact ⟨rfl, belA (hB _)⟩
set_option maxRecDepth 100000 in
set_option maxHeartbeats 1000000 in
theorem rc_15 (p n : Int) (s : List UInt8) (a0 : Option Addr) (m0 cap0 : Nat) (ks : List Nat) (a : Option Addr) (cap : Nat) (w : World) (hK : KRow w a ks) (h3 : ks.length ≤ 20000) (hk : ∀ i d : Nat, ks[i]? = some d → d ≤ 255) :
    Calls Try.prog 64 #[ndV ⟨15, p, n, s⟩ a0 m0 cap0, .slice a ks.length cap] w fun e w' => e = .returned (.bool (turn ks [kExprR, kExprR])) ∧ Below w.heap.size w w' := by
  have hB : ∀ o, Below w.heap.size w (w.alloc o) := fun o => belA (Below.refl _ _)
  have A1 := At.new w (Ndo ⟨15, p, n, s⟩ a0 m0 cap0)
  obtain ⟨c0, c1, c2, c3, c4, cf⟩ := A1.nd
  clear A1
  have hK1 := hK.below (hB (Ndo ⟨15, p, n, s⟩ a0 m0 cap0))
  go_enter Try.func64, Try.ntmps64
  go_wp2_with (first | (go_at_call 76; refine (rkindI_any _ (by omega) (by omega) _).mono ?_; rintro e w1 ⟨rfl, hw1⟩; replace hw1 := hw1.symm; subst hw1) | (go_at_call 77; refine (just_2 ks a cap (w.alloc (Ndo ⟨15, p, n, s⟩ a0 m0 cap0)) _ (by simp) _ _ _ _ hK1 h3 hk .ex .ex _).mono ?_; rintro e w1 ⟨rfl, rfl⟩))
  go_ret
  exact ⟨rfl, belA (hB _)⟩
set_option maxRecDepth 100000 in
set_option maxHeartbeats 1000000 in
theorem rc_32 (p n : Int) (s : List UInt8) (a0 : Option Addr) (m0 cap0 : Nat) (ks : List Nat) (a : Option Addr) (cap : Nat) (w : World) (hK : KRow w a ks) (h3 : ks.length ≤ 20000) (hk : ∀ i d : Nat, ks[i]? = some d → d ≤ 255) :
    Calls Try.prog 64 #[ndV ⟨32, p, n, s⟩ a0 m0 cap0, .slice a ks.length cap] w fun e w' => e = .returned (.bool (turn ks [kExprR, kExprR])) ∧ Below w.heap.size w w' := by
  have hB : ∀ o, Below w.heap.size w (w.alloc o) := fun o => belA (Below.refl _ _)
  have A1 := At.new w (Ndo ⟨32, p, n, s⟩ a0 m0 cap0)
  obtain ⟨c0, c1, c2, c3, c4, cf⟩ := A1.nd
  clear A1
  have hK1 := hK.below (hB (Ndo ⟨32, p, n, s⟩ a0 m0 cap0))
  go_enter Try.func64, Try.ntmps64
  go_wp2_with (first | (go_at_call 76; refine (rkindI_any _ (by omega) (by omega) _).mono ?_; rintro e w1 ⟨rfl, hw1⟩; replace hw1 := hw1.symm; subst hw1) | (go_at_call 77; refine (just_2 ks a cap (w.alloc (Ndo ⟨32, p, n, s⟩ a0 m0 cap0)) _ (by simp) _ _ _ _ hK1 h3 hk .ex .ex _).mono ?_; rintro e w1 ⟨rfl, rfl⟩))
  go_ret
  exact ⟨rfl, belA (hB _)⟩
set_option maxRecDepth 100000 in
set_option maxHeartbeats 1000000 in
theorem rc_17 (p n : Int) (s : List UInt8) (a0 : Option Addr) (m0 cap0 : Nat) (ks : List Nat) (a : Option Addr) (cap : Nat) (w : World) (hK : KRow w a ks) (h3 : ks.length ≤ 20000) (hk : ∀ i d : Nat, ks[i]? = some d → d ≤ 255) :
    Calls Try.prog 64 #[ndV ⟨17, p, n, s⟩ a0 m0 cap0, .slice a ks.length cap] w fun e w' => e = .returned (.bool (turn ks [kExprR, kIs 13])) ∧ Below w.heap.size w w' := by
  have hB : ∀ o, Below w.heap.size w (w.alloc o) := fun o => belA (Below.refl _ _)
  have A1 := At.new w (Ndo ⟨17, p, n, s⟩ a0 m0 cap0)
  obtain ⟨c0, c1, c2, c3, c4, cf⟩ := A1.nd
  clear A1
  have hK1 := hK.below (hB (Ndo ⟨17, p, n, s⟩ a0 m0 cap0))
  go_enter Try.func64, Try.ntmps64
  go_wp2_with (first | (go_at_call 76; refine (rkindI_any _ (by omega) (by omega) _).mono ?_; rintro e w1 ⟨rfl, hw1⟩; replace hw1 := hw1.symm; subst hw1) | (go_at_call 77; refine (just_2 ks a cap (w.alloc (Ndo ⟨17, p, n, s⟩ a0 m0 cap0)) _ (by simp) _ _ _ _ hK1 h3 hk .ex cs113 _).mono ?_; rintro e w1 ⟨rfl, rfl⟩))
  go_ret
  exact ⟨rfl, belA (hB _)⟩
set_option maxRecDepth 100000 in
set_option maxHeartbeats 1000000 in
theorem rc_18 (p n : Int) (s : List UInt8) (a0 : Option Addr) (m0 cap0 : Nat) (ks : List Nat) (a : Option Addr) (cap : Nat) (w : World) (hK : KRow w a ks) (h3 : ks.length ≤ 20000) (hk : ∀ i d : Nat, ks[i]? = some d → d ≤ 255) :
    Calls Try.prog 64 #[ndV ⟨18, p, n, s⟩ a0 m0 cap0, .slice a ks.length cap] w fun e w' => e = .returned (.bool (turn ks [kIs 13])) ∧ Below w.heap.size w w' := by
  have hB : ∀ o, Below w.heap.size w (w.alloc o) := fun o => belA (Below.refl _ _)
  have A1 := At.new w (Ndo ⟨18, p, n, s⟩ a0 m0 cap0)
  obtain ⟨c0, c1, c2, c3, c4, cf⟩ := A1.nd
  clear A1
  have hK1 := hK.below (hB (Ndo ⟨18, p, n, s⟩ a0 m0 cap0))
  go_enter Try.func64, Try.ntmps64
  go_wp2_with (first | (go_at_call 76; refine (rkindI_any _ (by omega) (by omega) _).mono ?_; rintro e w1 ⟨rfl, hw1⟩; replace hw1 := hw1.symm; subst hw1) | (go_at_call 77; refine (just_1 ks a cap (w.alloc (Ndo ⟨18, p, n, s⟩ a0 m0 cap0)) _ (by simp) _ _ hK1 h3 hk cs113 _).mono ?_; rintro e w1 ⟨rfl, rfl⟩))
  go_ret
  exact ⟨rfl, belA (hB _)⟩
set_option maxRecDepth 100000 in
set_option maxHeartbeats 1000000 in
theorem rc_23 (p n : Int) (s : List UInt8) (a0 : Option Addr) (m0 cap0 : Nat) (ks : List Nat) (a : Option Addr) (cap : Nat) (w : World) (hK : KRow w a ks) (h3 : ks.length ≤ 20000) (hk : ∀ i d : Nat, ks[i]? = some d → d ≤ 255) :
    Calls Try.prog 64 #[ndV ⟨23, p, n, s⟩ a0 m0 cap0, .slice a ks.length cap] w fun e w' => e = .returned (.bool (turn ks [kIs 33])) ∧ Below w.heap.size w w' := by
  have hB : ∀ o, Below w.heap.size w (w.alloc o) := fun o => belA (Below.refl _ _)
  have A1 := At.new w (Ndo ⟨23, p, n, s⟩ a0 m0 cap0)
  obtain ⟨c0, c1, c2, c3, c4, cf⟩ := A1.nd
  clear A1
  have hK1 := hK.below (hB (Ndo ⟨23, p, n, s⟩ a0 m0 cap0))
  go_enter Try.func64, Try.ntmps64
  go_wp2_with (first | (go_at_call 76; refine (rkindI_any _ (by omega) (by omega) _).mono ?_; rintro e w1 ⟨rfl, hw1⟩; replace hw1 := hw1.symm; subst hw1) | (go_at_call 77; refine (just_1 ks a cap (w.alloc (Ndo ⟨23, p, n, s⟩ a0 m0 cap0)) _ (by simp) _ _ hK1 h3 hk cs133 _).mono ?_; rintro e w1 ⟨rfl, rfl⟩))
  go_ret
  exact ⟨rfl, belA (hB _)⟩
set_option maxRecDepth 100000 in
set_option maxHeartbeats 1000000 in
theorem rc_14 (p n : Int) (s : List UInt8) (a0 : Option Addr) (m0 cap0 : Nat) (ks : List Nat) (a : Option Addr) (cap : Nat) (w : World) (hK : KRow w a ks) (h3 : ks.length ≤ 20000) (hk : ∀ i d : Nat, ks[i]? = some d → d ≤ 255) :
    Calls Try.prog 64 #[ndV ⟨14, p, n, s⟩ a0 m0 cap0, .slice a ks.length cap] w fun e w' => e = .returned (.bool (letR n ks)) ∧ Below w.heap.size w w' := by
  have hB : ∀ o, Below w.heap.size w (w.alloc o) := fun o => belA (Below.refl _ _)
  have A1 := At.new w (Ndo ⟨14, p, n, s⟩ a0 m0 cap0)
  obtain ⟨c0, c1, c2, c3, c4, cf⟩ := A1.nd
  clear A1
  have hK1 := hK.below (hB (Ndo ⟨14, p, n, s⟩ a0 m0 cap0))
  by_cases h1 : n = 1
  · subst h1
    rw [show letR 1 ks = turn ks [kType] from rfl]
    go_enter Try.func64, Try.ntmps64
    go_wp2_with (first | (go_at_call 76; refine (rkindI_any _ (by omega) (by omega) _).mono ?_; rintro e w1 ⟨rfl, hw1⟩; replace hw1 := hw1.symm; subst hw1) | (go_at_call 77; refine (just_1 ks a cap (w.alloc (Ndo ⟨14, p, 1, s⟩ a0 m0 cap0)) _ (by simp) _ _ hK1 h3 hk .ty _).mono ?_; rintro e w1 ⟨rfl, rfl⟩))
    go_ret
    exact ⟨rfl, belA (hB _)⟩
  · have g1 : (n == 1) = false := by simpa using h1
    by_cases h2 : n = 2
    · subst h2
      rw [show letR 2 ks = turn ks [kExprR] from rfl]
      go_enter Try.func64, Try.ntmps64
      go_wp2_with (first | (go_at_call 76; refine (rkindI_any _ (by omega) (by omega) _).mono ?_; rintro e w1 ⟨rfl, hw1⟩; replace hw1 := hw1.symm; subst hw1) | (go_at_call 77; refine (just_1 ks a cap (w.alloc (Ndo ⟨14, p, 2, s⟩ a0 m0 cap0)) _ (by simp) _ _ hK1 h3 hk .ex _).mono ?_; rintro e w1 ⟨rfl, rfl⟩))
      go_ret
      exact ⟨rfl, belA (hB _)⟩
    · have g2 : (n == 2) = false := by simpa using h2
      rw [show letR n ks = turn ks [kType, kExprR] by unfold letR; rw [if_neg h1, if_neg h2]]
      go_enter Try.func64, Try.ntmps64
      go_wp2_with (first | (go_at_call 76; refine (rkindI_any _ (by omega) (by omega) _).mono ?_; rintro e w1 ⟨rfl, hw1⟩; replace hw1 := hw1.symm; subst hw1) | (go_at_call 77; refine (just_2 ks a cap (w.alloc (Ndo ⟨14, p, n, s⟩ a0 m0 cap0)) _ (by simp) _ _ _ _ hK1 h3 hk .ty .ex _).mono ?_; rintro e w1 ⟨rfl, rfl⟩))
      go_ret
      exact ⟨rfl, belA (hB _)⟩
set_option maxRecDepth 100000 in
set_option maxHeartbeats 1000000 in
theorem rc_2 (p n : Int) (s : List UInt8) (a0 : Option Addr) (m0 cap0 : Nat) (ks : List Nat) (a : Option Addr) (cap : Nat) (w : World) (hK : KRow w a ks) (h3 : ks.length ≤ 20000) (hk : ∀ i d : Nat, ks[i]? = some d → d ≤ 255) :
    Calls Try.prog 64 #[ndV ⟨2, p, n, s⟩ a0 m0 cap0, .slice a ks.length cap] w fun e w' => e = .returned (.bool (decide (1 ≤ ks.length) && decide (ks.length ≤ 8) && ks.all (kIs 3))) ∧ Below w.heap.size w w' := by
  have hB : ∀ o, Below w.heap.size w (w.alloc o) := fun o => belA (Below.refl _ _)
  have A1 := At.new w (Ndo ⟨2, p, n, s⟩ a0 m0 cap0)
  obtain ⟨c0, c1, c2, c3, c4, cf⟩ := A1.nd
  clear A1
  have hK1 := hK.below (hB (Ndo ⟨2, p, n, s⟩ a0 m0 cap0))
  by_cases h1 : 1 ≤ ks.length
  · have g1 : decide ((1 : Int) ≤ (ks.length : Int)) = true := decide_eq_true (by omega)
    have q1 : decide (1 ≤ ks.length) = true := decide_eq_true h1
    by_cases h2 : ks.length ≤ 8
    · have g2 : decide ((ks.length : Int) ≤ 8) = true := decide_eq_true (by omega)
      have q2 : decide (ks.length ≤ 8) = true := decide_eq_true h2
      rw [q1, q2, Bool.true_and, Bool.true_and]
      go_enter Try.func64, Try.ntmps64
      go_wp2_with (first | (go_at_call 76; refine (rkindI_any _ (by omega) (by omega) _).mono ?_; rintro e w1 ⟨rfl, hw1⟩; replace hw1 := hw1.symm; subst hw1) | (go_at_call 75; refine (all_whole ks a cap 103 _ _ hK1 h3 hk cs103).mono ?_; rintro e w1 ⟨rfl, hw1⟩; replace hw1 := hw1.symm; subst hw1))
      go_ret
      exact ⟨ret_bool (by first | rfl | simp_all), hB _⟩
    · have g2 : decide ((ks.length : Int) ≤ 8) = false := decide_eq_false (by omega)
      have q2 : decide (ks.length ≤ 8) = false := decide_eq_false h2
      rw [q1, q2, Bool.true_and, Bool.false_and]
      go_enter Try.func64, Try.ntmps64
      go_wp2_with (first | (go_at_call 76; refine (rkindI_any _ (by omega) (by omega) _).mono ?_; rintro e w1 ⟨rfl, hw1⟩; replace hw1 := hw1.symm; subst hw1) | (go_at_call 75; refine (all_whole ks a cap 103 _ _ hK1 h3 hk cs103).mono ?_; rintro e w1 ⟨rfl, hw1⟩; replace hw1 := hw1.symm; subst hw1))
      go_ret
      exact ⟨ret_bool (by first | rfl | simp_all), hB _⟩
  · have g1 : decide ((1 : Int) ≤ (ks.length : Int)) = false := decide_eq_false (by omega)
    have q1 : decide (1 ≤ ks.length) = false := decide_eq_false h1
    rw [q1, Bool.false_and, Bool.false_and]
    go_enter Try.func64, Try.ntmps64
    go_wp2_with (first | (go_at_call 76; refine (rkindI_any _ (by omega) (by omega) _).mono ?_; rintro e w1 ⟨rfl, hw1⟩; replace hw1 := hw1.symm; subst hw1) | (go_at_call 75; refine (all_whole ks a cap 103 _ _ hK1 h3 hk cs103).mono ?_; rintro e w1 ⟨rfl, hw1⟩; replace hw1 := hw1.symm; subst hw1))
    go_ret
    exact ⟨ret_bool (by first | rfl | simp_all), hB _⟩
set_option maxRecDepth 100000 in
set_option maxHeartbeats 1000000 in
theorem rc_34 (p n : Int) (s : List UInt8) (a0 : Option Addr) (m0 cap0 : Nat) (ks : List Nat) (a : Option Addr) (cap : Nat) (w : World) (hK : KRow w a ks) (h3 : ks.length ≤ 20000) (hk : ∀ i d : Nat, ks[i]? = some d → d ≤ 255) :
    Calls Try.prog 64 #[ndV ⟨34, p, n, s⟩ a0 m0 cap0, .slice a ks.length cap] w fun e w' => e = .returned (.bool (decide (1 ≤ ks.length) && decide (ks.length ≤ 8) && ks.all (kIs 35))) ∧ Below w.heap.size w w' := by
  have hB : ∀ o, Below w.heap.size w (w.alloc o) := fun o => belA (Below.refl _ _)
  have A1 := At.new w (Ndo ⟨34, p, n, s⟩ a0 m0 cap0)
  obtain ⟨c0, c1, c2, c3, c4, cf⟩ := A1.nd
  clear A1
  have hK1 := hK.below (hB (Ndo ⟨34, p, n, s⟩ a0 m0 cap0))
  by_cases h1 : 1 ≤ ks.length
  · have g1 : decide ((1 : Int) ≤ (ks.length : Int)) = true := decide_eq_true (by omega)
    have q1 : decide (1 ≤ ks.length) = true := decide_eq_true h1
    by_cases h2 : ks.length ≤ 8
    · have g2 : decide ((ks.length : Int) ≤ 8) = true := decide_eq_true (by omega)
      have q2 : decide (ks.length ≤ 8) = true := decide_eq_true h2
      rw [q1, q2, Bool.true_and, Bool.true_and]
      go_enter Try.func64, Try.ntmps64
      go_wp2_with (first | (go_at_call 76; refine (rkindI_any _ (by omega) (by omega) _).mono ?_; rintro e w1 ⟨rfl, hw1⟩; replace hw1 := hw1.symm; subst hw1) | (go_at_call 75; refine (all_whole ks a cap 135 _ _ hK1 h3 hk cs135).mono ?_; rintro e w1 ⟨rfl, hw1⟩; replace hw1 := hw1.symm; subst hw1))
      go_ret
      exact ⟨ret_bool (by first | rfl | simp_all), hB _⟩
    · have g2 : decide ((ks.length : Int) ≤ 8) = false := decide_eq_false (by omega)
      have q2 : decide (ks.length ≤ 8) = false := decide_eq_false h2
      rw [q1, q2, Bool.true_and, Bool.false_and]
      go_enter Try.func64, Try.ntmps64
      go_wp2_with (first | (go_at_call 76; refine (rkindI_any _ (by omega) (by omega) _).mono ?_; rintro e w1 ⟨rfl, hw1⟩; replace hw1 := hw1.symm; subst hw1) | (go_at_call 75; refine (all_whole ks a cap 135 _ _ hK1 h3 hk cs135).mono ?_; rintro e w1 ⟨rfl, hw1⟩; replace hw1 := hw1.symm; subst hw1))
      go_ret
      exact ⟨ret_bool (by first | rfl | simp_all), hB _⟩
  · have g1 : decide ((1 : Int) ≤ (ks.length : Int)) = false := decide_eq_false (by omega)
    have q1 : decide (1 ≤ ks.length) = false := decide_eq_false h1
    rw [q1, Bool.false_and, Bool.false_and]
    go_enter Try.func64, Try.ntmps64
    go_wp2_with (first | (go_at_call 76; refine (rkindI_any _ (by omega) (by omega) _).mono ?_; rintro e w1 ⟨rfl, hw1⟩; replace hw1 := hw1.symm; subst hw1) | (go_at_call 75; refine (all_whole ks a cap 135 _ _ hK1 h3 hk cs135).mono ?_; rintro e w1 ⟨rfl, hw1⟩; replace hw1 := hw1.symm; subst hw1))
    go_ret
    exact ⟨ret_bool (by first | rfl | simp_all), hB _⟩
set_option maxRecDepth 100000 in
set_option maxHeartbeats 1000000 in
theorem rc_5 (p n : Int) (s : List UInt8) (a0 : Option Addr) (m0 cap0 : Nat) (ks : List Nat) (a : Option Addr) (cap : Nat) (w : World) (hK : KRow w a ks) (h3 : ks.length ≤ 20000) (hk : ∀ i d : Nat, ks[i]? = some d → d ≤ 255) :
    Calls Try.prog 64 #[ndV ⟨5, p, n, s⟩ a0 m0 cap0, .slice a ks.length cap] w fun e w' => e = .returned (.bool (decide (ks.length ≤ 8) && ks.all (kIs 6))) ∧ Below w.heap.size w w' := by
  have hB : ∀ o, Below w.heap.size w (w.alloc o) := fun o => belA (Below.refl _ _)
  have A1 := At.new w (Ndo ⟨5, p, n, s⟩ a0 m0 cap0)
  obtain ⟨c0, c1, c2, c3, c4, cf⟩ := A1.nd
  clear A1
  have hK1 := hK.below (hB (Ndo ⟨5, p, n, s⟩ a0 m0 cap0))
  by_cases h2 : ks.length ≤ 8
  · have g2 : decide ((ks.length : Int) ≤ 8) = true := decide_eq_true (by omega)
    have q2 : decide (ks.length ≤ 8) = true := decide_eq_true h2
    rw [q2, Bool.true_and]
    go_enter Try.func64, Try.ntmps64
    go_wp2_with (first | (go_at_call 76; refine (rkindI_any _ (by omega) (by omega) _).mono ?_; rintro e w1 ⟨rfl, hw1⟩; replace hw1 := hw1.symm; subst hw1) | (go_at_call 75; refine (all_whole ks a cap 106 _ _ hK1 h3 hk cs106).mono ?_; rintro e w1 ⟨rfl, hw1⟩; replace hw1 := hw1.symm; subst hw1))
    go_ret
    exact ⟨ret_bool (by first | rfl | simp_all), hB _⟩
  · have g2 : decide ((ks.length : Int) ≤ 8) = false := decide_eq_false (by omega)
    have q2 : decide (ks.length ≤ 8) = false := decide_eq_false h2
    rw [q2, Bool.false_and]
    go_enter Try.func64, Try.ntmps64
    go_wp2_with (first | (go_at_call 76; refine (rkindI_any _ (by omega) (by omega) _).mono ?_; rintro e w1 ⟨rfl, hw1⟩; replace hw1 := hw1.symm; subst hw1) | (go_at_call 75; refine (all_whole ks a cap 106 _ _ hK1 h3 hk cs106).mono ?_; rintro e w1 ⟨rfl, hw1⟩; replace hw1 := hw1.symm; subst hw1))
    go_ret
    exact ⟨ret_bool (by first | rfl | simp_all), hB _⟩
set_option maxRecDepth 100000 in
set_option maxHeartbeats 1000000 in
theorem rc_33 (p n : Int) (s : List UInt8) (a0 : Option Addr) (m0 cap0 : Nat) (ks : List Nat) (a : Option Addr) (cap : Nat) (w : World) (hK : KRow w a ks) (h3 : ks.length ≤ 20000) (hk : ∀ i d : Nat, ks[i]? = some d → d ≤ 255) :
    Calls Try.prog 64 #[ndV ⟨33, p, n, s⟩ a0 m0 cap0, .slice a ks.length cap] w fun e w' => e = .returned (.bool (decide (ks.length ≤ 8) && ks.all kExprR)) ∧ Below w.heap.size w w' := by
  have hB : ∀ o, Below w.heap.size w (w.alloc o) := fun o => belA (Below.refl _ _)
  have A1 := At.new w (Ndo ⟨33, p, n, s⟩ a0 m0 cap0)
  obtain ⟨c0, c1, c2, c3, c4, cf⟩ := A1.nd
  clear A1
  have hK1 := hK.below (hB (Ndo ⟨33, p, n, s⟩ a0 m0 cap0))
  by_cases h2 : ks.length ≤ 8
  · have g2 : decide ((ks.length : Int) ≤ 8) = true := decide_eq_true (by omega)
    have q2 : decide (ks.length ≤ 8) = true := decide_eq_true h2
    rw [q2, Bool.true_and]
    go_enter Try.func64, Try.ntmps64
    go_wp2_with (first | (go_at_call 76; refine (rkindI_any _ (by omega) (by omega) _).mono ?_; rintro e w1 ⟨rfl, hw1⟩; replace hw1 := hw1.symm; subst hw1) | (go_at_call 75; refine (all_whole ks a cap 2 _ _ hK1 h3 hk .ex).mono ?_; rintro e w1 ⟨rfl, hw1⟩; replace hw1 := hw1.symm; subst hw1))
    go_ret
    exact ⟨ret_bool (by first | rfl | simp_all), hB _⟩
  · have g2 : decide ((ks.length : Int) ≤ 8) = false := decide_eq_false (by omega)
    have q2 : decide (ks.length ≤ 8) = false := decide_eq_false h2
    rw [q2, Bool.false_and]
    go_enter Try.func64, Try.ntmps64
    go_wp2_with (first | (go_at_call 76; refine (rkindI_any _ (by omega) (by omega) _).mono ?_; rintro e w1 ⟨rfl, hw1⟩; replace hw1 := hw1.symm; subst hw1) | (go_at_call 75; refine (all_whole ks a cap 2 _ _ hK1 h3 hk .ex).mono ?_; rintro e w1 ⟨rfl, hw1⟩; replace hw1 := hw1.symm; subst hw1))
    go_ret
    exact ⟨ret_bool (by first | rfl | simp_all), hB _⟩
set_option maxRecDepth 100000 in
set_option maxHeartbeats 1000000 in
theorem rc_13 (p n : Int) (s : List UInt8) (a0 : Option Addr) (m0 cap0 : Nat) (ks : List Nat) (a : Option Addr) (cap : Nat) (w : World) (hK : KRow w a ks) (h3 : ks.length ≤ 20000) (hk : ∀ i d : Nat, ks[i]? = some d → d ≤ 255) :
    Calls Try.prog 64 #[ndV ⟨13, p, n, s⟩ a0 m0 cap0, .slice a ks.length cap] w fun e w' => e = .returned (.bool (ks.all kStmt)) ∧ Below w.heap.size w w' := by
  have hB : ∀ o, Below w.heap.size w (w.alloc o) := fun o => belA (Below.refl _ _)
  have A1 := At.new w (Ndo ⟨13, p, n, s⟩ a0 m0 cap0)
  obtain ⟨c0, c1, c2, c3, c4, cf⟩ := A1.nd
  clear A1
  have hK1 := hK.below (hB (Ndo ⟨13, p, n, s⟩ a0 m0 cap0))
  go_enter Try.func64, Try.ntmps64
  go_wp2_with (first | (go_at_call 76; refine (rkindI_any _ (by omega) (by omega) _).mono ?_; rintro e w1 ⟨rfl, hw1⟩; replace hw1 := hw1.symm; subst hw1) | (go_at_call 75; refine (all_whole ks a cap 3 _ _ hK1 h3 hk .st).mono ?_; rintro e w1 ⟨rfl, hw1⟩; replace hw1 := hw1.symm; subst hw1))
  go_ret
  exact ⟨ret_bool (by first | rfl | simp_all), hB _⟩
set_option maxRecDepth 100000 in
set_option maxHeartbeats 1000000 in
theorem rc_4 (p n : Int) (s : List UInt8) (a0 : Option Addr) (m0 cap0 : Nat) (ks : List Nat) (a : Option Addr) (cap : Nat) (w : World) (hK : KRow w a ks) (h3 : ks.length ≤ 20000) (hk : ∀ i d : Nat, ks[i]? = some d → d ≤ 255) (n0 : 0 ≤ n) (n8 : n ≤ 8) :
    Calls Try.prog 64 #[ndV ⟨4, p, n, s⟩ a0 m0 cap0, .slice a ks.length cap] w fun e w' => e = .returned (.bool (fnB n.toNat ks)) ∧ Below w.heap.size w w' := by
  have hB : ∀ o, Below w.heap.size w (w.alloc o) := fun o => belA (Below.refl _ _)
  have A1 := At.new w (Ndo ⟨4, p, n, s⟩ a0 m0 cap0)
  obtain ⟨c0, c1, c2, c3, c4, cf⟩ := A1.nd
  clear A1
  have hK1 := hK.below (hB (Ndo ⟨4, p, n, s⟩ a0 m0 cap0))
  obtain ⟨q, rfl⟩ : ∃ q : Nat, n = (q : Int) := ⟨n.toNat, by omega⟩
  rw [show ((q : Int)).toNat = q by omega]
  have HF : Hid (∀ W, Below w.heap.size w W → Calls Try.prog 78 #[ndV ⟨4, p, (q : Int), s⟩ a0 m0 cap0, .slice a ks.length cap] W fun e w' => e = .returned (.bool (fnB q ks)) ∧ Below W.heap.size W w') := fun W hW => rfn_any p q s a0 m0 cap0 ks a cap W (by omega) (hK.below hW) h3 hk
  go_enter Try.func64, Try.ntmps64
  go_wp2_with (go_at_call 78; refine (HF.out _ (hB _)).mono ?_; rintro e w1 ⟨rfl, hb1⟩)
  go_ret
  exact ⟨rfl, below1 hb1⟩
set_option maxRecDepth 100000 in
set_option maxHeartbeats 1000000 in
theorem rc_other (k : Nat) (x1 : ¬ k = 1) (x2 : ¬ k = 2) (x3 : ¬ k = 3) (x7 : ¬ k = 7) (x10 : ¬ k = 10) (x11 : ¬ k = 11) (x4 : ¬ k = 4) (x5 : ¬ k = 5) (x13 : ¬ k = 13) (x14 : ¬ k = 14) (x15 : ¬ k = 15) (x32 : ¬ k = 32) (x16 : ¬ k = 16) (x17 : ¬ k = 17) (x18 : ¬ k = 18) (x21 : ¬ k = 21) (x22 : ¬ k = 22) (x27 : ¬ k = 27) (x28 : ¬ k = 28) (x29 : ¬ k = 29) (x30 : ¬ k = 30) (x31 : ¬ k = 31) (x35 : ¬ k = 35) (x36 : ¬ k = 36) (x23 : ¬ k = 23) (x33 : ¬ k = 33) (x34 : ¬ k = 34) (p n : Int) (s : List UInt8) (a0 : Option Addr) (m0 cap0 : Nat) (ks : List Nat) (a : Option Addr) (cap : Nat) (w : World) (hK : KRow w a ks) (h3 : ks.length ≤ 20000) (hk : ∀ i d : Nat, ks[i]? = some d → d ≤ 255) :
    Calls Try.prog 64 #[ndV ⟨k, p, n, s⟩ a0 m0 cap0, .slice a ks.length cap] w fun e w' => e = .returned (.bool (decide (ks.length = 0))) ∧ Below w.heap.size w w' := by
  have hB : ∀ o, Below w.heap.size w (w.alloc o) := fun o => belA (Below.refl _ _)
  have A1 := At.new w (Ndo ⟨k, p, n, s⟩ a0 m0 cap0)
  obtain ⟨c0, c1, c2, c3, c4, cf⟩ := A1.nd
  clear A1
  have hK1 := hK.below (hB (Ndo ⟨k, p, n, s⟩ a0 m0 cap0))
  have y1 : ((k : Int) == 1) = false := by simpa using (by omega : ¬ (k : Int) = 1)
  have y2 : ((k : Int) == 2) = false := by simpa using (by omega : ¬ (k : Int) = 2)
  have y3 : ((k : Int) == 3) = false := by simpa using (by omega : ¬ (k : Int) = 3)
  have y7 : ((k : Int) == 7) = false := by simpa using (by omega : ¬ (k : Int) = 7)
  have y10 : ((k : Int) == 10) = false := by simpa using (by omega : ¬ (k : Int) = 10)
  have y11 : ((k : Int) == 11) = false := by simpa using (by omega : ¬ (k : Int) = 11)
  have y4 : ((k : Int) == 4) = false := by simpa using (by omega : ¬ (k : Int) = 4)
  have y5 : ((k : Int) == 5) = false := by simpa using (by omega : ¬ (k : Int) = 5)
  have y13 : ((k : Int) == 13) = false := by simpa using (by omega : ¬ (k : Int) = 13)
  have y14 : ((k : Int) == 14) = false := by simpa using (by omega : ¬ (k : Int) = 14)
  have y15 : ((k : Int) == 15) = false := by simpa using (by omega : ¬ (k : Int) = 15)
  have y32 : ((k : Int) == 32) = false := by simpa using (by omega : ¬ (k : Int) = 32)
  have y16 : ((k : Int) == 16) = false := by simpa using (by omega : ¬ (k : Int) = 16)
  have y17 : ((k : Int) == 17) = false := by simpa using (by omega : ¬ (k : Int) = 17)
  have y18 : ((k : Int) == 18) = false := by simpa using (by omega : ¬ (k : Int) = 18)
  have y21 : ((k : Int) == 21) = false := by simpa using (by omega : ¬ (k : Int) = 21)
  have y22 : ((k : Int) == 22) = false := by simpa using (by omega : ¬ (k : Int) = 22)
  have y27 : ((k : Int) == 27) = false := by simpa using (by omega : ¬ (k : Int) = 27)
  have y28 : ((k : Int) == 28) = false := by simpa using (by omega : ¬ (k : Int) = 28)
  have y29 : ((k : Int) == 29) = false := by simpa using (by omega : ¬ (k : Int) = 29)
  have y30 : ((k : Int) == 30) = false := by simpa using (by omega : ¬ (k : Int) = 30)
  have y31 : ((k : Int) == 31) = false := by simpa using (by omega : ¬ (k : Int) = 31)
  have y35 : ((k : Int) == 35) = false := by simpa using (by omega : ¬ (k : Int) = 35)
  have y36 : ((k : Int) == 36) = false := by simpa using (by omega : ¬ (k : Int) = 36)
  have y23 : ((k : Int) == 23) = false := by simpa using (by omega : ¬ (k : Int) = 23)
  have y33 : ((k : Int) == 33) = false := by simpa using (by omega : ¬ (k : Int) = 33)
  have y34 : ((k : Int) == 34) = false := by simpa using (by omega : ¬ (k : Int) = 34)
  by_cases h0 : ks.length = 0
  · rw [decide_eq_true h0]
    have g0 : ((ks.length : Int) == 0) = true := by simpa using (by omega : (ks.length : Int) = 0)
    go_enter Try.func64, Try.ntmps64
    go_wp2
    go_ret
    exact ⟨ret_bool (by first | rfl | simp_all), hB _⟩
  · rw [decide_eq_false h0]
    have g0 : ((ks.length : Int) == 0) = false := by simpa using (by omega : ¬ (ks.length : Int) = 0)
    go_enter Try.func64, Try.ntmps64
    go_wp2
    go_ret
    exact ⟨ret_bool (by first | rfl | simp_all), hB _⟩
end Go.Proofs.Ytkidcmglidnaoaa
