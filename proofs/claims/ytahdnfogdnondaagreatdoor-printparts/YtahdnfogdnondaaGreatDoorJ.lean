import Derived.Test.YtahdnfogdnondaaGreatDoorI
namespace Go.Proofs.YtahdnfogdnondaaGreatDoor
open Go.RowKit
set_option linter.unusedVariables false
set_option linter.unusedSimpArgs false

theorem cells_one {W : World} {b t : Nat} {u : Value} (h : W.heap[b]? = some (.cells #[u] t)) : W.cell? ⟨b, 0, none⟩ = some u := by simp [World.cell?, h]
theorem cl_one {W : World} {u : Value} {P : Nat → Bool} {t : Nat} (hu : Cl W u P) : ∀ i R, [P][i]? = some R → ∃ x, (W.alloc (.cells #[u] t)).cell? ⟨W.heap.size, i, none⟩ = some x ∧ Cl (W.alloc (.cells #[u] t)) x R := by
  intro i R h
  have hN : (W.alloc (.cells #[u] t)).heap[W.heap.size]? = some (.cells #[u] t) := At.new W (.cells #[u] t)
  match i, h with
  | 0, h => simp at h; subst h; exact ⟨u, cells_one hN, hu.below (belA (Below.refl _ _))⟩
  | i + 1, h => simp at h
theorem cl_two {W : World} {u v : Value} {P Q : Nat → Bool} {t : Nat} (hu : Cl W u P) (hv : Cl W v Q) : ∀ i R, [P, Q][i]? = some R → ∃ x, (W.alloc (.cells #[u, v] t)).cell? ⟨W.heap.size, i, none⟩ = some x ∧ Cl (W.alloc (.cells #[u, v] t)) x R := by
  intro i R h
  have hN : (W.alloc (.cells #[u, v] t)).heap[W.heap.size]? = some (.cells #[u, v] t) := At.new W (.cells #[u, v] t)
  match i, h with
  | 0, h => simp at h; subst h; exact ⟨u, (cells_two hN).1, hu.below (belA (Below.refl _ _))⟩
  | 1, h => simp at h; subst h; exact ⟨v, (cells_two hN).2, hv.below (belA (Below.refl _ _))⟩
  | i + 2, h => simp at h
theorem cl_three {W : World} {u v x : Value} {P Q S : Nat → Bool} {t : Nat} (hu : Cl W u P) (hv : Cl W v Q) (hx : Cl W x S) : ∀ i R, [P, Q, S][i]? = some R → ∃ y, (W.alloc (.cells #[u, v, x] t)).cell? ⟨W.heap.size, i, none⟩ = some y ∧ Cl (W.alloc (.cells #[u, v, x] t)) y R := by
  intro i R h
  have hN : (W.alloc (.cells #[u, v, x] t)).heap[W.heap.size]? = some (.cells #[u, v, x] t) := At.new W (.cells #[u, v, x] t)
  match i, h with
  | 0, h => simp at h; subst h; exact ⟨u, (cells_three hN).1, hu.below (belA (Below.refl _ _))⟩
  | 1, h => simp at h; subst h; exact ⟨v, (cells_three hN).2.1, hv.below (belA (Below.refl _ _))⟩
  | 2, h => simp at h; subst h; exact ⟨x, (cells_three hN).2.2, hx.below (belA (Below.refl _ _))⟩
  | i + 3, h => simp at h
/-- inTurn at a row that was just laid. -/
theorem inTurn_1 (ks : List Nat) (a : Option Addr) (cap : Nat) (W : World) (u : Value) (P : Nat → Bool) (hK : KRow W a ks) (hn : ks.length ≤ 20000) (hu : Cl W u P) (t : Nat) :
    Calls Tryz.prog 135 #[.slice a ks.length cap, .slice (some ⟨W.heap.size, 0, none⟩) 1 1] (W.alloc (.cells #[u] t)) fun e w' => e = .returned (.bool (turn ks [P])) ∧ w' = W.alloc (.cells #[u] t) :=
  inTurn_any ks a cap W.heap.size [P] _ (hK.below (belA (Below.refl _ _))) hn (by simp) (by simp) (cl_one hu)
theorem inTurn_2 (ks : List Nat) (a : Option Addr) (cap : Nat) (W : World) (u v : Value) (P Q : Nat → Bool) (hK : KRow W a ks) (hn : ks.length ≤ 20000) (hu : Cl W u P) (hv : Cl W v Q) (t : Nat) :
    Calls Tryz.prog 135 #[.slice a ks.length cap, .slice (some ⟨W.heap.size, 0, none⟩) 2 2] (W.alloc (.cells #[u, v] t)) fun e w' => e = .returned (.bool (turn ks [P, Q])) ∧ w' = W.alloc (.cells #[u, v] t) :=
  inTurn_any ks a cap W.heap.size [P, Q] _ (hK.below (belA (Below.refl _ _))) hn (by simp) (by simp) (cl_two hu hv)
theorem inTurn_3 (ks : List Nat) (a : Option Addr) (cap : Nat) (W : World) (u v x : Value) (P Q S : Nat → Bool) (hK : KRow W a ks) (hn : ks.length ≤ 20000) (hu : Cl W u P) (hv : Cl W v Q) (hx : Cl W x S) (t : Nat) :
    Calls Tryz.prog 135 #[.slice a ks.length cap, .slice (some ⟨W.heap.size, 0, none⟩) 3 3] (W.alloc (.cells #[u, v, x] t)) fun e w' => e = .returned (.bool (turn ks [P, Q, S])) ∧ w' = W.alloc (.cells #[u, v, x] t) :=
  inTurn_any ks a cap W.heap.size [P, Q, S] _ (hK.below (belA (Below.refl _ _))) hn (by simp) (by simp) (cl_three hu hv hx)
/-- What a let, an if asks of its children. -/
def letB (n : Int) (ks : List Nat) : Bool := if n = 1 then turn ks [kType] else if n = 2 then turn ks [kExpr] else turn ks [kType, kExpr]
def ifB (n : Int) (ks : List Nat) : Bool := if n = 0 then turn ks [kExpr, kIs 13] else turn ks [kExpr, kIs 13, kElse]
set_option maxRecDepth 100000 in
set_option maxHeartbeats 2000000 in
theorem letFits_any (n : Int) (ks : List Nat) (a : Option Addr) (cap : Nat) (w : World) (hK : KRow w a ks) (hn : ks.length ≤ 20000) :
    Calls Tryz.prog 138 #[.int .i64 n, .slice a ks.length cap] w fun e w' => e = .returned (.bool (letB n ks)) ∧ Below w.heap.size w w' := by
  by_cases h1 : n = 1
  · subst h1
    rw [show letB 1 ks = turn ks [kType] from rfl]
    go_enter Tryz.func138, Tryz.ntmps138
    go_wp2_with (go_at_call 135; refine (inTurn_1 ks a cap w _ _ hK hn .type _).mono ?_; rintro e w1 ⟨rfl, rfl⟩)
    go_ret
    exact ⟨rfl, belA (Below.refl _ _)⟩
  · have g1 : (n == 1) = false := by simpa using h1
    by_cases h2 : n = 2
    · subst h2
      rw [show letB 2 ks = turn ks [kExpr] from rfl]
      go_enter Tryz.func138, Tryz.ntmps138
      go_wp2_with (go_at_call 135; refine (inTurn_1 ks a cap w _ _ hK hn .expr _).mono ?_; rintro e w1 ⟨rfl, rfl⟩)
      go_ret
      exact ⟨rfl, belA (Below.refl _ _)⟩
    · have g2 : (n == 2) = false := by simpa using h2
      rw [show letB n ks = turn ks [kType, kExpr] by unfold letB; rw [if_neg h1, if_neg h2]]
      go_enter Tryz.func138, Tryz.ntmps138
      go_wp2_with (go_at_call 135; refine (inTurn_2 ks a cap w _ _ _ _ hK hn .type .expr _).mono ?_; rintro e w1 ⟨rfl, rfl⟩)
      go_ret
      exact ⟨rfl, belA (Below.refl _ _)⟩
set_option maxRecDepth 100000 in
set_option maxHeartbeats 2000000 in
theorem ifFits_any (n : Int) (ks : List Nat) (a : Option Addr) (cap : Nat) (w : World) (hK : KRow w a ks) (hn : ks.length ≤ 20000) :
    Calls Tryz.prog 139 #[.int .i64 n, .slice a ks.length cap] w fun e w' => e = .returned (.bool (ifB n ks)) ∧ Below w.heap.size w w' := by
  by_cases h1 : n = 0
  · subst h1
    rw [show ifB 0 ks = turn ks [kExpr, kIs 13] from rfl]
    go_enter Tryz.func139, Tryz.ntmps139
    go_wp2_with (first
      | (go_at_call 133; refine (is_any 13 _).mono ?_; rintro e w1 ⟨b1, rfl, hcl, hb1⟩)
      | (go_at_call 135; refine (inTurn_2 ks a cap w1 _ _ _ _ (hK.below hb1) hn .expr hcl _).mono ?_; rintro e w2 ⟨rfl, hw2⟩; subst hw2))
    go_ret
    exact ⟨rfl, belA hb1⟩
  · have g1 : (n == 0) = false := by simpa using h1
    rw [show ifB n ks = turn ks [kExpr, kIs 13, kElse] by unfold ifB; rw [if_neg h1]]
    go_enter Tryz.func139, Tryz.ntmps139
    go_wp2_with (first
      | (go_at_call 133; refine (is_any 13 _).mono ?_; rintro e w1 ⟨b1, rfl, hcl, hb1⟩)
      | (go_at_call 135; refine (inTurn_3 ks a cap w1 _ _ _ _ _ _ (hK.below hb1) hn .expr hcl .els _).mono ?_; rintro e w2 ⟨rfl, hw2⟩; subst hw2))
    go_ret
    exact ⟨rfl, belA hb1⟩
/-- The signs between two. -/
def sgs : List (List UInt8) := [[43], [45], [42], [47], [37], [61, 61], [33, 61], [60], [60, 61], [62], [62, 61], [38, 38], [124, 124]]
def isS (s : ByteArray) : Bool := sgs.any (s.toList == ·)
set_option maxRecDepth 100000 in
set_option maxHeartbeats 2000000 in
theorem isSign_any (s : ByteArray) (w : World) : Calls Tryz.prog 130 #[.string s] w fun e w' => e = .returned (.bool (isS s)) ∧ w' = w := by
  go_enter Tryz.func130, Tryz.ntmps130
  go_wp2
  all_goals go_ret
  all_goals refine ⟨ret_bool ?_, rfl⟩
  all_goals (simp only [isS, sgs, List.any_cons, List.any_nil]; simp_all)
set_option maxRecDepth 100000 in
set_option maxHeartbeats 2000000 in
theorem rsign_any (s : ByteArray) (w : World) : Calls Tryz.prog 107 #[.string s] w fun e w' => e = .returned (.bool (isS s)) ∧ w' = w := by
  go_enter Tryz.func107, Tryz.ntmps107
  go_wp2
  all_goals go_ret
  all_goals refine ⟨ret_bool ?_, rfl⟩
  all_goals (simp only [isS, sgs, List.any_cons, List.any_nil]; simp_all)
/-- Names, types' names, empty texts. -/
def nmS (s : List UInt8) : Bool := nmB s && !isK (str s)
def tnS (s : List UInt8) : Bool := tnB s && !isBx (str s)
/-- What a kind asks of its text. -/
def emS (s : List UInt8) : Bool := (str s).toList.isEmpty
def txB (k : Nat) (s : List UInt8) : Bool :=
  if k = 3 ∨ k = 7 ∨ k = 4 ∨ k = 5 ∨ k = 6 ∨ k = 14 ∨ k = 26 ∨ k = 27 ∨ k = 33 ∨ k = 35 then nmS s
  else if k = 2 ∨ k = 12 ∨ k = 34 then tnS s
  else if k = 11 then emS s || nmS s
  else if k = 32 then isS (str s)
  else emS s
/-- What a kind asks of its number. -/
def nuB (k : Nat) (n : Int) : Bool :=
  if k = 4 then decide (0 ≤ n) && decide (n ≤ 8)
  else if k = 14 then decide (1 ≤ n) && decide (n ≤ 3)
  else if k = 11 ∨ k = 16 ∨ k = 25 ∨ k = 29 then decide (n = 0) || decide (n = 1)
  else if k = 24 then decide (0 ≤ n)
  else decide (n = 0)
theorem kind_cases (k : Nat) : k = 0 ∨ k = 1 ∨ k = 2 ∨ k = 3 ∨ k = 4 ∨ k = 5 ∨ k = 6 ∨ k = 7 ∨ k = 8 ∨ k = 9 ∨ k = 10 ∨ k = 11 ∨ k = 12 ∨ k = 13 ∨ k = 14 ∨ k = 15 ∨ k = 16 ∨ k = 17 ∨ k = 18 ∨ k = 19 ∨ k = 20 ∨ k = 21 ∨ k = 22 ∨ k = 23 ∨ k = 24 ∨ k = 25 ∨ k = 26 ∨ k = 27 ∨ k = 28 ∨ k = 29 ∨ k = 30 ∨ k = 31 ∨ k = 32 ∨ k = 33 ∨ k = 34 ∨ k = 35 ∨ k = 36 ∨ k = 37 ∨ 38 ≤ k := by omega
end Go.Proofs.YtahdnfogdnondaaGreatDoor
