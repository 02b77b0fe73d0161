import Derived.Test.YtkidcmglidnaoaaSk
namespace Go.Proofs.Ytkidcmglidnaoaa
open Go.RowKit Go.Shelf
set_option linter.unusedVariables false
set_option linter.unusedSimpArgs false
set_option maxRecDepth 100000 in
set_option maxHeartbeats 4000000 in
theorem rcheck_any (T : List Nd) (a : Option Addr) (cap : Nat) (w : World) (hT : TAt w a T) (hS : Sm T) :
    Calls Try.prog 13 #[trV a T.length cap] w fun e w' => (∃ n v : Int, e = .returned (.tuple #[.int .i64 n, .int .i64 v]) ∧ Ck rok T v) ∧ Below w.heap.size w w' := by
  by_cases h0 : T = []
  · subst h0
    have A1 := At.new w (Tro a 0 cap)
    obtain ⟨c0, f0⟩ := A1.one
    have hB1 : Below w.heap.size w (w.alloc (Tro a 0 cap)) := belA (Below.refl _ _)
    show Calls Try.prog 13 #[trV a 0 cap] w _
    go_enter Try.func13, Try.ntmps13
    go_wp2
    go_ret2
    exact ⟨⟨_, 30, rfl, .inl ⟨rfl, rfl⟩⟩, hB1⟩
  · by_cases hl : 16384 < T.length
    · have A1 := At.new w (Tro a T.length cap)
      obtain ⟨c0, f0⟩ := A1.one
      have hB1 : Below w.heap.size w (w.alloc (Tro a T.length cap)) := belA (Below.refl _ _)
      have z1 : ((T.length : Int) == 0) = false := by simpa using (by omega : ¬ (T.length : Int) = 0)
      have z2 : (16384 : Int) < (T.length : Int) := by omega
      have z3 : (T.length == 0) = false := by simpa using (by omega : ¬ T.length = 0)
      go_enter Try.func13, Try.ntmps13
      go_wp2
      go_ret2
      exact ⟨⟨_, 3, rfl, .inr (.inl ⟨hl, rfl⟩)⟩, hB1⟩
    · exact rcheck_mid T a cap w hT hS h0 (by omega)
set_option maxRecDepth 100000 in
set_option maxHeartbeats 4000000 in
theorem rmay_any (T : List Nd) (a : Option Addr) (cap : Nat) (w : World) (hT : TAt w a T) (hS : Sm T) :
    Calls Try.prog 48 #[trV a T.length cap] w fun e w' => (∃ b : Bool, e = .returned (.bool b) ∧ (b = true ↔ Mayb rok T)) ∧ Below w.heap.size w w' := by
  have A1 := At.new w (Tro a T.length cap)
  obtain ⟨c0, f0⟩ := A1.one
  have hB1 : Below w.heap.size w (w.alloc (Tro a T.length cap)) := belA (Below.refl _ _)
  have HC : Hid (∀ W, Below w.heap.size w W → Calls Try.prog 13 #[trV a T.length cap] W fun e w' => (∃ n v : Int, e = .returned (.tuple #[.int .i64 n, .int .i64 v]) ∧ Ck rok T v) ∧ Below W.heap.size W w') := fun W hW => rcheck_any T a cap W (hT.below hW) hS
  go_enter Try.func48, Try.ntmps48
  go_wp2_with (go_at_call 13; refine (HC.out _ hB1).mono ?_; rintro e w1 ⟨⟨n, v, rfl, hck⟩, hb1⟩; have HCK : Hid (Ck rok T v) := hck; clear hck)
  go_ret
  refine ⟨⟨v == 0, rfl, ?_⟩, below_aft hB1 hb1⟩
  rw [← HCK.out.may]
  simp
end Go.Proofs.Ytkidcmglidnaoaa
namespace Go.Proofs.Ytkidcmglidnaoaa
open Go.RowKit Go.Shelf
set_option linter.unusedVariables false
set_option linter.unusedSimpArgs false
theorem kex {d : Nat} (h : d ≤ 37) : kExpr d = kExprR d := by
  unfold kExpr kExprR
  rw [decide_eq_decide]
  omega
theorem turn_e1 {ks : List Nat} (h : ∀ d ∈ ks, d ≤ 37) : turn ks [kExpr] = turn ks [kExprR] := by
  match ks, h with
  | [], _ => rfl
  | a :: ks, h => simp only [turn]; rw [kex (h a (by simp))]
theorem turn_e (Ps : List (Nat → Bool)) {ks : List Nat} (h : ∀ d ∈ ks, d ≤ 37) : turn ks (kExpr :: Ps) = turn ks (kExprR :: Ps) := by
  match ks, h with
  | [], _ => rfl
  | a :: ks, h => simp only [turn]; rw [kex (h a (by simp))]
theorem turn_pe (P : Nat → Bool) {ks : List Nat} (h : ∀ d ∈ ks, d ≤ 37) : turn ks [P, kExpr] = turn ks [P, kExprR] := by
  match ks, h with
  | [], _ => rfl
  | a :: ks, h => simp only [turn]; rw [turn_e1 (fun d hd => h d (by simp [hd]))]
theorem turn_else (P Q : Nat → Bool) (ks : List Nat) : turn ks [P, Q, kElse] = (turn ks [P, Q, kIs 13] || turn ks [P, Q, kIs 16]) := by
  match ks with
  | [] => rfl
  | [a] => simp [turn]
  | [a, b] => simp [turn]
  | a :: b :: c :: ks =>
    have hc : kElse c = (kIs 13 c || kIs 16 c) := by
      unfold kElse kIs
      rw [Bool.eq_iff_iff]
      simp
    simp only [turn, hc]
    cases P a <;> cases Q b <;> cases kIs 13 c <;> cases kIs 16 c <;> cases ks <;> rfl
theorem all_e {ks : List Nat} (h : ∀ d ∈ ks, d ≤ 37) : ks.all kExpr = ks.all kExprR := by
  rw [Bool.eq_iff_iff, List.all_eq_true, List.all_eq_true]
  exact ⟨fun g d hd => by rw [← kex (h d hd)]; exact g d hd, fun g d hd => by rw [kex (h d hd)]; exact g d hd⟩
/-- What the code asks of a node's children and what the reference asks are the same, where the kinds are kinds. -/
theorem cf_rc {k : Nat} {n : Int} {ks : List Nat} (h1 : 1 ≤ k) (h2 : k ≤ 37) (h : ∀ d ∈ ks, d ≤ 37) : cfB k n ks = rcB k n ks := by
  unfold cfB rcB
  have e1 : letB n ks = letR n ks := by unfold letB letR; rw [turn_e1 h, turn_pe kType h]
  have e2 : ifB n ks = ifR n ks := by unfold ifB ifR; rw [turn_e [kIs 13] h, turn_else, turn_e _ h, turn_e _ h]
  rw [e1, e2, turn_e [kIs 13] h, turn_e [kExpr] h, turn_pe kExprR h, turn_e1 h, all_e h]
  rcases kind_cases k with rfl | rfl | rfl | rfl | rfl | rfl | rfl | rfl | rfl | rfl | rfl | rfl | rfl | rfl | rfl | rfl | rfl | rfl | rfl | rfl | rfl | rfl | rfl | rfl | rfl | rfl | rfl | rfl | rfl | rfl | rfl | rfl | rfl | rfl | rfl | rfl | rfl | rfl | h38 <;> first | rfl | omega
theorem okP_k {x : Nx} {ks : List Nat} (h : okP x ks = true) : 1 ≤ x.k ∧ x.k ≤ 37 := by
  unfold okP at h
  simp only [Bool.and_eq_true] at h
  have h := h.2
  unfold cfB at h
  apply Classical.byContradiction
  intro hk
  rw [if_neg (by omega), if_neg (by omega), if_neg (by omega), if_neg (by omega), if_neg (by omega), if_neg (by omega), if_neg (by omega), if_neg (by omega), if_neg (by omega), if_neg (by omega), if_neg (by omega), if_neg (by omega), if_neg (by omega), if_neg (by omega), if_neg (by omega), if_neg (by omega)] at h
  cases h
theorem rok_k {x : Nx} {ks : List Nat} (h : rok x ks = true) : 1 ≤ x.k ∧ x.k ≤ 37 := by
  unfold rok fdB at h
  simp only [Bool.and_eq_true, decide_eq_true_eq] at h
  exact h.1.2
theorem ok_kinds {ok : Nx → List Nat → Bool} (hok : ∀ x ks, ok x ks = true → x.k ≤ 37) (f : Fo) : f.all ok = true → ∀ d ∈ f.kinds, d ≤ 37 := by
  induction f with
  | nil => intro _ d h; simp [Fo.kinds] at h
  | cons x c r ihc ihr =>
    intro h d hd
    simp only [Fo.all, Bool.and_eq_true] at h
    simp only [Fo.kinds, List.mem_cons] at hd
    rcases hd with rfl | hd
    · exact hok x _ h.1.1
    · exact ihr h.2 d hd
theorem okP_rok {x : Nx} {ks : List Nat} (h : ∀ d ∈ ks, d ≤ 37) : okP x ks = true ↔ rok x ks = true := by
  constructor
  · intro g
    have hk := okP_k g
    unfold okP at g
    unfold rok fdB
    simp only [Bool.and_eq_true] at g ⊢
    rw [← cf_rc hk.1 hk.2 h]
    exact ⟨⟨⟨⟨g.1.1.2, g.1.2⟩, g.1.1.1⟩, decide_eq_true hk⟩, g.2⟩
  · intro g
    have hk := rok_k g
    unfold rok fdB at g
    unfold okP
    simp only [Bool.and_eq_true] at g ⊢
    rw [cf_rc hk.1 hk.2 h]
    exact ⟨⟨⟨g.1.1.2, g.1.1.1.1⟩, g.1.1.1.2⟩, g.2⟩
theorem all_same (f : Fo) : f.all okP = true ↔ f.all rok = true := by
  induction f with
  | nil => simp [Fo.all]
  | cons x c r ihc ihr =>
    simp only [Fo.all, Bool.and_eq_true, ihr]
    constructor
    · rintro ⟨⟨h1, h2⟩, h3⟩
      exact ⟨⟨(okP_rok (ok_kinds (fun x ks g => (okP_k g).2) c h2)).1 h1, ihc.1 h2⟩, h3⟩
    · rintro ⟨⟨h1, h2⟩, h3⟩
      exact ⟨⟨(okP_rok (ok_kinds (fun x ks g => (rok_k g).2) c h2)).2 h1, ihc.2 h2⟩, h3⟩
theorem mayb_same (T : List Nd) : Mayb rok T ↔ Mayb okP T := by
  unfold Mayb
  constructor
  · rintro ⟨x, c, h1, h2, h3⟩; exact ⟨x, c, h1, (all_same _).2 h2, h3⟩
  · rintro ⟨x, c, h1, h2, h3⟩; exact ⟨x, c, h1, (all_same _).1 h2, h3⟩
theorem rmay_yes {T : List Nd} {a : Option Addr} {cap : Nat} {w : World} (hT : TAt w a T) (hS : Sm T) (h : Mayb okP T) :
    Calls Try.prog 48 #[trV a T.length cap] w fun e w' => e = .returned (.bool true) ∧ Below w.heap.size w w' := by
  refine (rmay_any T a cap w hT hS).mono ?_
  rintro e w' ⟨⟨b, rfl, hb⟩, hB⟩
  rw [hb.2 ((mayb_same T).2 h)]
  exact ⟨rfl, hB⟩
theorem rmay_no {T : List Nd} {a : Option Addr} {cap : Nat} {w : World} (hT : TAt w a T) (hS : Sm T) (h : ¬ Mayb okP T) :
    Calls Try.prog 48 #[trV a T.length cap] w fun e w' => e = .returned (.bool false) ∧ Below w.heap.size w w' := by
  refine (rmay_any T a cap w hT hS).mono ?_
  rintro e w' ⟨⟨b, rfl, hb⟩, hB⟩
  cases b with
  | false => exact ⟨rfl, hB⟩
  | true => exact absurd ((mayb_same T).1 (hb.1 rfl)) h
end Go.Proofs.Ytkidcmglidnaoaa
