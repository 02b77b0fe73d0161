import Derived.Test.YtjchbclkdbojpaaDoorC
namespace Go.Proofs.YtjchbclkdbojpaaDoor
open Go.RowKit
set_option linter.unusedVariables false
set_option linter.unusedSimpArgs false

set_option maxRecDepth 100000 in
theorem mayAmong_any (n : Int) (t : Ty) (f : Fv) (w : World) (h : TyAt w f t) : Calls Tryd.prog 55 #[.int .i64 n, f.v] w fun e w' => e = .returned (.bool (mayB n 48 t)) ∧ Below w.heap.size w w' := by
  have C : Hid (∀ w', Below w.heap.size w w' → Calls Tryd.prog 82 #[.int .i64 1, .int .i64 n, f.v] w' fun e w1 => e = .returned (.bool (mayB n 48 t)) ∧ Below w'.heap.size w' w1) := fun w' hb => may_all n 48 (by omega) (by omega) t f w' 1 (by omega) (h.bel hb)
  obtain ⟨rr, hrr⟩ : ∃ rr, rr = mayB n 48 t := ⟨_, rfl⟩
  rw [← hrr] at C ⊢
  clear hrr h
  go_enter Tryd.func55, Tryd.ntmps55
  go_wp2_with (go_at_call 82; refine (C.out _ (belA (Below.refl _ _))).mono ?_; rintro e w1 ⟨rfl, hb1⟩)
  go_ret
  exact ⟨rfl, below1 hb1⟩
abbrev isT (t : Ty) : Bool := mayB 32 48 t
set_option maxRecDepth 100000 in
theorem some_any (t : Ty) (f : Fv) (w : World) (h : TyAt w f t) : Calls Tryd.prog 56 #[f.v] w fun e w' => e = .returned (.bool (isT t)) ∧ Below w.heap.size w w' := by
  have C : Hid (∀ w', Below w.heap.size w w' → Calls Tryd.prog 55 #[.int .i64 32, f.v] w' fun e w1 => e = .returned (.bool (isT t)) ∧ Below w'.heap.size w' w1) := fun w' hb => mayAmong_any 32 t f w' (h.bel hb)
  obtain ⟨rr, hrr⟩ : ∃ rr, rr = isT t := ⟨_, rfl⟩
  rw [← hrr] at C ⊢
  clear hrr h
  go_enter Tryd.func56, Tryd.ntmps56
  go_wp2_with (go_at_call 55; refine (C.out _ (belA (Below.refl _ _))).mono ?_; rintro e w1 ⟨rfl, hb1⟩)
  go_ret
  exact ⟨rfl, below1 hb1⟩
def LookC (n : Int) (d : Nat) : Prop := ∀ (t : Ty) (f : Fv) (w : World), TyAt w f t → Calls Tryd.prog 51 #[f.v, .int .i64 n, .int .i64 (d : Int)] w fun e w' => e = .returned (.bool (mayB n d t)) ∧ Below w.heap.size w w'
set_option maxRecDepth 100000 in
theorem look_zero (n : Int) : LookC n 0 := by
  intro t f w h
  obtain ⟨k, m, r, s, of⟩ := t
  obtain ⟨a, cap, rfl⟩ := h.inv
  obtain ⟨q, hq⟩ : ∃ q, q = of.length := ⟨_, rfl⟩
  have hr : mayB n 0 (.mk k m r s of) = false := rfl
  rw [hr]
  show Calls Tryd.prog 51 #[tyV k m r s a of.length cap, .int .i64 n, .int .i64 0] w _
  rw [← hq]
  clear hr hq h
  go_enter Tryd.func51, Tryd.ntmps51
  go_wp2_with fail
  go_ret
  exact ⟨rfl, belA (Below.refl _ _)⟩
set_option maxRecDepth 100000 in
set_option maxHeartbeats 4000000 in
theorem look_step (n : Int) (d : Nat) (hd : d + 1 ≤ 48) (ih : LookC n d) : LookC n (d + 1) := by
  rintro ⟨k, m, r, s, of⟩ f w h
  obtain ⟨a, cap, rfl⟩ := h.inv
  have hres := mayB_succ n d k m r s of
  obtain ⟨q, hq⟩ : ∃ q, q = of.length := ⟨_, rfl⟩
  obtain ⟨D, hD⟩ : ∃ D : Int, D = ((d + 1 : Nat) : Int) := ⟨_, rfl⟩
  have D1 : ¬ D < 1 := by omega
  have D2 : 1 ≤ D := by omega
  have D3 : D ≤ 48 := by omega
  rw [hres]
  show Calls Tryd.prog 51 #[tyV k m r s a of.length cap, .int .i64 n, .int .i64 ((d + 1 : Nat) : Int)] w _
  rw [← hD]
  have one : (∃ g off f' rr, a = some ⟨g, off, none⟩ ∧ q = 1 ∧ inB n d of = rr ∧ C5 w g off f' ∧ Hid (∀ w', Below w.heap.size w w' → Calls Tryd.prog 51 #[f'.v, .int .i64 n, .int .i64 (D - 1)] w' fun e w1 => e = .returned (.bool rr) ∧ Below w'.heap.size w' w1)) ∨ (¬ (q : Int) = 1 ∧ inB n d of = false) := by
    match of, hq, h with
    | [x], hq, h =>
      left
      obtain ⟨g, off, cap', f', e, hc, ht, _⟩ := h.one
      injection e with _ _ _ _ ea en ec
      refine ⟨g, off, f', _, ea, hq, rfl, hc, fun w' hb => ?_⟩
      have := ih x f' w' (ht.bel hb)
      rw [hD, show (((d + 1 : Nat) : Int) - 1) = (d : Int) by omega]
      exact this
    | [], hq, h => right; exact ⟨by simp at hq; omega, rfl⟩
    | x :: y :: r, hq, h => right; exact ⟨by simp at hq; omega, rfl⟩
  rw [← hq]
  clear hres hq h hD hd ih
  by_cases k1 : k = 1
  · subst k1
    simp only [true_or, if_true]
    clear one
    go_enter Tryd.func51, Tryd.ntmps51
    go_wp2_with fail
    all_goals go_ret
    all_goals (refine ⟨ret_bool ?_, belA (Below.refl _ _)⟩)
    all_goals (go_light; simp_all [qz] <;> (intros; omega))
  have kk1 : ¬ ((k : Int) = 1) := fun e => k1 (by omega)
  by_cases k2 : k = 2
  · subst k2
    simp only [or_true, if_true]
    clear one
    go_enter Tryd.func51, Tryd.ntmps51
    go_wp2_with fail
    all_goals go_ret
    all_goals (refine ⟨ret_bool ?_, belA (Below.refl _ _)⟩)
    all_goals (go_light; simp_all [qz] <;> (intros; omega))
  have kk2 : ¬ ((k : Int) = 2) := fun e => k2 (by omega)
  by_cases k3 : k = 3
  · subst k3
    simp only [show ¬ ((3 : Nat) = 1 ∨ (3 : Nat) = 2) from by omega, if_false, if_true]
    rcases one with ⟨g, off, f', rr, rfl, rfl, hi, ⟨hg, c0, c1, c2, c3, c4⟩, B⟩ | ⟨hq, hi⟩
    · rw [hi]
      clear hi
      go_enter Tryd.func51, Tryd.ntmps51
      go_wp2_with (go_at_call 51; refine (B.out _ (belA (Below.refl _ _))).mono ?_; rintro e w1 ⟨rfl, hb1⟩)
      all_goals go_ret
      all_goals (refine ⟨ret_bool ?_, by first | exact below1 hb1 | exact belA (Below.refl _ _)⟩)
      all_goals (clear B; go_light; simp_all [qz] <;> (intros; omega))
    · rw [hi]
      clear hi
      go_enter Tryd.func51, Tryd.ntmps51
      go_wp2_with fail
      all_goals go_ret
      all_goals (refine ⟨ret_bool ?_, belA (Below.refl _ _)⟩)
      all_goals (go_light; simp_all [qz] <;> (intros; omega))
  have kk3 : ¬ ((k : Int) = 3) := fun e => k3 (by omega)
  by_cases k4 : k = 4
  · subst k4
    simp only [show ¬ ((4 : Nat) = 1 ∨ (4 : Nat) = 2) from by omega, show ¬ ((4 : Nat) = 3) from by omega, if_false, if_true]
    rcases one with ⟨g, off, f', rr, rfl, rfl, hi, ⟨hg, c0, c1, c2, c3, c4⟩, B⟩ | ⟨hq, hi⟩
    · rw [hi]
      clear hi
      go_enter Tryd.func51, Tryd.ntmps51
      go_wp2_with (go_at_call 51; refine (B.out _ (belA (Below.refl _ _))).mono ?_; rintro e w1 ⟨rfl, hb1⟩)
      all_goals go_ret
      all_goals (refine ⟨ret_bool ?_, by first | exact below1 hb1 | exact belA (Below.refl _ _)⟩)
      all_goals (clear B; go_light; simp_all [qz] <;> (intros; omega))
    · rw [hi]
      clear hi
      go_enter Tryd.func51, Tryd.ntmps51
      go_wp2_with fail
      all_goals go_ret
      all_goals (refine ⟨ret_bool ?_, belA (Below.refl _ _)⟩)
      all_goals (go_light; simp_all [qz] <;> (intros; omega))
  have kk4 : ¬ ((k : Int) = 4) := fun e => k4 (by omega)
  by_cases k5 : k = 5
  · subst k5
    simp only [show ¬ ((5 : Nat) = 1 ∨ (5 : Nat) = 2) from by omega, show ¬ ((5 : Nat) = 3) from by omega, show ¬ ((5 : Nat) = 4) from by omega, if_false, if_true]
    clear one
    go_enter Tryd.func51, Tryd.ntmps51
    go_wp2_with fail
    all_goals go_ret
    all_goals (refine ⟨ret_bool ?_, belA (Below.refl _ _)⟩)
    all_goals (go_light; simp_all [qz] <;> (intros; omega))
  have kk5 : ¬ ((k : Int) = 5) := fun e => k5 (by omega)
  simp only [k1, k2, k3, k4, k5, or_self, if_false]
  clear k1 k2 k3 k4 k5 one
  go_enter Tryd.func51, Tryd.ntmps51
  go_wp2_with fail
  go_ret
  exact ⟨rfl, belA (Below.refl _ _)⟩
theorem look_all (n : Int) : ∀ d, d ≤ 48 → LookC n d
  | 0, _ => look_zero n
  | d + 1, h => look_step n d h (look_all n d (by omega))
set_option maxRecDepth 100000 in
theorem is_any (t : Ty) (f : Fv) (w : World) (h : TyAt w f t) : Calls Tryd.prog 27 #[f.v] w fun e w' => e = .returned (.bool (isT t)) ∧ Below w.heap.size w w' := by
  have C : Hid (∀ w', Below w.heap.size w w' → Calls Tryd.prog 51 #[f.v, .int .i64 32, .int .i64 48] w' fun e w1 => e = .returned (.bool (isT t)) ∧ Below w'.heap.size w' w1) := fun w' hb => look_all 32 48 (by omega) t f w' (h.bel hb)
  obtain ⟨rr, hrr⟩ : ∃ rr, rr = isT t := ⟨_, rfl⟩
  rw [← hrr] at C ⊢
  clear hrr h
  go_enter Tryd.func27, Tryd.ntmps27
  go_wp2_with (go_at_call 51; refine (C.out _ (belA (Below.refl _ _))).mono ?_; rintro e w1 ⟨rfl, hb1⟩)
  go_ret
  exact ⟨rfl, below1 hb1⟩
end Go.Proofs.YtjchbclkdbojpaaDoor
