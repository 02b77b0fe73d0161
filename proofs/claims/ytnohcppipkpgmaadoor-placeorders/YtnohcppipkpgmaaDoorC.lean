import Derived.Test.YtnohcppipkpgmaaDoorB
namespace Go.Proofs.YtnohcppipkpgmaaDoor
open Go.RowKit
set_option linter.unusedVariables false
set_option linter.unusedSimpArgs false

/-- What stands within a type. -/
def inB (n : Int) (d : Nat) (of : List Ty) : Bool := match of with | [x] => mayB n d x | _ => false
theorem mayB_succ (n : Int) (d k : Nat) (m : Bool) (r s : Int) (of : List Ty) : mayB n (d + 1) (.mk k m r s of) = if k = 1 ∨ k = 2 then !m && decide (r = 0) && decide (s = 0) && decide ((of.length : Int) = 0)
    else if k = 3 then !m && decide (r = 0) && decide (s = 0) && inB n d of
    else if k = 4 then decide (-1 ≤ r) && decide (s = 0) && inB n d of
    else if k = 5 then !m && decide (r = 0) && decide (0 ≤ s) && decide (s < n) && decide ((of.length : Int) = 0)
    else false := by
  have e0 : decide (of.length = 0) = decide ((of.length : Int) = 0) := by apply decide_eq_decide.2; omega
  rw [← e0]
  match of with
  | [] => simp only [mayB, inB]
  | [x] => simp only [mayB, inB]
  | x :: y :: r => simp only [mayB, inB]
theorem qz (q : Nat) : ((q : Int) == 0) = decide (q = 0) := by
  rw [show ((q : Int) == 0) = decide ((q : Int) = 0) from rfl]
  apply decide_eq_decide.2
  omega
def MayC (n : Int) (d : Nat) : Prop := ∀ (t : Ty) (f : Fv) (w : World) (deep : Int), deep = 49 - d → TyAt w f t → Calls Tryd.prog 84 #[.int .i64 deep, .int .i64 n, f.v] w fun e w' => e = .returned (.bool (mayB n d t)) ∧ Below w.heap.size w w'
set_option maxRecDepth 100000 in
set_option maxHeartbeats 1000000 in
theorem below_of (n : Int) (d : Nat) (hd : d ≤ 48) (ih : 1 ≤ d → MayC n d) (k : Nat) (m : Bool) (r s : Int) (a : Option Addr) (cap : Nat) (of : List Ty) (w : World) (deep : Int) (hdeep : deep = 48 - d) (h : TyAt w ⟨k, m, r, s, a, of.length, cap⟩ (.mk k m r s of)) :
    Calls Tryd.prog 94 #[.int .i64 deep, .int .i64 n, .slice a of.length cap] w fun e w' => e = .returned (.bool (inB n d of)) ∧ Below w.heap.size w w' := by
  match of, h with
  | [x], h =>
    obtain ⟨g, off, cap', f', e, hc, ht, _⟩ := h.one
    injection e with _ _ _ _ ea en ec
    subst ea ec
    rcases Nat.eq_zero_or_pos d with h0 | h0
    · subst h0
      have hdd : deep = 48 := by omega
      subst hdd
      clear hdeep ih hd h ht en hc
      go_enter Tryd.func94, Tryd.ntmps94
      go_wp2_with fail
      go_ret
      exact ⟨rfl, Below.refl _ _⟩
    · obtain ⟨rr, hrr⟩ : ∃ rr, rr = inB n d [x] := ⟨_, rfl⟩
      rw [← hrr]
      have IH : Hid (Calls Tryd.prog 84 #[.int .i64 (deep + 1), .int .i64 n, f'.v] w fun e w' => e = .returned (.bool rr) ∧ Below w.heap.size w w') := by
        have := ih h0 x f' w (deep + 1) (by omega) ht
        rw [hrr]
        exact this
      have d1 : deep < 48 := by omega
      have d0 : 0 ≤ deep := by omega
      clear hrr ih hdeep hd h0 h ht en
      obtain ⟨hg, c0, c1, c2, c3, c4⟩ := hc
      go_enter Tryd.func94, Tryd.ntmps94
      go_wp2_with (go_at_call 84; refine IH.out.mono ?_; rintro e w' ⟨rfl, hb⟩)
      go_ret
      exact ⟨rfl, hb⟩
  | [], h =>
    clear hdeep ih hd h
    by_cases hl : deep < 48
    · go_enter Tryd.func94, Tryd.ntmps94
      go_wp2_with fail
      go_ret
      exact ⟨rfl, Below.refl _ _⟩
    · go_enter Tryd.func94, Tryd.ntmps94
      go_wp2_with fail
      go_ret
      exact ⟨rfl, Below.refl _ _⟩
  | x :: y :: of, h =>
    have hn : ¬ (((x :: y :: of).length : Nat) : Int) = 1 := by simp; omega
    obtain ⟨q, hq⟩ : ∃ q, q = (x :: y :: of).length := ⟨_, rfl⟩
    rw [← hq] at hn
    rw [← hq]
    have hi : inB n d (x :: y :: of) = false := rfl
    rw [hi]
    clear hq h hdeep ih hd hi
    by_cases hl : deep < 48
    · go_enter Tryd.func94, Tryd.ntmps94
      go_wp2_with fail
      go_ret
      exact ⟨rfl, Below.refl _ _⟩
    · go_enter Tryd.func94, Tryd.ntmps94
      go_wp2_with fail
      go_ret
      exact ⟨rfl, Below.refl _ _⟩
/-- A type's parts. -/
theorem TyAt.inv {w : World} {f : Fv} {k : Nat} {m : Bool} {r s : Int} {of : List Ty} (h : TyAt w f (.mk k m r s of)) : ∃ a cap, f = ⟨k, m, r, s, a, of.length, cap⟩ := by
  cases h with
  | mk k m r s a n cap of V hn hl hk r0 r1 s0 s1 h1 h2 => exact ⟨a, cap, by rw [hn]⟩
theorem kind_cast {k j : Nat} (h : ¬ k = j) : ¬ ((k : Int) = (j : Int)) := fun e => h (by omega)
set_option maxRecDepth 100000 in
set_option maxHeartbeats 4000000 in
theorem may_step (n : Int) (d : Nat) (hd : d + 1 ≤ 48) (ih : 1 ≤ d → MayC n d) : MayC n (d + 1) := by
  rintro ⟨k, m, r, s, of⟩ f w deep hdeep h
  obtain ⟨a, cap, rfl⟩ := h.inv
  have B : Hid (∀ w', Below w.heap.size w w' → Calls Tryd.prog 94 #[.int .i64 deep, .int .i64 n, .slice a of.length cap] w' fun e w1 => e = .returned (.bool (inB n d of)) ∧ Below w'.heap.size w' w1) :=
    fun w' hb => below_of n d (by omega) ih k m r s a cap of w' deep (by omega) (h.bel hb)
  obtain ⟨q, hq⟩ : ∃ q, q = of.length := ⟨_, rfl⟩
  obtain ⟨ib, hib⟩ : ∃ ib, ib = inB n d of := ⟨_, rfl⟩
  rw [← hq, ← hib] at B
  have hres := mayB_succ n d k m r s of
  rw [← hq, ← hib] at hres
  rw [hres]
  show Calls Tryd.prog 84 #[.int .i64 deep, .int .i64 n, tyV k m r s a of.length cap] w _
  rw [← hq]
  clear hres hib hq h hdeep hd ih
  by_cases k1 : k = 1
  · subst k1
    simp only [true_or, if_true]
    go_enter Tryd.func84, Tryd.ntmps84
    go_wp2_with fail
    all_goals go_ret
    all_goals (refine ⟨ret_bool ?_, belA (Below.refl _ _)⟩)
    all_goals (clear B; go_light; simp_all [qz] <;> (intros; omega))
  have kk1 : ¬ ((k : Int) = 1) := fun e => k1 (by omega)
  by_cases k2 : k = 2
  · subst k2
    simp only [or_true, if_true]
    go_enter Tryd.func84, Tryd.ntmps84
    go_wp2_with fail
    all_goals go_ret
    all_goals (refine ⟨ret_bool ?_, belA (Below.refl _ _)⟩)
    all_goals (clear B; go_light; simp_all [qz] <;> (intros; omega))
  have kk2 : ¬ ((k : Int) = 2) := fun e => k2 (by omega)
  by_cases k3 : k = 3
  · subst k3
    simp only [show ¬ ((3 : Nat) = 1 ∨ (3 : Nat) = 2) from by omega, if_false, if_true]
    go_enter Tryd.func84, Tryd.ntmps84
    go_wp2_with (go_at_call 94; refine (B.out _ (belA (Below.refl _ _))).mono ?_; rintro e w1 ⟨rfl, hb1⟩)
    all_goals go_ret
    all_goals (refine ⟨ret_bool ?_, by first | exact below1 hb1 | exact belA (Below.refl _ _)⟩)
    all_goals (clear B; go_light; simp_all [qz] <;> (intros; omega))
  have kk3 : ¬ ((k : Int) = 3) := fun e => k3 (by omega)
  by_cases k4 : k = 4
  · subst k4
    simp only [show ¬ ((4 : Nat) = 1 ∨ (4 : Nat) = 2) from by omega, show ¬ ((4 : Nat) = 3) from by omega, if_false, if_true]
    go_enter Tryd.func84, Tryd.ntmps84
    go_wp2_with (go_at_call 94; refine (B.out _ (belA (Below.refl _ _))).mono ?_; rintro e w1 ⟨rfl, hb1⟩)
    all_goals go_ret
    all_goals (refine ⟨ret_bool ?_, by first | exact below1 hb1 | exact belA (Below.refl _ _)⟩)
    all_goals (clear B; go_light; simp_all [qz] <;> (intros; omega))
  have kk4 : ¬ ((k : Int) = 4) := fun e => k4 (by omega)
  by_cases k5 : k = 5
  · subst k5
    simp only [show ¬ ((5 : Nat) = 1 ∨ (5 : Nat) = 2) from by omega, show ¬ ((5 : Nat) = 3) from by omega, show ¬ ((5 : Nat) = 4) from by omega, if_false, if_true]
    go_enter Tryd.func84, Tryd.ntmps84
    go_wp2_with fail
    all_goals go_ret
    all_goals (refine ⟨ret_bool ?_, belA (Below.refl _ _)⟩)
    all_goals (clear B; go_light; simp_all [qz] <;> (intros; omega))
  have kk5 : ¬ ((k : Int) = 5) := fun e => k5 (by omega)
  simp only [k1, k2, k3, k4, k5, or_self, if_false]
  clear k1 k2 k3 k4 k5
  go_enter Tryd.func84, Tryd.ntmps84
  go_wp2_with fail
  go_ret
  exact ⟨rfl, belA (Below.refl _ _)⟩
theorem may_all (n : Int) : ∀ d, 1 ≤ d → d ≤ 48 → MayC n d
  | 0, h, _ => by omega
  | d + 1, _, h => may_step n d h (fun h1 => may_all n d h1 (by omega))
end Go.Proofs.YtnohcppipkpgmaaDoor
