import Derived.Test.YtnohcppipkpgmaaDoorRa
import Derived.StillTailTactics
namespace Go.Proofs.YtnohcppipkpgmaaDoor
open Go.RowKit Go.Shelf
set_option linter.unusedVariables false
set_option linter.unusedSimpArgs false

set_option maxRecDepth 100000 in
set_option maxHeartbeats 2000000 in
/-- cmp.Or of two numbers. -/
theorem or_any (w : World) (g : Nat) (x y : Int) (h0 : w.cell? ⟨g, 0, none⟩ = some (.int .i64 x)) (h1 : w.cell? ⟨g, 1, none⟩ = some (.int .i64 y)) :
    Calls Tryd.prog 47 #[.slice (some ⟨g, 0, none⟩) 2 2] w fun e w' => e = .returned (.int .i64 (if x = 0 then y else x)) ∧ w' = w := by
  by_cases c1 : x = 0
  · rw [if_pos c1]
    subst c1
    by_cases c2 : y = 0
    · subst c2
      go_enter Tryd.func47, Tryd.ntmps47
      go_wp2_with fail
      go_loopw [8] (fun v V => ∃ i : Nat, i ≤ 2 ∧ v = .int .i64 i ∧ V = w) (fun v _ => 2 - (intOf v).toNat)
      case atStart => exact ⟨0, by omega, rfl, rfl⟩
      case round =>
        obtain ⟨i, hi, rfl, rfl⟩ := hrel
        rcases (show i = 0 ∨ i = 1 ∨ i = 2 by omega) with rfl | rfl | rfl
        · go_wp2_with fail
          exact ⟨⟨1, by omega, rfl, trivial⟩, by decide⟩
        · go_wp2_with fail
          exact ⟨⟨2, by omega, rfl, trivial⟩, by decide⟩
        · go_wp2_with fail
          go_ret
          exact ⟨rfl, rfl⟩
    · go_enter Tryd.func47, Tryd.ntmps47
      go_wp2_with fail
      go_loopw [8] (fun v V => ∃ i : Nat, i ≤ 1 ∧ v = .int .i64 i ∧ V = w) (fun v _ => 2 - (intOf v).toNat)
      case atStart => exact ⟨0, by omega, rfl, rfl⟩
      case round =>
        obtain ⟨i, hi, rfl, rfl⟩ := hrel
        rcases (show i = 0 ∨ i = 1 by omega) with rfl | rfl
        · go_wp2_with fail
          exact ⟨⟨1, by omega, rfl, trivial⟩, by decide⟩
        · go_wp2_with fail
          go_ret
          exact ⟨rfl, rfl⟩
  · rw [if_neg c1]
    go_enter Tryd.func47, Tryd.ntmps47
    go_wp2_with fail
    go_loopw [8] (fun v V => v = .int .i64 0 ∧ V = w) (fun v _ => 2 - (intOf v).toNat)
    case atStart => exact ⟨rfl, rfl⟩
    case round =>
      obtain ⟨rfl, rfl⟩ := hrel
      go_wp2_with fail
      go_ret
      exact ⟨rfl, rfl⟩
theorem bel2 {w : World} {o1 o2 : Obj} : Below w.heap.size w ((w.alloc o1).alloc o2) := belA (belA (Below.refl _ _))
set_option maxRecDepth 100000 in
set_option maxHeartbeats 2000000 in
/-- Same. -/
theorem Same_any {w : World} {x y : Pt} {p q : List Int} (h : PAt w x p) (h' : PAt w y q) (b : Bool) (hb : b = true ↔ x.l = y.l ∧ p = q) :
    Calls Tryd.prog 28 #[x.v, y.v] w fun e w' => e = .returned (.bool b) ∧ Below w.heap.size w w' := by
  obtain ⟨l, a, n, cap⟩ := x
  obtain ⟨l', a', n', cap'⟩ := y
  by_cases hl : l = l'
  · subst hl
    have C : Hid (∀ W, Below w.heap.size w W → Calls Tryd.prog 46 #[.slice a n cap, .slice a' n' cap'] W fun e w' => e = .returned (.bool b) ∧ ∃ d, w' = W.drewN d) := fun W hW =>
      equal_any (h.row.bel hW) (h'.row.bel hW) b (by rw [hb]; simp)
    show Calls Tryd.prog 28 #[plV l a n cap, plV l a' n' cap'] w _
    clear h h' hb
    go_enter Tryd.func28, Tryd.ntmps28
    go_wp2_with (go_at_call 46; refine (C.out _ bel2).mono ?_; rintro e w1 ⟨rfl, hd⟩)
    go_ret
    exact ⟨rfl, below_aft bel2 (belD hd)⟩
  · have hbf : b = false := by
      cases hbb : b with
      | false => rfl
      | true => exact absurd (hb.1 hbb).1 hl
    subst hbf
    show Calls Tryd.prog 28 #[plV l a n cap, plV l' a' n' cap'] w _
    clear h h' hb
    go_enter Tryd.func28, Tryd.ntmps28
    go_wp2_with fail
    go_ret
    exact ⟨rfl, bel2⟩
set_option maxRecDepth 100000 in
set_option maxHeartbeats 2000000 in
/-- Prefix. -/
theorem Prefix_any {w : World} {x y : Pt} {p q : List Int} (h : PAt w x p) (h' : PAt w y q) (b : Bool) (hb : b = true ↔ x.l = y.l ∧ p <+: q) :
    Calls Tryd.prog 24 #[x.v, y.v] w fun e w' => e = .returned (.bool b) ∧ Below w.heap.size w w' := by
  obtain ⟨l, a, n, cap⟩ := x
  obtain ⟨l', a', n', cap'⟩ := y
  have big : n ≤ 9223372036854775807 ∧ n' ≤ cap' := by
    have k1 : n ≤ cap := h.row.le
    have k2 : cap ≤ maxLen := h.row.big
    have k3 : n' ≤ cap' := h'.row.le
    unfold maxLen at *
    exact ⟨by omega, k3⟩
  have e1 : n = p.length := h.row.len
  have e2 : n' = q.length := h'.row.len
  show Calls Tryd.prog 24 #[plV l a n cap, plV l' a' n' cap'] w _
  by_cases hl : l = l'
  · subst hl
    by_cases hn : n ≤ n'
    · have C : Hid (∀ W, Below w.heap.size w W → Calls Tryd.prog 46 #[.slice a n cap, .slice a' n cap'] W fun e w' => e = .returned (.bool b) ∧ ∃ d, w' = W.drewN d) := fun W hW =>
        equal_any (h.row.bel hW) ((h'.row.cut n hn).bel hW) b (by
          rw [hb]
          constructor
          · rintro ⟨-, hp⟩
            rw [e1]
            exact List.prefix_iff_eq_take.1 hp
          · intro hp
            refine ⟨rfl, ?_⟩
            rw [hp]
            exact List.take_prefix _ _)
      have hnil : a' = none → cap' = 0 := h'.row.nil
      clear h h' hb e1 e2
      have j0 : (0 : Int) ≤ (n : Int) := by omega
      have j1 : (n : Int) ≤ (n' : Int) := by omega
      have j2 : (n : Int) ≤ (cap' : Int) := by omega
      cases a' with
      | none =>
        obtain rfl := hnil rfl
        obtain rfl : n = 0 := by omega
        obtain rfl : n' = 0 := by omega
        clear j0 j1 j2 hn big hnil
        go_enter Tryd.func24, Tryd.ntmps24
        go_wp2_with fail
        go_quiet ((go_at_call 46; exact Calls.quiet_of (C.out _ (belN bel2 _))))
        go_wp2_with fail
        go_ret
        exact ⟨rfl, belN bel2 _⟩
      | some ad =>
        clear hnil hn big
        go_enter Tryd.func24, Tryd.ntmps24
        go_wp2_with fail
        go_quiet ((go_at_call 46; exact Calls.quiet_of (C.out _ (belN bel2 _))))
        go_wp2_with fail
        go_ret
        exact ⟨rfl, belN bel2 _⟩
    · have hbf : b = false := by
        cases hbb : b with
        | false => rfl
        | true =>
          have := (hb.1 hbb).2.length_le
          omega
      subst hbf
      clear h h' hb e1 e2 big
      have j1 : ¬ (n : Int) ≤ (n' : Int) := by omega
      have j2 : decide ((n : Int) ≤ (n' : Int)) = false := decide_eq_false j1
      have j3 : decide (n ≤ n') = false := decide_eq_false hn
      go_enter Tryd.func24, Tryd.ntmps24
      go_wp2_with fail
      go_quiet (fail)
      go_wp2_with fail
      go_ret
      exact ⟨rfl, belN bel2 _⟩
  · have hbf : b = false := by
      cases hbb : b with
      | false => rfl
      | true => exact absurd (hb.1 hbb).1 hl
    subst hbf
    clear h h' hb e1 e2 big
    have j2 : (l == l') = false := by simp [hl]
    have j3 : decide (l = l') = false := decide_eq_false hl
    go_enter Tryd.func24, Tryd.ntmps24
    go_wp2_with fail
    go_quiet (fail)
    go_wp2_with fail
    go_ret
    exact ⟨rfl, belN bel2 _⟩
theorem ord_or (l m : Int) (p q : List Int) : (if Lib.compareInt l m = 0 then ordL p q else Lib.compareInt l m) = ordP l m p q := by
  unfold Lib.compareInt ordP
  by_cases h1 : l < m
  · simp [h1]
  · by_cases h2 : m < l
    · simp [h1, h2]
    · simp [h1, h2]
set_option maxRecDepth 100000 in
set_option maxHeartbeats 2000000 in
/-- Order. -/
theorem Order_any {w : World} {x y : Pt} {p q : List Int} (h : PAt w x p) (h' : PAt w y q) (r : Int) (hr : r = ordP x.l y.l p q) :
    Calls Tryd.prog 26 #[x.v, y.v] w fun e w' => e = .returned (.int .i64 r) ∧ Below w.heap.size w w' := by
  obtain ⟨l, a, n, cap⟩ := x
  obtain ⟨l', a', n', cap'⟩ := y
  obtain ⟨c, hc⟩ : ∃ c, c = Lib.compareInt l l' := ⟨_, rfl⟩
  obtain ⟨o, ho⟩ : ∃ o, o = ordL p q := ⟨_, rfl⟩
  have hr2 : r = if c = 0 then o else c := by rw [hr, hc, ho]; exact (ord_or l l' p q).symm
  have C1 : Hid (∀ W, Calls Tryd.prog 48 #[.int .i64 l, .int .i64 l'] W fun e w' => e = .returned (.int .i64 c) ∧ w' = W) := fun W => by rw [hc]; exact Tryd.cmp_Compare_int l l' W
  have C2 : Hid (∀ W, Below w.heap.size w W → Calls Tryd.prog 49 #[.slice a n cap, .slice a' n' cap'] W fun e w' => e = .returned (.int .i64 o) ∧ w' = W) := fun W hW => compare_any (h.row.bel hW) (h'.row.bel hW) o ho
  have C3 : Hid (∀ W g, W.cell? ⟨g, 0, none⟩ = some (.int .i64 c) → W.cell? ⟨g, 1, none⟩ = some (.int .i64 o) → Calls Tryd.prog 47 #[.slice (some ⟨g, 0, none⟩) 2 2] W fun e w' => e = .returned (.int .i64 r) ∧ w' = W) := fun W g h0 h1 => by
    rw [hr2]
    exact or_any W g c o h0 h1
  show Calls Tryd.prog 26 #[plV l a n cap, plV l' a' n' cap'] w _
  clear h h' hc ho hr hr2
  go_enter Tryd.func26, Tryd.ntmps26
  go_wp2_with fail
  refine wp_region_still_tail 10 (by kernel_rfl) (by kernel_rfl) ?_
  simp only [List.take_succ_cons, List.take_zero, List.drop_succ_cons, List.drop_zero]
  change wpStill _ _ (World.drew _) (fun a' => wpList _ _ _ _ a' (World.drew _)) _ _
  iterate 4 still_step
  still_call (C1.out _)
  iterate 4 still_step
  still_call (C2.out _ (belN bel2 1))
  refine wpStill_nil ?_
  go_wp2_with (go_at_call 47; refine (C3.out _ _ (by go_simp) (by go_simp)).mono ?_; rintro e w1 ⟨rfl, hw⟩; subst hw)
  go_ret
  exact ⟨rfl, belA (belN bel2 1)⟩
end Go.Proofs.YtnohcppipkpgmaaDoor
