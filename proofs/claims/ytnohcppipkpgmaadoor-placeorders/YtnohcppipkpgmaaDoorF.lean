import Derived.Test.YtnohcppipkpgmaaDoorD
import Derived.Deep.RegionHeld3
namespace Go.Proofs.YtnohcppipkpgmaaDoor
open Go.RowKit
set_option linter.unusedVariables false
set_option linter.unusedSimpArgs false

/-- What is said of a panic does not hang on the frame. -/
def CalmP (Q : Exit → Act → World → Prop) : Prop := ∀ c (a : Act) (d : Tmp) (v : Value) (w : World), Q (.panic c) (a.put (some d) v) w → Q (.panic c) a w
theorem beginH {P : Program} {ops : Array Oper} {Q : Exit → Act → World → Prop} {S : World → Prop} {id : Nat} {a : Act} {w : World} (hq : CalmP Q) (hm : P.follows .mixedOrders = true) (hS : S w.drew)
    (h : CalmP Q → S w.drew → wpAnyH P .any ops Q S ops.size (Array.replicate ops.size false) a w.drew) : (Code.region id ops true).wp P Q a w :=
  wp_region_held_drew hm hS (h hq)
theorem takeH {P : Program} {ops : Array Oper} {Q : Exit → Act → World → Prop} {S : World → Prop} {md : Region.Mode} {i d : Nat} {oi : Oper} (v : Value) {fuel : Nat} {listed : Array Bool} {a : Act} {w : World} (hq : CalmP Q) (hi : ops[i]? = some oi) (hd : oi.dst = some d)
    (hs : Region.noSelect ops = true) (hf : Region.free md ops listed i = true) (hr : (Region.ready md ops listed).contains i = true)
    (hw : Region.wanted oi (yielded ops a.tmps) = true) (hy : ∀ w, S w → (execOp a.eval oi).run P w = .ok (.value v) w) (hS : S w)
    (h : wpAnyH P md ops Q S fuel (listed.setIfInBounds i true) (a.put (some d) v) w) : wpAnyH P md ops Q S (fuel + 1) listed a w :=
  wpAnyH_take hi hs hf hr (fun c a w h => hq c a d _ w (hd ▸ h)) (Or.inl ⟨hw, hy⟩) hS (hd ▸ h)
theorem skipH {P : Program} {ops : Array Oper} {Q : Exit → Act → World → Prop} {S : World → Prop} {md : Region.Mode} {i d : Nat} {oi : Oper} {fuel : Nat} {listed : Array Bool} {a : Act} {w : World} (hq : CalmP Q) (hi : ops[i]? = some oi) (hd : oi.dst = some d)
    (hs : Region.noSelect ops = true) (hf : Region.free md ops listed i = true) (hr : (Region.ready md ops listed).contains i = true)
    (hw : Region.wanted oi (yielded ops a.tmps) = false) (hS : S w)
    (h : wpAnyH P md ops Q S fuel (listed.setIfInBounds i true) (a.put (some d) undef) w) : wpAnyH P md ops Q S (fuel + 1) listed a w :=
  wpAnyH_take hi hs hf hr (fun c a w h => hq c a d _ w (hd ▸ h)) (Or.inr ⟨hw, rfl⟩) hS (hd ▸ h)
/-- Two types that were just laid in variables. -/
theorem two_new (w : World) (f g : Fv) : C5 ((w.alloc f.o).alloc g.o) w.heap.size 0 f ∧ C5 ((w.alloc f.o).alloc g.o) (w.heap.size + 1) 0 g := ⟨((At.new w f.o).alloc g.o).ty, (at_snd w f.o g.o).ty⟩
theorem belB (w : World) (f g : Fv) : Below w.heap.size w ((w.alloc f.o).alloc g.o) := belA (belA (Below.refl _ _))
theorem below_two {w : World} {f g : Fv} {w1 : World} (h : Below ((w.alloc f.o).alloc g.o).heap.size ((w.alloc f.o).alloc g.o) w1) : Below w.heap.size w w1 := below2 h
set_option maxRecDepth 100000 in
theorem points_any (f : Fv) (w : World) : Calls Tryd.prog 102 #[f.v] w fun e w' => e = .returned (.bool (decide (f.k = 3 ∨ f.k = 4))) ∧ Below w.heap.size w w' := by
  obtain ⟨k, m, r, s, a, n, cap⟩ := f
  show Calls Tryd.prog 102 #[tyV k m r s a n cap] w fun e w' => e = .returned (.bool (decide (k = 3 ∨ k = 4))) ∧ Below w.heap.size w w'
  go_enter Tryd.func102, Tryd.ntmps102
  go_wp2_with fail
  all_goals go_ret
  all_goals (refine ⟨ret_bool ?_, belA (Below.refl _ _)⟩)
  all_goals go_light
  · rename_i h
    symm; apply decide_eq_true; left; omega
  · rename_i h
    have h3 : ¬ k = 3 := fun e => h (by omega)
    rw [Bool.eq_iff_iff]
    simp
    omega
set_option maxRecDepth 100000 in
set_option maxHeartbeats 2000000 in
theorem alike_no (f g : Fv) (w : World) (hd : ¬ f.k = g.k ∨ ¬ f.m = g.m ∨ ¬ f.s = g.s) : Calls Tryd.prog 93 #[f.v, g.v] w fun e w' => e = .returned (.bool false) ∧ Below w.heap.size w w' := by
  obtain ⟨k, m, r, s, a, n, cap⟩ := f
  obtain ⟨k', m', r', s', a', n', cap'⟩ := g
  simp only at hd
  show Calls Tryd.prog 93 #[tyV k m r s a n cap, tyV k' m' r' s' a' n' cap'] w _
  have HD : Hid (¬ k = k' ∨ ¬ m = m' ∨ ¬ s = s') := hd
  clear hd
  by_cases e1 : k = k'
  · subst e1
    by_cases e2 : m = m'
    · subst e2
      by_cases e3 : s = s'
      · subst e3
        exfalso
        have h := HD.out
        simp at h
      · clear HD
        go_enter Tryd.func93, Tryd.ntmps93
        go_wp2_with fail
        go_ret
        exact ⟨rfl, belA (belA (Below.refl _ _))⟩
    · clear HD
      have e2' : (m != m') = true := by simpa using e2
      have e2'' : (m == m') = false := by simpa using e2
      go_enter Tryd.func93, Tryd.ntmps93
      go_wp2_with fail
      go_ret
      exact ⟨rfl, belA (belA (Below.refl _ _))⟩
  · clear HD
    have e1' : ¬ (k : Int) = (k' : Int) := by omega
    clear e1
    go_enter Tryd.func93, Tryd.ntmps93
    go_wp2_with fail
    go_ret
    exact ⟨rfl, belA (belA (Below.refl _ _))⟩
set_option maxRecDepth 100000 in
set_option maxHeartbeats 4000000 in
theorem alike_leaf (k : Nat) (m : Bool) (r s r' : Int) (a a' : Option Addr) (n cap n' cap' : Nat) (w : World) (h3 : ¬ k = 3) (h4 : ¬ k = 4) : Calls Tryd.prog 93 #[tyV k m r s a n cap, tyV k m r' s a' n' cap'] w fun e w' => e = .returned (.bool true) ∧ Below w.heap.size w w' := by
  obtain ⟨N1, N2⟩ := two_new w ⟨k, m, r, s, a, n, cap⟩ ⟨k, m, r', s, a', n', cap'⟩
  have PT : Hid (∀ W, Calls Tryd.prog 102 #[tyV k m r s a n cap] W fun e w' => e = .returned (.bool false) ∧ Below W.heap.size W w') := fun W => by
    have := points_any ⟨k, m, r, s, a, n, cap⟩ W
    rw [show decide (k = 3 ∨ k = 4) = false from decide_eq_false (by omega)] at this
    exact this
  have HB0 := belB w ⟨k, m, r, s, a, n, cap⟩ ⟨k, m, r', s, a', n', cap'⟩
  clear h3 h4
  go_enter Tryd.func93, Tryd.ntmps93
  go_wp2_with fail
  refine beginH (S := fun W => Below ((w.alloc (tyO k m r s a n cap)).alloc (tyO k m r' s a' n' cap')).heap.size ((w.alloc (tyO k m r s a n cap)).alloc (tyO k m r' s a' n' cap')) W) (fun _ _ _ _ _ h => h) (by kernel_rfl) (Below.refl _ _).drew (fun hq hHeld => ?_)
  refine takeH (i := 0) (d := 24) (tyV k m r s a n cap) hq rfl rfl (by kernel_rfl) (by kernel_rfl) (by kernel_rfl) (by rfl) (fun W hSw => by (obtain ⟨-, p0, p1, p2, p3, p4⟩ := N1.below hSw; go_simp; try rfl)) hHeld ?_
  try simp only [Act.put, List.setIfInBounds_toArray, List.set_cons_zero, List.set_cons_succ]
  refine wpAnyH_ready (rs := [1]) (by kernel_rfl) (by simp) ?_
  refine AllReadyH.cons rfl (fun K hK => ?_) AllReadyH.nil
  go_simp
  refine (PT.out _).mono ?_; rintro e w1 ⟨rfl, hb1⟩; have B1 := below_aft hHeld hb1
  go_wp2_with fail
  refine hK.out _ _ B1 (fun hHeld => ?_)
  clear hK K
  try simp only [Act.put, List.setIfInBounds_toArray, List.set_cons_zero, List.set_cons_succ]
  refine takeH (i := 2) (d := 26) _ hq rfl rfl (by kernel_rfl) (by kernel_rfl) (by kernel_rfl) (by rfl) (fun W hSw => by (go_simp; try rfl)) hHeld ?_
  try simp only [Act.put, List.setIfInBounds_toArray, List.set_cons_zero, List.set_cons_succ]
  refine takeH (i := 3) (d := 27) _ hq rfl rfl (by kernel_rfl) (by kernel_rfl) (by kernel_rfl) (by rfl) (fun W hSw => by (go_simp; try rfl)) hHeld ?_
  try simp only [Act.put, List.setIfInBounds_toArray, List.set_cons_zero, List.set_cons_succ]
  refine skipH (i := 4) (d := 28) hq rfl rfl (by kernel_rfl) (by kernel_rfl) (by kernel_rfl) (by rfl) hHeld ?_
  try simp only [Act.put, List.setIfInBounds_toArray, List.set_cons_zero, List.set_cons_succ]
  refine skipH (i := 5) (d := 29) hq rfl rfl (by kernel_rfl) (by kernel_rfl) (by kernel_rfl) (by rfl) hHeld ?_
  try simp only [Act.put, List.setIfInBounds_toArray, List.set_cons_zero, List.set_cons_succ]
  refine skipH (i := 6) (d := 30) hq rfl rfl (by kernel_rfl) (by kernel_rfl) (by kernel_rfl) (by rfl) hHeld ?_
  try simp only [Act.put, List.setIfInBounds_toArray, List.set_cons_zero, List.set_cons_succ]
  refine skipH (i := 7) (d := 31) hq rfl rfl (by kernel_rfl) (by kernel_rfl) (by kernel_rfl) (by rfl) hHeld ?_
  try simp only [Act.put, List.setIfInBounds_toArray, List.set_cons_zero, List.set_cons_succ]
  refine skipH (i := 8) (d := 32) hq rfl rfl (by kernel_rfl) (by kernel_rfl) (by kernel_rfl) (by rfl) hHeld ?_
  try simp only [Act.put, List.setIfInBounds_toArray, List.set_cons_zero, List.set_cons_succ]
  refine skipH (i := 9) (d := 33) hq rfl rfl (by kernel_rfl) (by kernel_rfl) (by kernel_rfl) (by rfl) hHeld ?_
  try simp only [Act.put, List.setIfInBounds_toArray, List.set_cons_zero, List.set_cons_succ]
  refine skipH (i := 10) (d := 34) hq rfl rfl (by kernel_rfl) (by kernel_rfl) (by kernel_rfl) (by rfl) hHeld ?_
  try simp only [Act.put, List.setIfInBounds_toArray, List.set_cons_zero, List.set_cons_succ]
  refine skipH (i := 11) (d := 35) hq rfl rfl (by kernel_rfl) (by kernel_rfl) (by kernel_rfl) (by rfl) hHeld ?_
  try simp only [Act.put, List.setIfInBounds_toArray, List.set_cons_zero, List.set_cons_succ]
  refine skipH (i := 12) (d := 36) hq rfl rfl (by kernel_rfl) (by kernel_rfl) (by kernel_rfl) (by rfl) hHeld ?_
  try simp only [Act.put, List.setIfInBounds_toArray, List.set_cons_zero, List.set_cons_succ]
  refine takeH (i := 13) (d := 37) _ hq rfl rfl (by kernel_rfl) (by kernel_rfl) (by kernel_rfl) (by rfl) (fun W hSw => by (go_simp; try rfl)) hHeld ?_
  try simp only [Act.put, List.setIfInBounds_toArray, List.set_cons_zero, List.set_cons_succ]
  refine takeH (i := 14) (d := 4) _ hq rfl rfl (by kernel_rfl) (by kernel_rfl) (by kernel_rfl) (by rfl) (fun W hSw => by (go_simp; try rfl)) hHeld ?_
  try simp only [Act.put, List.setIfInBounds_toArray, List.set_cons_zero, List.set_cons_succ]
  refine wpAnyH_done (by kernel_rfl) ?_ _
  have BB := hHeld
  clear hHeld hq
  go_wp2_with fail
  go_ret
  exact ⟨rfl, below2 BB⟩
set_option maxRecDepth 100000 in
set_option maxHeartbeats 4000000 in
theorem alike_one (k : Nat) (m : Bool) (r s r' : Int) (g off g' off' cap cap' : Nat) (f f' : Fv) (rr : Bool) (w : World) (h34 : k = 3 ∨ k = 4) (hc : C5 w g off f) (hc' : C5 w g' off' f') (ih : ∀ W, Below w.heap.size w W → Calls Tryd.prog 93 #[f.v, f'.v] W fun e w' => e = .returned (.bool rr) ∧ Below W.heap.size W w') : Calls Tryd.prog 93 #[tyV k m r s (some ⟨g, off, none⟩) 1 cap, tyV k m r' s (some ⟨g', off', none⟩) 1 cap'] w fun e w' => e = .returned (.bool rr) ∧ Below w.heap.size w w' := by
  obtain ⟨N1, N2⟩ := two_new w ⟨k, m, r, s, some ⟨g, off, none⟩, 1, cap⟩ ⟨k, m, r', s, some ⟨g', off', none⟩, 1, cap'⟩
  have HB0 := belB w ⟨k, m, r, s, some ⟨g, off, none⟩, 1, cap⟩ ⟨k, m, r', s, some ⟨g', off', none⟩, 1, cap'⟩
  have M1 := hc.below HB0
  have M2 := hc'.below HB0
  have IH : Hid (∀ W, Below w.heap.size w W → Calls Tryd.prog 93 #[f.v, f'.v] W fun e w' => e = .returned (.bool rr) ∧ Below W.heap.size W w') := ih
  have PT : Hid (∀ W, Calls Tryd.prog 102 #[tyV k m r s (some ⟨g, off, none⟩) 1 cap] W fun e w' => e = .returned (.bool true) ∧ Below W.heap.size W w') := fun W => by
    have := points_any ⟨k, m, r, s, some ⟨g, off, none⟩, 1, cap⟩ W
    rw [show decide (k = 3 ∨ k = 4) = true from decide_eq_true h34] at this
    exact this
  clear h34 ih hc hc'
  go_enter Tryd.func93, Tryd.ntmps93
  go_wp2_with fail
  refine beginH (S := fun W => Below ((w.alloc (tyO k m r s (some ⟨g, off, none⟩) 1 cap)).alloc (tyO k m r' s (some ⟨g', off', none⟩) 1 cap')).heap.size ((w.alloc (tyO k m r s (some ⟨g, off, none⟩) 1 cap)).alloc (tyO k m r' s (some ⟨g', off', none⟩) 1 cap')) W) (fun _ _ _ _ _ h => h) (by kernel_rfl) (Below.refl _ _).drew (fun hq hHeld => ?_)
  refine takeH (i := 0) (d := 24) (tyV k m r s (some ⟨g, off, none⟩) 1 cap) hq rfl rfl (by kernel_rfl) (by kernel_rfl) (by kernel_rfl) (by rfl) (fun W hSw => by (obtain ⟨-, p0, p1, p2, p3, p4⟩ := N1.below hSw; go_simp; try rfl)) hHeld ?_
  try simp only [Act.put, List.setIfInBounds_toArray, List.set_cons_zero, List.set_cons_succ]
  refine wpAnyH_ready (rs := [1]) (by kernel_rfl) (by simp) ?_
  refine AllReadyH.cons rfl (fun K hK => ?_) AllReadyH.nil
  go_simp
  refine (PT.out _).mono ?_; rintro e w1 ⟨rfl, hb1⟩; have B1 := below_aft hHeld hb1
  go_wp2_with fail
  refine hK.out _ _ B1 (fun hHeld => ?_)
  clear hK K
  try simp only [Act.put, List.setIfInBounds_toArray, List.set_cons_zero, List.set_cons_succ]
  refine takeH (i := 2) (d := 26) _ hq rfl rfl (by kernel_rfl) (by kernel_rfl) (by kernel_rfl) (by rfl) (fun W hSw => by (go_simp; try rfl)) hHeld ?_
  try simp only [Act.put, List.setIfInBounds_toArray, List.set_cons_zero, List.set_cons_succ]
  refine takeH (i := 3) (d := 27) _ hq rfl rfl (by kernel_rfl) (by kernel_rfl) (by kernel_rfl) (by rfl) (fun W hSw => by (go_simp; try rfl)) hHeld ?_
  try simp only [Act.put, List.setIfInBounds_toArray, List.set_cons_zero, List.set_cons_succ]
  refine takeH (i := 4) (d := 28) _ hq rfl rfl (by kernel_rfl) (by kernel_rfl) (by kernel_rfl) (by rfl) (fun W hSw => by (go_simp; try rfl)) hHeld ?_
  try simp only [Act.put, List.setIfInBounds_toArray, List.set_cons_zero, List.set_cons_succ]
  refine takeH (i := 5) (d := 29) (.slice (some ⟨g, off, none⟩) 1 cap) hq rfl rfl (by kernel_rfl) (by kernel_rfl) (by kernel_rfl) (by rfl) (fun W hSw => by (obtain ⟨-, p0, p1, p2, p3, p4⟩ := N1.below hSw; go_simp; try rfl)) hHeld ?_
  try simp only [Act.put, List.setIfInBounds_toArray, List.set_cons_zero, List.set_cons_succ]
  refine takeH (i := 6) (d := 30) (.pointer (some ⟨g, off, none⟩)) hq rfl rfl (by kernel_rfl) (by kernel_rfl) (by kernel_rfl) (by rfl) (fun W hSw => by (go_simp; try rfl)) hHeld ?_
  try simp only [Act.put, List.setIfInBounds_toArray, List.set_cons_zero, List.set_cons_succ]
  refine takeH (i := 7) (d := 31) f.v hq rfl rfl (by kernel_rfl) (by kernel_rfl) (by kernel_rfl) (by rfl) (fun W hSw => by (obtain ⟨-, p0, p1, p2, p3, p4⟩ := M1.below hSw; go_simp; try rfl)) hHeld ?_
  try simp only [Act.put, List.setIfInBounds_toArray, List.set_cons_zero, List.set_cons_succ]
  refine takeH (i := 8) (d := 32) _ hq rfl rfl (by kernel_rfl) (by kernel_rfl) (by kernel_rfl) (by rfl) (fun W hSw => by (go_simp; try rfl)) hHeld ?_
  try simp only [Act.put, List.setIfInBounds_toArray, List.set_cons_zero, List.set_cons_succ]
  refine takeH (i := 9) (d := 33) (.slice (some ⟨g', off', none⟩) 1 cap') hq rfl rfl (by kernel_rfl) (by kernel_rfl) (by kernel_rfl) (by rfl) (fun W hSw => by (obtain ⟨-, p0, p1, p2, p3, p4⟩ := N2.below hSw; go_simp; try rfl)) hHeld ?_
  try simp only [Act.put, List.setIfInBounds_toArray, List.set_cons_zero, List.set_cons_succ]
  refine takeH (i := 10) (d := 34) (.pointer (some ⟨g', off', none⟩)) hq rfl rfl (by kernel_rfl) (by kernel_rfl) (by kernel_rfl) (by rfl) (fun W hSw => by (go_simp; try rfl)) hHeld ?_
  try simp only [Act.put, List.setIfInBounds_toArray, List.set_cons_zero, List.set_cons_succ]
  refine takeH (i := 11) (d := 35) f'.v hq rfl rfl (by kernel_rfl) (by kernel_rfl) (by kernel_rfl) (by rfl) (fun W hSw => by (obtain ⟨-, p0, p1, p2, p3, p4⟩ := M2.below hSw; go_simp; try rfl)) hHeld ?_
  try simp only [Act.put, List.setIfInBounds_toArray, List.set_cons_zero, List.set_cons_succ]
  refine wpAnyH_ready (rs := [12]) (by kernel_rfl) (by simp) ?_
  refine AllReadyH.cons rfl (fun K hK => ?_) AllReadyH.nil
  go_simp
  refine (IH.out _ (below2 hHeld)).mono ?_; rintro e w2 ⟨rfl, hb2⟩; have B2 := below_aft hHeld hb2
  go_wp2_with fail
  refine hK.out _ _ B2 (fun hHeld => ?_)
  clear hK K
  try simp only [Act.put, List.setIfInBounds_toArray, List.set_cons_zero, List.set_cons_succ]
  refine takeH (i := 13) (d := 37) _ hq rfl rfl (by kernel_rfl) (by kernel_rfl) (by kernel_rfl) (by rfl) (fun W hSw => by (go_simp; try rfl)) hHeld ?_
  try simp only [Act.put, List.setIfInBounds_toArray, List.set_cons_zero, List.set_cons_succ]
  refine takeH (i := 14) (d := 4) _ hq rfl rfl (by kernel_rfl) (by kernel_rfl) (by kernel_rfl) (by rfl) (fun W hSw => by (go_simp; try rfl)) hHeld ?_
  try simp only [Act.put, List.setIfInBounds_toArray, List.set_cons_zero, List.set_cons_succ]
  refine wpAnyH_done (by kernel_rfl) ?_ _
  have BB := hHeld
  clear hHeld hq
  go_wp2_with fail
  go_ret
  exact ⟨rfl, below2 BB⟩
end Go.Proofs.YtnohcppipkpgmaaDoor
