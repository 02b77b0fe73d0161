import Derived.Test.YtjchbclkdbojpaaDoorF
namespace Go.Proofs.YtjchbclkdbojpaaDoor
open Go.RowKit
set_option linter.unusedVariables false
set_option linter.unusedSimpArgs false

set_option maxRecDepth 100000 in
set_option maxHeartbeats 4000000 in
theorem ralike_leaf (k : Nat) (m : Bool) (r s r' : Int) (a a' : Option Addr) (cap n' cap' : Nat) (rg : Bool) (w : World) (hr : rg = true → r = r') : Calls Tryd.prog 63 #[tyV k m r s a 0 cap, tyV k m r' s a' n' cap', .bool rg] w fun e w' => e = .returned (.bool true) ∧ Below w.heap.size w w' := by
  obtain ⟨N1, N2⟩ := two_new w ⟨k, m, r, s, a, 0, cap⟩ ⟨k, m, r', s, a', n', cap'⟩
  have HB0 := belB w ⟨k, m, r, s, a, 0, cap⟩ ⟨k, m, r', s, a', n', cap'⟩
  cases rg with
  | true =>
    obtain rfl := hr rfl
    clear hr
    go_enter Tryd.func63, Tryd.ntmps63
    go_wp2_with fail
    refine beginH (S := fun W => Below ((w.alloc (tyO k m r s a 0 cap)).alloc (tyO k m r s a' n' cap')).heap.size ((w.alloc (tyO k m r s a 0 cap)).alloc (tyO k m r s a' n' cap')) W) (fun _ _ _ _ _ h => h) (by kernel_rfl) (Below.refl _ _).drew (fun hq hHeld => ?_)
    refine takeH (i := 0) (d := 36) _ hq rfl rfl (by kernel_rfl) (by kernel_rfl) (by kernel_rfl) (by rfl) (fun W hSw => by (go_simp; try rfl)) hHeld ?_
    try simp only [Act.put, List.setIfInBounds_toArray, List.set_cons_zero, List.set_cons_succ]
    refine takeH (i := 1) (d := 37) (.slice a 0 cap) hq rfl rfl (by kernel_rfl) (by kernel_rfl) (by kernel_rfl) (by rfl) (fun W hSw => by (obtain ⟨-, p0, p1, p2, p3, p4⟩ := N1.below hSw; go_simp; try rfl)) hHeld ?_
    try simp only [Act.put, List.setIfInBounds_toArray, List.set_cons_zero, List.set_cons_succ]
    refine takeH (i := 2) (d := 38) _ hq rfl rfl (by kernel_rfl) (by kernel_rfl) (by kernel_rfl) (by rfl) (fun W hSw => by (go_simp; try rfl)) hHeld ?_
    try simp only [Act.put, List.setIfInBounds_toArray, List.set_cons_zero, List.set_cons_succ]
    refine takeH (i := 3) (d := 39) _ hq rfl rfl (by kernel_rfl) (by kernel_rfl) (by kernel_rfl) (by rfl) (fun W hSw => by (go_simp; try rfl)) hHeld ?_
    try simp only [Act.put, List.setIfInBounds_toArray, List.set_cons_zero, List.set_cons_succ]
    refine takeH (i := 4) (d := 40) _ hq rfl rfl (by kernel_rfl) (by kernel_rfl) (by kernel_rfl) (by rfl) (fun W hSw => by (go_simp; try rfl)) hHeld ?_
    try simp only [Act.put, List.setIfInBounds_toArray, List.set_cons_zero, List.set_cons_succ]
    refine skipH (i := 5) (d := 41) hq rfl rfl (by kernel_rfl) (by kernel_rfl) (by kernel_rfl) (by rfl) hHeld ?_
    try simp only [Act.put, List.setIfInBounds_toArray, List.set_cons_zero, List.set_cons_succ]
    refine skipH (i := 6) (d := 42) hq rfl rfl (by kernel_rfl) (by kernel_rfl) (by kernel_rfl) (by rfl) hHeld ?_
    try simp only [Act.put, List.setIfInBounds_toArray, List.set_cons_zero, List.set_cons_succ]
    refine skipH (i := 7) (d := 43) hq rfl rfl (by kernel_rfl) (by kernel_rfl) (by kernel_rfl) (by rfl) hHeld ?_
    try simp only [Act.put, List.setIfInBounds_toArray, List.set_cons_zero, List.set_cons_succ]
    refine skipH (i := 8) (d := 44) hq rfl rfl (by kernel_rfl) (by kernel_rfl) (by kernel_rfl) (by rfl) hHeld ?_
    try simp only [Act.put, List.setIfInBounds_toArray, List.set_cons_zero, List.set_cons_succ]
    refine skipH (i := 9) (d := 45) hq rfl rfl (by kernel_rfl) (by kernel_rfl) (by kernel_rfl) (by rfl) hHeld ?_
    try simp only [Act.put, List.setIfInBounds_toArray, List.set_cons_zero, List.set_cons_succ]
    refine skipH (i := 10) (d := 46) hq rfl rfl (by kernel_rfl) (by kernel_rfl) (by kernel_rfl) (by rfl) hHeld ?_
    try simp only [Act.put, List.setIfInBounds_toArray, List.set_cons_zero, List.set_cons_succ]
    refine skipH (i := 11) (d := 47) hq rfl rfl (by kernel_rfl) (by kernel_rfl) (by kernel_rfl) (by rfl) hHeld ?_
    try simp only [Act.put, List.setIfInBounds_toArray, List.set_cons_zero, List.set_cons_succ]
    refine skipH (i := 12) (d := 48) hq rfl rfl (by kernel_rfl) (by kernel_rfl) (by kernel_rfl) (by rfl) hHeld ?_
    try simp only [Act.put, List.setIfInBounds_toArray, List.set_cons_zero, List.set_cons_succ]
    refine skipH (i := 13) (d := 49) hq rfl rfl (by kernel_rfl) (by kernel_rfl) (by kernel_rfl) (by rfl) hHeld ?_
    try simp only [Act.put, List.setIfInBounds_toArray, List.set_cons_zero, List.set_cons_succ]
    refine skipH (i := 14) (d := 50) hq rfl rfl (by kernel_rfl) (by kernel_rfl) (by kernel_rfl) (by rfl) hHeld ?_
    try simp only [Act.put, List.setIfInBounds_toArray, List.set_cons_zero, List.set_cons_succ]
    refine takeH (i := 15) (d := 51) _ hq rfl rfl (by kernel_rfl) (by kernel_rfl) (by kernel_rfl) (by rfl) (fun W hSw => by (go_simp; try rfl)) hHeld ?_
    try simp only [Act.put, List.setIfInBounds_toArray, List.set_cons_zero, List.set_cons_succ]
    refine takeH (i := 16) (d := 6) _ hq rfl rfl (by kernel_rfl) (by kernel_rfl) (by kernel_rfl) (by rfl) (fun W hSw => by (go_simp; try rfl)) hHeld ?_
    try simp only [Act.put, List.setIfInBounds_toArray, List.set_cons_zero, List.set_cons_succ]
    refine wpAnyH_done (by kernel_rfl) ?_ _
    have BB := hHeld
    clear hHeld hq
    go_wp2_with fail
    go_ret
    exact ⟨rfl, below2 BB⟩
  | false =>
    clear hr
    go_enter Tryd.func63, Tryd.ntmps63
    go_wp2_with fail
    refine beginH (S := fun W => Below ((w.alloc (tyO k m r s a 0 cap)).alloc (tyO k m r' s a' n' cap')).heap.size ((w.alloc (tyO k m r s a 0 cap)).alloc (tyO k m r' s a' n' cap')) W) (fun _ _ _ _ _ h => h) (by kernel_rfl) (Below.refl _ _).drew (fun hq hHeld => ?_)
    refine takeH (i := 0) (d := 36) _ hq rfl rfl (by kernel_rfl) (by kernel_rfl) (by kernel_rfl) (by rfl) (fun W hSw => by (go_simp; try rfl)) hHeld ?_
    try simp only [Act.put, List.setIfInBounds_toArray, List.set_cons_zero, List.set_cons_succ]
    refine takeH (i := 1) (d := 37) (.slice a 0 cap) hq rfl rfl (by kernel_rfl) (by kernel_rfl) (by kernel_rfl) (by rfl) (fun W hSw => by (obtain ⟨-, p0, p1, p2, p3, p4⟩ := N1.below hSw; go_simp; try rfl)) hHeld ?_
    try simp only [Act.put, List.setIfInBounds_toArray, List.set_cons_zero, List.set_cons_succ]
    refine takeH (i := 2) (d := 38) _ hq rfl rfl (by kernel_rfl) (by kernel_rfl) (by kernel_rfl) (by rfl) (fun W hSw => by (go_simp; try rfl)) hHeld ?_
    try simp only [Act.put, List.setIfInBounds_toArray, List.set_cons_zero, List.set_cons_succ]
    refine takeH (i := 3) (d := 39) _ hq rfl rfl (by kernel_rfl) (by kernel_rfl) (by kernel_rfl) (by rfl) (fun W hSw => by (go_simp; try rfl)) hHeld ?_
    try simp only [Act.put, List.setIfInBounds_toArray, List.set_cons_zero, List.set_cons_succ]
    refine takeH (i := 4) (d := 40) _ hq rfl rfl (by kernel_rfl) (by kernel_rfl) (by kernel_rfl) (by rfl) (fun W hSw => by (go_simp; try rfl)) hHeld ?_
    try simp only [Act.put, List.setIfInBounds_toArray, List.set_cons_zero, List.set_cons_succ]
    refine skipH (i := 5) (d := 41) hq rfl rfl (by kernel_rfl) (by kernel_rfl) (by kernel_rfl) (by rfl) hHeld ?_
    try simp only [Act.put, List.setIfInBounds_toArray, List.set_cons_zero, List.set_cons_succ]
    refine skipH (i := 6) (d := 42) hq rfl rfl (by kernel_rfl) (by kernel_rfl) (by kernel_rfl) (by rfl) hHeld ?_
    try simp only [Act.put, List.setIfInBounds_toArray, List.set_cons_zero, List.set_cons_succ]
    refine skipH (i := 7) (d := 43) hq rfl rfl (by kernel_rfl) (by kernel_rfl) (by kernel_rfl) (by rfl) hHeld ?_
    try simp only [Act.put, List.setIfInBounds_toArray, List.set_cons_zero, List.set_cons_succ]
    refine skipH (i := 8) (d := 44) hq rfl rfl (by kernel_rfl) (by kernel_rfl) (by kernel_rfl) (by rfl) hHeld ?_
    try simp only [Act.put, List.setIfInBounds_toArray, List.set_cons_zero, List.set_cons_succ]
    refine skipH (i := 9) (d := 45) hq rfl rfl (by kernel_rfl) (by kernel_rfl) (by kernel_rfl) (by rfl) hHeld ?_
    try simp only [Act.put, List.setIfInBounds_toArray, List.set_cons_zero, List.set_cons_succ]
    refine skipH (i := 10) (d := 46) hq rfl rfl (by kernel_rfl) (by kernel_rfl) (by kernel_rfl) (by rfl) hHeld ?_
    try simp only [Act.put, List.setIfInBounds_toArray, List.set_cons_zero, List.set_cons_succ]
    refine skipH (i := 11) (d := 47) hq rfl rfl (by kernel_rfl) (by kernel_rfl) (by kernel_rfl) (by rfl) hHeld ?_
    try simp only [Act.put, List.setIfInBounds_toArray, List.set_cons_zero, List.set_cons_succ]
    refine skipH (i := 12) (d := 48) hq rfl rfl (by kernel_rfl) (by kernel_rfl) (by kernel_rfl) (by rfl) hHeld ?_
    try simp only [Act.put, List.setIfInBounds_toArray, List.set_cons_zero, List.set_cons_succ]
    refine skipH (i := 13) (d := 49) hq rfl rfl (by kernel_rfl) (by kernel_rfl) (by kernel_rfl) (by rfl) hHeld ?_
    try simp only [Act.put, List.setIfInBounds_toArray, List.set_cons_zero, List.set_cons_succ]
    refine skipH (i := 14) (d := 50) hq rfl rfl (by kernel_rfl) (by kernel_rfl) (by kernel_rfl) (by rfl) hHeld ?_
    try simp only [Act.put, List.setIfInBounds_toArray, List.set_cons_zero, List.set_cons_succ]
    refine takeH (i := 15) (d := 51) _ hq rfl rfl (by kernel_rfl) (by kernel_rfl) (by kernel_rfl) (by rfl) (fun W hSw => by (go_simp; try rfl)) hHeld ?_
    try simp only [Act.put, List.setIfInBounds_toArray, List.set_cons_zero, List.set_cons_succ]
    refine takeH (i := 16) (d := 6) _ hq rfl rfl (by kernel_rfl) (by kernel_rfl) (by kernel_rfl) (by rfl) (fun W hSw => by (go_simp; try rfl)) hHeld ?_
    try simp only [Act.put, List.setIfInBounds_toArray, List.set_cons_zero, List.set_cons_succ]
    refine wpAnyH_done (by kernel_rfl) ?_ _
    have BB := hHeld
    clear hHeld hq
    go_wp2_with fail
    go_ret
    exact ⟨rfl, below2 BB⟩
set_option maxRecDepth 100000 in
set_option maxHeartbeats 4000000 in
theorem ralike_one (k : Nat) (m : Bool) (r s r' : Int) (g off g' off' cap cap' : Nat) (f f' : Fv) (rr rg : Bool) (w : World) (hr : rg = true → r = r') (hc : C5 w g off f) (hc' : C5 w g' off' f') (ih : ∀ W, Below w.heap.size w W → Calls Tryd.prog 63 #[f.v, f'.v, .bool rg] W fun e w' => e = .returned (.bool rr) ∧ Below W.heap.size W w') : Calls Tryd.prog 63 #[tyV k m r s (some ⟨g, off, none⟩) 1 cap, tyV k m r' s (some ⟨g', off', none⟩) 1 cap', .bool rg] w fun e w' => e = .returned (.bool rr) ∧ Below w.heap.size w w' := by
  obtain ⟨N1, N2⟩ := two_new w ⟨k, m, r, s, some ⟨g, off, none⟩, 1, cap⟩ ⟨k, m, r', s, some ⟨g', off', none⟩, 1, cap'⟩
  have HB0 := belB w ⟨k, m, r, s, some ⟨g, off, none⟩, 1, cap⟩ ⟨k, m, r', s, some ⟨g', off', none⟩, 1, cap'⟩
  have M1 := hc.below HB0
  have M2 := hc'.below HB0
  have IH : Hid (∀ W, Below w.heap.size w W → Calls Tryd.prog 63 #[f.v, f'.v, .bool rg] W fun e w' => e = .returned (.bool rr) ∧ Below W.heap.size W w') := ih
  clear ih hc hc'
  cases rg with
  | true =>
    obtain rfl := hr rfl
    clear hr
    go_enter Tryd.func63, Tryd.ntmps63
    go_wp2_with fail
    refine beginH (S := fun W => Below ((w.alloc (tyO k m r s (some ⟨g, off, none⟩) 1 cap)).alloc (tyO k m r s (some ⟨g', off', none⟩) 1 cap')).heap.size ((w.alloc (tyO k m r s (some ⟨g, off, none⟩) 1 cap)).alloc (tyO k m r s (some ⟨g', off', none⟩) 1 cap')) W) (fun _ _ _ _ _ h => h) (by kernel_rfl) (Below.refl _ _).drew (fun hq hHeld => ?_)
    refine takeH (i := 0) (d := 36) _ hq rfl rfl (by kernel_rfl) (by kernel_rfl) (by kernel_rfl) (by rfl) (fun W hSw => by (go_simp; try rfl)) hHeld ?_
    try simp only [Act.put, List.setIfInBounds_toArray, List.set_cons_zero, List.set_cons_succ]
    refine takeH (i := 1) (d := 37) (.slice (some ⟨g, off, none⟩) 1 cap) hq rfl rfl (by kernel_rfl) (by kernel_rfl) (by kernel_rfl) (by rfl) (fun W hSw => by (obtain ⟨-, p0, p1, p2, p3, p4⟩ := N1.below hSw; go_simp; try rfl)) hHeld ?_
    try simp only [Act.put, List.setIfInBounds_toArray, List.set_cons_zero, List.set_cons_succ]
    refine takeH (i := 2) (d := 38) _ hq rfl rfl (by kernel_rfl) (by kernel_rfl) (by kernel_rfl) (by rfl) (fun W hSw => by (go_simp; try rfl)) hHeld ?_
    try simp only [Act.put, List.setIfInBounds_toArray, List.set_cons_zero, List.set_cons_succ]
    refine takeH (i := 3) (d := 39) _ hq rfl rfl (by kernel_rfl) (by kernel_rfl) (by kernel_rfl) (by rfl) (fun W hSw => by (go_simp; try rfl)) hHeld ?_
    try simp only [Act.put, List.setIfInBounds_toArray, List.set_cons_zero, List.set_cons_succ]
    refine takeH (i := 4) (d := 40) _ hq rfl rfl (by kernel_rfl) (by kernel_rfl) (by kernel_rfl) (by rfl) (fun W hSw => by (go_simp; try rfl)) hHeld ?_
    try simp only [Act.put, List.setIfInBounds_toArray, List.set_cons_zero, List.set_cons_succ]
    refine takeH (i := 5) (d := 41) _ hq rfl rfl (by kernel_rfl) (by kernel_rfl) (by kernel_rfl) (by rfl) (fun W hSw => by (go_simp; try rfl)) hHeld ?_
    try simp only [Act.put, List.setIfInBounds_toArray, List.set_cons_zero, List.set_cons_succ]
    refine takeH (i := 6) (d := 42) (.slice (some ⟨g, off, none⟩) 1 cap) hq rfl rfl (by kernel_rfl) (by kernel_rfl) (by kernel_rfl) (by rfl) (fun W hSw => by (obtain ⟨-, p0, p1, p2, p3, p4⟩ := N1.below hSw; go_simp; try rfl)) hHeld ?_
    try simp only [Act.put, List.setIfInBounds_toArray, List.set_cons_zero, List.set_cons_succ]
    refine takeH (i := 7) (d := 43) (.pointer (some ⟨g, off, none⟩)) hq rfl rfl (by kernel_rfl) (by kernel_rfl) (by kernel_rfl) (by rfl) (fun W hSw => by (go_simp; try rfl)) hHeld ?_
    try simp only [Act.put, List.setIfInBounds_toArray, List.set_cons_zero, List.set_cons_succ]
    refine takeH (i := 8) (d := 44) f.v hq rfl rfl (by kernel_rfl) (by kernel_rfl) (by kernel_rfl) (by rfl) (fun W hSw => by (obtain ⟨-, p0, p1, p2, p3, p4⟩ := M1.below hSw; go_simp; try rfl)) hHeld ?_
    try simp only [Act.put, List.setIfInBounds_toArray, List.set_cons_zero, List.set_cons_succ]
    refine takeH (i := 9) (d := 45) _ hq rfl rfl (by kernel_rfl) (by kernel_rfl) (by kernel_rfl) (by rfl) (fun W hSw => by (go_simp; try rfl)) hHeld ?_
    try simp only [Act.put, List.setIfInBounds_toArray, List.set_cons_zero, List.set_cons_succ]
    refine takeH (i := 10) (d := 46) (.slice (some ⟨g', off', none⟩) 1 cap') hq rfl rfl (by kernel_rfl) (by kernel_rfl) (by kernel_rfl) (by rfl) (fun W hSw => by (obtain ⟨-, p0, p1, p2, p3, p4⟩ := N2.below hSw; go_simp; try rfl)) hHeld ?_
    try simp only [Act.put, List.setIfInBounds_toArray, List.set_cons_zero, List.set_cons_succ]
    refine takeH (i := 11) (d := 47) (.pointer (some ⟨g', off', none⟩)) hq rfl rfl (by kernel_rfl) (by kernel_rfl) (by kernel_rfl) (by rfl) (fun W hSw => by (go_simp; try rfl)) hHeld ?_
    try simp only [Act.put, List.setIfInBounds_toArray, List.set_cons_zero, List.set_cons_succ]
    refine takeH (i := 12) (d := 48) f'.v hq rfl rfl (by kernel_rfl) (by kernel_rfl) (by kernel_rfl) (by rfl) (fun W hSw => by (obtain ⟨-, p0, p1, p2, p3, p4⟩ := M2.below hSw; go_simp; try rfl)) hHeld ?_
    try simp only [Act.put, List.setIfInBounds_toArray, List.set_cons_zero, List.set_cons_succ]
    refine takeH (i := 13) (d := 49) _ hq rfl rfl (by kernel_rfl) (by kernel_rfl) (by kernel_rfl) (by rfl) (fun W hSw => by (go_simp; try rfl)) hHeld ?_
    try simp only [Act.put, List.setIfInBounds_toArray, List.set_cons_zero, List.set_cons_succ]
    refine wpAnyH_ready (rs := [14]) (by kernel_rfl) (by simp) ?_
    refine AllReadyH.cons rfl (fun K hK => ?_) AllReadyH.nil
    go_simp
    refine (IH.out _ (below2 hHeld)).mono ?_; rintro e w2 ⟨rfl, hb2⟩; have B2 := below_aft hHeld hb2
    go_wp2_with fail
    refine hK.out _ _ B2 (fun hHeld => ?_)
    clear hK K
    try simp only [Act.put, List.setIfInBounds_toArray, List.set_cons_zero, List.set_cons_succ]
    refine takeH (i := 15) (d := 51) _ hq rfl rfl (by kernel_rfl) (by kernel_rfl) (by kernel_rfl) (by rfl) (fun W hSw => by (go_simp; try rfl)) hHeld ?_
    try simp only [Act.put, List.setIfInBounds_toArray, List.set_cons_zero, List.set_cons_succ]
    refine takeH (i := 16) (d := 6) _ hq rfl rfl (by kernel_rfl) (by kernel_rfl) (by kernel_rfl) (by rfl) (fun W hSw => by (go_simp; try rfl)) hHeld ?_
    try simp only [Act.put, List.setIfInBounds_toArray, List.set_cons_zero, List.set_cons_succ]
    refine wpAnyH_done (by kernel_rfl) ?_ _
    have BB := hHeld
    clear hHeld hq
    go_wp2_with fail
    go_ret
    exact ⟨rfl, below2 BB⟩
  | false =>
    clear hr
    go_enter Tryd.func63, Tryd.ntmps63
    go_wp2_with fail
    refine beginH (S := fun W => Below ((w.alloc (tyO k m r s (some ⟨g, off, none⟩) 1 cap)).alloc (tyO k m r' s (some ⟨g', off', none⟩) 1 cap')).heap.size ((w.alloc (tyO k m r s (some ⟨g, off, none⟩) 1 cap)).alloc (tyO k m r' s (some ⟨g', off', none⟩) 1 cap')) W) (fun _ _ _ _ _ h => h) (by kernel_rfl) (Below.refl _ _).drew (fun hq hHeld => ?_)
    refine takeH (i := 0) (d := 36) _ hq rfl rfl (by kernel_rfl) (by kernel_rfl) (by kernel_rfl) (by rfl) (fun W hSw => by (go_simp; try rfl)) hHeld ?_
    try simp only [Act.put, List.setIfInBounds_toArray, List.set_cons_zero, List.set_cons_succ]
    refine takeH (i := 1) (d := 37) (.slice (some ⟨g, off, none⟩) 1 cap) hq rfl rfl (by kernel_rfl) (by kernel_rfl) (by kernel_rfl) (by rfl) (fun W hSw => by (obtain ⟨-, p0, p1, p2, p3, p4⟩ := N1.below hSw; go_simp; try rfl)) hHeld ?_
    try simp only [Act.put, List.setIfInBounds_toArray, List.set_cons_zero, List.set_cons_succ]
    refine takeH (i := 2) (d := 38) _ hq rfl rfl (by kernel_rfl) (by kernel_rfl) (by kernel_rfl) (by rfl) (fun W hSw => by (go_simp; try rfl)) hHeld ?_
    try simp only [Act.put, List.setIfInBounds_toArray, List.set_cons_zero, List.set_cons_succ]
    refine takeH (i := 3) (d := 39) _ hq rfl rfl (by kernel_rfl) (by kernel_rfl) (by kernel_rfl) (by rfl) (fun W hSw => by (go_simp; try rfl)) hHeld ?_
    try simp only [Act.put, List.setIfInBounds_toArray, List.set_cons_zero, List.set_cons_succ]
    refine takeH (i := 4) (d := 40) _ hq rfl rfl (by kernel_rfl) (by kernel_rfl) (by kernel_rfl) (by rfl) (fun W hSw => by (go_simp; try rfl)) hHeld ?_
    try simp only [Act.put, List.setIfInBounds_toArray, List.set_cons_zero, List.set_cons_succ]
    refine takeH (i := 5) (d := 41) _ hq rfl rfl (by kernel_rfl) (by kernel_rfl) (by kernel_rfl) (by rfl) (fun W hSw => by (go_simp; try rfl)) hHeld ?_
    try simp only [Act.put, List.setIfInBounds_toArray, List.set_cons_zero, List.set_cons_succ]
    refine takeH (i := 6) (d := 42) (.slice (some ⟨g, off, none⟩) 1 cap) hq rfl rfl (by kernel_rfl) (by kernel_rfl) (by kernel_rfl) (by rfl) (fun W hSw => by (obtain ⟨-, p0, p1, p2, p3, p4⟩ := N1.below hSw; go_simp; try rfl)) hHeld ?_
    try simp only [Act.put, List.setIfInBounds_toArray, List.set_cons_zero, List.set_cons_succ]
    refine takeH (i := 7) (d := 43) (.pointer (some ⟨g, off, none⟩)) hq rfl rfl (by kernel_rfl) (by kernel_rfl) (by kernel_rfl) (by rfl) (fun W hSw => by (go_simp; try rfl)) hHeld ?_
    try simp only [Act.put, List.setIfInBounds_toArray, List.set_cons_zero, List.set_cons_succ]
    refine takeH (i := 8) (d := 44) f.v hq rfl rfl (by kernel_rfl) (by kernel_rfl) (by kernel_rfl) (by rfl) (fun W hSw => by (obtain ⟨-, p0, p1, p2, p3, p4⟩ := M1.below hSw; go_simp; try rfl)) hHeld ?_
    try simp only [Act.put, List.setIfInBounds_toArray, List.set_cons_zero, List.set_cons_succ]
    refine takeH (i := 9) (d := 45) _ hq rfl rfl (by kernel_rfl) (by kernel_rfl) (by kernel_rfl) (by rfl) (fun W hSw => by (go_simp; try rfl)) hHeld ?_
    try simp only [Act.put, List.setIfInBounds_toArray, List.set_cons_zero, List.set_cons_succ]
    refine takeH (i := 10) (d := 46) (.slice (some ⟨g', off', none⟩) 1 cap') hq rfl rfl (by kernel_rfl) (by kernel_rfl) (by kernel_rfl) (by rfl) (fun W hSw => by (obtain ⟨-, p0, p1, p2, p3, p4⟩ := N2.below hSw; go_simp; try rfl)) hHeld ?_
    try simp only [Act.put, List.setIfInBounds_toArray, List.set_cons_zero, List.set_cons_succ]
    refine takeH (i := 11) (d := 47) (.pointer (some ⟨g', off', none⟩)) hq rfl rfl (by kernel_rfl) (by kernel_rfl) (by kernel_rfl) (by rfl) (fun W hSw => by (go_simp; try rfl)) hHeld ?_
    try simp only [Act.put, List.setIfInBounds_toArray, List.set_cons_zero, List.set_cons_succ]
    refine takeH (i := 12) (d := 48) f'.v hq rfl rfl (by kernel_rfl) (by kernel_rfl) (by kernel_rfl) (by rfl) (fun W hSw => by (obtain ⟨-, p0, p1, p2, p3, p4⟩ := M2.below hSw; go_simp; try rfl)) hHeld ?_
    try simp only [Act.put, List.setIfInBounds_toArray, List.set_cons_zero, List.set_cons_succ]
    refine takeH (i := 13) (d := 49) _ hq rfl rfl (by kernel_rfl) (by kernel_rfl) (by kernel_rfl) (by rfl) (fun W hSw => by (go_simp; try rfl)) hHeld ?_
    try simp only [Act.put, List.setIfInBounds_toArray, List.set_cons_zero, List.set_cons_succ]
    refine wpAnyH_ready (rs := [14]) (by kernel_rfl) (by simp) ?_
    refine AllReadyH.cons rfl (fun K hK => ?_) AllReadyH.nil
    go_simp
    refine (IH.out _ (below2 hHeld)).mono ?_; rintro e w2 ⟨rfl, hb2⟩; have B2 := below_aft hHeld hb2
    go_wp2_with fail
    refine hK.out _ _ B2 (fun hHeld => ?_)
    clear hK K
    try simp only [Act.put, List.setIfInBounds_toArray, List.set_cons_zero, List.set_cons_succ]
    refine takeH (i := 15) (d := 51) _ hq rfl rfl (by kernel_rfl) (by kernel_rfl) (by kernel_rfl) (by rfl) (fun W hSw => by (go_simp; try rfl)) hHeld ?_
    try simp only [Act.put, List.setIfInBounds_toArray, List.set_cons_zero, List.set_cons_succ]
    refine takeH (i := 16) (d := 6) _ hq rfl rfl (by kernel_rfl) (by kernel_rfl) (by kernel_rfl) (by rfl) (fun W hSw => by (go_simp; try rfl)) hHeld ?_
    try simp only [Act.put, List.setIfInBounds_toArray, List.set_cons_zero, List.set_cons_succ]
    refine wpAnyH_done (by kernel_rfl) ?_ _
    have BB := hHeld
    clear hHeld hq
    go_wp2_with fail
    go_ret
    exact ⟨rfl, below2 BB⟩
/-- Alike; with their regions too. -/
def alikeR (rg : Bool) : Ch → Ch → Bool
  | .leaf k s, .leaf k' s' => decide (k = k') && decide (s = s')
  | .box c, .box d => alikeR rg c d
  | .ref m r c, .ref m' r' d => decide (m = m') && (!rg || decide (r = r')) && alikeR rg c d
  | _, _ => false
theorem alikeR_no : ∀ c d : Ch, alikeR false c d = alikeB c d
  | .leaf _ _, .leaf _ _ => rfl
  | .leaf _ _, .box _ => rfl
  | .leaf _ _, .ref _ _ _ => rfl
  | .box _, .leaf _ _ => rfl
  | .box c, .box d => by simp only [alikeR, alikeB]; exact alikeR_no c d
  | .box _, .ref _ _ _ => rfl
  | .ref _ _ _, .leaf _ _ => rfl
  | .ref _ _ _, .box _ => rfl
  | .ref m r c, .ref m' r' d => by simp only [alikeR, alikeB, alikeR_no c d, Bool.not_false, Bool.true_or, Bool.and_true]
theorem alikeR_yes : ∀ c d : Ch, alikeR true c d = sameC c d
  | .leaf k s, .leaf k' s' => by rw [Bool.eq_iff_iff]; simp [alikeR, sameC, alikeB, Ch.regs]
  | .leaf _ _, .box _ => by simp [alikeR, sameC, alikeB]
  | .leaf _ _, .ref _ _ _ => by simp [alikeR, sameC, alikeB]
  | .box _, .leaf _ _ => by simp [alikeR, sameC, alikeB]
  | .box c, .box d => alikeR_yes c d
  | .box _, .ref _ _ _ => by simp [alikeR, sameC, alikeB]
  | .ref _ _ _, .leaf _ _ => by simp [alikeR, sameC, alikeB]
  | .ref _ _ _, .box _ => by simp [alikeR, sameC, alikeB]
  | .ref m r c, .ref m' r' d => by
    rw [alikeR, alikeR_yes c d, Bool.eq_iff_iff]
    simp [sameC, alikeB, Ch.regs]
    constructor
    · rintro ⟨⟨a, b⟩, x, y⟩; exact ⟨⟨a, x⟩, b, y⟩
    · rintro ⟨⟨a, x⟩, b, y⟩; exact ⟨⟨a, b⟩, x, y⟩
theorem alike_any : ∀ (c d : Ch) (f f' : Fv) (w : World), c.ok 32 → d.ok 32 → TyAt w f c.ty → TyAt w f' d.ty → Calls Tryd.prog 62 #[f.v, f'.v] w fun e w' => e = .returned (.bool (alikeB c d)) ∧ Below w.heap.size w w' := by
  intro c
  induction c with
  | leaf k s =>
    intro d f f' w hc hd h h'
    obtain ⟨a, cap, rfl, -⟩ := h.leaf
    have hk : ¬ k = 3 ∧ ¬ k = 4 := by
      have : (k = 1 ∨ k = 2) ∧ s = 0 ∨ k = 5 ∧ 0 ≤ s ∧ s < 32 := hc
      omega
    cases d with
    | leaf k' s' =>
      obtain ⟨a', cap', rfl, -⟩ := h'.leaf
      by_cases e1 : k = k'
      · subst e1
        by_cases e2 : s = s'
        · subst e2
          have e : alikeB (.leaf k s) (.leaf k s) = true := by simp [alikeB]
          rw [e]
          exact alike_leaf k false 0 s 0 a a' 0 cap 0 cap' w hk.1 hk.2
        · have e : alikeB (.leaf k s) (.leaf k s') = false := by simp [alikeB, e2]
          rw [e]
          exact alike_no _ _ w (.inr (.inr e2))
      · have e : alikeB (.leaf k s) (.leaf k' s') = false := by simp [alikeB, e1]
        rw [e]
        exact alike_no _ _ w (.inl e1)
    | box d =>
      obtain ⟨g, off, cap', f', rfl, -⟩ := h'.box
      exact alike_no _ _ w (.inl hk.1)
    | ref m r d =>
      obtain ⟨g, off, cap', f', rfl, -⟩ := h'.ref
      exact alike_no _ _ w (.inl hk.2)
  | box c ih =>
    intro d f f' w hc hd h h'
    obtain ⟨g, off, cap, f1, rfl, hc1, ht1⟩ := h.box
    cases d with
    | leaf k' s' =>
      obtain ⟨a', cap', rfl, -⟩ := h'.leaf
      have hk : ¬ 3 = k' := by
        have : (k' = 1 ∨ k' = 2) ∧ s' = 0 ∨ k' = 5 ∧ 0 ≤ s' ∧ s' < 32 := hd
        omega
      exact alike_no _ _ w (.inl hk)
    | box d =>
      obtain ⟨g', off', cap', f2, rfl, hc2, ht2⟩ := h'.box
      have e : alikeB (.box c) (.box d) = alikeB c d := rfl
      rw [e]
      exact alike_one 3 false 0 0 0 g off g' off' cap cap' f1 f2 _ w (.inl rfl) hc1 hc2 (fun W hW => ih d f1 f2 W hc hd (ht1.bel hW) (ht2.bel hW))
    | ref m r d =>
      obtain ⟨g', off', cap', f', rfl, -⟩ := h'.ref
      exact alike_no _ _ w (.inl (by simp))
  | ref m r c ih =>
    intro d f f' w hc hd h h'
    obtain ⟨g, off, cap, f1, rfl, hc1, ht1, -⟩ := h.ref
    cases d with
    | leaf k' s' =>
      obtain ⟨a', cap', rfl, -⟩ := h'.leaf
      have hk : ¬ 4 = k' := by
        have : (k' = 1 ∨ k' = 2) ∧ s' = 0 ∨ k' = 5 ∧ 0 ≤ s' ∧ s' < 32 := hd
        omega
      exact alike_no _ _ w (.inl hk)
    | box d =>
      obtain ⟨g', off', cap', f2, rfl, hc2, ht2⟩ := h'.box
      exact alike_no _ _ w (.inl (by simp))
    | ref m' r' d =>
      obtain ⟨g', off', cap', f2, rfl, hc2, ht2, -⟩ := h'.ref
      by_cases e1 : m = m'
      · subst e1
        have e : alikeB (.ref m r c) (.ref m r' d) = alikeB c d := by simp [alikeB]
        rw [e]
        exact alike_one 4 m r 0 r' g off g' off' cap cap' f1 f2 _ w (.inr rfl) hc1 hc2 (fun W hW => ih d f1 f2 W hc.2 hd.2 (ht1.bel hW) (ht2.bel hW))
      · have e : alikeB (.ref m r c) (.ref m' r' d) = false := by simp [alikeB, e1]
        rw [e]
        exact alike_no _ _ w (.inr (.inl e1))
theorem ralike_any (rg : Bool) : ∀ (c d : Ch) (f f' : Fv) (w : World), c.ok 32 → d.ok 32 → TyAt w f c.ty → TyAt w f' d.ty → Calls Tryd.prog 63 #[f.v, f'.v, .bool rg] w fun e w' => e = .returned (.bool (alikeR rg c d)) ∧ Below w.heap.size w w' := by
  intro c
  induction c with
  | leaf k s =>
    intro d f f' w hc hd h h'
    obtain ⟨a, cap, rfl, -⟩ := h.leaf
    have hk : ¬ k = 3 ∧ ¬ k = 4 := by
      have : (k = 1 ∨ k = 2) ∧ s = 0 ∨ k = 5 ∧ 0 ≤ s ∧ s < 32 := hc
      omega
    cases d with
    | leaf k' s' =>
      obtain ⟨a', cap', rfl, -⟩ := h'.leaf
      by_cases e1 : k = k'
      · subst e1
        by_cases e2 : s = s'
        · subst e2
          have e : alikeR rg (.leaf k s) (.leaf k s) = true := by simp [alikeR]
          rw [e]
          exact ralike_leaf k false 0 s 0 a a' cap 0 cap' rg w (fun _ => rfl)
        · have e : alikeR rg (.leaf k s) (.leaf k s') = false := by simp [alikeR, e2]
          rw [e]
          exact ralike_no _ _ rg w (.inr (.inr (.inl e2)))
      · have e : alikeR rg (.leaf k s) (.leaf k' s') = false := by simp [alikeR, e1]
        rw [e]
        exact ralike_no _ _ rg w (.inl e1)
    | box d =>
      obtain ⟨g, off, cap', f', rfl, -⟩ := h'.box
      exact ralike_no _ _ rg w (.inl hk.1)
    | ref m r d =>
      obtain ⟨g, off, cap', f', rfl, -⟩ := h'.ref
      exact ralike_no _ _ rg w (.inl hk.2)
  | box c ih =>
    intro d f f' w hc hd h h'
    obtain ⟨g, off, cap, f1, rfl, hc1, ht1⟩ := h.box
    cases d with
    | leaf k' s' =>
      obtain ⟨a', cap', rfl, -⟩ := h'.leaf
      have hk : ¬ 3 = k' := by
        have : (k' = 1 ∨ k' = 2) ∧ s' = 0 ∨ k' = 5 ∧ 0 ≤ s' ∧ s' < 32 := hd
        omega
      exact ralike_no _ _ rg w (.inl hk)
    | box d =>
      obtain ⟨g', off', cap', f2, rfl, hc2, ht2⟩ := h'.box
      have e : alikeR rg (.box c) (.box d) = alikeR rg c d := rfl
      rw [e]
      exact ralike_one 3 false 0 0 0 g off g' off' cap cap' f1 f2 _ rg w (fun _ => rfl) hc1 hc2 (fun W hW => ih d f1 f2 W hc hd (ht1.bel hW) (ht2.bel hW))
    | ref m r d =>
      obtain ⟨g', off', cap', f', rfl, -⟩ := h'.ref
      exact ralike_no _ _ rg w (.inl (by simp))
  | ref m r c ih =>
    intro d f f' w hc hd h h'
    obtain ⟨g, off, cap, f1, rfl, hc1, ht1, -⟩ := h.ref
    cases d with
    | leaf k' s' =>
      obtain ⟨a', cap', rfl, -⟩ := h'.leaf
      have hk : ¬ 4 = k' := by
        have : (k' = 1 ∨ k' = 2) ∧ s' = 0 ∨ k' = 5 ∧ 0 ≤ s' ∧ s' < 32 := hd
        omega
      exact ralike_no _ _ rg w (.inl hk)
    | box d =>
      obtain ⟨g', off', cap', f2, rfl, hc2, ht2⟩ := h'.box
      exact ralike_no _ _ rg w (.inl (by simp))
    | ref m' r' d =>
      obtain ⟨g', off', cap', f2, rfl, hc2, ht2, -⟩ := h'.ref
      by_cases e1 : m = m'
      · subst e1
        by_cases e2 : rg = true → r = r'
        · have e : alikeR rg (.ref m r c) (.ref m r' d) = alikeR rg c d := by
            have : (!rg || decide (r = r')) = true := by cases rg <;> simp_all
            simp [alikeR, this]
          rw [e]
          exact ralike_one 4 m r 0 r' g off g' off' cap cap' f1 f2 _ rg w e2 hc1 hc2 (fun W hW => ih d f1 f2 W hc.2 hd.2 (ht1.bel hW) (ht2.bel hW))
        · have e3 : rg = true ∧ ¬ r = r' := by cases rg <;> simp_all
          have e : alikeR rg (.ref m r c) (.ref m r' d) = false := by simp [alikeR, e3.1, e3.2]
          rw [e]
          exact ralike_no _ _ rg w (.inr (.inr (.inr e3)))
      · have e : alikeR rg (.ref m r c) (.ref m' r' d) = false := by simp [alikeR, e1]
        rw [e]
        exact ralike_no _ _ rg w (.inr (.inl e1))
end Go.Proofs.YtjchbclkdbojpaaDoor
