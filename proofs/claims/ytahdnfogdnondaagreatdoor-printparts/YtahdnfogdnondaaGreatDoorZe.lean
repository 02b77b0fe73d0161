import Derived.Test.YtahdnfogdnondaaGreatDoorZd
namespace Go.Proofs.YtahdnfogdnondaaGreatDoor
open Go.RowKit
set_option linter.unusedVariables false
set_option linter.unusedSimpArgs false

theorem OC.range {W W' : World} {lo hi g n k : Nat} {T : List Nd} {cur : Array Value} (h : OC W lo hi g n T k cur) (hs : ∀ b, lo ≤ b → b < hi → W'.heap[b]? = W.heap[b]?) : OC W' lo hi g n T k cur :=
  ⟨(hs g h.lg h.gh).trans h.at_, h.size, h.lg, h.gh, fun i d hi' hd => by
    obtain ⟨v, h1, h2, h3⟩ := h.nd i d hi' hd
    refine ⟨v, h1, ⟨h2.1, ?_⟩, h3⟩
    rcases h2.2 with hn | ⟨g', cap', cur', rfl, e1, e2, e3⟩
    · exact .inl hn
    · exact .inr ⟨g', cap', cur', rfl, e1, (hs g' e1 (h3 g' rfl).2).trans e2, e3⟩, h.rest⟩
theorem owns_low {W : World} {lo lo' n : Nat} {v : Value} {xs : List Value} (h : W.ownsRow lo 3 1 v n xs) (hl : lo' ≤ lo) : W.ownsRow lo' 3 1 v n xs := by
  refine ⟨h.1, ?_⟩
  rcases h.2 with hn | ⟨g', cap', cur', rfl, e1, e2⟩
  · exact .inl hn
  · exact .inr ⟨g', cap', cur', rfl, Nat.le_trans hl e1, e2⟩
theorem OC.low {W : World} {lo lo' hi g n k : Nat} {T : List Nd} {cur : Array Value} (h : OC W lo hi g n T k cur) (hl : lo' ≤ lo) : OC W lo' hi g n T k cur :=
  ⟨h.at_, h.size, Nat.le_trans hl h.lg, h.gh, fun i d hi' hd => by
    obtain ⟨v, h1, h2, h3⟩ := h.nd i d hi' hd
    exact ⟨v, h1, owns_low h2 hl, h3⟩, h.rest⟩
/-- What a part of a tree is. -/
structure Part (x : Nx) (c : Fo) (T : List Nd) (n : Nat) (y : Nx) (e : Fo) (d : Nat) : Prop where
  sub : (Fo.cons x c .nil).sub n = some (y, e)
  len : n + 1 + e.size ≤ T.length
  ok : (Fo.cons y e .nil).all okP = true
  deep : (Fo.cons y e .nil).deep ≤ (Fo.cons x c .nil).deep
  seg : (T.drop n).take (1 + e.size) = (Fo.cons y e .nil).flat (0 + n)
  l1 : (lvI x c)[n]? = some (d : Int)
  l2 : ∀ j, j < e.size → ∃ v : Int, (lvI x c)[n + 1 + j]? = some v ∧ (d : Int) < v
  l3 : n + 1 + e.size < T.length → ∃ v : Int, (lvI x c)[n + 1 + e.size]? = some v ∧ v ≤ (d : Int)
theorem part_of {x : Nx} {c : Fo} {T : List Nd} (hT : T = (Fo.cons x c .nil).flat 0) (ha : (Fo.cons x c .nil).all okP = true) {n : Nat} (hn : n < T.length) : ∃ y e d, Part x c T n y e d := by
  have hl : T.length = (Fo.cons x c .nil).size := by rw [hT, Fo.len_flat]
  obtain ⟨y, e, h1, h2, h3, h4, h5, h6⟩ := Fo.sub_some (.cons x c .nil) n (by omega)
  obtain ⟨d, rest, g1, g2, g3⟩ := h6 0
  obtain ⟨k1, k2, k3⟩ := lv_from g2 g3
  have hlv : (Fo.lv 0 (.cons x c .nil)).length = T.length := by rw [Fo.len_lv, hl]
  refine ⟨y, e, d, h1, by omega, h4 okP ha, h3, by rw [hT]; exact h5 0, by simp [lvI, k1], fun j hj => ?_, fun hlt => ?_⟩
  · obtain ⟨v, e1, e2⟩ := k2 j hj
    exact ⟨v, by simp [lvI, e1], by omega⟩
  · obtain ⟨v, e1, e2⟩ := k3 (by omega)
    exact ⟨v, by simp [lvI, e1], by omega⟩
set_option maxRecDepth 100000 in
set_option maxHeartbeats 8000000 in
theorem sub_yes (x : Nx) (c : Fo) (T : List Nd) (hTe : T = (Fo.cons x c .nil).flat 0) (hMay : Mayb okP T) (ha : (Fo.cons x c .nil).all okP = true) (n : Nat) (y : Nx) (e0 : Fo) (dd : Nat) (hP : Part x c T n y e0 dd) (a : Option Addr) (cap : Nat) (w : World) (hT : TAt w a T) (hS : Sm T) (hcap : T.length ≤ cap) :
    Calls Tryz.prog 25 #[trV a T.length cap, .int .i64 n] w fun e w' => ∃ g cur, e = .returned (.tuple #[trV (some ⟨g, 0, none⟩) (1 + e0.size) (1 + e0.size), .int .i64 0]) ∧ OC w' w.heap.size w'.heap.size g (1 + e0.size) ((Fo.cons y e0 .nil).flat 0) (1 + e0.size) cur ∧ Below w.heap.size w w' := by
  have hTn := hS.n
  have hTl : T.length = 1 + c.size := by rw [hTe, Fo.len_flat]; simp [Fo.size]
  have hT0 : T ≠ [] := mayb_ne hMay
  obtain ⟨m, hm⟩ : ∃ m, m = 1 + e0.size := ⟨_, rfl⟩
  have hlen := hP.len
  obtain ⟨W2, hW2⟩ : ∃ W2, W2 = (w.alloc (Tro a T.length cap)).alloc (Tro none 0 0) := ⟨_, rfl⟩
  have B2 : Below w.heap.size w W2 := by rw [hW2]; exact belA (belA (Below.refl _ _))
  have A1 : At W2 w.heap.size (Tro a T.length cap) := by rw [hW2]; exact at_fst _ _ _
  have A2 : At W2 (w.heap.size + 1) (Tro none 0 0) := by rw [hW2]; exact at_snd _ _ _
  have HW2 : Hid ((w.alloc (.cells #[.slice a T.length cap] 24)).alloc (.cells #[.slice none 0 0] 24) = W2) := hW2.symm
  clear hW2
  have HM : Hid (∀ W, Below w.heap.size w W → Calls Tryz.prog 24 #[trV a T.length cap] W fun e w' => e = .returned (.bool true) ∧ Below W.heap.size W w') := fun W hW => may_yes (hT.below hW) hS hMay
  have HBH : Hid (∀ W, Below w.heap.size w W → Calls Tryz.prog 50 #[trV a T.length cap, .int .i64 n] W fun e w' => e = .returned (.int .i64 ((n : Int) + (m : Int))) ∧ Below W.heap.size W w') := fun W hW => by
    have := behind_any x c T hTe n e0.size dd a cap W (hT.below hW) hS hlen hP.l1 hP.l2 hP.l3
    rw [show ((n + 1 + e0.size : Nat) : Int) = (n : Int) + (m : Int) by omega] at this
    exact this
  obtain ⟨gt, ot, rfl, hrow⟩ := hT hT0
  have hsegl : ((T.drop n).take m).length = m := by rw [List.length_take, List.length_drop]; omega
  have HSH : Hid (∀ W, Below w.heap.size w W → Calls Tryz.prog 49 #[.slice (some ⟨gt, ot + n * 5, none⟩) m (cap - n), .int .i64 (-(n : Int))] W fun e w' => ∃ cur, e = .returned (.slice (some ⟨W.heap.size, 0, none⟩) m m) ∧ OC w' W.heap.size w'.heap.size W.heap.size m ((Fo.cons y e0 .nil).flat 0) m cur ∧ Below W.heap.size W w') := fun W hW => by
    have hmv : Mvb ((T.drop n).take m) (-(n : Int)) := by
      have hsub : ∀ d, d ∈ (T.drop n).take m → d ∈ T := fun d hd => List.mem_of_mem_drop (List.mem_of_mem_take hd)
      refine ⟨by omega, fun d hd => ?_, fun d hd => (hS.d d (hsub d hd)).l, fun d hd => ?_, by omega⟩
      · have := (ok_txt _ ha 0 d (by rw [← hTe]; exact hsub d hd)).1
        omega
      · intro q hq
        have := (flat_kids _ 0 d (by rw [← hTe]; exact hsub d hd)).1 q hq
        simp only [Fo.size] at this
        omega
    have := shifted_n ((T.drop n).take m) m hsegl (some ⟨gt, ot + n * 5, none⟩) (cap - n) (-(n : Int)) W (fun _ => ⟨gt, ot + n * 5, rfl, (hrow.seg n m).below hW⟩) hmv
    rw [seg_front (x := y) (c := e0) (by rw [hm]; exact hP.seg)] at this
    exact this
  have HMM : Hid (m = 1 + e0.size) := hm
  rw [← hm]
  have hm1 : 1 ≤ m := by omega
  have hnm : n + m ≤ T.length := by omega
  clear hm hrow hP hTe hTl hlen
  obtain ⟨x0, xf⟩ := A1.one
  have z1 : ¬ (n : Int) < 0 := by omega
  have z1' : decide ((n : Int) < 0) = false := decide_eq_false z1
  have z2 : ¬ (T.length : Int) ≤ (n : Int) := by omega
  have z2' : decide ((T.length : Int) ≤ (n : Int)) = false := decide_eq_false z2
  have z3 : (0 : Int) ≤ (n : Int) := by omega
  have z4 : (0 : Int) ≤ (n : Int) + (m : Int) := by omega
  have z5 : (n : Int) + (m : Int) ≤ (cap : Int) := by omega
  have z6 : ((n : Int) + (m : Int)).toNat = n + m := by omega
  have z8 : n ≤ n + m := by omega
  have z7 : n + m - n = m := by omega
  have zc : ¬ cap = n := by omega
  have zn : IntKind.i64.wrap (-(n : Int)) = -(n : Int) := by rw [IntKind.wrap_i64]; omega
  go_enter Tryz.func25, Tryz.ntmps25
  go_wp2_with (go_at_call 24; rw [HW2.out]; refine (HM.out _ B2).mono ?_; rintro e w1 ⟨rfl, hb1⟩; obtain ⟨y0, yf⟩ := (A1.below hb1).one)
  have B1 : Below w.heap.size w w1 := below_aft B2 hb1
  have D1 := A1.below hb1
  have D2 := A2.below hb1
  have hsz1 : w.heap.size + 1 < w1.heap.size := D2.lt
  clear hb1 A1 A2 x0 xf HW2 B2 hT0
  refine beginH (S := fun w' => KeepX w1.heap.size (w.heap.size + 1) w1 w') (fun _ _ _ _ _ h => h) (by kernel_rfl) (Keep.drew _ _).x (fun hq hHeld => ?_)
  refine takeH (i := 0) (d := 21) _ hq rfl rfl (by kernel_rfl) (by kernel_rfl) (by kernel_rfl) (by rfl) (fun W hSw => by (go_simp; try rfl)) hHeld ?_
  try simp only [Act.put, List.setIfInBounds_toArray, List.set_cons_zero, List.set_cons_succ]
  refine takeH (i := 1) (d := 22) _ hq rfl rfl (by kernel_rfl) (by kernel_rfl) (by kernel_rfl) (by rfl) (fun W hSw => by (have s1 := (hSw.cell (b := w.heap.size) (o := 0) (by omega) (by omega)).trans y0; go_simp; try rfl)) hHeld ?_
  try simp only [Act.put, List.setIfInBounds_toArray, List.set_cons_zero, List.set_cons_succ]
  refine takeH (i := 2) (d := 23) _ hq rfl rfl (by kernel_rfl) (by kernel_rfl) (by kernel_rfl) (by rfl) (fun W hSw => by (go_simp; try rfl)) hHeld ?_
  try simp only [Act.put, List.setIfInBounds_toArray, List.set_cons_zero, List.set_cons_succ]
  refine takeH (i := 3) (d := 24) _ hq rfl rfl (by kernel_rfl) (by kernel_rfl) (by kernel_rfl) (by rfl) (fun W hSw => by (have s1 := (hSw.cell (b := w.heap.size) (o := 0) (by omega) (by omega)).trans y0; go_simp; try rfl)) hHeld ?_
  try simp only [Act.put, List.setIfInBounds_toArray, List.set_cons_zero, List.set_cons_succ]
  refine takeH (i := 4) (d := 25) _ hq rfl rfl (by kernel_rfl) (by kernel_rfl) (by kernel_rfl) (by rfl) (fun W hSw => by (go_simp; try rfl)) hHeld ?_
  try simp only [Act.put, List.setIfInBounds_toArray, List.set_cons_zero, List.set_cons_succ]
  refine takeH (i := 7) (d := 28) _ hq rfl rfl (by kernel_rfl) (by kernel_rfl) (by kernel_rfl) (by rfl) (fun W hSw => by (go_simp; try rfl)) hHeld ?_
  try simp only [Act.put, List.setIfInBounds_toArray, List.set_cons_zero, List.set_cons_succ]
  refine takeH (i := 8) (d := 29) (.int .i64 (-(n : Int))) hq rfl rfl (by kernel_rfl) (by kernel_rfl) (by kernel_rfl) (by rfl) (fun W hSw => by (go_simp; try rfl)) hHeld ?_
  try simp only [Act.put, List.setIfInBounds_toArray, List.set_cons_zero, List.set_cons_succ]
  refine wpAnyH_ready (rs := [5]) (by kernel_rfl) (by simp) ?_
  refine AllReadyH.cons rfl (fun K hK => ?_) AllReadyH.nil
  go_simp
  refine (HBH.out _ B1.drew).mono ?_; rintro e w3 ⟨rfl, hb3⟩; have K3 : Keep w1.heap.size w1 w3 := (Keep.drew _ _).trans (Keep.below hb3 (Nat.le_refl _)); have B3 : Below w.heap.size w w3 := below_aft B1.drew hb3
  go_wp2_with fail
  refine hK.out _ _ K3.x (fun hHeld => ?_)
  clear hK K
  try simp only [Act.put, List.setIfInBounds_toArray, List.set_cons_zero, List.set_cons_succ]
  refine takeH (i := 6) (d := 27) (.slice (some ⟨gt, ot + n * 5, none⟩) m (cap - n)) hq rfl rfl (by kernel_rfl) (by kernel_rfl) (by kernel_rfl) (by rfl) (fun W hSw => by (go_simp; try rfl)) hHeld ?_
  try simp only [Act.put, List.setIfInBounds_toArray, List.set_cons_zero, List.set_cons_succ]
  refine wpAnyH_ready (rs := [9]) (by kernel_rfl) (by simp) ?_
  refine AllReadyH.cons rfl (fun K hK => ?_) AllReadyH.nil
  go_simp
  refine (HSH.out _ B3).mono ?_; rintro e w4 ⟨cur, rfl, hO, hb4⟩; have K4 : Keep w1.heap.size w1 w4 := K3.trans (Keep.below hb4 K3.size); have B4 : Below w.heap.size w w4 := below_aft B3 hb4
  go_wp2_with fail
  refine hK.out _ _ K4.x (fun hHeld => ?_)
  clear hK K
  try simp only [Act.put, List.setIfInBounds_toArray, List.set_cons_zero, List.set_cons_succ]
  refine takeH (i := 10) (d := 31) _ hq rfl rfl (by kernel_rfl) (by kernel_rfl) (by kernel_rfl) (by rfl) (fun W hSw => by (go_simp; try rfl)) hHeld ?_
  try simp only [Act.put, List.setIfInBounds_toArray, List.set_cons_zero, List.set_cons_succ]
  have D4 : At w4 (w.heap.size + 1) (Tro none 0 0) := (K4.same _ (by omega)).trans D2
  obtain ⟨r0, rf⟩ := D4.one
  refine wpAnyH_ready (rs := [11]) (by kernel_rfl) (by simp) ?_
  refine AllReadyH.cons rfl (fun K hK => ?_) AllReadyH.nil
  go_simp
  go_wp2_with fail
  refine hK.out _ _ ⟨by simp; exact K4.size, fun b hb hbg => (Below.heap_setCell _ _ _ b hbg).trans (K4.same b hb)⟩ (fun hHeld => ?_)
  clear hK K
  try simp only [Act.put, List.setIfInBounds_toArray, List.set_cons_zero, List.set_cons_succ]
  refine takeH (i := 12) (d := 5) _ hq rfl rfl (by kernel_rfl) (by kernel_rfl) (by kernel_rfl) (by rfl) (fun W hSw => by (go_simp; try rfl)) hHeld ?_
  try simp only [Act.put, List.setIfInBounds_toArray, List.set_cons_zero, List.set_cons_succ]
  refine wpAnyH_done (by kernel_rfl) ?_ _
  have hk3 := K3.size
  have D5 := D4.setOne (.slice (some ⟨w3.heap.size, 0, none⟩) m m)
  have r5 := D5.one.1
  go_wp2
  refine bodyPost_ret (v := .tuple #[trV (some ⟨w3.heap.size, 0, none⟩) m m, .int .i64 0]) (by simp [results, Tryz.results25, go_sem, r5]) rfl ⟨w3.heap.size, cur, rfl, ?_, B4.setCell (by simp) _⟩
  have hgh := hO.gh
  rw [World.size_setCell]
  have hB3 := B3.size
  exact (hO.range (fun b hb _ => Below.heap_setCell _ _ _ b (by show b ≠ w.heap.size + 1; omega))).low hB3
set_option maxRecDepth 100000 in
set_option maxHeartbeats 8000000 in
theorem sub_no (T : List Nd) (n : Int) (a : Option Addr) (cap : Nat) (w : World) (hT : TAt w a T) (hS : Sm T) (h : ¬ (Mayb okP T ∧ 0 ≤ n ∧ n < T.length)) :
    Calls Tryz.prog 25 #[trV a T.length cap, .int .i64 n] w fun e w' => e = .returned (.tuple #[trV none 0 0, .int .i64 2]) ∧ Below w.heap.size w w' := by
  obtain ⟨W2, hW2⟩ : ∃ W2, W2 = (w.alloc (Tro a T.length cap)).alloc (Tro none 0 0) := ⟨_, rfl⟩
  have B2 : Below w.heap.size w W2 := by rw [hW2]; exact belA (belA (Below.refl _ _))
  have A1 : At W2 w.heap.size (Tro a T.length cap) := by rw [hW2]; exact at_fst _ _ _
  have A2 : At W2 (w.heap.size + 1) (Tro none 0 0) := by rw [hW2]; exact at_snd _ _ _
  have HW2 : Hid ((w.alloc (.cells #[.slice a T.length cap] 24)).alloc (.cells #[.slice none 0 0] 24) = W2) := hW2.symm
  clear hW2
  by_cases hM : Mayb okP T
  · have HM : Hid (∀ W, Below w.heap.size w W → Calls Tryz.prog 24 #[trV a T.length cap] W fun e w' => e = .returned (.bool true) ∧ Below W.heap.size W w') := fun W hW => may_yes (hT.below hW) hS hM
    by_cases hn : n < 0
    · have z1 : decide (n < 0) = true := decide_eq_true hn
      clear h hM
      go_enter Tryz.func25, Tryz.ntmps25
      go_wp2_with (go_at_call 24; rw [HW2.out]; refine (HM.out _ B2).mono ?_; rintro e w1 ⟨rfl, hb1⟩; obtain ⟨y0, yf⟩ := (A1.below hb1).one; obtain ⟨r0, rf⟩ := (A2.below hb1).one)
      have r5 := ((A2.below hb1).setOne (.slice none 0 0)).one.1
      exact bodyPost_ret (v := .tuple #[trV none 0 0, .int .i64 2]) (by simp [results, Tryz.results25, go_sem, r5]) rfl ⟨rfl, (below_aft B2 hb1).setCell (by simp) _⟩
    · have z1 : decide (n < 0) = false := decide_eq_false hn
      have hge : (T.length : Int) ≤ n := by
        apply Classical.byContradiction
        intro hh
        exact h ⟨hM, by omega, by omega⟩
      have z2 : decide ((T.length : Int) ≤ n) = true := decide_eq_true hge
      clear h hM
      go_enter Tryz.func25, Tryz.ntmps25
      go_wp2_with (go_at_call 24; rw [HW2.out]; refine (HM.out _ B2).mono ?_; rintro e w1 ⟨rfl, hb1⟩; obtain ⟨y0, yf⟩ := (A1.below hb1).one; obtain ⟨r0, rf⟩ := (A2.below hb1).one)
      have r5 := ((A2.below hb1).setOne (.slice none 0 0)).one.1
      exact bodyPost_ret (v := .tuple #[trV none 0 0, .int .i64 2]) (by simp [results, Tryz.results25, go_sem, r5]) rfl ⟨rfl, (below_aft B2 hb1).setCell (by simp) _⟩
  · have HM : Hid (∀ W, Below w.heap.size w W → Calls Tryz.prog 24 #[trV a T.length cap] W fun e w' => e = .returned (.bool false) ∧ Below W.heap.size W w') := fun W hW => may_no (hT.below hW) hS hM
    clear h hM
    go_enter Tryz.func25, Tryz.ntmps25
    go_wp2_with (go_at_call 24; rw [HW2.out]; refine (HM.out _ B2).mono ?_; rintro e w1 ⟨rfl, hb1⟩; obtain ⟨y0, yf⟩ := (A1.below hb1).one; obtain ⟨r0, rf⟩ := (A2.below hb1).one)
    have r5 := ((A2.below hb1).setOne (.slice none 0 0)).one.1
    exact bodyPost_ret (v := .tuple #[trV none 0 0, .int .i64 2]) (by simp [results, Tryz.results25, go_sem, r5]) rfl ⟨rfl, (below_aft B2 hb1).setCell (by simp) _⟩
end Go.Proofs.YtahdnfogdnondaaGreatDoor
