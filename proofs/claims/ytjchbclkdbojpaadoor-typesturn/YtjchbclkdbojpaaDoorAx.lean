import Derived.Test.YtjchbclkdbojpaaDoorAy
namespace Go.Proofs.YtjchbclkdbojpaaDoor
open Go.RowKit Go.Shelf
set_option linter.unusedVariables false
set_option linter.unusedSimpArgs false

set_option maxRecDepth 100000 in
set_option maxHeartbeats 16000000 in
theorem turn_not (t u : Ty) (f f' : Fv) (fr : Int) (a3 : Option Addr) (n cap3 : Nat) (X : List Int) (w : World) (h : TyAt w f t) (h' : TyAt w f' u) (hF : FitC 60 t true) (hF' : FitC 60 u true) (hI : IntR w a3 n cap3 X) (hn : n ≤ 100) (c : Ch) (no0 : Int) (C0 : Ch) (al sa : Bool) (R : List Int) (m1 no1 : Int) (C1 : Ch) (no2 : Int) (C2 : Ch) (T : TurnAll w f f' fr X false c no0 C0 al sa R m1 no1 C1 no2 C2) :
    Calls Tryd.prog 4 #[f.v, f'.v, .int .i64 fr, .slice a3 n cap3] w fun e w' => e = .returned (.bool true) ∧ Below w.heap.size w w' := by
  obtain ⟨rfl, rfl⟩ := T.is_no rfl
  have CA : Hid (∀ W, Calls Tryd.prog 11 #[] W fun e w' => e = .returned (.bool true) ∧ Below W.heap.size W w') := awake_true
  have CF : Hid (Calls Tryd.prog 10 #[f.v, .int .i64 60] ((w.alloc f.o).alloc f'.o) fun e w' => e = .returned (.bool true) ∧ Below ((w.alloc f.o).alloc f'.o).heap.size ((w.alloc f.o).alloc f'.o) w') := hF f _ (h.bel (belB w f f'))
  have CG : Hid (∀ W, Below w.heap.size w W → Calls Tryd.prog 10 #[f'.v, .int .i64 60] W fun e w' => e = .returned (.bool true) ∧ Below W.heap.size W w') := fun W hW => hF' f' _ (h'.bel hW)
  have HN2 : Hid (At ((w.alloc f.o).alloc f'.o) (w.heap.size + 1) f'.o) := at_snd w f.o f'.o
  have HT := hid T
  have HI := hid hI
  obtain ⟨i0, hi, hz0, hz1, hz2⟩ := info_parts Tryd.info3
  have nb : ¬ (100 : Int) < (n : Int) := by omega
  obtain ⟨k, m, r, s, a, nn, cap⟩ := f
  obtain ⟨k', m', r', s', a', nn', cap'⟩ := f'
  show Calls Tryd.prog 4 #[tyV k m r s a nn cap, tyV k' m' r' s' a' nn' cap', .int .i64 fr, .slice a3 n cap3] w _
  clear h h' hF hF' T hI
  have st1 : Stg 1 := .mk 1
  go_enter Tryd.func4, Tryd.ntmps4
  go_wp2_with (first
    | (have _s := st1; clear st1 _s; go_at_call 10; refine CF.out.mono ?_; rintro e w1 ⟨rfl, hb1⟩; have st2 : Stg 2 := .mk 2; obtain ⟨hlp, p0, p1, p2, p3, p4⟩ := (HN2.out.below hb1).ty; simp only [Nat.zero_add] at p0 p1 p2 p3 p4)
    | (have _s := st2; clear st2 _s; go_at_call 10; refine (CG.out _ (below2 hb1)).mono ?_; rintro e w2 ⟨rfl, hb2⟩; have HL2 := hid (lw_two hb1 hb2); have st3 : Stg 3 := .mk 3; clear p0 p1 p2 p3 p4 hlp; obtain ⟨hlp, p0, p1, p2, p3, p4⟩ := HL2.out.a.ty; simp only [Nat.zero_add] at p0 p1 p2 p3 p4)
    | (have _s := st3; clear st3 _s; go_at_call 26; refine (HT.out.own _ HL2.out.bel).mono ?_; rintro e w3 ⟨fx, rfl, hN3⟩; have HL3 := hid (HL2.out.below hN3.bel); have HX3 := hid (Vr.new hN3); have st4 : Stg 4 := .mk 4; clear p0 p1 p2 p3 p4 hlp; obtain ⟨hlp, p0, p1, p2, p3, p4⟩ := HL3.out.a.ty; simp only [Nat.zero_add] at p0 p1 p2 p3 p4)
    | (have _s := st4; clear st4 _s; go_at_call 26; refine (HT.out.own (w3.alloc fx.o) (HL3.out.alloc _).bel).mono ?_; rintro e w4 ⟨fy, rfl, hN4⟩; have HL4 := hid ((HL3.out.alloc _).below hN4.bel); have HX4 := hid (HX3.out.below hN4.bel); have HY4 := hid (Vr.new hN4); have st5 : Stg 5 := .mk 5; clear p0 p1 p2 p3 p4 hlp; obtain ⟨hlp, p0, p1, p2, p3, p4⟩ := HL4.out.a.ty; simp only [Nat.zero_add] at p0 p1 p2 p3 p4)
    | (have _s := st5; clear st5 _s; go_at_call 27; refine (HT.out.isb (w4.alloc fy.o) (HL4.out.alloc _).bel).mono ?_; rintro e w5 ⟨rfl, hb5⟩; have HL5 := hid ((HL4.out.alloc _).below hb5); have HX5 := hid ((HX4.out.alloc _).below hb5); have HY5 := hid (HY4.out.below hb5); have st6 : Stg 6 := .mk 6; clear p0 p1 p2 p3 p4 hlp; obtain ⟨hlp, p0, p1, p2, p3, p4⟩ := HL5.out.a.ty; simp only [Nat.zero_add] at p0 p1 p2 p3 p4; obtain ⟨hlq, q0, q1, q2, q3, q4⟩ := HX5.out.v.ty; simp only [Nat.zero_add] at q0 q1 q2 q3 q4)
    | (have _s := st6; clear st6 _s; go_at_call 24; refine (equal_same (.leaf 0 0) fx zT w5 (HX5.out.ty HT.out.rg0) (TyAt.mkLeaf 0 0 (by decide) (by decide) (by decide) none 0)).mono ?_; rintro e w6 ⟨rfl, hb6⟩; have HL6 := hid (HL5.out.below hb6); have HX6 := hid (HX5.out.below hb6); have HY6 := hid (HY5.out.below hb6); have st7 : Stg 7 := .mk 7; clear p0 p1 p2 p3 p4 hlp; clear q0 q1 q2 q3 q4 hlq; obtain ⟨hlq, q0, q1, q2, q3, q4⟩ := HX6.out.v.ty; simp only [Nat.zero_add] at q0 q1 q2 q3 q4)
    | (have _s := st7; clear st7 _s; go_at_call 25; refine (spoil_any (.leaf 0 0) fx w6 _ _ HX6.out.own hN3.bel.size (by have := hN4.bel.size; have := hb5.size; have := hb6.size; simp only [World.size_alloc] at *; omega)).mono ?_; rintro e w7 ⟨rfl, ho7⟩))
  have s23 := hN3.bel.size
  have s34 : w3.heap.size + 1 ≤ w4.heap.size := by have := hN4.bel.size; simp only [World.size_alloc] at this; omega
  have hL2 := HL2.out.lt
  have HL7 := hid (HL6.out.out ho7 (by omega))
  have HY7 := hid (HY6.out.out ho7 (.inr (by simp only [World.size_alloc]; omega)) (.inr (by omega)))
  have HX7 := hid (ho7.at HX6.out.v (.inr (Nat.le_refl _)))
  obtain ⟨b9, hb9⟩ : ∃ b9, b9 = w3.heap.size := ⟨_, rfl⟩
  obtain ⟨b11, hb11⟩ : ∃ b11, b11 = w4.heap.size := ⟨_, rfl⟩
  have n9 : w.heap.size + 2 ≤ b9 := by omega
  have n11 : b9 < b11 := by omega
  rw [← hb11] at HY7 ⊢
  rw [← hb9] at HX7 ⊢
  have e9 : w.heap.size ≠ b9 := by omega
  have e11 : w.heap.size ≠ b11 := by omega
  have e911 : b9 ≠ b11 := by omega
  have e119 : b11 ≠ b9 := by omega
  clear CF CG HN2 HL2 HL3 HL4 HL5 HL6 HX3 HX4 HX5 HX6 HY4 HY5 HY6 hN3 hN4 hb1 hb2 hb5 hb6 ho7 s23 s34 hL2 hb9 hb11
  clear q0 q1 q2 q3 q4 hlq
  refine beginH (S := (fun W' => Below w7.heap.size w7 W')) (fun _ _ _ _ _ h => h) (by kernel_rfl) (Below.refl _ _).drew (fun hq hHeld => ?_)
  refine takeH (i := 0) (d := 80) _ hq rfl rfl (by kernel_rfl) (by kernel_rfl) (by kernel_rfl) (by rfl) (fun W hSw => by (go_simp; try rfl)) hHeld ?_
  try simp only [Act.put, List.setIfInBounds_toArray, List.set_cons_zero, List.set_cons_succ]
  refine takeH (i := 1) (d := 81) _ hq rfl rfl (by kernel_rfl) (by kernel_rfl) (by kernel_rfl) (by rfl) (fun W hSw => by (go_simp; try rfl)) hHeld ?_
  try simp only [Act.put, List.setIfInBounds_toArray, List.set_cons_zero, List.set_cons_succ]
  refine skipH (i := 2) (d := 82) hq rfl rfl (by kernel_rfl) (by kernel_rfl) (by kernel_rfl) (by rfl) hHeld ?_
  try simp only [Act.put, List.setIfInBounds_toArray, List.set_cons_zero, List.set_cons_succ]
  refine skipH (i := 3) (d := 83) hq rfl rfl (by kernel_rfl) (by kernel_rfl) (by kernel_rfl) (by rfl) hHeld ?_
  try simp only [Act.put, List.setIfInBounds_toArray, List.set_cons_zero, List.set_cons_succ]
  refine skipH (i := 4) (d := 84) hq rfl rfl (by kernel_rfl) (by kernel_rfl) (by kernel_rfl) (by rfl) hHeld ?_
  try simp only [Act.put, List.setIfInBounds_toArray, List.set_cons_zero, List.set_cons_succ]
  refine skipH (i := 5) (d := 85) hq rfl rfl (by kernel_rfl) (by kernel_rfl) (by kernel_rfl) (by rfl) hHeld ?_
  try simp only [Act.put, List.setIfInBounds_toArray, List.set_cons_zero, List.set_cons_succ]
  refine takeH (i := 6) (d := 86) _ hq rfl rfl (by kernel_rfl) (by kernel_rfl) (by kernel_rfl) (by rfl) (fun W hSw => by (go_simp; try rfl)) hHeld ?_
  try simp only [Act.put, List.setIfInBounds_toArray, List.set_cons_zero, List.set_cons_succ]
  refine takeH (i := 7) (d := 87) _ hq rfl rfl (by kernel_rfl) (by kernel_rfl) (by kernel_rfl) (by rfl) (fun W hSw => by (go_simp; try rfl)) hHeld ?_
  try simp only [Act.put, List.setIfInBounds_toArray, List.set_cons_zero, List.set_cons_succ]
  refine takeH (i := 8) (d := 88) (tyV k m r s a nn cap) hq rfl rfl (by kernel_rfl) (by kernel_rfl) (by kernel_rfl) (by rfl) (fun W hSw => by (obtain ⟨-, p0, p1, p2, p3, p4⟩ := (HL7.out.below hSw).a.ty; go_simp; try rfl)) hHeld ?_
  try simp only [Act.put, List.setIfInBounds_toArray, List.set_cons_zero, List.set_cons_succ]
  refine takeH (i := 9) (d := 89) (tyV k' m' r' s' a' nn' cap') hq rfl rfl (by kernel_rfl) (by kernel_rfl) (by kernel_rfl) (by rfl) (fun W hSw => by (obtain ⟨-, p0, p1, p2, p3, p4⟩ := (HL7.out.below hSw).b.ty; go_simp; try rfl)) hHeld ?_
  try simp only [Act.put, List.setIfInBounds_toArray, List.set_cons_zero, List.set_cons_succ]
  refine takeH (i := 11) (d := 91) (tyV k m r s a nn cap) hq rfl rfl (by kernel_rfl) (by kernel_rfl) (by kernel_rfl) (by rfl) (fun W hSw => by (obtain ⟨-, p0, p1, p2, p3, p4⟩ := (HL7.out.below hSw).a.ty; go_simp; try rfl)) hHeld ?_
  try simp only [Act.put, List.setIfInBounds_toArray, List.set_cons_zero, List.set_cons_succ]
  refine takeH (i := 12) (d := 92) (tyV k' m' r' s' a' nn' cap') hq rfl rfl (by kernel_rfl) (by kernel_rfl) (by kernel_rfl) (by rfl) (fun W hSw => by (obtain ⟨-, p0, p1, p2, p3, p4⟩ := (HL7.out.below hSw).b.ty; go_simp; try rfl)) hHeld ?_
  try simp only [Act.put, List.setIfInBounds_toArray, List.set_cons_zero, List.set_cons_succ]
  refine wpAnyH_ready (rs := [10]) (by kernel_rfl) (by simp) ?_
  refine AllReadyH.cons rfl (fun K hK => ?_) AllReadyH.nil
  go_simp
  refine (HT.out.al1 _ (HL7.out.below hHeld).bel).mono ?_; rintro e wp ⟨rfl, hbwp⟩; have Bwp := below_aft hHeld hbwp
  go_wp2_with fail
  refine hK.out _ _ Bwp (fun hHeld => ?_)
  clear hK K
  try simp only [Act.put, List.setIfInBounds_toArray, List.set_cons_zero, List.set_cons_succ]
  refine wpAnyH_ready (rs := [13]) (by kernel_rfl) (by simp) ?_
  refine AllReadyH.cons rfl (fun K hK => ?_) AllReadyH.nil
  go_simp
  refine (HT.out.al2 _ (HL7.out.below hHeld).bel).mono ?_; rintro e wq ⟨rfl, hbwq⟩; have Bwq := below_aft hHeld hbwq
  go_wp2_with fail
  refine hK.out _ _ Bwq (fun hHeld => ?_)
  clear hK K
  try simp only [Act.put, List.setIfInBounds_toArray, List.set_cons_zero, List.set_cons_succ]
  refine takeH (i := 14) (d := 94) (.bool false) hq rfl rfl (by kernel_rfl) (by kernel_rfl) (by kernel_rfl) (by rfl) (fun W hSw => by (go_simp; try rfl)) hHeld ?_
  try simp only [Act.put, List.setIfInBounds_toArray, List.set_cons_zero, List.set_cons_succ]
  refine takeH (i := 15) (d := 95) (.bool false) hq rfl rfl (by kernel_rfl) (by kernel_rfl) (by kernel_rfl) (by rfl) (fun W hSw => by (go_simp; try rfl)) hHeld ?_
  try simp only [Act.put, List.setIfInBounds_toArray, List.set_cons_zero, List.set_cons_succ]
  refine takeH (i := 16) (d := 96) _ hq rfl rfl (by kernel_rfl) (by kernel_rfl) (by kernel_rfl) (by rfl) (fun W hSw => by (go_simp; try rfl)) hHeld ?_
  try simp only [Act.put, List.setIfInBounds_toArray, List.set_cons_zero, List.set_cons_succ]
  refine takeH (i := 17) (d := 97) (tyV k m r s a nn cap) hq rfl rfl (by kernel_rfl) (by kernel_rfl) (by kernel_rfl) (by rfl) (fun W hSw => by (obtain ⟨-, p0, p1, p2, p3, p4⟩ := (HL7.out.below hSw).a.ty; go_simp; try rfl)) hHeld ?_
  try simp only [Act.put, List.setIfInBounds_toArray, List.set_cons_zero, List.set_cons_succ]
  refine takeH (i := 18) (d := 98) (tyV k' m' r' s' a' nn' cap') hq rfl rfl (by kernel_rfl) (by kernel_rfl) (by kernel_rfl) (by rfl) (fun W hSw => by (obtain ⟨-, p0, p1, p2, p3, p4⟩ := (HL7.out.below hSw).b.ty; go_simp; try rfl)) hHeld ?_
  try simp only [Act.put, List.setIfInBounds_toArray, List.set_cons_zero, List.set_cons_succ]
  refine takeH (i := 20) (d := 100) (tyV k m r s a nn cap) hq rfl rfl (by kernel_rfl) (by kernel_rfl) (by kernel_rfl) (by rfl) (fun W hSw => by (obtain ⟨-, p0, p1, p2, p3, p4⟩ := (HL7.out.below hSw).a.ty; go_simp; try rfl)) hHeld ?_
  try simp only [Act.put, List.setIfInBounds_toArray, List.set_cons_zero, List.set_cons_succ]
  refine takeH (i := 21) (d := 101) (tyV k' m' r' s' a' nn' cap') hq rfl rfl (by kernel_rfl) (by kernel_rfl) (by kernel_rfl) (by rfl) (fun W hSw => by (obtain ⟨-, p0, p1, p2, p3, p4⟩ := (HL7.out.below hSw).b.ty; go_simp; try rfl)) hHeld ?_
  try simp only [Act.put, List.setIfInBounds_toArray, List.set_cons_zero, List.set_cons_succ]
  refine wpAnyH_ready (rs := [19]) (by kernel_rfl) (by simp) ?_
  refine AllReadyH.cons rfl (fun K hK => ?_) AllReadyH.nil
  go_simp
  refine (HT.out.sa1 _ (HL7.out.below hHeld).bel).mono ?_; rintro e wr ⟨rfl, hbwr⟩; have Bwr := below_aft hHeld hbwr
  go_wp2_with fail
  refine hK.out _ _ Bwr (fun hHeld => ?_)
  clear hK K
  try simp only [Act.put, List.setIfInBounds_toArray, List.set_cons_zero, List.set_cons_succ]
  refine wpAnyH_ready (rs := [22]) (by kernel_rfl) (by simp) ?_
  refine AllReadyH.cons rfl (fun K hK => ?_) AllReadyH.nil
  go_simp
  refine (HT.out.sa2 _ (HL7.out.below hHeld).bel).mono ?_; rintro e w12 ⟨rfl, hbw12⟩; have Bw12 := below_aft hHeld hbw12
  go_wp2_with fail
  refine hK.out _ _ Bw12 (fun hHeld => ?_)
  clear hK K
  try simp only [Act.put, List.setIfInBounds_toArray, List.set_cons_zero, List.set_cons_succ]
  refine takeH (i := 23) (d := 103) (.bool false) hq rfl rfl (by kernel_rfl) (by kernel_rfl) (by kernel_rfl) (by rfl) (fun W hSw => by (go_simp; try rfl)) hHeld ?_
  try simp only [Act.put, List.setIfInBounds_toArray, List.set_cons_zero, List.set_cons_succ]
  refine takeH (i := 24) (d := 104) (.bool false) hq rfl rfl (by kernel_rfl) (by kernel_rfl) (by kernel_rfl) (by rfl) (fun W hSw => by (go_simp; try rfl)) hHeld ?_
  try simp only [Act.put, List.setIfInBounds_toArray, List.set_cons_zero, List.set_cons_succ]
  refine wpAnyH_done (by kernel_rfl) ?_ _
  have HL12 := hid (HL7.out.below hHeld)
  have HX12 := hid (HX7.out.below hHeld)
  have HY12 := hid (HY7.out.v.below hHeld)
  clear hHeld hq HL7 HX7 HY7
  obtain ⟨hlp, p0, p1, p2, p3, p4⟩ := HL12.out.a.ty
  simp only [Nat.zero_add] at p0 p1 p2 p3 p4
  go_wp2_with (first
    | (go_at_call 32; refine (HT.out.r1 _ HL12.out.bel).mono ?_; rintro e w13 ⟨⟨v1, rfl, o1⟩, hb13⟩; obtain ⟨a1, c1, rfl⟩ := own_sl o1; have HL13 := hid (HL12.out.below hb13); clear p0 p1 p2 p3 p4 hlp; obtain ⟨hlp, p0, p1, p2, p3, p4⟩ := HL13.out.a.ty; simp only [Nat.zero_add] at p0 p1 p2 p3 p4)
    | (go_at_call 33; refine (HT.out.r2 _ HL13.out.bel).mono ?_; rintro e w14 ⟨⟨v2, rfl, o2⟩, hb14⟩; obtain ⟨a2, c2, rfl⟩ := own_sl o2; have HL14 := hid (HL13.out.below hb14); clear p0 p1 p2 p3 p4 hlp))
  have HO1 := hid (own_below o1 hb14)
  have HO2 := hid o2
  have HX14 := hid ((HX12.out.below hb13).below hb14)
  have HY14 := hid ((HY12.out.below hb13).below hb14)
  have hR := HT.out.len
  clear o1 o2 hb13 hb14 HL12 HL13 HX12 HY12
  go_loopw [16] (fun i W => ∃ j : Nat, j ≤ R.length ∧ i = .int .i64 j ∧ Below w14.heap.size w14 W) (fun i _ => R.length - (intOf i).toNat)
  case atStart => exact ⟨0, Nat.zero_le _, rfl, Below.refl _ _⟩
  case round =>
    obtain ⟨j, hj, rfl, hB⟩ := hrel
    have HB := hid hB
    clear hB
    by_cases hlt : j < R.length
    · have HP1 := own_below HO1.out HB.out
      have HP2 := own_below HO2.out HB.out
      obtain ⟨g1, rfl, -, hg1, hc1, -⟩ := irow_at HP1 (by omega)
      obtain ⟨g2, rfl, -, hg2, hc2, -⟩ := irow_at HP2 (by omega)
      obtain ⟨x, hx⟩ : ∃ x, (iCells R)[j]? = some (.int .i64 x) := ⟨R[j], by simp [iCells, List.getElem?_eq_getElem hlt]⟩
      have hd1 := (hc1 j hlt).trans hx
      have hd2 := (hc2 j hlt).trans hx
      have k0 : (0 : Int) ≤ (j : Int) := by omega
      have k1 : (j : Int) < (R.length : Int) := by omega
      have k2 : (j : Int) ≤ 1000 := by omega
      clear hc1 hc2 HP1 HP2 hx
      go_wp2_with fail
      go_quiet (fail)
      go_wp2_with fail
      refine ⟨⟨j + 1, hlt, rfl, belN HB.out nq⟩, ?_⟩
      show R.length - ((j : Int) + 1).toNat < R.length - (j : Int).toNat
      omega
    · obtain rfl : j = R.length := by omega
      have z1 : ¬ ((R.length : Int) < (R.length : Int)) := by omega
      have HLc := hid (HL14.out.below HB.out)
      have HXc := hid (HX14.out.below HB.out)
      have HYc := hid (HY14.out.below HB.out)
      clear HL14 HX14 HY14 HO1 HO2 HB
      obtain ⟨hlp, p0, p1, p2, p3, p4⟩ := HLc.out.a.ty
      simp only [Nat.zero_add] at p0 p1 p2 p3 p4
      go_wp2_with fail
      refine (HT.out.n1 _ HLc.out.bel).mono ?_
      rintro e w15 ⟨fx1, rfl, hN15⟩
      have AX15 := HXc.out.below hN15.bel
      clear p0 p1 p2 p3 p4 hlp
      go_wp2_with (refine wpl_store26 b9 _ fx1 AX15 rfl rfl ?_; intro W15 hW15; have HX15 : Hid (Vr W15 b9 fx1 wr.heap.size w15.heap.size C1) := (by rw [hW15]; exact Vr.put hN15 HXc.out); have HL15 : Hid (Lw w ⟨k, m, r, s, a, nn, cap⟩ ⟨k', m', r', s', a', nn', cap'⟩ W15) := (by rw [hW15]; exact (HLc.out.below hN15.bel).s5 n9 fx1); have AY15 : Hid (At W15 b11 fy.o) := (by rw [hW15]; exact (HYc.out.below hN15.bel).S5 e119 fx1); have Z15 : W15.heap.size = w15.heap.size := (by rw [hW15]; exact size_S5 _ _ _); clear hW15 AX15; obtain ⟨hlp, p0, p1, p2, p3, p4⟩ := HL15.out.a.ty; simp only [Nat.zero_add] at p0 p1 p2 p3 p4)
      refine (HT.out.n1 W15 HL15.out.bel).mono ?_
      rintro e w16 ⟨fy1, rfl, hN16⟩
      have AY16 := AY15.out.below hN16.bel
      have lY15 := HYc.out.lt
      clear p0 p1 p2 p3 p4 hlp
      go_wp2_with (refine wpl_store26 b11 _ fy1 AY16 rfl rfl ?_; intro W16 hW16; have HX16 : Hid (Vr W16 b9 fx1 wr.heap.size w15.heap.size C1) := (by rw [hW16]; exact (HX15.out.below hN16.bel).s5 e911 (.inl lY15) fy1); have HY16 : Hid (Vr W16 b11 fy1 W15.heap.size w16.heap.size C1) := (by rw [hW16]; exact Vr.put hN16 AY15.out); have HL16 : Hid (Lw w ⟨k, m, r, s, a, nn, cap⟩ ⟨k', m', r', s', a', nn', cap'⟩ W16) := (by rw [hW16]; exact (HL15.out.below hN16.bel).s5 (b := b11) (by omega) fy1); have Z16 : W16.heap.size = w16.heap.size := (by rw [hW16]; exact size_S5 _ _ _); clear hW16 AY16; obtain ⟨hlp, p0, p1, p2, p3, p4⟩ := HL16.out.a.ty; simp only [Nat.zero_add] at p0 p1 p2 p3 p4)
      refine (HT.out.n2 W16 HL16.out.bel).mono ?_
      rintro e w17 ⟨fz, rfl, hN17⟩
      have HX17 := hid (HX16.out.below hN17.bel)
      have HY17 := hid (HY16.out.below hN17.bel)
      have HL17 := hid (HL16.out.below hN17.bel)
      have HZ17 := hid (Vr.new hN17)
      clear p0 p1 p2 p3 p4 hlp
      obtain ⟨hlp, p0, p1, p2, p3, p4⟩ := HX17.out.v.ty
      simp only [Nat.zero_add] at p0 p1 p2 p3 p4
      go_wp2_with fail
      refine (equal_same C1 fx1 fz _ ((HX17.out.alloc _).ty HT.out.rg1) (HZ17.out.ty HT.out.rg1)).mono ?_
      rintro e w18 ⟨rfl, hb18⟩
      have HX18 := hid ((HX17.out.alloc _).below hb18)
      have HY18 := hid ((HY17.out.alloc _).below hb18)
      have HZ18 := hid (HZ17.out.below hb18)
      have HL18 := hid ((HL17.out.alloc _).below hb18)
      clear p0 p1 p2 p3 p4 hlp
      obtain ⟨hlp, p0, p1, p2, p3, p4⟩ := HX18.out.v.ty
      simp only [Nat.zero_add] at p0 p1 p2 p3 p4
      go_wp2_with fail
      refine (spoil_any C1 fx1 w18 _ _ HX18.out.own hN15.bel.size (by have s15 := hN15.bel.size; have s16 := hN16.bel.size; have s17 := hN17.bel.size; have s18 := hb18.size; have lX := HXc.out.lt; have lY := HYc.out.lt; have lL := HLc.out.lt; simp only [World.size_alloc] at s18; omega)).mono ?_
      rintro e w19 ⟨rfl, ho19⟩
      have HY19 := hid (HY18.out.out ho19 (by have s15 := hN15.bel.size; have s16 := hN16.bel.size; have s17 := hN17.bel.size; have s18 := hb18.size; have lX := HXc.out.lt; have lY := HYc.out.lt; have lL := HLc.out.lt; simp only [World.size_alloc] at s18; omega) (by have s15 := hN15.bel.size; have s16 := hN16.bel.size; have s17 := hN17.bel.size; have s18 := hb18.size; have lX := HXc.out.lt; have lY := HYc.out.lt; have lL := HLc.out.lt; simp only [World.size_alloc] at s18; omega))
      have HZ19 := hid (HZ18.out.out ho19 (by have s15 := hN15.bel.size; have s16 := hN16.bel.size; have s17 := hN17.bel.size; have s18 := hb18.size; have lX := HXc.out.lt; have lY := HYc.out.lt; have lL := HLc.out.lt; simp only [World.size_alloc] at s18; omega) (by have s15 := hN15.bel.size; have s16 := hN16.bel.size; have s17 := hN17.bel.size; have s18 := hb18.size; have lX := HXc.out.lt; have lY := HYc.out.lt; have lL := HLc.out.lt; simp only [World.size_alloc] at s18; omega))
      have HL19 := hid (HL18.out.out ho19 (by have s15 := hN15.bel.size; have s16 := hN16.bel.size; have s17 := hN17.bel.size; have s18 := hb18.size; have lX := HXc.out.lt; have lY := HYc.out.lt; have lL := HLc.out.lt; simp only [World.size_alloc] at s18; omega))
      have AX19 := hid (ho19.at HX18.out.v (by have s15 := hN15.bel.size; have s16 := hN16.bel.size; have s17 := hN17.bel.size; have s18 := hb18.size; have lX := HXc.out.lt; have lY := HYc.out.lt; have lL := HLc.out.lt; simp only [World.size_alloc] at s18; omega))
      clear p0 p1 p2 p3 p4 hlp
      obtain ⟨hlp, p0, p1, p2, p3, p4⟩ := HY19.out.v.ty
      simp only [Nat.zero_add] at p0 p1 p2 p3 p4
      obtain ⟨hlq, q0, q1, q2, q3, q4⟩ := HZ19.out.v.ty
      simp only [Nat.zero_add] at q0 q1 q2 q3 q4
      go_wp2_with fail
      refine (equal_same C1 fy1 fz _ (HY19.out.ty HT.out.rg1) (HZ19.out.ty HT.out.rg1)).mono ?_
      rintro e w20 ⟨rfl, hb20⟩
      have HL20 := hid (HL19.out.below hb20)
      have AX20 := hid (AX19.out.below hb20)
      have AY20 := hid (HY19.out.v.below hb20)
      have AZ20 := hid (HZ19.out.v.below hb20)
      have HI20 := hid (HI.out.bel HL20.out.bel)
      clear p0 p1 p2 p3 p4 hlp
      clear q0 q1 q2 q3 q4 hlq
      have st7 : Stg 7 := .mk 7
      go_wp2_with (first
    | (have _s := st7; clear st7 _s; at_builtin; refine wpl_append_int rfl _ _ rfl w20.heap.size _ 0 [] rfl (World.ownsRow_nil _ _ _ _) a3 n cap3 X rfl HI20.out (by unfold maxLen; omega) (by omega) (Nat.le_refl _) ?_; intro v5 w21 ho21 hg21; have HO21 := hid ho21; have B21 : Hid (Below w20.heap.size w20 w21) := (Below.refl _ _).grown hg21 (Nat.le_refl _) (fun k hk => by cases (show (none : Option Nat) = some k from hk)); clear ho21 hg21; have st8 : Stg 8 := .mk 8)
    | (have _s := st8; clear st8 _s; at_builtin; refine wpList_append_own _ rfl _ _ 49 rfl w20.heap.size 3 i0 (.int .i64 0) 1 8 Tryd.underlying49 hi hz0 hz1 hz2 rfl (by decide) _ (0 + n) _ rfl (HO21.out.alloc _) ⟨w21.heap.size, 0, none⟩ 1 1 [.int .i64 77] rfl rfl (news77 w21) ones77 (by unfold maxLen; omega) (by omega) (by have := B21.out.size; simp only [World.size_alloc]; omega) ?_; intro v6 w22 ho22 hg22 hn22; obtain ⟨go, co, hvv⟩ := own_is ho22 (by omega); subst hvv; have HO22 := hid ho22; have B22 : Hid (Below w20.heap.size w20 w22) := (belA B21.out).grown hg22 (by have := B21.out.size; simp only [World.size_alloc]; omega) (fun k hk => (HO21.out.lt k hk).1); clear ho22 hg22 hn22))
      have e18 : w.heap.size + 2 ≤ w17.heap.size := by have := HL17.out.lt; omega
      obtain ⟨b18, hb18e⟩ : ∃ b18, b18 = w17.heap.size := ⟨_, rfl⟩
      have HL22 := hid (HL20.out.below B22.out)
      have AX22 := hid (AX20.out.below B22.out)
      have AY22 := hid (AY20.out.below B22.out)
      have AZ22 := hid (AZ20.out.below B22.out)
      have lYz : b11 < w17.heap.size := HY17.out.v.lt
      rw [← hb18e] at AZ22 e18 lYz ⊢
      have e189 : b18 ≠ b9 := by omega
      have e1811 : b18 ≠ b11 := by omega
      have HRow22 := hid (rowOwn HO22.out HI.out.len.symm)
      have hgo : w.heap.size + 2 ≤ go := by have := (HO22.out.lt go rfl).1; have := HL20.out.lt; omega
      have hgo9 : go ≠ b9 := by have := (HO22.out.lt go rfl).1; have := AX20.out.lt; omega
      have hgo11 : go ≠ b11 := by have := (HO22.out.lt go rfl).1; have := AY20.out.lt; omega
      have hgo18 : go ≠ b18 := by have := (HO22.out.lt go rfl).1; have := AZ20.out.lt; omega
      have hco : n + 1 ≤ co := HRow22.out.cap
      have kn0 : (0 : Int) ≤ (n : Int) := by omega
      have kn1 : (n : Int) ≤ (co : Int) := by omega
      have kn2 : ¬ co = 0 := by omega
      clear HO21 HO22 B21 B22 HL15 HL16 HL17 HL18 HL19 HL20 HX15 HX16 HX17 HX18 HY16 HY17 HY18 HY19 HZ17 HZ18 HZ19 AY15 AX19 AX20 AY20 AZ20 HLc HXc HYc hN15 hN16 hN17 hb18 ho19 hb20 hb18e HI20
      refine beginH (S := (fun W' => At W' w.heap.size (Fv.o ⟨k, m, r, s, a, nn, cap⟩))) (fun _ _ _ _ _ h => h) (by kernel_rfl) HL22.out.a.drew (fun hq hHeld => ?_)
      refine takeH (i := 0) (d := 175) (tyV k m r s a nn cap) hq rfl rfl (by kernel_rfl) (by kernel_rfl) (by kernel_rfl) (by rfl) (fun W hSw => by (obtain ⟨-, p0, p1, p2, p3, p4⟩ := At.ty hSw; go_simp; try rfl)) hHeld ?_
      try simp only [Act.put, List.setIfInBounds_toArray, List.set_cons_zero, List.set_cons_succ]
      refine takeH (i := 1) (d := 176) _ hq rfl rfl (by kernel_rfl) (by kernel_rfl) (by kernel_rfl) (by rfl) (fun W hSw => by (go_simp; try rfl)) hHeld ?_
      try simp only [Act.put, List.setIfInBounds_toArray, List.set_cons_zero, List.set_cons_succ]
      refine takeH (i := 2) (d := 177) _ hq rfl rfl (by kernel_rfl) (by kernel_rfl) (by kernel_rfl) (by rfl) (fun W hSw => by (go_simp; try rfl)) hHeld ?_
      try simp only [Act.put, List.setIfInBounds_toArray, List.set_cons_zero, List.set_cons_succ]
      refine takeH (i := 3) (d := 178) _ hq rfl rfl (by kernel_rfl) (by kernel_rfl) (by kernel_rfl) (by rfl) (fun W hSw => by (go_simp; try rfl)) hHeld ?_
      try simp only [Act.put, List.setIfInBounds_toArray, List.set_cons_zero, List.set_cons_succ]
      refine takeH (i := 4) (d := 179) (.slice (some ⟨go, 0, none⟩) n co) hq rfl rfl (by kernel_rfl) (by kernel_rfl) (by kernel_rfl) (by rfl) (fun W hSw => by (go_simp; try rfl)) hHeld ?_
      try simp only [Act.put, List.setIfInBounds_toArray, List.set_cons_zero, List.set_cons_succ]
      refine wpAnyH_ready (rs := [5]) (by kernel_rfl) (by simp) ?_
      refine AllReadyH.cons rfl (fun K hK => ?_) AllReadyH.nil
      go_simp
      refine (HT.out.a1 _ _ _ _ HL22.out.drew.bel (HRow22.out.drew.int HI.out.rng)).mono ?_; rintro e w23 ⟨fx2, rfl, hN23⟩; have HL23p := hid (HL22.out.drew.below hN23.bel); have AV23 := AX22.out.drew.below hN23.bel
      go_wp2_with fail
      refine hK.out _ _ HL23p.out.a (fun hHeld => ?_)
      clear hK K
      try simp only [Act.put, List.setIfInBounds_toArray, List.set_cons_zero, List.set_cons_succ]
      refine takeH (i := 6) (d := 174) _ hq rfl rfl (by kernel_rfl) (by kernel_rfl) (by kernel_rfl) (by rfl) (fun W hSw => by (go_simp; try rfl)) hHeld ?_
      try simp only [Act.put, List.setIfInBounds_toArray, List.set_cons_zero, List.set_cons_succ]
      refine takeH (i := 7) (d := 181) fx2.v hq rfl rfl (by kernel_rfl) (by kernel_rfl) (by kernel_rfl) (by rfl) (fun W hSw => by (go_simp; try rfl)) hHeld ?_
      try simp only [Act.put, List.setIfInBounds_toArray, List.set_cons_zero, List.set_cons_succ]
      refine takeH (i := 8) (d := 182) (.int .i64 no2) hq rfl rfl (by kernel_rfl) (by kernel_rfl) (by kernel_rfl) (by rfl) (fun W hSw => by (go_simp; try rfl)) hHeld ?_
      try simp only [Act.put, List.setIfInBounds_toArray, List.set_cons_zero, List.set_cons_succ]
      obtain ⟨hlq, q0, q1, q2, q3, q4⟩ := AV23.ty
      simp only [Nat.zero_add] at q0 q1 q2 q3 q4
      have g0 := (AV23).tyF 0
      have g1 := (AV23).tyF 1
      have g2 := (AV23).tyF 2
      have g3 := (AV23).tyF 3
      have g4 := (AV23).tyF 4
      refine wpAnyH_ready (rs := [9]) (by kernel_rfl) (by simp) ?_
      refine AllReadyH.cons rfl (fun K hK => ?_) AllReadyH.nil
      go_simp
      go_wp2_with fail
      refine hK.out _ _ ?_ (fun hHeld => ?_)
      · with_reducible exact At.S5 HL23p.out.a e9 fx2
      clear hK K
      try simp only [Act.put, List.setIfInBounds_toArray, List.set_cons_zero, List.set_cons_succ]
      refine takeH (i := 10) (d := 10) _ hq rfl rfl (by kernel_rfl) (by kernel_rfl) (by kernel_rfl) (by rfl) (fun W hSw => by (go_simp; try rfl)) hHeld ?_
      try simp only [Act.put, List.setIfInBounds_toArray, List.set_cons_zero, List.set_cons_succ]
      refine wpAnyH_done (by kernel_rfl) ?_ _
      obtain ⟨W23, hW23⟩ : ∃ W, W = S5 w23 b9 fx2 := ⟨_, rfl⟩
      have HX23 : Hid (Vr W23 b9 fx2 w22.heap.size w23.heap.size C2) := (by rw [hW23]; exact Vr.put (W := w22.drew) hN23 AX22.out.drew)
      have HL23 : Hid (Lw w ⟨k, m, r, s, a, nn, cap⟩ ⟨k', m', r', s', a', nn', cap'⟩ W23) := (by rw [hW23]; exact HL23p.out.s5 n9 fx2)
      have AY23 : Hid (At W23 b11 fy1.o) := (by rw [hW23]; exact (AY22.out.drew.below hN23.bel).S5 e119 fx2)
      have AZ23 : Hid (At W23 b18 fz.o) := (by rw [hW23]; exact (AZ22.out.drew.below hN23.bel).S5 e189 fx2)
      have HRow23 : Hid (RowO W23 go co n X) := (by rw [hW23]; exact (HRow22.out.drew.below hN23.bel).s5 hgo9 fx2)
      have s23 : w22.heap.size ≤ w23.heap.size := hN23.bel.size
      have s23' : W23.heap.size = w23.heap.size := (by rw [hW23]; exact size_S5 _ _ _)
      have l9 : b9 < w22.heap.size := AX22.out.lt
      have l11 : b11 < w22.heap.size := AY22.out.lt
      have l18 : b18 < w22.heap.size := AZ22.out.lt
      have lgo : go < w22.heap.size := HRow22.out.lt
      have lL22 := HL22.out.lt
      rw [← show W23 = (((((w23.setCell ⟨b9, 0, none⟩ (.int .u8 (fx2.k : Int))).setCell ⟨b9, 1, none⟩ (.bool fx2.m)).setCell ⟨b9, 2, none⟩ (.int .i64 fx2.r)).setCell ⟨b9, 3, none⟩ (.int .i64 fx2.s)).setCell ⟨b9, 4, none⟩ (.slice fx2.a fx2.n fx2.cap)) from hW23]
      clear hW23 hHeld hq q0 q1 q2 q3 q4 hlq g0 g1 g2 g3 g4 AV23
      clear HL23p hN23 HL22 AX22 AY22 AZ22 HRow22
      go_wp2_with fail
      refine beginH (S := (fun W' => At W' w.heap.size (Fv.o ⟨k, m, r, s, a, nn, cap⟩))) (fun _ _ _ _ _ h => h) (by kernel_rfl) HL23.out.a.drew (fun hq hHeld => ?_)
      refine takeH (i := 0) (d := 184) (tyV k m r s a nn cap) hq rfl rfl (by kernel_rfl) (by kernel_rfl) (by kernel_rfl) (by rfl) (fun W hSw => by (obtain ⟨-, p0, p1, p2, p3, p4⟩ := At.ty hSw; go_simp; try rfl)) hHeld ?_
      try simp only [Act.put, List.setIfInBounds_toArray, List.set_cons_zero, List.set_cons_succ]
      refine takeH (i := 1) (d := 185) _ hq rfl rfl (by kernel_rfl) (by kernel_rfl) (by kernel_rfl) (by rfl) (fun W hSw => by (go_simp; try rfl)) hHeld ?_
      try simp only [Act.put, List.setIfInBounds_toArray, List.set_cons_zero, List.set_cons_succ]
      refine takeH (i := 2) (d := 186) _ hq rfl rfl (by kernel_rfl) (by kernel_rfl) (by kernel_rfl) (by rfl) (fun W hSw => by (go_simp; try rfl)) hHeld ?_
      try simp only [Act.put, List.setIfInBounds_toArray, List.set_cons_zero, List.set_cons_succ]
      refine takeH (i := 3) (d := 187) _ hq rfl rfl (by kernel_rfl) (by kernel_rfl) (by kernel_rfl) (by rfl) (fun W hSw => by (go_simp; try rfl)) hHeld ?_
      try simp only [Act.put, List.setIfInBounds_toArray, List.set_cons_zero, List.set_cons_succ]
      refine takeH (i := 4) (d := 188) (.slice (some ⟨go, 0, none⟩) n co) hq rfl rfl (by kernel_rfl) (by kernel_rfl) (by kernel_rfl) (by rfl) (fun W hSw => by (go_simp; try rfl)) hHeld ?_
      try simp only [Act.put, List.setIfInBounds_toArray, List.set_cons_zero, List.set_cons_succ]
      refine wpAnyH_ready (rs := [5]) (by kernel_rfl) (by simp) ?_
      refine AllReadyH.cons rfl (fun K hK => ?_) AllReadyH.nil
      go_simp
      refine (HT.out.a1 _ _ _ _ HL23.out.drew.bel (HRow23.out.drew.int HI.out.rng)).mono ?_; rintro e w24 ⟨fy2, rfl, hN24⟩; have HL24p := hid (HL23.out.drew.below hN24.bel); have AV24 := AY23.out.drew.below hN24.bel
      go_wp2_with fail
      refine hK.out _ _ HL24p.out.a (fun hHeld => ?_)
      clear hK K
      try simp only [Act.put, List.setIfInBounds_toArray, List.set_cons_zero, List.set_cons_succ]
      refine takeH (i := 6) (d := 183) _ hq rfl rfl (by kernel_rfl) (by kernel_rfl) (by kernel_rfl) (by rfl) (fun W hSw => by (go_simp; try rfl)) hHeld ?_
      try simp only [Act.put, List.setIfInBounds_toArray, List.set_cons_zero, List.set_cons_succ]
      refine takeH (i := 7) (d := 190) fy2.v hq rfl rfl (by kernel_rfl) (by kernel_rfl) (by kernel_rfl) (by rfl) (fun W hSw => by (go_simp; try rfl)) hHeld ?_
      try simp only [Act.put, List.setIfInBounds_toArray, List.set_cons_zero, List.set_cons_succ]
      refine takeH (i := 8) (d := 191) (.int .i64 no2) hq rfl rfl (by kernel_rfl) (by kernel_rfl) (by kernel_rfl) (by rfl) (fun W hSw => by (go_simp; try rfl)) hHeld ?_
      try simp only [Act.put, List.setIfInBounds_toArray, List.set_cons_zero, List.set_cons_succ]
      obtain ⟨hlq, q0, q1, q2, q3, q4⟩ := AV24.ty
      simp only [Nat.zero_add] at q0 q1 q2 q3 q4
      have g0 := (AV24).tyF 0
      have g1 := (AV24).tyF 1
      have g2 := (AV24).tyF 2
      have g3 := (AV24).tyF 3
      have g4 := (AV24).tyF 4
      refine wpAnyH_ready (rs := [9]) (by kernel_rfl) (by simp) ?_
      refine AllReadyH.cons rfl (fun K hK => ?_) AllReadyH.nil
      go_simp
      go_wp2_with fail
      refine hK.out _ _ ?_ (fun hHeld => ?_)
      · with_reducible exact At.S5 HL24p.out.a e11 fy2
      clear hK K
      try simp only [Act.put, List.setIfInBounds_toArray, List.set_cons_zero, List.set_cons_succ]
      refine wpAnyH_done (by kernel_rfl) ?_ _
      obtain ⟨W24, hW24⟩ : ∃ W, W = S5 w24 b11 fy2 := ⟨_, rfl⟩
      have l1823 : b18 < W23.heap.size := AZ23.out.lt
      have HY24 : Hid (Vr W24 b11 fy2 W23.heap.size w24.heap.size C2) := (by rw [hW24]; exact Vr.put (W := W23.drew) hN24 AY23.out.drew)
      have HL24 : Hid (Lw w ⟨k, m, r, s, a, nn, cap⟩ ⟨k', m', r', s', a', nn', cap'⟩ W24) := (by rw [hW24]; exact HL24p.out.s5 (b := b11) (by omega) fy2)
      have HX24 : Hid (Vr W24 b9 fx2 w22.heap.size w23.heap.size C2) := (by rw [hW24]; exact (HX23.out.drew.below hN24.bel).s5 e911 (.inl l11) fy2)
      have AZ24 : Hid (At W24 b18 fz.o) := (by rw [hW24]; exact (AZ23.out.drew.below hN24.bel).S5 e1811 fy2)
      have HRow24 : Hid (RowO W24 go co n X) := (by rw [hW24]; exact (HRow23.out.drew.below hN24.bel).s5 hgo11 fy2)
      have s24 : W23.heap.size ≤ w24.heap.size := hN24.bel.size
      have s24' : W24.heap.size = w24.heap.size := (by rw [hW24]; exact size_S5 _ _ _)
      rw [← show W24 = (((((w24.setCell ⟨b11, 0, none⟩ (.int .u8 (fy2.k : Int))).setCell ⟨b11, 1, none⟩ (.bool fy2.m)).setCell ⟨b11, 2, none⟩ (.int .i64 fy2.r)).setCell ⟨b11, 3, none⟩ (.int .i64 fy2.s)).setCell ⟨b11, 4, none⟩ (.slice fy2.a fy2.n fy2.cap)) from hW24]
      clear hW24 hHeld hq q0 q1 q2 q3 q4 hlq g0 g1 g2 g3 g4 AV24
      obtain ⟨hlp, p0, p1, p2, p3, p4⟩ := HL24.out.a.ty
      simp only [Nat.zero_add] at p0 p1 p2 p3 p4
      go_wp2_with fail
      refine (HT.out.a2 W24 _ _ _ HL24.out.bel (HI.out.bel HL24.out.bel)).mono ?_
      rintro e w25 ⟨fz2, rfl, hN25⟩
      have AZ25 := AZ24.out.below hN25.bel
      clear p0 p1 p2 p3 p4 hlp
      go_wp2_with (refine wpl_store26 b18 _ fz2 AZ25 rfl rfl ?_; intro W25 hW25; have HZ25 : Hid (Vr W25 b18 fz2 W24.heap.size w25.heap.size C2) := (by rw [hW25]; exact Vr.put hN25 AZ24.out); have HX25 : Hid (Vr W25 b9 fx2 w22.heap.size w23.heap.size C2) := (by rw [hW25]; exact (HX24.out.below hN25.bel).s5 e189.symm (.inl l18) fz2); have HY25 : Hid (Vr W25 b11 fy2 W23.heap.size w24.heap.size C2) := (by rw [hW25]; exact (HY24.out.below hN25.bel).s5 e1811.symm (.inl l1823) fz2); have HL25 : Hid (Lw w ⟨k, m, r, s, a, nn, cap⟩ ⟨k', m', r', s', a', nn', cap'⟩ W25) := (by rw [hW25]; exact (HL24.out.below hN25.bel).s5 e18 fz2); have HRow25 : Hid (RowO W25 go co n X) := (by rw [hW25]; exact (HRow24.out.below hN25.bel).s5 hgo18 fz2); have Z25 : W25.heap.size = w25.heap.size := (by rw [hW25]; exact size_S5 _ _ _); clear hW25 AZ25; obtain ⟨hlp, p0, p1, p2, p3, p4⟩ := HX25.out.v.ty; simp only [Nat.zero_add] at p0 p1 p2 p3 p4; obtain ⟨hlq, q0, q1, q2, q3, q4⟩ := HZ25.out.v.ty; simp only [Nat.zero_add] at q0 q1 q2 q3 q4)
      refine (equal_same C2 fx2 fz2 W25 (HX25.out.ty HT.out.rg2) (HZ25.out.ty HT.out.rg2)).mono ?_
      rintro e w26 ⟨rfl, hb26⟩
      have HX26 := hid (HX25.out.below hb26)
      have HY26 := hid (HY25.out.below hb26)
      have HZ26 := hid (HZ25.out.below hb26)
      have HL26 := hid (HL25.out.below hb26)
      have HRow26 := hid (HRow25.out.below hb26)
      clear p0 p1 p2 p3 p4 hlp
      clear q0 q1 q2 q3 q4 hlq
      obtain ⟨hlp, p0, p1, p2, p3, p4⟩ := HX26.out.v.ty
      simp only [Nat.zero_add] at p0 p1 p2 p3 p4
      go_wp2_with fail
      refine (spoil_any C2 fx2 w26 _ _ HX26.out.own s23 (by have s25 := hN25.bel.size; have s26 := hb26.size; omega)).mono ?_
      rintro e w27 ⟨rfl, ho27⟩
      have HY27 := hid (HY26.out.out ho27 (.inr (by omega)) (.inl l11))
      have HZ27 := hid (HZ26.out.out ho27 (.inr (by omega)) (.inl l18))
      have HL27 := hid (HL26.out.out ho27 lL22)
      have HRow27 := hid (HRow26.out.out ho27 (.inl lgo))
      clear p0 p1 p2 p3 p4 hlp
      go_wp2_with fail
      clear HX23 HL23 AY23 AZ23 HRow23 HX24 HY24 HL24 AZ24 HRow24 HX25 HY25 HZ25 HL25 HRow25 HX26 HY26 HZ26 HL26 HRow26 HL24p hN24 hN25 hb26 ho27
      go_loopw [22] (fun i W => ∃ j : Nat, j ≤ n ∧ i = .int .i64 j ∧ Below w27.heap.size w27 W) (fun i _ => n - (intOf i).toNat)
      case atStart => exact ⟨0, Nat.zero_le _, rfl, Below.refl _ _⟩
      case round =>
        obtain ⟨j, hj, rfl, hB⟩ := hrel
        have HB := hid hB
        clear hB
        by_cases hlt : j < n
        · obtain ⟨x, hx⟩ : ∃ x, X[j]? = some x := ⟨_, List.getElem?_eq_getElem (by have := HI.out.len; omega)⟩
          obtain ⟨g3, off3, hag, hg3, hcell⟩ := HI.out.cells (fun e => by subst e; simp at hx)
          have hBw := (HL27.out.below HB.out).bel
          have hd1 := (hBw.cell (p := ⟨g3, off3 + j, none⟩) hg3).trans (hcell _ _ hx)
          have hd2 := (HRow27.out.below HB.out).at hx
          have hl3 := Nat.lt_of_lt_of_le hg3 hBw.size
          have hl4 := (HRow27.out.below HB.out).lt
          subst hag
          have k0 : (0 : Int) ≤ (j : Int) := by omega
          have k1 : (j : Int) < (n : Int) := by omega
          have k2 : (j : Int) ≤ 1000 := by omega
          have k3 : (j : Int) < (n : Int) + 1 := by omega
          have k4 : j < n + 1 := by omega
          clear hBw hcell hx
          go_wp2_with fail
          go_quiet (fail)
          go_wp2_with fail
          refine ⟨⟨j + 1, hlt, rfl, belN HB.out nq⟩, ?_⟩
          show n - ((j : Int) + 1).toNat < n - (j : Int).toNat
          omega
        · obtain rfl : j = n := by omega
          have z1 : ¬ ((j : Int) < (j : Int)) := by omega
          have HLe := hid (HL27.out.below HB.out)
          have HYe := hid (HY27.out.below HB.out)
          have HZe := hid (HZ27.out.below HB.out)
          have HRe := hid (HRow27.out.below HB.out)
          clear HL27 HY27 HZ27 HRow27 HB
          obtain ⟨hlp, p0, p1, p2, p3, p4⟩ := HYe.out.v.ty
          simp only [Nat.zero_add] at p0 p1 p2 p3 p4
          obtain ⟨hlq, q0, q1, q2, q3, q4⟩ := HZe.out.v.ty
          simp only [Nat.zero_add] at q0 q1 q2 q3 q4
          have k3 : (j : Int) < (j : Int) + 1 := by omega
          have k4 : j < j + 1 := by omega
          have k2 : (j : Int) ≤ 1000 := by omega
          go_wp2_with (first
            | (go_at_call 24; refine (equal_same C2 fy2 fz2 _ (HYe.out.ty HT.out.rg2) (HZe.out.ty HT.out.rg2)).mono ?_; rintro e w28 ⟨rfl, hb28⟩; have HL28 := hid (HLe.out.below hb28); have hd9 := (HRe.out.below hb28).last; have hl9 := (HRe.out.below hb28).lt; clear p0 p1 p2 p3 p4 q0 q1 q2 q3 q4)
            | (go_at_call 11; refine (CA.out _).mono ?_; rintro e w29 ⟨rfl, hb29⟩))
          go_ret
          exact ⟨rfl, (HL28.out.below hb29).bel⟩
end Go.Proofs.YtjchbclkdbojpaaDoor
