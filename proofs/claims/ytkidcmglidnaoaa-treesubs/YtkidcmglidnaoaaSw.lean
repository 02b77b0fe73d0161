import Derived.Test.YtkidcmglidnaoaaSv
namespace Go.Proofs.Ytkidcmglidnaoaa
open Go.RowKit Go.Shelf
set_option linter.unusedVariables false
set_option linter.unusedSimpArgs false
theorem OutK.drew {lo hi : Nat} {w W : World} (h : OutK lo hi w W) : OutK lo hi w W.drew := ⟨h.os, h.tape, h.output, h.size, h.same⟩
set_option maxRecDepth 100000 in
set_option maxHeartbeats 8000000 in
theorem rsub_no (T : List Nd) (n : Int) (a : Option Addr) (cap : Nat) (w : World) (hT : TAt w a T) (hS : Sm T) (h : ¬ (Mayb okP T ∧ 0 ≤ n ∧ n < T.length)) :
    Calls Try.prog 27 #[trV a T.length cap, .int .i64 n] w fun e w' => e = .returned (.tuple #[trV none 0 0, .int .i64 2]) ∧ Below w.heap.size w w' := by
  obtain ⟨W2, hW2⟩ : ∃ W2, W2 = (w.alloc (Tro a T.length cap)).alloc (Tro none 0 0) := ⟨_, rfl⟩
  have B2 : Below w.heap.size w W2 := by rw [hW2]; exact belA (belA (Below.refl _ _))
  have A1 : At W2 w.heap.size (Tro a T.length cap) := by rw [hW2]; exact at_fst _ _ _
  have A2 : At W2 (w.heap.size + 1) (Tro none 0 0) := by rw [hW2]; exact at_snd _ _ _
  have HW2 : Hid ((w.alloc (.cells #[.slice a T.length cap] 24)).alloc (.cells #[.slice none 0 0] 24) = W2) := hW2.symm
  clear hW2
  by_cases hM : Mayb okP T
  · have HM : Hid (∀ W, Below w.heap.size w W → Calls Try.prog 48 #[trV a T.length cap] W fun e w' => e = .returned (.bool true) ∧ Below W.heap.size W w') := fun W hW => rmay_yes (hT.below hW) hS hM
    by_cases hn : n < 0
    · have z1 : decide (n < 0) = true := decide_eq_true hn
      clear h hM
      go_enter Try.func27, Try.ntmps27
      go_wp2_with (go_at_call 48; rw [HW2.out]; refine (HM.out _ B2).mono ?_; rintro e w1 ⟨rfl, hb1⟩; obtain ⟨y0, yf⟩ := (A1.below hb1).one; obtain ⟨r0, rf⟩ := (A2.below hb1).one)
      have r5 := ((A2.below hb1).setOne (.slice none 0 0)).one.1
      exact bodyPost_ret (v := .tuple #[trV none 0 0, .int .i64 2]) (by simp [results, Try.results27, go_sem, r5]) rfl ⟨rfl, (below_aft B2 hb1).setCell (by simp) _⟩
    · have z1 : decide (n < 0) = false := decide_eq_false hn
      have hge : (T.length : Int) ≤ n := by
        apply Classical.byContradiction
        intro hh
        exact h ⟨hM, by omega, by omega⟩
      have z2 : decide ((T.length : Int) ≤ n) = true := decide_eq_true hge
      clear h hM
      go_enter Try.func27, Try.ntmps27
      go_wp2_with (go_at_call 48; rw [HW2.out]; refine (HM.out _ B2).mono ?_; rintro e w1 ⟨rfl, hb1⟩; obtain ⟨y0, yf⟩ := (A1.below hb1).one; obtain ⟨r0, rf⟩ := (A2.below hb1).one)
      have r5 := ((A2.below hb1).setOne (.slice none 0 0)).one.1
      exact bodyPost_ret (v := .tuple #[trV none 0 0, .int .i64 2]) (by simp [results, Try.results27, go_sem, r5]) rfl ⟨rfl, (below_aft B2 hb1).setCell (by simp) _⟩
  · have HM : Hid (∀ W, Below w.heap.size w W → Calls Try.prog 48 #[trV a T.length cap] W fun e w' => e = .returned (.bool false) ∧ Below W.heap.size W w') := fun W hW => rmay_no (hT.below hW) hS hM
    clear h hM
    go_enter Try.func27, Try.ntmps27
    go_wp2_with (go_at_call 48; rw [HW2.out]; refine (HM.out _ B2).mono ?_; rintro e w1 ⟨rfl, hb1⟩; obtain ⟨y0, yf⟩ := (A1.below hb1).one; obtain ⟨r0, rf⟩ := (A2.below hb1).one)
    have r5 := ((A2.below hb1).setOne (.slice none 0 0)).one.1
    exact bodyPost_ret (v := .tuple #[trV none 0 0, .int .i64 2]) (by simp [results, Try.results27, go_sem, r5]) rfl ⟨rfl, (below_aft B2 hb1).setCell (by simp) _⟩
set_option maxRecDepth 100000 in
set_option maxHeartbeats 8000000 in
theorem subs_main (T O : List Nd) (n er : Int) (tn on : Nat) (htn : T.length = tn) (hon : O.length = on) (a ao : Option Addr) (cap capo : Nat) (w : World) (hT : TAt w a T) (hO : TAt w ao O) (hL : Lg T) (hLo : Lg O) (hF : Fit T) (hFo : Fit O)
    (R : Nat → Nat → World → Option Addr → Nat → Nat → Prop) (R2 : Nat → World → Option Addr → Nat → Nat → Prop)
    (hRk : ∀ lo hi W W' v m c, R lo hi W v m c → Keep hi W W' → R lo hi W' v m c)
    (hR2k : ∀ lo W W' v m c, R2 lo W v m c → Below W.heap.size W W' → R2 lo W' v m c)
    (h26 : ∀ W b cp, TAt W b T → tn ≤ cp → Calls Try.prog 26 #[trV b tn cp, .int .i64 n] W fun e w' => ∃ v m c, e = .returned (.tuple #[trV v m c, .int .i64 er]) ∧ R W.heap.size w'.heap.size w' v m c ∧ Below W.heap.size W w')
    (h27 : ∀ W, TAt W a T → Calls Try.prog 27 #[trV a tn cap, .int .i64 n] W fun e w' => ∃ v m c, e = .returned (.tuple #[trV v m c, .int .i64 er]) ∧ R2 W.heap.size w' v m c ∧ Below W.heap.size W w')
    (h20 : ∀ W lo hi lo2 hi2 lo3 v1 m1 c1 v2 m2 c2 v3 m3 c3, R lo hi W v1 m1 c1 → R lo2 hi2 W v2 m2 c2 → R2 lo3 W v3 m3 c3 → hi ≤ lo2 → hi2 ≤ lo3 → lo3 ≤ W.heap.size → hi2 ≤ W.heap.size → Calls Try.prog 20 #[trV v1 m1 c1, trV v2 m2 c2, trV v3 m3 c3] W fun e w' => e = .returned (.bool true) ∧ OutK lo hi W w') :
    Calls Try.prog 5 #[trV a tn cap, trV ao on capo, .int .i64 n] w fun e w' => e = .returned (.bool true) ∧ Below w.heap.size w w' := by
  have sT := hL.sm hF.1 hF.l
  have sO := hLo.sm hFo.1 hFo.l
  obtain ⟨W2, hW2⟩ : ∃ W2, W2 = (w.alloc (Tro a tn cap)).alloc (Tro ao on capo) := ⟨_, rfl⟩
  have B2 : Below w.heap.size w W2 := by rw [hW2]; exact belA (belA (Below.refl _ _))
  have A1 : At W2 w.heap.size (Tro a tn cap) := by rw [hW2]; exact at_fst _ _ _
  have A2 : At W2 (w.heap.size + 1) (Tro ao on capo) := by rw [hW2]; exact at_snd _ _ _
  have HW2 : Hid ((w.alloc (.cells #[.slice a tn cap] 24)).alloc (.cells #[.slice ao on capo] 24) = W2) := hidE hW2.symm
  have HF1 : Hid (∀ W, Below w.heap.size w W → Calls Try.prog 9 #[trV a tn cap] W fun e w' => e = .returned (.bool true) ∧ Below W.heap.size W w') := hidE fun W hW => fits_any T tn htn true ⟨fun _ => hF, fun _ => rfl⟩ a cap W (hT.below hW) hL
  have HF2 : Hid (∀ W, Below w.heap.size w W → Calls Try.prog 9 #[trV ao on capo] W fun e w' => e = .returned (.bool true) ∧ Below W.heap.size W w') := hidE fun W hW => fits_any O on hon true ⟨fun _ => hFo, fun _ => rfl⟩ ao capo W (hO.below hW) hLo
  have H11 : Hid (∀ W, Below w.heap.size w W → Calls Try.prog 11 #[trV a tn cap] W fun e w' => ∃ b cp, e = .returned (trV b tn cp) ∧ tn ≤ cp ∧ TAt w' b T ∧ Below W.heap.size W w') := hidE fun W hW => by
    have := rown_tree T a cap W (hT.below hW) sT
    rw [htn] at this
    exact this
  have H26 := hidE h26
  have H27 : Hid (∀ W, Below w.heap.size w W → Calls Try.prog 27 #[trV a tn cap, .int .i64 n] W fun e w' => ∃ v m c, e = .returned (.tuple #[trV v m c, .int .i64 er]) ∧ R2 W.heap.size w' v m c ∧ Below W.heap.size W w') := hidE fun W hW => h27 W (hT.below hW)
  have H20 := hidE h20
  have HRK := hidE hRk
  have HR2K := hidE hR2k
  have HTT := hidE (And.intro hT hO)
  have HSM := hidE (And.intro sT sO)
  have HTN := hidE (And.intro htn hon)
  have HA := hidE (And.intro A1 A2)
  clear hW2 h26 h27 h20 hRk hR2k hT hO hL hLo hF hFo sT sO htn hon
  have st1 : Stg' 1 := .mk 1
  go_enter Try.func5, Try.ntmps5
  go_wp2_with (first
    | (have _s := st1; clear st1 _s; go_at_call 9; rw [HW2.out]; refine (HF1.out _ B2).mono ?_; rintro e w1 ⟨rfl, hb1⟩; have B1 := below_aft B2 hb1; have X1 := A1.below hb1; have X2 := A2.below hb1; obtain ⟨p0, pf⟩ := X2.one; have st2 : Stg' 2 := .mk 2)
    | (have _s := st2; clear st2 _s; go_at_call 9; refine (HF2.out _ B1).mono ?_; rintro e w2 ⟨rfl, hb2⟩; have B2' := below_aft B1 hb2; have Y1 := X1.below hb2; have Y2 := X2.below hb2; obtain ⟨r0, rf⟩ := Y1.one; have st3 : Stg' 3 := .mk 3)
    | (have _s := st3; clear st3 _s; go_at_call 11; refine (H11.out _ B2').mono ?_; rintro e w3 ⟨b, cp, rfl, hcp, hTb, hb3⟩; have B3 := below_aft B2' hb3; have Z1 := Y1.below hb3; have Z2 := Y2.below hb3; have st4 : Stg' 4 := .mk 4)
    | (have _s := st4; clear st4 _s; go_at_call 26; refine (H26.out _ b cp (hTb.below (belA (Below.refl _ _))) hcp).mono ?_; rintro e w4 ⟨v1, m1, c1, rfl, hR1, hb4⟩; have B34 : Below w3.heap.size w3 w4 := below_aft (belA (Below.refl _ _)) hb4; have B4 := below_aft B3 B34; have C7 := (At.new w3 (Tro b tn cp)).below hb4; obtain ⟨k0, kf⟩ := (C7.alloc (Tro v1 m1 c1)).one; have st5 : Stg' 5 := .mk 5)
    | (have _s := st5; clear st5 _s; go_at_call 26; refine (H26.out _ b cp (hTb.below (belA B34)) hcp).mono ?_; rintro e w5 ⟨v2, m2, c2, rfl, hR2, hb5⟩; have B45 : Below w4.heap.size w4 w5 := below_aft (belA (Below.refl _ _)) hb5; have B5 := below_aft B4 B45; have C8 := (At.new w4 (Tro v1 m1 c1)).below hb5; obtain ⟨j0, jf⟩ := (((Z1.below B34).below B45).alloc (Tro v2 m2 c2)).one; have st6 : Stg' 6 := .mk 6)
    | (have _s := st6; clear st6 _s; go_at_call 27; refine (H27.out _ (belA B5)).mono ?_; rintro e w6 ⟨v3, m3, c3, rfl, hR3, hb6⟩; have B56 : Below w5.heap.size w5 w6 := below_aft (belA (Below.refl _ _)) hb6; have B6 := below_aft B5 B56; have C10 := (At.new w5 (Tro v2 m2 c2)).below hb6))
  obtain ⟨W7, hW7⟩ : ∃ W7, W7 = w6.alloc (Tro v3 m3 c3) := ⟨_, rfl⟩
  have HW7 : Hid (w6.alloc (.cells #[.slice v3 m3 c3] 24) = W7) := hidE hW7.symm
  rw [HW7.out]
  have s3 := hb3.size
  have s34 := B34.size
  have s45 := B45.size
  have s56 := B56.size
  have l7 := C7.lt
  have l8 := C8.lt
  have l10 := C10.lt
  have hs7 : W7.heap.size = w6.heap.size + 1 := by rw [hW7]; simp
  have B67 : Below w6.heap.size w6 W7 := by rw [hW7]; exact belA (Below.refl _ _)
  have B7 : Below w.heap.size w W7 := below_aft B6 B67
  have B47 : Below w4.heap.size w4 W7 := below_aft (below_aft B45 B56) B67
  have B57 : Below w5.heap.size w5 W7 := below_aft B56 B67
  have B37 : Below w3.heap.size w3 W7 := below_aft B34 B47
  have lz := Z2.lt
  obtain ⟨lo1, hlo1⟩ : ∃ lo1, lo1 = (w3.alloc (Tro b tn cp)).heap.size := ⟨_, rfl⟩
  obtain ⟨hi1, hhi1⟩ : ∃ hi1, hi1 = w4.heap.size := ⟨_, rfl⟩
  have elo : lo1 = w3.heap.size + 1 := by rw [hlo1]; simp
  have es4 : (w4.alloc (Tro v1 m1 c1)).heap.size = w4.heap.size + 1 := by simp
  have es5 : (w5.alloc (Tro v2 m2 c2)).heap.size = w5.heap.size + 1 := by simp
  have L3 : Hid (∀ W, OutK lo1 hi1 W7 W → W.cell? ⟨w.heap.size, 0, none⟩ = some (.slice a tn cap)) := hidE fun W hW => (hW.at_ (Z1.below B37) (by omega)).one.1
  have L4 : Hid (∀ W, OutK lo1 hi1 W7 W → W.cell? ⟨w.heap.size + 1, 0, none⟩ = some (.slice ao on capo)) := hidE fun W hW => (hW.at_ (Z2.below B37) (by omega)).one.1
  have L7 : Hid (∀ W, OutK lo1 hi1 W7 W → W.cell? ⟨w3.heap.size, 0, none⟩ = some (.slice b tn cp)) := hidE fun W hW => (hW.at_ (C7.below B47) (by omega)).one.1
  have L8 : Hid (∀ W, OutK lo1 hi1 W7 W → W.cell? ⟨w4.heap.size, 0, none⟩ = some (.slice v1 m1 c1)) := hidE fun W hW => (hW.at_ (C8.below B57) (by omega)).one.1
  have L10 : Hid (∀ W, OutK lo1 hi1 W7 W → W.cell? ⟨w5.heap.size, 0, none⟩ = some (.slice v2 m2 c2)) := hidE fun W hW => (hW.at_ (C10.below B67) (by omega)).one.1
  have L12 : Hid (∀ W, OutK lo1 hi1 W7 W → W.cell? ⟨w6.heap.size, 0, none⟩ = some (.slice v3 m3 c3)) := hidE fun W hW => (hW.at_ (by rw [hW7]; exact At.new _ _ : At W7 w6.heap.size (Tro v3 m3 c3)) (by omega)).one.1
  have HH20 : Hid (∀ W, W = W7.drew → Calls Try.prog 20 #[trV v1 m1 c1, trV v2 m2 c2, trV v3 m3 c3] W fun e w' => e = .returned (.bool true) ∧ OutK lo1 hi1 W w') := hidE fun W hW => by
    subst hW
    have e1 : R lo1 hi1 W7.drew v1 m1 c1 := by rw [hlo1, hhi1]; exact HRK.out _ _ _ _ _ _ _ hR1 ⟨B47.size, fun b hb => B47.block b hb⟩
    have e2 := HRK.out _ _ _ W7.drew _ _ _ hR2 ⟨B57.size, fun b hb => B57.block b hb⟩
    have e3 := HR2K.out _ _ W7.drew _ _ _ hR3 (B67.drew)
    exact H20.out W7.drew lo1 hi1 _ _ _ _ _ _ _ _ _ _ _ _ e1 e2 e3 (by rw [World.size_alloc]; omega) (by rw [World.size_alloc]; omega) (by show _ ≤ W7.heap.size; rw [World.size_alloc]; omega) (by show _ ≤ W7.heap.size; omega)
  have hTW : ∀ W, OutK lo1 hi1 W7 W → TAt W a T ∧ TAt W ao O ∧ TAt W b T := fun W hW =>
    have hb : Below w3.heap.size W7 W := hW.low (by omega) (by omega)
    have hb3 : Below w3.heap.size w3 W := B37.trans hb
    have hb0 : Below w.heap.size w W := B3.trans (hb3.mono B3.size)
    ⟨HTT.out.1.below hb0, HTT.out.2.below hb0, hTb.below hb3⟩
  have HH19 : Hid (∀ W, OutK lo1 hi1 W7 W → Calls Try.prog 19 #[trV b tn cp, trV a tn cap, .bool true] W fun e w' => e = .returned (.bool true) ∧ Below W.heap.size W w') := hidE fun W hW => by
    have := req_true T b a cp cap W (hTW W hW).2.2 (hTW W hW).1 HSM.out.1
    rw [HTN.out.1] at this
    exact this
  obtain ⟨rs, hrs⟩ : ∃ rs : Bool, rs = true ↔ Mayb okP T ∧ Mayb okP O ∧ sameB T O = true := by
    by_cases h : Mayb okP T ∧ Mayb okP O ∧ sameB T O = true
    · exact ⟨true, fun _ => h, fun _ => rfl⟩
    · exact ⟨false, fun e => (by cases e), fun e => absurd e h⟩
  have HH28 : Hid (∀ W, OutK lo1 hi1 W7 W → Calls Try.prog 28 #[trV a tn cap, trV ao on capo] W fun e w' => e = .returned (.bool rs) ∧ Below W.heap.size W w') := hidE fun W hW => by
    have := same_any T O a ao cap capo W (hTW W hW).1 (hTW W hW).2.1 HSM.out.1 HSM.out.2
    rw [HTN.out.1, HTN.out.2] at this
    refine this.mono ?_
    rintro e w' ⟨⟨r, rfl, hr⟩, hb⟩
    have : r = rs := by
      have := hr.trans hrs.symm
      cases r <;> cases rs <;> simp_all
    rw [this]
    exact ⟨rfl, hb⟩
  have HH29 : Hid (∀ W, OutK lo1 hi1 W7 W → Calls Try.prog 29 #[trV a tn cap, trV ao on capo] W fun e w' => e = .returned (.bool rs) ∧ Below W.heap.size W w') := hidE fun W hW => by
    have := rsame_any T O a ao cap capo W (hTW W hW).1 (hTW W hW).2.1 HSM.out.1 HSM.out.2 rs hrs
    rw [HTN.out.1, HTN.out.2] at this
    exact this
  have HFIN : Hid (∀ W, OutK lo1 hi1 W7 W → Below w.heap.size w W) := hidE fun W hW => B7.trans (hW.low (by omega) (by omega))
  clear hW7 HW7 s3 s34 s45 s56 l7 l8 l10 lz hs7 B67 B7 B47 B57 B37 hlo1 hhi1 elo es4 es5 hTW hrs hR1 hR2 hR3 hTb hcp C7 C8 C10 Z1 Z2 Y1 Y2 X1 X2 B1 B2 B2' B3 B4 B5 B6 B34 B45 B56 hb1 hb2 hb3 hb4 hb5 hb6 A1 A2 HTT HRK HR2K H20 H26 H27 H11 HF1 HF2 HW2
  refine beginH (S := fun W' => OutK lo1 hi1 W7 W') (fun _ _ _ _ _ h => h) (by kernel_rfl) (OutK.refl _ _ _).drew (fun hq hHeld => ?_)
  refine takeH (i := 0) (d := 43) (.int .i64 er) hq rfl rfl (by kernel_rfl) (by kernel_rfl) (by kernel_rfl) (by rfl) (fun W hSw => by (go_simp; try rfl)) hHeld ?_
  try simp only [Act.put, List.setIfInBounds_toArray, List.set_cons_zero, List.set_cons_succ]
  refine takeH (i := 1) (d := 44) (.int .i64 er) hq rfl rfl (by kernel_rfl) (by kernel_rfl) (by kernel_rfl) (by rfl) (fun W hSw => by (go_simp; try rfl)) hHeld ?_
  try simp only [Act.put, List.setIfInBounds_toArray, List.set_cons_zero, List.set_cons_succ]
  refine takeH (i := 2) (d := 45) (.bool true) hq rfl rfl (by kernel_rfl) (by kernel_rfl) (by kernel_rfl) (by rfl) (fun W hSw => by (go_simp; try simp)) hHeld ?_
  try simp only [Act.put, List.setIfInBounds_toArray, List.set_cons_zero, List.set_cons_succ]
  refine takeH (i := 3) (d := 46) (.bool true) hq rfl rfl (by kernel_rfl) (by kernel_rfl) (by kernel_rfl) (by rfl) (fun W hSw => by (go_simp; try rfl)) hHeld ?_
  try simp only [Act.put, List.setIfInBounds_toArray, List.set_cons_zero, List.set_cons_succ]
  refine takeH (i := 4) (d := 47) (.int .i64 er) hq rfl rfl (by kernel_rfl) (by kernel_rfl) (by kernel_rfl) (by rfl) (fun W hSw => by (go_simp; try rfl)) hHeld ?_
  try simp only [Act.put, List.setIfInBounds_toArray, List.set_cons_zero, List.set_cons_succ]
  refine takeH (i := 5) (d := 48) (.int .i64 er) hq rfl rfl (by kernel_rfl) (by kernel_rfl) (by kernel_rfl) (by rfl) (fun W hSw => by (go_simp; try rfl)) hHeld ?_
  try simp only [Act.put, List.setIfInBounds_toArray, List.set_cons_zero, List.set_cons_succ]
  refine takeH (i := 6) (d := 49) (.bool true) hq rfl rfl (by kernel_rfl) (by kernel_rfl) (by kernel_rfl) (by rfl) (fun W hSw => by (go_simp; try simp)) hHeld ?_
  try simp only [Act.put, List.setIfInBounds_toArray, List.set_cons_zero, List.set_cons_succ]
  refine takeH (i := 7) (d := 50) (.bool true) hq rfl rfl (by kernel_rfl) (by kernel_rfl) (by kernel_rfl) (by rfl) (fun W hSw => by (go_simp; try rfl)) hHeld ?_
  try simp only [Act.put, List.setIfInBounds_toArray, List.set_cons_zero, List.set_cons_succ]
  refine takeH (i := 8) (d := 51) (.bool true) hq rfl rfl (by kernel_rfl) (by kernel_rfl) (by kernel_rfl) (by rfl) (fun W hSw => by (go_simp; try rfl)) hHeld ?_
  try simp only [Act.put, List.setIfInBounds_toArray, List.set_cons_zero, List.set_cons_succ]
  refine takeH (i := 9) (d := 52) (trV v1 m1 c1) hq rfl rfl (by kernel_rfl) (by kernel_rfl) (by kernel_rfl) (by rfl) (fun W hSw => by (have s1 := L8.out W hSw; go_simp; try rfl)) hHeld ?_
  try simp only [Act.put, List.setIfInBounds_toArray, List.set_cons_zero, List.set_cons_succ]
  refine takeH (i := 10) (d := 53) (trV v2 m2 c2) hq rfl rfl (by kernel_rfl) (by kernel_rfl) (by kernel_rfl) (by rfl) (fun W hSw => by (have s1 := L10.out W hSw; go_simp; try rfl)) hHeld ?_
  try simp only [Act.put, List.setIfInBounds_toArray, List.set_cons_zero, List.set_cons_succ]
  refine takeH (i := 11) (d := 54) (trV v3 m3 c3) hq rfl rfl (by kernel_rfl) (by kernel_rfl) (by kernel_rfl) (by rfl) (fun W hSw => by (have s1 := L12.out W hSw; go_simp; try rfl)) hHeld ?_
  try simp only [Act.put, List.setIfInBounds_toArray, List.set_cons_zero, List.set_cons_succ]
  refine wpAnyH_ready (rs := [12]) (by kernel_rfl) (by simp) ?_
  refine AllReadyH.cons rfl (fun K hK => ?_) AllReadyH.nil
  go_simp
  refine (HH20.out _ rfl).mono ?_; rintro e u1 ⟨rfl, hk1⟩; have S1 : OutK lo1 hi1 W7 u1 := (OutK.refl _ _ _).drew.trans hk1
  go_wp2_with fail
  refine hK.out _ _ S1 (fun hHeld => ?_)
  clear hK K
  try simp only [Act.put, List.setIfInBounds_toArray, List.set_cons_zero, List.set_cons_succ]
  refine takeH (i := 13) (d := 56) (.bool true) hq rfl rfl (by kernel_rfl) (by kernel_rfl) (by kernel_rfl) (by rfl) (fun W hSw => by (go_simp; try rfl)) hHeld ?_
  try simp only [Act.put, List.setIfInBounds_toArray, List.set_cons_zero, List.set_cons_succ]
  refine takeH (i := 14) (d := 57) (.bool true) hq rfl rfl (by kernel_rfl) (by kernel_rfl) (by kernel_rfl) (by rfl) (fun W hSw => by (go_simp; try rfl)) hHeld ?_
  try simp only [Act.put, List.setIfInBounds_toArray, List.set_cons_zero, List.set_cons_succ]
  refine takeH (i := 15) (d := 58) (trV b tn cp) hq rfl rfl (by kernel_rfl) (by kernel_rfl) (by kernel_rfl) (by rfl) (fun W hSw => by (have s1 := L7.out W hSw; go_simp; try rfl)) hHeld ?_
  try simp only [Act.put, List.setIfInBounds_toArray, List.set_cons_zero, List.set_cons_succ]
  refine takeH (i := 16) (d := 59) (trV a tn cap) hq rfl rfl (by kernel_rfl) (by kernel_rfl) (by kernel_rfl) (by rfl) (fun W hSw => by (have s1 := L3.out W hSw; go_simp; try rfl)) hHeld ?_
  try simp only [Act.put, List.setIfInBounds_toArray, List.set_cons_zero, List.set_cons_succ]
  refine wpAnyH_ready (rs := [17]) (by kernel_rfl) (by simp) ?_
  refine AllReadyH.cons rfl (fun K hK => ?_) AllReadyH.nil
  go_simp
  refine (HH19.out _ S1).mono ?_; rintro e u2 ⟨rfl, hb2⟩; have S2 : OutK lo1 hi1 W7 u2 := S1.trans (OutK.below hb2)
  go_wp2_with fail
  refine hK.out _ _ S2 (fun hHeld => ?_)
  clear hK K
  try simp only [Act.put, List.setIfInBounds_toArray, List.set_cons_zero, List.set_cons_succ]
  refine takeH (i := 18) (d := 61) (.bool true) hq rfl rfl (by kernel_rfl) (by kernel_rfl) (by kernel_rfl) (by rfl) (fun W hSw => by (go_simp; try rfl)) hHeld ?_
  try simp only [Act.put, List.setIfInBounds_toArray, List.set_cons_zero, List.set_cons_succ]
  refine takeH (i := 19) (d := 62) (.bool true) hq rfl rfl (by kernel_rfl) (by kernel_rfl) (by kernel_rfl) (by rfl) (fun W hSw => by (go_simp; try rfl)) hHeld ?_
  try simp only [Act.put, List.setIfInBounds_toArray, List.set_cons_zero, List.set_cons_succ]
  refine takeH (i := 20) (d := 63) (trV a tn cap) hq rfl rfl (by kernel_rfl) (by kernel_rfl) (by kernel_rfl) (by rfl) (fun W hSw => by (have s1 := L3.out W hSw; go_simp; try rfl)) hHeld ?_
  try simp only [Act.put, List.setIfInBounds_toArray, List.set_cons_zero, List.set_cons_succ]
  refine takeH (i := 21) (d := 64) (trV ao on capo) hq rfl rfl (by kernel_rfl) (by kernel_rfl) (by kernel_rfl) (by rfl) (fun W hSw => by (have s1 := L4.out W hSw; go_simp; try rfl)) hHeld ?_
  try simp only [Act.put, List.setIfInBounds_toArray, List.set_cons_zero, List.set_cons_succ]
  refine takeH (i := 23) (d := 66) (trV a tn cap) hq rfl rfl (by kernel_rfl) (by kernel_rfl) (by kernel_rfl) (by rfl) (fun W hSw => by (have s1 := L3.out W hSw; go_simp; try rfl)) hHeld ?_
  try simp only [Act.put, List.setIfInBounds_toArray, List.set_cons_zero, List.set_cons_succ]
  refine takeH (i := 24) (d := 67) (trV ao on capo) hq rfl rfl (by kernel_rfl) (by kernel_rfl) (by kernel_rfl) (by rfl) (fun W hSw => by (have s1 := L4.out W hSw; go_simp; try rfl)) hHeld ?_
  try simp only [Act.put, List.setIfInBounds_toArray, List.set_cons_zero, List.set_cons_succ]
  refine wpAnyH_ready (rs := [22]) (by kernel_rfl) (by simp) ?_
  refine AllReadyH.cons rfl (fun K hK => ?_) AllReadyH.nil
  go_simp
  refine (HH28.out _ S2).mono ?_; rintro e u3 ⟨rfl, hb3⟩; have S3 : OutK lo1 hi1 W7 u3 := S2.trans (OutK.below hb3)
  go_wp2_with fail
  refine hK.out _ _ S3 (fun hHeld => ?_)
  clear hK K
  try simp only [Act.put, List.setIfInBounds_toArray, List.set_cons_zero, List.set_cons_succ]
  refine wpAnyH_ready (rs := [25]) (by kernel_rfl) (by simp) ?_
  refine AllReadyH.cons rfl (fun K hK => ?_) AllReadyH.nil
  go_simp
  refine (HH29.out _ S3).mono ?_; rintro e u4 ⟨rfl, hb4⟩; have S4 : OutK lo1 hi1 W7 u4 := S3.trans (OutK.below hb4)
  go_wp2_with fail
  refine hK.out _ _ S4 (fun hHeld => ?_)
  clear hK K
  try simp only [Act.put, List.setIfInBounds_toArray, List.set_cons_zero, List.set_cons_succ]
  refine takeH (i := 26) (d := 69) (.bool true) hq rfl rfl (by kernel_rfl) (by kernel_rfl) (by kernel_rfl) (by rfl) (fun W hSw => by (go_simp; try simp)) hHeld ?_
  try simp only [Act.put, List.setIfInBounds_toArray, List.set_cons_zero, List.set_cons_succ]
  refine takeH (i := 27) (d := 70) (.bool true) hq rfl rfl (by kernel_rfl) (by kernel_rfl) (by kernel_rfl) (by rfl) (fun W hSw => by (go_simp; try rfl)) hHeld ?_
  try simp only [Act.put, List.setIfInBounds_toArray, List.set_cons_zero, List.set_cons_succ]
  refine takeH (i := 28) (d := 71) (.bool true) hq rfl rfl (by kernel_rfl) (by kernel_rfl) (by kernel_rfl) (by rfl) (fun W hSw => by (go_simp; try rfl)) hHeld ?_
  try simp only [Act.put, List.setIfInBounds_toArray, List.set_cons_zero, List.set_cons_succ]
  refine wpAnyH_ready (rs := [29]) (by kernel_rfl) (by simp) ?_
  refine AllReadyH.cons rfl (fun K hK => ?_) AllReadyH.nil
  go_simp
  refine (awake_true u4).mono ?_; rintro e u5 ⟨rfl, hb5⟩; have S5 : OutK lo1 hi1 W7 u5 := S4.trans (OutK.below hb5)
  go_wp2_with fail
  refine hK.out _ _ S5 (fun hHeld => ?_)
  clear hK K
  try simp only [Act.put, List.setIfInBounds_toArray, List.set_cons_zero, List.set_cons_succ]
  refine takeH (i := 30) (d := 73) (.bool true) hq rfl rfl (by kernel_rfl) (by kernel_rfl) (by kernel_rfl) (by rfl) (fun W hSw => by (go_simp; try rfl)) hHeld ?_
  try simp only [Act.put, List.setIfInBounds_toArray, List.set_cons_zero, List.set_cons_succ]
  refine takeH (i := 31) (d := 6) (.bool true) hq rfl rfl (by kernel_rfl) (by kernel_rfl) (by kernel_rfl) (by rfl) (fun W hSw => by (go_simp; try rfl)) hHeld ?_
  try simp only [Act.put, List.setIfInBounds_toArray, List.set_cons_zero, List.set_cons_succ]
  refine wpAnyH_done (by kernel_rfl) ?_ _
  go_wp2_with fail
  exact bodyPost_ret (v := .bool true) (by simp [results, Try.results5, go_sem]) rfl ⟨rfl, HFIN.out _ S5⟩
end Go.Proofs.Ytkidcmglidnaoaa
