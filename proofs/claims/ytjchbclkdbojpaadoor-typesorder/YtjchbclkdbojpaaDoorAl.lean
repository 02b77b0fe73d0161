import Derived.Test.YtjchbclkdbojpaaDoorAk
namespace Go.Proofs.YtjchbclkdbojpaaDoor
open Go.RowKit Go.Shelf
set_option linter.unusedVariables false
set_option linter.unusedSimpArgs false

set_option maxRecDepth 100000 in
set_option maxHeartbeats 8000000 in
theorem ord_000 (t u x : Ty) (f f' f'' : Fv) (w : World) (h : TyAt w f t) (h' : TyAt w f' u) (h'' : TyAt w f'' x) (hF : FitC 14 t true) (hF' : FitC 14 u true) (hF'' : FitC 14 x true) (Xs X1 X2 X3 : List (Int × Int)) (e3 : Int) (hAs : AskC 38 f f Xs 0 w) (hA1 : AskC 38 f f' X1 0 w) (hA2 : AskC 38 f' f'' X2 0 w) (hA3 : AskC 38 f f'' X3 0 w) (hs : ∀ p ∈ Xs, p.1 = p.2) (hls : Xs.length ≤ 96) (hl1 : X1.length ≤ 96) (hl2 : X2.length ≤ 96) (hl3 : X3.length ≤ 96) (hL : ∀ W, Below w.heap.size w W → Calls Tryd.prog 28 #[f.v, f''.v] W fun e w' => e = .returned (.bool true) ∧ Below W.heap.size W w') (hz : ∀ out, RI (X1 ++ X2) out out.length 0 → ∀ p ∈ X3, p ∈ out) :
    Calls Tryd.prog 7 #[f.v, f'.v, f''.v] w fun e w' => e = .returned (.bool true) ∧ Below w.heap.size w w' := by
  have CA : Hid (∀ W, Calls Tryd.prog 11 #[] W fun e w' => e = .returned (.bool true) ∧ Below W.heap.size W w') := hid awake_true
  obtain ⟨w0, hw0⟩ : ∃ w0, w0 = ((w.alloc f.o).alloc f'.o).alloc f''.o := ⟨_, rfl⟩
  have B0 : Below w.heap.size w w0 := by rw [hw0]; exact belA (belB w f f')
  have HN1 : Hid (At w0 w.heap.size f.o) := hid (by rw [hw0]; exact ((At.new w f.o).alloc f'.o).alloc f''.o)
  have HN2 : Hid (At w0 (w.heap.size + 1) f'.o) := hid (by rw [hw0]; exact (at_snd w f.o f'.o).alloc f''.o)
  have HN3 : Hid (At w0 (w.heap.size + 1 + 1) f''.o) := hid (by rw [hw0]; have := at_snd (w.alloc f.o) f'.o f''.o; simpa using this)
  have C1 : Hid (Calls Tryd.prog 10 #[f.v, .int .i64 14] (((w.alloc f.o).alloc f'.o).alloc f''.o) fun e w' => e = .returned (.bool true) ∧ Below (((w.alloc f.o).alloc f'.o).alloc f''.o).heap.size (((w.alloc f.o).alloc f'.o).alloc f''.o) w') := hid (hF f _ (h.bel (belA (belB w f f'))))
  have C2 : Hid (∀ W, Below w.heap.size w W → Calls Tryd.prog 10 #[f'.v, .int .i64 14] W fun e w' => e = .returned (.bool true) ∧ Below W.heap.size W w') := hid (fun W hW => hF' f' W (h'.bel hW))
  have C3 : Hid (∀ W, Below w.heap.size w W → Calls Tryd.prog 10 #[f''.v, .int .i64 14] W fun e w' => e = .returned (.bool true) ∧ Below W.heap.size W w') := hid (fun W hW => hF'' f'' W (h''.bel hW))
  have HAS := hid hAs
  have HA1 := hid hA1
  have HA2 := hid hA2
  have HA3 := hid hA3
  have HSS := hid hs
  have CL := hid hL
  have HZ := hid hz
  have HC1 : Hid (∀ u ∈ cCells X1, u.oneCell' = true) := hid (c_ones X1)
  have HC2 : Hid (∀ u ∈ cCells X2, u.oneCell' = true) := hid (c_ones X2)
  obtain ⟨i0, hi, hz0, hz1, hz2⟩ := info_parts Tryd.info67
  have EQ0 : Hid (w0 = ((w.alloc f.o).alloc f'.o).alloc f''.o) := hid hw0
  obtain ⟨k, m, r, s, a, n, cap⟩ := f
  obtain ⟨k', m', r', s', a', n', cap'⟩ := f'
  obtain ⟨k'', m'', r'', s'', a'', n'', cap''⟩ := f''
  show Calls Tryd.prog 7 #[tyV k m r s a n cap, tyV k' m' r' s' a' n' cap', tyV k'' m'' r'' s'' a'' n'' cap''] w _
  clear hL hz h h' h'' hF hF' hF'' hAs hA1 hA2 hA3 hw0 hs
  have st1 : Stg 1 := .mk 1
  go_enter Tryd.func7, Tryd.ntmps7
  go_wp2_with (first
    | (have _s := st1; clear st1 _s; go_at_call 10; refine C1.out.mono ?_; rintro e w1 ⟨rfl, hb1'⟩; have hb1 : Below w0.heap.size w0 w1 := (by rw [EQ0.out]; exact hb1'); clear hb1'; obtain ⟨-, p0, p1, p2, p3, p4⟩ := (HN1.out.below hb1).ty; obtain ⟨-, q0, q1, q2, q3, q4⟩ := (HN2.out.below hb1).ty; obtain ⟨-, r0, r1, r2, r3, r4⟩ := (HN3.out.below hb1).ty; have st2 : Stg 2 := .mk 2)
    | (have _s := st2; clear st2 _s; go_at_call 10; refine (C2.out _ (below_aft B0 hb1)).mono ?_; rintro e w2 ⟨rfl, hb2⟩; have K2 := below_aft hb1 hb2; clear p0 p1 p2 p3 p4 q0 q1 q2 q3 q4 r0 r1 r2 r3 r4; obtain ⟨-, p0, p1, p2, p3, p4⟩ := (HN1.out.below K2).ty; obtain ⟨-, q0, q1, q2, q3, q4⟩ := (HN2.out.below K2).ty; obtain ⟨-, r0, r1, r2, r3, r4⟩ := (HN3.out.below K2).ty; have st3 : Stg 3 := .mk 3)
    | (have _s := st3; clear st3 _s; go_at_call 10; refine (C3.out _ (below_aft B0 K2)).mono ?_; rintro e w3 ⟨rfl, hb3⟩; have K3 := below_aft K2 hb3; clear p0 p1 p2 p3 p4 q0 q1 q2 q3 q4 r0 r1 r2 r3 r4; obtain ⟨-, p0, p1, p2, p3, p4⟩ := (HN1.out.below K3).ty; obtain ⟨-, q0, q1, q2, q3, q4⟩ := (HN2.out.below K3).ty; obtain ⟨-, r0, r1, r2, r3, r4⟩ := (HN3.out.below K3).ty; have st4 : Stg 4 := .mk 4)
    | (have _s := st4; clear st4 _s; go_at_call 38; refine (HAS.out _ (below_aft B0 K3)).mono ?_; rintro e w4 ⟨⟨vs, rfl, os⟩, hb4⟩; have K4 := below_aft K3 hb4; clear p0 p1 p2 p3 p4 q0 q1 q2 q3 q4 r0 r1 r2 r3 r4; obtain ⟨-, p0, p1, p2, p3, p4⟩ := (HN1.out.below K4).ty; obtain ⟨-, q0, q1, q2, q3, q4⟩ := (HN2.out.below K4).ty; obtain ⟨-, r0, r1, r2, r3, r4⟩ := (HN3.out.below K4).ty; have HOS := hid os; obtain ⟨a5, c5, rfl⟩ := own_sl HOS.out; clear os; have st5 : Stg 5 := .mk 5))
  go_loopw [9] (fun i W => ∃ j : Nat, j ≤ Xs.length ∧ i = .int .i64 j ∧ Below w4.heap.size w4 W) (fun i _ => Xs.length - (intOf i).toNat)
  case atStart => exact ⟨0, Nat.zero_le _, rfl, Below.refl _ _⟩
  case round =>
    obtain ⟨j, hj, rfl, hbl⟩ := hrel
    have K4w := below_aft K4 hbl
    clear p0 p1 p2 p3 p4 q0 q1 q2 q3 q4 r0 r1 r2 r3 r4
    by_cases hlt : j < Xs.length
    · obtain ⟨⟨xa, xb⟩, hx⟩ : ∃ x, Xs[j]? = some x := ⟨_, List.getElem?_eq_getElem hlt⟩
      have e : xa = xb := HSS.out _ (List.mem_of_getElem? hx)
      subst e
      obtain ⟨g, rfl, hB3, hg, x1, x2⟩ := row_pair (own_below HOS.out hbl) rfl hx
      have k0 : (0 : Int) ≤ (j : Int) := by omega
      have k1 : (j : Int) < (Xs.length : Int) := by omega
      have w9' : IntKind.i64.wrap ((j : Int) + 1) = (j : Int) + 1 := by rw [IntKind.wrap_i64]; omega
      have HBL := hid hbl
      clear hx hB3 hbl
      simp only at x1 x2
      go_wp2_with fail
      go_quiet (fail)
      go_wp2_with fail
      refine ⟨⟨j + 1, hlt, rfl, belN HBL.out _⟩, ?_⟩
      show Xs.length - ((j : Int) + 1).toNat < Xs.length - (j : Int).toNat
      omega
    · obtain rfl : j = Xs.length := by omega
      obtain ⟨-, p0, p1, p2, p3, p4⟩ := (HN1.out.below K4w).ty; obtain ⟨-, q0, q1, q2, q3, q4⟩ := (HN2.out.below K4w).ty; obtain ⟨-, r0, r1, r2, r3, r4⟩ := (HN3.out.below K4w).ty
      go_wp2_with (first
        | (have _s := st5; clear st5 _s; go_at_call 38; refine (HA1.out _ (below_aft B0 K4w)).mono ?_; rintro e w5 ⟨⟨v1, rfl, o1⟩, hb5⟩; have K5 := below_aft K4w hb5; clear p0 p1 p2 p3 p4 q0 q1 q2 q3 q4 r0 r1 r2 r3 r4; obtain ⟨-, p0, p1, p2, p3, p4⟩ := (HN1.out.below K5).ty; obtain ⟨-, q0, q1, q2, q3, q4⟩ := (HN2.out.below K5).ty; obtain ⟨-, r0, r1, r2, r3, r4⟩ := (HN3.out.below K5).ty; have HO1 := hid o1; clear o1; have st6 : Stg 6 := .mk 6)
        | (have _s := st6; clear st6 _s; go_at_call 38; refine (HA2.out _ (below_aft B0 K5)).mono ?_; rintro e w6 ⟨⟨v2, rfl, o2⟩, hb6⟩; have K6 := below_aft K5 hb6; clear p0 p1 p2 p3 p4 q0 q1 q2 q3 q4 r0 r1 r2 r3 r4; obtain ⟨-, p0, p1, p2, p3, p4⟩ := (HN1.out.below K6).ty; obtain ⟨-, q0, q1, q2, q3, q4⟩ := (HN2.out.below K6).ty; obtain ⟨-, r0, r1, r2, r3, r4⟩ := (HN3.out.below K6).ty; have HO2 := hid o2; have HO1b := hid (own_below HO1.out hb6); clear o2; have st7 : Stg 7 := .mk 7)
        | (have _s := st7; clear st7 _s; go_at_call 38; refine (HA3.out _ (below_aft B0 K6)).mono ?_; rintro e w7 ⟨⟨v3, rfl, o3⟩, hb7⟩; have K7 := below_aft K6 hb7; clear p0 p1 p2 p3 p4 q0 q1 q2 q3 q4 r0 r1 r2 r3 r4; obtain ⟨-, p0, p1, p2, p3, p4⟩ := (HN1.out.below K7).ty; obtain ⟨-, q0, q1, q2, q3, q4⟩ := (HN2.out.below K7).ty; obtain ⟨-, r0, r1, r2, r3, r4⟩ := (HN3.out.below K7).ty; have HO3 := hid o3; have HO2b := hid (own_below HO2.out hb7); have HO1c := hid (own_below HO1b.out hb7); clear o3)
        | (go_at_call 28; refine (CL.out _ (below_aft B0 K7)).mono ?_; rintro e w8 ⟨rfl, hb8⟩; have HO1d := hid (own_below HO1c.out hb8); have HO2d := hid (own_below HO2b.out hb8); have HO3d := hid (own_below HO3.out hb8); have st8 : Stg 8 := .mk 8)
        | (have _s := st8; clear st8 _s; at_builtin; refine wpl_append_rows rfl _ _ 61 rfl w8.heap.size _ 67 i0 (.agg #[.int .i64 0, .int .i64 0]) 2 16 Tryd.underlying61 hi hz0 hz1 hz2 rfl (by decide) _ 0 [] rfl (World.ownsRow_nil _ _ _ _) _ X1.length _ rfl HO1d.out HC1.out (by unfold maxLen; omega) (by omega) (Nat.le_refl _) ?_; intro va wa hoa hga; have HOA := hid hoa; have BA : Below w8.heap.size w8 wa := (Below.refl _ _).grown hga (Nat.le_refl _) (fun k hk => by cases (show (none : Option Nat) = some k from hk)); have HO2e := hid (own_below HO2d.out BA); clear hoa hga; have st9 : Stg 9 := .mk 9)
        | (have _s := st9; clear st9 _s; at_builtin; refine wpl_append_rows rfl _ _ 61 rfl w8.heap.size _ 67 i0 (.agg #[.int .i64 0, .int .i64 0]) 2 16 Tryd.underlying61 hi hz0 hz1 hz2 rfl (by decide) _ (0 + X1.length) _ rfl HOA.out _ X2.length _ rfl HO2e.out HC2.out (by unfold maxLen; omega) (by omega) BA.size ?_; intro vb wb hob hgb; have HOB := hid hob; have BB : Below w8.heap.size w8 wb := BA.grown hgb BA.size (fun k hk => (HOA.out.lt k hk).1); have HO3f := hid (own_below HO3d.out BB); clear hob hgb)
        | (go_at_call 44; refine (reach_any (X1 ++ X2) vb w8.heap.size wb (by simpa [cCells_app] using HOB.out) (by simp; omega)).mono ?_; rintro e wc ⟨⟨out, vo, rfl, hri, oo⟩, hbc⟩; have HOO := hid oo; have HRI := hid hri; have HO3g := hid (own_below HO3f.out hbc); clear oo hri; obtain ⟨ao, co, rfl⟩ := own_sl HOO.out; obtain ⟨az, cz, rfl⟩ := own_sl HO3g.out))
      have B8 : Below w.heap.size w wc := below_aft (below_aft (below_aft (below_aft B0 K7) hb8) BB) hbc
      have HM : Hid (∀ p ∈ X3, p ∈ out) := hid (HZ.out out HRI.out)
      have hol : out.length ≤ 1000000 := by
        have h1 := HRI.out.len
        have h2 : (X1 ++ X2).length ≤ 200 := by rw [List.length_append]; omega
        have h3 : (X1 ++ X2).length * (X1 ++ X2).length ≤ 200 * 200 := Nat.mul_le_mul h2 h2
        omega
      clear HOB HO3f HO3d HO2e HO2d HO1d HOA
      clear p0 p1 p2 p3 p4 q0 q1 q2 q3 q4 r0 r1 r2 r3 r4
      go_loopw [16] (fun i W => ∃ j : Nat, j ≤ X3.length ∧ i = .int .i64 j ∧ Below wc.heap.size wc W) (fun i _ => X3.length - (intOf i).toNat)
      case atStart => exact ⟨0, Nat.zero_le _, rfl, Below.refl _ _⟩
      case round =>
        obtain ⟨j, hj, rfl, hbz⟩ := hrel
        by_cases hlt3 : j < X3.length
        · obtain ⟨⟨xa, xb⟩, hx⟩ : ∃ x, X3[j]? = some x := ⟨_, List.getElem?_eq_getElem hlt3⟩
          obtain ⟨g3, rfl, hB3, hg3, x1, x2⟩ := row_pair (own_below HO3g.out hbz) rfl hx
          have hin : (xa, xb) ∈ out := HM.out _ (List.mem_of_getElem? hx)
          have k0 : (0 : Int) ≤ (j : Int) := by omega
          have k1 : (j : Int) < (X3.length : Int) := by omega
          have w9' : IntKind.i64.wrap ((j : Int) + 1) = (j : Int) + 1 := by rw [IntKind.wrap_i64]; omega
          have CH : Hid (∀ W, Below wr.heap.size wr W → Calls Tryd.prog 45 #[.slice ao out.length co, .agg #[.int .i64 xa, .int .i64 xb]] W fun e w' => e = .returned (.bool true) ∧ Below W.heap.size W w') := hid (fun W hW => by have := has_any out _ _ xa xb W (own_below (own_below HOO.out hbz) hW) hol; rw [decide_eq_true hin] at this; exact this)
          have HBZ := hid hbz
          clear hx hB3 hbz hin
          simp only at x1 x2
          go_wp2_with fail
          by_cases he : xa = xb
          · subst he
            refine beginH (S := fun W' => Below wr.heap.size wr W') (fun _ _ _ _ _ h => h) (by kernel_rfl) (Below.refl _ _).drew (fun hq hHeld => ?_)
            refine takeH (i := 0) (d := 100) _ hq rfl rfl (by kernel_rfl) (by kernel_rfl) (by kernel_rfl) (by rfl) (fun W hSw => by (go_simp; try rfl)) hHeld ?_
            try simp only [Act.put, List.setIfInBounds_toArray, List.set_cons_zero, List.set_cons_succ]
            refine takeH (i := 1) (d := 101) _ hq rfl rfl (by kernel_rfl) (by kernel_rfl) (by kernel_rfl) (by rfl) (fun W hSw => by (go_simp; try rfl)) hHeld ?_
            try simp only [Act.put, List.setIfInBounds_toArray, List.set_cons_zero, List.set_cons_succ]
            refine takeH (i := 2) (d := 102) _ hq rfl rfl (by kernel_rfl) (by kernel_rfl) (by kernel_rfl) (by rfl) (fun W hSw => by (go_simp; try rfl)) hHeld ?_
            try simp only [Act.put, List.setIfInBounds_toArray, List.set_cons_zero, List.set_cons_succ]
            refine takeH (i := 3) (d := 103) _ hq rfl rfl (by kernel_rfl) (by kernel_rfl) (by kernel_rfl) (by rfl) (fun W hSw => by (go_simp; try rfl)) hHeld ?_
            try simp only [Act.put, List.setIfInBounds_toArray, List.set_cons_zero, List.set_cons_succ]
            refine takeH (i := 4) (d := 104) (.int .i64 xa) hq rfl rfl (by kernel_rfl) (by kernel_rfl) (by kernel_rfl) (by rfl) (fun W hSw => by (have l3' : g3 < W.heap.size := Nat.lt_of_lt_of_le hg3 hSw.size; have x1' : W.cell? ⟨g3, j * 2, none⟩ = some (.int .i64 xa) := (hSw.cell hg3).trans x1; have x2' : W.cell? ⟨g3, j * 2 + 1, none⟩ = some (.int .i64 xa) := (hSw.cell hg3).trans x2; go_simp; try rfl)) hHeld ?_
            try simp only [Act.put, List.setIfInBounds_toArray, List.set_cons_zero, List.set_cons_succ]
            refine takeH (i := 5) (d := 105) _ hq rfl rfl (by kernel_rfl) (by kernel_rfl) (by kernel_rfl) (by rfl) (fun W hSw => by (go_simp; try rfl)) hHeld ?_
            try simp only [Act.put, List.setIfInBounds_toArray, List.set_cons_zero, List.set_cons_succ]
            refine takeH (i := 6) (d := 106) _ hq rfl rfl (by kernel_rfl) (by kernel_rfl) (by kernel_rfl) (by rfl) (fun W hSw => by (go_simp; try rfl)) hHeld ?_
            try simp only [Act.put, List.setIfInBounds_toArray, List.set_cons_zero, List.set_cons_succ]
            refine takeH (i := 7) (d := 107) _ hq rfl rfl (by kernel_rfl) (by kernel_rfl) (by kernel_rfl) (by rfl) (fun W hSw => by (go_simp; try rfl)) hHeld ?_
            try simp only [Act.put, List.setIfInBounds_toArray, List.set_cons_zero, List.set_cons_succ]
            refine takeH (i := 8) (d := 108) _ hq rfl rfl (by kernel_rfl) (by kernel_rfl) (by kernel_rfl) (by rfl) (fun W hSw => by (go_simp; try rfl)) hHeld ?_
            try simp only [Act.put, List.setIfInBounds_toArray, List.set_cons_zero, List.set_cons_succ]
            refine takeH (i := 9) (d := 109) (.int .i64 xa) hq rfl rfl (by kernel_rfl) (by kernel_rfl) (by kernel_rfl) (by rfl) (fun W hSw => by (have l3' : g3 < W.heap.size := Nat.lt_of_lt_of_le hg3 hSw.size; have x1' : W.cell? ⟨g3, j * 2, none⟩ = some (.int .i64 xa) := (hSw.cell hg3).trans x1; have x2' : W.cell? ⟨g3, j * 2 + 1, none⟩ = some (.int .i64 xa) := (hSw.cell hg3).trans x2; go_simp; try rfl)) hHeld ?_
            try simp only [Act.put, List.setIfInBounds_toArray, List.set_cons_zero, List.set_cons_succ]
            refine takeH (i := 10) (d := 110) (.bool false) hq rfl rfl (by kernel_rfl) (by kernel_rfl) (by kernel_rfl) (by rfl) (fun W hSw => by (go_simp; try rfl)) hHeld ?_
            try simp only [Act.put, List.setIfInBounds_toArray, List.set_cons_zero, List.set_cons_succ]
            refine takeH (i := 11) (d := 111) _ hq rfl rfl (by kernel_rfl) (by kernel_rfl) (by kernel_rfl) (by rfl) (fun W hSw => by (go_simp; try rfl)) hHeld ?_
            try simp only [Act.put, List.setIfInBounds_toArray, List.set_cons_zero, List.set_cons_succ]
            refine skipH (i := 12) (d := 112) hq rfl rfl (by kernel_rfl) (by kernel_rfl) (by kernel_rfl) (by rfl) hHeld ?_
            try simp only [Act.put, List.setIfInBounds_toArray, List.set_cons_zero, List.set_cons_succ]
            refine skipH (i := 13) (d := 113) hq rfl rfl (by kernel_rfl) (by kernel_rfl) (by kernel_rfl) (by rfl) hHeld ?_
            try simp only [Act.put, List.setIfInBounds_toArray, List.set_cons_zero, List.set_cons_succ]
            refine skipH (i := 14) (d := 114) hq rfl rfl (by kernel_rfl) (by kernel_rfl) (by kernel_rfl) (by rfl) hHeld ?_
            try simp only [Act.put, List.setIfInBounds_toArray, List.set_cons_zero, List.set_cons_succ]
            refine skipH (i := 15) (d := 115) hq rfl rfl (by kernel_rfl) (by kernel_rfl) (by kernel_rfl) (by rfl) hHeld ?_
            try simp only [Act.put, List.setIfInBounds_toArray, List.set_cons_zero, List.set_cons_succ]
            refine skipH (i := 16) (d := 116) hq rfl rfl (by kernel_rfl) (by kernel_rfl) (by kernel_rfl) (by rfl) hHeld ?_
            try simp only [Act.put, List.setIfInBounds_toArray, List.set_cons_zero, List.set_cons_succ]
            refine skipH (i := 17) (d := 117) hq rfl rfl (by kernel_rfl) (by kernel_rfl) (by kernel_rfl) (by rfl) hHeld ?_
            try simp only [Act.put, List.setIfInBounds_toArray, List.set_cons_zero, List.set_cons_succ]
            refine skipH (i := 18) (d := 118) hq rfl rfl (by kernel_rfl) (by kernel_rfl) (by kernel_rfl) (by rfl) hHeld ?_
            try simp only [Act.put, List.setIfInBounds_toArray, List.set_cons_zero, List.set_cons_succ]
            refine takeH (i := 19) (d := 119) (.bool false) hq rfl rfl (by kernel_rfl) (by kernel_rfl) (by kernel_rfl) (by rfl) (fun W hSw => by (go_simp; try rfl)) hHeld ?_
            try simp only [Act.put, List.setIfInBounds_toArray, List.set_cons_zero, List.set_cons_succ]
            refine wpAnyH_done (by kernel_rfl) ?_ _
            go_wp2_with fail
            refine ⟨⟨j + 1, hlt3, rfl, HBZ.out.drew⟩, ?_⟩
            show X3.length - ((j : Int) + 1).toNat < X3.length - (j : Int).toNat
            omega
          · have HNE := hid he
            refine beginH (S := fun W' => Below wr.heap.size wr W') (fun _ _ _ _ _ h => h) (by kernel_rfl) (Below.refl _ _).drew (fun hq hHeld => ?_)
            refine takeH (i := 0) (d := 100) _ hq rfl rfl (by kernel_rfl) (by kernel_rfl) (by kernel_rfl) (by rfl) (fun W hSw => by (go_simp; try rfl)) hHeld ?_
            try simp only [Act.put, List.setIfInBounds_toArray, List.set_cons_zero, List.set_cons_succ]
            refine takeH (i := 1) (d := 101) _ hq rfl rfl (by kernel_rfl) (by kernel_rfl) (by kernel_rfl) (by rfl) (fun W hSw => by (go_simp; try rfl)) hHeld ?_
            try simp only [Act.put, List.setIfInBounds_toArray, List.set_cons_zero, List.set_cons_succ]
            refine takeH (i := 2) (d := 102) _ hq rfl rfl (by kernel_rfl) (by kernel_rfl) (by kernel_rfl) (by rfl) (fun W hSw => by (go_simp; try rfl)) hHeld ?_
            try simp only [Act.put, List.setIfInBounds_toArray, List.set_cons_zero, List.set_cons_succ]
            refine takeH (i := 3) (d := 103) _ hq rfl rfl (by kernel_rfl) (by kernel_rfl) (by kernel_rfl) (by rfl) (fun W hSw => by (go_simp; try rfl)) hHeld ?_
            try simp only [Act.put, List.setIfInBounds_toArray, List.set_cons_zero, List.set_cons_succ]
            refine takeH (i := 4) (d := 104) (.int .i64 xa) hq rfl rfl (by kernel_rfl) (by kernel_rfl) (by kernel_rfl) (by rfl) (fun W hSw => by (have l3' : g3 < W.heap.size := Nat.lt_of_lt_of_le hg3 hSw.size; have x1' : W.cell? ⟨g3, j * 2, none⟩ = some (.int .i64 xa) := (hSw.cell hg3).trans x1; have x2' : W.cell? ⟨g3, j * 2 + 1, none⟩ = some (.int .i64 xb) := (hSw.cell hg3).trans x2; go_simp; try rfl)) hHeld ?_
            try simp only [Act.put, List.setIfInBounds_toArray, List.set_cons_zero, List.set_cons_succ]
            refine takeH (i := 5) (d := 105) _ hq rfl rfl (by kernel_rfl) (by kernel_rfl) (by kernel_rfl) (by rfl) (fun W hSw => by (go_simp; try rfl)) hHeld ?_
            try simp only [Act.put, List.setIfInBounds_toArray, List.set_cons_zero, List.set_cons_succ]
            refine takeH (i := 6) (d := 106) _ hq rfl rfl (by kernel_rfl) (by kernel_rfl) (by kernel_rfl) (by rfl) (fun W hSw => by (go_simp; try rfl)) hHeld ?_
            try simp only [Act.put, List.setIfInBounds_toArray, List.set_cons_zero, List.set_cons_succ]
            refine takeH (i := 7) (d := 107) _ hq rfl rfl (by kernel_rfl) (by kernel_rfl) (by kernel_rfl) (by rfl) (fun W hSw => by (go_simp; try rfl)) hHeld ?_
            try simp only [Act.put, List.setIfInBounds_toArray, List.set_cons_zero, List.set_cons_succ]
            refine takeH (i := 8) (d := 108) _ hq rfl rfl (by kernel_rfl) (by kernel_rfl) (by kernel_rfl) (by rfl) (fun W hSw => by (go_simp; try rfl)) hHeld ?_
            try simp only [Act.put, List.setIfInBounds_toArray, List.set_cons_zero, List.set_cons_succ]
            refine takeH (i := 9) (d := 109) (.int .i64 xb) hq rfl rfl (by kernel_rfl) (by kernel_rfl) (by kernel_rfl) (by rfl) (fun W hSw => by (have l3' : g3 < W.heap.size := Nat.lt_of_lt_of_le hg3 hSw.size; have x1' : W.cell? ⟨g3, j * 2, none⟩ = some (.int .i64 xa) := (hSw.cell hg3).trans x1; have x2' : W.cell? ⟨g3, j * 2 + 1, none⟩ = some (.int .i64 xb) := (hSw.cell hg3).trans x2; go_simp; try rfl)) hHeld ?_
            try simp only [Act.put, List.setIfInBounds_toArray, List.set_cons_zero, List.set_cons_succ]
            refine takeH (i := 10) (d := 110) (.bool true) hq rfl rfl (by kernel_rfl) (by kernel_rfl) (by kernel_rfl) (by rfl) (fun W hSw => by (go_simp; try rfl)) hHeld ?_
            try simp only [Act.put, List.setIfInBounds_toArray, List.set_cons_zero, List.set_cons_succ]
            refine takeH (i := 11) (d := 111) _ hq rfl rfl (by kernel_rfl) (by kernel_rfl) (by kernel_rfl) (by rfl) (fun W hSw => by (go_simp; try rfl)) hHeld ?_
            try simp only [Act.put, List.setIfInBounds_toArray, List.set_cons_zero, List.set_cons_succ]
            refine takeH (i := 12) (d := 112) _ hq rfl rfl (by kernel_rfl) (by kernel_rfl) (by kernel_rfl) (by rfl) (fun W hSw => by (go_simp; try rfl)) hHeld ?_
            try simp only [Act.put, List.setIfInBounds_toArray, List.set_cons_zero, List.set_cons_succ]
            refine takeH (i := 13) (d := 113) _ hq rfl rfl (by kernel_rfl) (by kernel_rfl) (by kernel_rfl) (by rfl) (fun W hSw => by (go_simp; try rfl)) hHeld ?_
            try simp only [Act.put, List.setIfInBounds_toArray, List.set_cons_zero, List.set_cons_succ]
            refine takeH (i := 14) (d := 114) _ hq rfl rfl (by kernel_rfl) (by kernel_rfl) (by kernel_rfl) (by rfl) (fun W hSw => by (go_simp; try rfl)) hHeld ?_
            try simp only [Act.put, List.setIfInBounds_toArray, List.set_cons_zero, List.set_cons_succ]
            refine takeH (i := 15) (d := 115) _ hq rfl rfl (by kernel_rfl) (by kernel_rfl) (by kernel_rfl) (by rfl) (fun W hSw => by (go_simp; try rfl)) hHeld ?_
            try simp only [Act.put, List.setIfInBounds_toArray, List.set_cons_zero, List.set_cons_succ]
            refine takeH (i := 16) (d := 116) (.agg #[.int .i64 xa, .int .i64 xb]) hq rfl rfl (by kernel_rfl) (by kernel_rfl) (by kernel_rfl) (by rfl) (fun W hSw => by (have l3' : g3 < W.heap.size := Nat.lt_of_lt_of_le hg3 hSw.size; have x1' : W.cell? ⟨g3, j * 2, none⟩ = some (.int .i64 xa) := (hSw.cell hg3).trans x1; have x2' : W.cell? ⟨g3, j * 2 + 1, none⟩ = some (.int .i64 xb) := (hSw.cell hg3).trans x2; go_simp; try rfl)) hHeld ?_
            try simp only [Act.put, List.setIfInBounds_toArray, List.set_cons_zero, List.set_cons_succ]
            refine wpAnyH_ready (rs := [17]) (by kernel_rfl) (by simp) ?_
            refine AllReadyH.cons rfl (fun K hK => ?_) AllReadyH.nil
            go_simp
            refine (CH.out _ hHeld).mono ?_; rintro e wd ⟨rfl, hbd⟩; have BD := below_aft hHeld hbd
            go_wp2_with fail
            refine hK.out _ _ BD (fun hHeld => ?_)
            clear hK K
            try simp only [Act.put, List.setIfInBounds_toArray, List.set_cons_zero, List.set_cons_succ]
            refine takeH (i := 18) (d := 118) (.bool false) hq rfl rfl (by kernel_rfl) (by kernel_rfl) (by kernel_rfl) (by rfl) (fun W hSw => by (go_simp; try rfl)) hHeld ?_
            try simp only [Act.put, List.setIfInBounds_toArray, List.set_cons_zero, List.set_cons_succ]
            refine takeH (i := 19) (d := 119) (.bool false) hq rfl rfl (by kernel_rfl) (by kernel_rfl) (by kernel_rfl) (by rfl) (fun W hSw => by (go_simp; try rfl)) hHeld ?_
            try simp only [Act.put, List.setIfInBounds_toArray, List.set_cons_zero, List.set_cons_succ]
            refine wpAnyH_done (by kernel_rfl) ?_ _
            go_wp2_with fail
            refine ⟨⟨j + 1, hlt3, rfl, below_aft HBZ.out BD⟩, ?_⟩
            show X3.length - ((j : Int) + 1).toNat < X3.length - (j : Int).toNat
            omega
        · obtain rfl : j = X3.length := by omega
          go_wp2_with (go_at_call 11; refine (CA.out _).mono ?_; rintro e w9 ⟨rfl, hb9⟩)
          go_ret
          exact ⟨rfl, below_aft (below_aft B8 hbz) hb9⟩
set_option maxRecDepth 100000 in
set_option maxHeartbeats 2000000 in
theorem ord_b1 (t u x : Ty) (f f' f'' : Fv) (w : World) (h : TyAt w f t) (h' : TyAt w f' u) (h'' : TyAt w f'' x) (hF : FitC 14 t false) :
    Calls Tryd.prog 7 #[f.v, f'.v, f''.v] w fun e w' => e = .returned (.bool true) ∧ Below w.heap.size w w' := by
  have CA : Hid (∀ W, Calls Tryd.prog 11 #[] W fun e w' => e = .returned (.bool true) ∧ Below W.heap.size W w') := hid awake_true
  obtain ⟨w0, hw0⟩ : ∃ w0, w0 = ((w.alloc f.o).alloc f'.o).alloc f''.o := ⟨_, rfl⟩
  have B0 : Below w.heap.size w w0 := by rw [hw0]; exact belA (belB w f f')
  have HN1 : Hid (At w0 w.heap.size f.o) := hid (by rw [hw0]; exact ((At.new w f.o).alloc f'.o).alloc f''.o)
  have HN2 : Hid (At w0 (w.heap.size + 1) f'.o) := hid (by rw [hw0]; exact (at_snd w f.o f'.o).alloc f''.o)
  have HN3 : Hid (At w0 (w.heap.size + 1 + 1) f''.o) := hid (by rw [hw0]; have := at_snd (w.alloc f.o) f'.o f''.o; simpa using this)
  have C1 : Hid (Calls Tryd.prog 10 #[f.v, .int .i64 14] (((w.alloc f.o).alloc f'.o).alloc f''.o) fun e w' => e = .returned (.bool false) ∧ Below (((w.alloc f.o).alloc f'.o).alloc f''.o).heap.size (((w.alloc f.o).alloc f'.o).alloc f''.o) w') := hid (hF f _ (h.bel (belA (belB w f f'))))
  have EQ0 : Hid (w0 = ((w.alloc f.o).alloc f'.o).alloc f''.o) := hid hw0
  obtain ⟨k, m, r, s, a, n, cap⟩ := f
  obtain ⟨k', m', r', s', a', n', cap'⟩ := f'
  obtain ⟨k'', m'', r'', s'', a'', n'', cap''⟩ := f''
  show Calls Tryd.prog 7 #[tyV k m r s a n cap, tyV k' m' r' s' a' n' cap', tyV k'' m'' r'' s'' a'' n'' cap''] w _
  clear h h' h'' hF hw0
  have st1 : Stg 1 := .mk 1
  go_enter Tryd.func7, Tryd.ntmps7
  go_wp2_with (first
    | (have _s := st1; clear st1 _s; go_at_call 10; refine C1.out.mono ?_; rintro e w1 ⟨rfl, hb1'⟩; have hb1 : Below w0.heap.size w0 w1 := (by rw [EQ0.out]; exact hb1'); clear hb1'; obtain ⟨-, p0, p1, p2, p3, p4⟩ := (HN1.out.below hb1).ty; obtain ⟨-, q0, q1, q2, q3, q4⟩ := (HN2.out.below hb1).ty; obtain ⟨-, r0, r1, r2, r3, r4⟩ := (HN3.out.below hb1).ty; have st2 : Stg 2 := .mk 2)
    | (go_at_call 11; refine (CA.out _).mono ?_; rintro e w9 ⟨rfl, hb9⟩))
  go_ret
  exact ⟨rfl, below_aft (below_aft B0 hb1) hb9⟩
set_option maxRecDepth 100000 in
set_option maxHeartbeats 2000000 in
theorem ord_b2 (t u x : Ty) (f f' f'' : Fv) (w : World) (h : TyAt w f t) (h' : TyAt w f' u) (h'' : TyAt w f'' x) (hF : FitC 14 t true) (hF' : FitC 14 u false) :
    Calls Tryd.prog 7 #[f.v, f'.v, f''.v] w fun e w' => e = .returned (.bool true) ∧ Below w.heap.size w w' := by
  have CA : Hid (∀ W, Calls Tryd.prog 11 #[] W fun e w' => e = .returned (.bool true) ∧ Below W.heap.size W w') := hid awake_true
  obtain ⟨w0, hw0⟩ : ∃ w0, w0 = ((w.alloc f.o).alloc f'.o).alloc f''.o := ⟨_, rfl⟩
  have B0 : Below w.heap.size w w0 := by rw [hw0]; exact belA (belB w f f')
  have HN1 : Hid (At w0 w.heap.size f.o) := hid (by rw [hw0]; exact ((At.new w f.o).alloc f'.o).alloc f''.o)
  have HN2 : Hid (At w0 (w.heap.size + 1) f'.o) := hid (by rw [hw0]; exact (at_snd w f.o f'.o).alloc f''.o)
  have HN3 : Hid (At w0 (w.heap.size + 1 + 1) f''.o) := hid (by rw [hw0]; have := at_snd (w.alloc f.o) f'.o f''.o; simpa using this)
  have C1 : Hid (Calls Tryd.prog 10 #[f.v, .int .i64 14] (((w.alloc f.o).alloc f'.o).alloc f''.o) fun e w' => e = .returned (.bool true) ∧ Below (((w.alloc f.o).alloc f'.o).alloc f''.o).heap.size (((w.alloc f.o).alloc f'.o).alloc f''.o) w') := hid (hF f _ (h.bel (belA (belB w f f'))))
  have C2 : Hid (∀ W, Below w.heap.size w W → Calls Tryd.prog 10 #[f'.v, .int .i64 14] W fun e w' => e = .returned (.bool false) ∧ Below W.heap.size W w') := hid (fun W hW => hF' f' W (h'.bel hW))
  have EQ0 : Hid (w0 = ((w.alloc f.o).alloc f'.o).alloc f''.o) := hid hw0
  obtain ⟨k, m, r, s, a, n, cap⟩ := f
  obtain ⟨k', m', r', s', a', n', cap'⟩ := f'
  obtain ⟨k'', m'', r'', s'', a'', n'', cap''⟩ := f''
  show Calls Tryd.prog 7 #[tyV k m r s a n cap, tyV k' m' r' s' a' n' cap', tyV k'' m'' r'' s'' a'' n'' cap''] w _
  clear h h' h'' hF hF' hw0
  have st1 : Stg 1 := .mk 1
  go_enter Tryd.func7, Tryd.ntmps7
  go_wp2_with (first
    | (have _s := st1; clear st1 _s; go_at_call 10; refine C1.out.mono ?_; rintro e w1 ⟨rfl, hb1'⟩; have hb1 : Below w0.heap.size w0 w1 := (by rw [EQ0.out]; exact hb1'); clear hb1'; obtain ⟨-, p0, p1, p2, p3, p4⟩ := (HN1.out.below hb1).ty; obtain ⟨-, q0, q1, q2, q3, q4⟩ := (HN2.out.below hb1).ty; obtain ⟨-, r0, r1, r2, r3, r4⟩ := (HN3.out.below hb1).ty; have st2 : Stg 2 := .mk 2)
    | (have _s := st2; clear st2 _s; go_at_call 10; refine (C2.out _ (below_aft B0 hb1)).mono ?_; rintro e w2 ⟨rfl, hb2⟩; have K2 := below_aft hb1 hb2; clear p0 p1 p2 p3 p4 q0 q1 q2 q3 q4 r0 r1 r2 r3 r4; obtain ⟨-, p0, p1, p2, p3, p4⟩ := (HN1.out.below K2).ty; obtain ⟨-, q0, q1, q2, q3, q4⟩ := (HN2.out.below K2).ty; obtain ⟨-, r0, r1, r2, r3, r4⟩ := (HN3.out.below K2).ty; have st3 : Stg 3 := .mk 3)
    | (go_at_call 11; refine (CA.out _).mono ?_; rintro e w9 ⟨rfl, hb9⟩))
  go_ret
  exact ⟨rfl, below_aft (below_aft B0 K2) hb9⟩
set_option maxRecDepth 100000 in
set_option maxHeartbeats 2000000 in
theorem ord_b3 (t u x : Ty) (f f' f'' : Fv) (w : World) (h : TyAt w f t) (h' : TyAt w f' u) (h'' : TyAt w f'' x) (hF : FitC 14 t true) (hF' : FitC 14 u true) (hF'' : FitC 14 x false) :
    Calls Tryd.prog 7 #[f.v, f'.v, f''.v] w fun e w' => e = .returned (.bool true) ∧ Below w.heap.size w w' := by
  have CA : Hid (∀ W, Calls Tryd.prog 11 #[] W fun e w' => e = .returned (.bool true) ∧ Below W.heap.size W w') := hid awake_true
  obtain ⟨w0, hw0⟩ : ∃ w0, w0 = ((w.alloc f.o).alloc f'.o).alloc f''.o := ⟨_, rfl⟩
  have B0 : Below w.heap.size w w0 := by rw [hw0]; exact belA (belB w f f')
  have HN1 : Hid (At w0 w.heap.size f.o) := hid (by rw [hw0]; exact ((At.new w f.o).alloc f'.o).alloc f''.o)
  have HN2 : Hid (At w0 (w.heap.size + 1) f'.o) := hid (by rw [hw0]; exact (at_snd w f.o f'.o).alloc f''.o)
  have HN3 : Hid (At w0 (w.heap.size + 1 + 1) f''.o) := hid (by rw [hw0]; have := at_snd (w.alloc f.o) f'.o f''.o; simpa using this)
  have C1 : Hid (Calls Tryd.prog 10 #[f.v, .int .i64 14] (((w.alloc f.o).alloc f'.o).alloc f''.o) fun e w' => e = .returned (.bool true) ∧ Below (((w.alloc f.o).alloc f'.o).alloc f''.o).heap.size (((w.alloc f.o).alloc f'.o).alloc f''.o) w') := hid (hF f _ (h.bel (belA (belB w f f'))))
  have C2 : Hid (∀ W, Below w.heap.size w W → Calls Tryd.prog 10 #[f'.v, .int .i64 14] W fun e w' => e = .returned (.bool true) ∧ Below W.heap.size W w') := hid (fun W hW => hF' f' W (h'.bel hW))
  have C3 : Hid (∀ W, Below w.heap.size w W → Calls Tryd.prog 10 #[f''.v, .int .i64 14] W fun e w' => e = .returned (.bool false) ∧ Below W.heap.size W w') := hid (fun W hW => hF'' f'' W (h''.bel hW))
  have EQ0 : Hid (w0 = ((w.alloc f.o).alloc f'.o).alloc f''.o) := hid hw0
  obtain ⟨k, m, r, s, a, n, cap⟩ := f
  obtain ⟨k', m', r', s', a', n', cap'⟩ := f'
  obtain ⟨k'', m'', r'', s'', a'', n'', cap''⟩ := f''
  show Calls Tryd.prog 7 #[tyV k m r s a n cap, tyV k' m' r' s' a' n' cap', tyV k'' m'' r'' s'' a'' n'' cap''] w _
  clear h h' h'' hF hF' hF'' hw0
  have st1 : Stg 1 := .mk 1
  go_enter Tryd.func7, Tryd.ntmps7
  go_wp2_with (first
    | (have _s := st1; clear st1 _s; go_at_call 10; refine C1.out.mono ?_; rintro e w1 ⟨rfl, hb1'⟩; have hb1 : Below w0.heap.size w0 w1 := (by rw [EQ0.out]; exact hb1'); clear hb1'; obtain ⟨-, p0, p1, p2, p3, p4⟩ := (HN1.out.below hb1).ty; obtain ⟨-, q0, q1, q2, q3, q4⟩ := (HN2.out.below hb1).ty; obtain ⟨-, r0, r1, r2, r3, r4⟩ := (HN3.out.below hb1).ty; have st2 : Stg 2 := .mk 2)
    | (have _s := st2; clear st2 _s; go_at_call 10; refine (C2.out _ (below_aft B0 hb1)).mono ?_; rintro e w2 ⟨rfl, hb2⟩; have K2 := below_aft hb1 hb2; clear p0 p1 p2 p3 p4 q0 q1 q2 q3 q4 r0 r1 r2 r3 r4; obtain ⟨-, p0, p1, p2, p3, p4⟩ := (HN1.out.below K2).ty; obtain ⟨-, q0, q1, q2, q3, q4⟩ := (HN2.out.below K2).ty; obtain ⟨-, r0, r1, r2, r3, r4⟩ := (HN3.out.below K2).ty; have st3 : Stg 3 := .mk 3)
    | (have _s := st3; clear st3 _s; go_at_call 10; refine (C3.out _ (below_aft B0 K2)).mono ?_; rintro e w3 ⟨rfl, hb3⟩; have K3 := below_aft K2 hb3; clear p0 p1 p2 p3 p4 q0 q1 q2 q3 q4 r0 r1 r2 r3 r4; obtain ⟨-, p0, p1, p2, p3, p4⟩ := (HN1.out.below K3).ty; obtain ⟨-, q0, q1, q2, q3, q4⟩ := (HN2.out.below K3).ty; obtain ⟨-, r0, r1, r2, r3, r4⟩ := (HN3.out.below K3).ty; have st4 : Stg 4 := .mk 4)
    | (go_at_call 11; refine (CA.out _).mono ?_; rintro e w9 ⟨rfl, hb9⟩))
  go_ret
  exact ⟨rfl, below_aft (below_aft B0 K3) hb9⟩
theorem order_walk (t u x : Ty) (f f' f'' : Fv) (w : World) (h : TyAt w f t) (h' : TyAt w f' u) (h'' : TyAt w f'' x) :
    Calls Tryd.prog 7 #[f.v, f'.v, f''.v] w fun e w' => e = .returned (.bool true) ∧ Below w.heap.size w w' := by
  obtain ⟨b1, hF⟩ := fits_ex 14 14 rfl (by omega) t
  obtain ⟨b2, hF'⟩ := fits_ex 14 14 rfl (by omega) u
  obtain ⟨b3, hF''⟩ := fits_ex 14 14 rfl (by omega) x
  cases b1 with
  | false => exact ord_b1 t u x f f' f'' w h h' h'' hF
  | true =>
    cases b2 with
    | false => exact ord_b2 t u x f f' f'' w h h' h'' hF hF'
    | true =>
      cases b3 with
      | false => exact ord_b3 t u x f f' f'' w h h' h'' hF hF' hF''
      | true =>
        have len : ∀ c d : Ch, Ok c → (asksL false c d).length ≤ 96 := fun c d hc => by have := asksL_len false c d; have := hc.deep; omega
        obtain ⟨X1, e1, hA1, k1⟩ := asks_one t u f f' w h h'
        obtain ⟨X2, e2, hA2, k2⟩ := asks_one u x f' f'' w h' h''
        obtain ⟨X3, e3, hA3, k3⟩ := asks_one t x f f'' w h h''
        rcases k1 with ⟨rfl, rfl⟩ | ⟨rfl, c, d, rfl, rfl, hc, hd, ha, b1, b2, rfl⟩
        · obtain ⟨Xs, ns, hAs, ks⟩ := asks_one t t f f w h h
          rcases ks with ⟨rfl, rfl⟩ | ⟨rfl, c, d, hct, hdt, hc, hd, ha, b1, b2, rfl⟩
          · exact ord_22 t u x f f' f'' w h h' h'' hF hF' hF'' [] [] X2 X3 e3 e2 hAs hA1 hA2 hA3 (by simp) (by simp)
          · obtain rfl : c = d := Ch.ty_inj (hct.symm.trans hdt)
            exact ord_02 t u x f f' f'' w h h' h'' hF hF' hF'' _ [] X2 X3 e3 e2 hAs hA1 hA2 hA3 (asksL_self false c) (len c c hc)
        · have hAs : AskC 38 f f (asksL false c c) 0 w := fun W hW => Asks_yes c c f f W hc hc (h.bel hW) (h.bel hW) (alike_self c) b1 b1
          rcases k2 with ⟨rfl, rfl⟩ | ⟨rfl, d', e, hdt, rfl, hd', he, ha', b1', b2', rfl⟩
          · exact ord_002 c.ty d.ty x f f' f'' w h h' h'' hF hF' hF'' _ _ [] X3 e3 hAs hA1 hA2 hA3 (asksL_self false c) (len c c hc)
          · obtain rfl : d = d' := Ch.ty_inj hdt
            have hac := alikeB_trans c d e ha ha'
            exact ord_000 c.ty d.ty e.ty f f' f'' w h h' h'' hF hF' hF'' _ _ _ (asksL false c e) 0 hAs hA1 hA2 (fun W hW => Asks_yes c e f f'' W hc he (h.bel hW) (h''.bel hW) hac b1 b2') (asksL_self false c) (len c c hc) (len c d hc) (len d e hd) (len c e hc)
              (fun W hW => by have := Alike_yes c e f f'' W (h.bel hW) (h''.bel hW) hc he; rw [hac] at this; exact this)
              (fun out hri => hri.has ha ha')
end Go.Proofs.YtjchbclkdbojpaaDoor
