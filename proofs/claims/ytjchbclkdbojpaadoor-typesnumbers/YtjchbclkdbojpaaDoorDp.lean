import Derived.Test.YtjchbclkdbojpaaDoorDo
namespace Go.Proofs.YtjchbclkdbojpaaDoor
open Go.RowKit Go.Shelf
set_option linter.unusedVariables false
set_option linter.unusedSimpArgs false

set_option maxRecDepth 100000 in
set_option maxHeartbeats 16000000 in
theorem nums_n_st (w : World) (a : Option Addr) (n cap : Nat) (f : Fv) (c : Ch) (fr : Int) (L : Nat) (hL : L ≤ 60) (h9 : FitS a n cap true w) (hP : NumP w f c L) (hrg : c.rg) (h34 : ∀ W, Below w.heap.size w W → Calls Tryd.prog 34 #[f.v, .int .i64 fr] W fun e w' => ∃ f' : Fv, e = .returned (.tuple #[f'.v, .int .i64 0, .int .i64 2]) ∧ New W w' f' (.leaf 0 0)) (h14 : ∀ W, Below w.heap.size w W → Calls Tryd.prog 14 #[.slice a n cap, f.v] W fun e w' => e = .returned (.bool true) ∧ Below W.heap.size W w') (q : Nat) (hq1 : 1 ≤ q) (hq2 : q ≤ 16) (d : Bool) (h18 : ∀ W, Below w.heap.size w W → Calls Tryd.prog 18 #[.slice a n cap, f.v] W fun e w' => e = .returned (.tuple #[.int .i64 (q : Int), .int .i64 0]) ∧ Below W.heap.size W w') (h20 : ∀ W, Below w.heap.size w W → Calls Tryd.prog 20 #[.slice a n cap, f.v] W fun e w' => e = .returned (.tuple #[.bool d, .int .i64 0]) ∧ Below W.heap.size W w') (h16 : ∀ W, Below w.heap.size w W → Calls Tryd.prog 16 #[f.v] W fun e w' => e = .returned (.bool false) ∧ Below W.heap.size W w') (cs : List Ch) (h22 : ∀ W, Below w.heap.size w W → Calls Tryd.prog 22 #[.slice a n cap, f.v] W fun e w' => ∃ v fl lo hi, e = .returned (.tuple #[v, .int .i64 0]) ∧ FRow w' W.heap.size v cs fl lo hi ∧ Below W.heap.size W w') (wd : Ch → Nat) (dr : Ch → Bool) (hwd : ∀ c ∈ cs, wd c ≤ 16) (hlc : cs.length ≤ 8) (hcr : ∀ c ∈ cs, c.rg) (hsum : (cs.map wd).sum = q) (hany : cs.any dr = d) (hlq : cs.length ≤ q) (f18 : ∀ W (g : Fv) c, c ∈ cs → Below w.heap.size w W → TyAt W g c.ty → Calls Tryd.prog 18 #[.slice a n cap, g.v] W fun e w' => e = .returned (.tuple #[.int .i64 (wd c : Int), .int .i64 0]) ∧ Below W.heap.size W w') (f20 : ∀ W (g : Fv) c, c ∈ cs → Below w.heap.size w W → TyAt W g c.ty → Calls Tryd.prog 20 #[.slice a n cap, g.v] W fun e w' => e = .returned (.tuple #[.bool (dr c), .int .i64 0]) ∧ Below W.heap.size W w') :
    Calls Tryd.prog 8 #[.slice a n cap, f.v, .int .i64 fr] w fun e w' => e = .returned (.bool true) ∧ Below w.heap.size w w' := by
  have CA : Hid (∀ W, Calls Tryd.prog 11 #[] W fun e w' => e = .returned (.bool true) ∧ Below W.heap.size W w') := awake_true
  have C9 := hidD h9
  have HP := hidD hP
  have HRG := hidD hrg
  have C34 := hidD h34
  have C14 := hidD h14
  have C18 := hidD h18
  have C20 := hidD h20
  have C16 := hidD h16
  have C22 := hidD h22
  have HWD := hidD hwd
  have HCR := hidD hcr
  have HSUM := hidD hsum
  have HANY := hidD hany
  have F18 := hidD f18
  have F20 := hidD f20
  have k1 : ¬ (q : Int) < 1 := by omega
  obtain ⟨k, m, r, s, aa, nn, cc⟩ := f
  show Calls Tryd.prog 8 #[.slice a n cap, tyV k m r s aa nn cc, .int .i64 fr] w _
  clear h9 hP hrg h34 h14 h18 h20 h16 h22 hwd hcr hsum hany f18 f20
  have st1 : Stg 1 := .mk 1
  go_enter Tryd.func8, Tryd.ntmps8
  go_wp2_with (first
    | (have _s := st1; clear st1 _s; go_at_call 9; refine (C9.out _ (belA (Below.refl _ _))).mono ?_; rintro e w1 ⟨rfl, hb1⟩; have HB1 := hidD hb1; obtain ⟨hlp, p0, p1, p2, p3, p4⟩ := keepP (f := ⟨k, m, r, s, aa, nn, cc⟩) HB1.out; simp only [Nat.zero_add] at p0 p1 p2 p3 p4; clear hb1; have st2 : Stg 2 := .mk 2)
    | (have _s := st2; clear st2 _s; go_at_call 10; refine (HP.out.c10 w1 (below1 HB1.out)).mono ?_; rintro e w2 ⟨rfl, hb2⟩; have HB2 := hidD (below_aft HB1.out hb2); clear p0 p1 p2 p3 p4 hlp; obtain ⟨hlp, p0, p1, p2, p3, p4⟩ := keepP (f := ⟨k, m, r, s, aa, nn, cc⟩) HB2.out; simp only [Nat.zero_add] at p0 p1 p2 p3 p4; clear hb2; have st3 : Stg 3 := .mk 3)
    | (have _s := st3; clear st3 _s; go_at_call 32; refine (HP.out.c32 w2 (below1 HB2.out)).mono ?_; rintro e w3 ⟨⟨a7, cap7, rfl, hI⟩, hb3⟩; have HI := hidD hI; have HB3 := hidD (below_aft HB2.out hb3); clear p0 p1 p2 p3 p4 hlp; obtain ⟨hlp, p0, p1, p2, p3, p4⟩ := keepP (f := ⟨k, m, r, s, aa, nn, cc⟩) HB3.out; simp only [Nat.zero_add] at p0 p1 p2 p3 p4; clear hb3 hI; have st4 : Stg 4 := .mk 4)
    | (have _s := st4; clear st4 _s; go_at_call 36; refine (HP.out.c36 w3 a7 cap7 (below1 HB3.out) HI.out).mono ?_; rintro e w4 ⟨fx, rfl, hN⟩; have HN4 := hidD hN; have HB4 := hidD (below_aft HB3.out hN.bel); clear p0 p1 p2 p3 p4 hlp; obtain ⟨hlp, p0, p1, p2, p3, p4⟩ := keepP (f := ⟨k, m, r, s, aa, nn, cc⟩) HB4.out; simp only [Nat.zero_add] at p0 p1 p2 p3 p4; clear hN; have st5 : Stg 5 := .mk 5)
    | (have _s := st5; clear st5 _s; go_at_call 26; refine (HP.out.c26 (w4.alloc fx.o) (below1 (belA HB4.out))).mono ?_; rintro e w5 ⟨fy, rfl, hN⟩; have HN5 := hidD hN; have HB5 := hidD (below_aft (belA HB4.out) hN.bel); clear p0 p1 p2 p3 p4 hlp; obtain ⟨hlp, p0, p1, p2, p3, p4⟩ := keepP (f := ⟨k, m, r, s, aa, nn, cc⟩) HB5.out; simp only [Nat.zero_add] at p0 p1 p2 p3 p4; obtain ⟨hlq, q0, q1, q2, q3, q4⟩ := ((At.new w4 fx.o).below hN.bel).ty; simp only [Nat.zero_add] at q0 q1 q2 q3 q4; clear hN; have st6 : Stg 6 := .mk 6)
    | (have _s := st6; clear st6 _s; go_at_call 30; refine (HP.out.c30 (w5.alloc fy.o) fx (below1 (belA HB5.out)) (((HN4.out.own.ty HRG.out).bel (below1 HN5.out.bel)).bel (belA (Below.refl _ _)))).mono ?_; rintro e w6 ⟨rfl, hb6⟩; have HB6 := hidD (below_aft (belA HB5.out) hb6); have HY6 := hidD (((HN5.out.own.ty HRG.out).bel (belA (o := fy.o) (Below.refl _ _))).bel hb6); clear p0 p1 p2 p3 p4 hlp; obtain ⟨hlp, p0, p1, p2, p3, p4⟩ := keepP (f := ⟨k, m, r, s, aa, nn, cc⟩) HB6.out; simp only [Nat.zero_add] at p0 p1 p2 p3 p4; clear q0 q1 q2 q3 q4 hlq; obtain ⟨hlq, q0, q1, q2, q3, q4⟩ := ((At.new w5 fy.o).below hb6).ty; simp only [Nat.zero_add] at q0 q1 q2 q3 q4; clear hb6; have st7 : Stg 7 := .mk 7)
    | (have _s := st7; clear st7 _s; go_at_call 30; refine (HP.out.c30 w6 fy (below1 HB6.out) HY6.out).mono ?_; rintro e w7 ⟨rfl, hb7⟩; have HB7 := hidD (below_aft HB6.out hb7); clear p0 p1 p2 p3 p4 hlp; clear q0 q1 q2 q3 q4 hlq; obtain ⟨hlp, p0, p1, p2, p3, p4⟩ := keepP (f := ⟨k, m, r, s, aa, nn, cc⟩) HB7.out; simp only [Nat.zero_add] at p0 p1 p2 p3 p4; clear hb7; have st8 : Stg 8 := .mk 8)
    | (have _s := st8; clear st8 _s; go_at_call 34; refine (C34.out w7 (below1 HB7.out)).mono ?_; rintro e w8 ⟨fz, rfl, hN⟩; have HB8 := hidD (below_aft HB7.out hN.bel); clear p0 p1 p2 p3 p4 hlp; obtain ⟨hlp, p0, p1, p2, p3, p4⟩ := keepP (f := ⟨k, m, r, s, aa, nn, cc⟩) HB8.out; simp only [Nat.zero_add] at p0 p1 p2 p3 p4; clear hN; have st13 : Stg 13 := .mk 13)
    | (have _s := st13; clear st13 _s; go_at_call 14; refine (C14.out (w8.alloc fz.o) (below1 (belA HB8.out))).mono ?_; rintro e w13 ⟨rfl, hb13⟩; have HB13 := hidD (below_aft (belA HB8.out) hb13); clear p0 p1 p2 p3 p4 hlp; obtain ⟨hlp, p0, p1, p2, p3, p4⟩ := keepP (f := ⟨k, m, r, s, aa, nn, cc⟩) HB13.out; simp only [Nat.zero_add] at p0 p1 p2 p3 p4; clear hb13; have st14 : Stg 14 := .mk 14)
    | (have _s := st14; clear st14 _s; go_at_call 18; refine (C18.out w13 (below1 HB13.out)).mono ?_; rintro e w14 ⟨rfl, hb14⟩; have HB14 := hidD (below_aft HB13.out hb14); clear p0 p1 p2 p3 p4 hlp; obtain ⟨hlp, p0, p1, p2, p3, p4⟩ := keepP (f := ⟨k, m, r, s, aa, nn, cc⟩) HB14.out; simp only [Nat.zero_add] at p0 p1 p2 p3 p4; clear hb14; have st15 : Stg 15 := .mk 15)
    | (have _s := st15; clear st15 _s; go_at_call 20; refine (C20.out w14 (below1 HB14.out)).mono ?_; rintro e w15 ⟨rfl, hb15⟩; have HB15 := hidD (below_aft HB14.out hb15); clear p0 p1 p2 p3 p4 hlp; obtain ⟨hlp, p0, p1, p2, p3, p4⟩ := keepP (f := ⟨k, m, r, s, aa, nn, cc⟩) HB15.out; simp only [Nat.zero_add] at p0 p1 p2 p3 p4; clear hb15; have st16 : Stg 16 := .mk 16)
    | (have _s := st16; clear st16 _s; go_at_call 16; refine (C16.out w15 (below1 HB15.out)).mono ?_; rintro e w16 ⟨rfl, hb16⟩; have HB16 := hidD (below_aft HB15.out hb16); clear p0 p1 p2 p3 p4 hlp; obtain ⟨hlp, p0, p1, p2, p3, p4⟩ := keepP (f := ⟨k, m, r, s, aa, nn, cc⟩) HB16.out; simp only [Nat.zero_add] at p0 p1 p2 p3 p4; clear hb16; have st17 : Stg 17 := .mk 17)
    | (have _s := st17; clear st17 _s; go_at_call 22; refine (C22.out w16 (below1 HB16.out)).mono ?_; rintro e w17 ⟨v19, fl, lo, hi, rfl, hR, hb17⟩; have HR := hidD hR; have HB17 := hidD (below_aft HB16.out hb17); clear p0 p1 p2 p3 p4 hlp; clear hb17 hR; have st18 : Stg 18 := .mk 18))
  obtain ⟨ra, rcap, hvv⟩ := own_sl HR.out.row
  subst hvv
  obtain ⟨l, hl⟩ : ∃ l, l = cs.length := ⟨_, rfl⟩
  have HL9 := hidD hl
  have HR9 := HR
  rw [← hl] at HR9 ⊢
  have l8 : l ≤ 8 := by omega
  have lq : (l : Int) ≤ (q : Int) := by omega
  have dd : (d == d) = true := by cases d <;> rfl
  have HBW := hidD (below1 HB17.out)
  clear HR hl hlc hlq HB1 HB2 HB3 HB4 HB5 HB6 HB7 HB13 HB14 HB15 HB16 HN4 HN5 HY6 HI C9 C14 C16 C18 C20 C22 HP
  go_loopw [20, 21, 22] (fun v20 v21 v22 Z => ∃ i : Nat, i ≤ l ∧ v22 = .int .i64 i ∧ v20 = .int .i64 ((((cs.take i).map wd).sum : Nat) : Int) ∧ v21 = .bool ((cs.take i).any dr) ∧ Below w17.heap.size w17 Z) (fun _ _ v22 _ => l - (intOf v22).toNat)
  case atStart => exact ⟨0, Nat.zero_le _, rfl, rfl, rfl, Below.refl _ _⟩
  case round =>
    obtain ⟨i, hi, rfl, rfl, rfl, hBZ⟩ := hrel
    have HBZ := hidD hBZ
    obtain ⟨z, hz⟩ : ∃ z, z = ((cs.take i).map wd).sum := ⟨_, rfl⟩
    obtain ⟨y, hy⟩ : ∃ y, y = (cs.take i).any dr := ⟨_, rfl⟩
    have HZ := hidD hz
    have HY := hidD hy
    rw [← hz, ← hy]
    have z9 : z ≤ 200 := by
      have h1 := sum_le16 wd (cs.take i) (fun c hc => HWD.out c (List.mem_of_mem_take hc))
      have h2 : (cs.take i).length ≤ i := by simp; omega
      omega
    clear hBZ hz hy
    by_cases hlt : i < l
    · obtain ⟨g, cap', c', f', hv, hg, hBg, hc, hf, h5, hO⟩ := FRow.at (n := 0) (HR9.out.bel HBZ.out) (i := i) (by have := HL9.out; omega)
      injection hv with hv1 hv2 hv3
      subst hv1 hv3
      have HC := hidD hc
      have hcm := List.mem_of_getElem? hc
      have HTY := hidD (hO.ty (HCR.out c' hcm))
      obtain ⟨y1, hy1⟩ : ∃ y1, y1 = wd c' := ⟨_, rfl⟩
      obtain ⟨y2, hy2⟩ : ∃ y2, y2 = dr c' := ⟨_, rfl⟩
      have G18 : Hid (Calls Tryd.prog 18 #[.slice a n cap, f'.v] wr fun e w' => e = .returned (.tuple #[.int .i64 (y1 : Int), .int .i64 0]) ∧ Below wr.heap.size wr w') := hidD (by rw [hy1]; exact F18.out wr f' c' hcm (HBW.out.trans (HBZ.out.mono HBW.out.size)) HTY.out)
      have G20 : Hid (∀ W, Below wr.heap.size wr W → Calls Tryd.prog 20 #[.slice a n cap, f'.v] W fun e w' => e = .returned (.tuple #[.bool y2, .int .i64 0]) ∧ Below W.heap.size W w') := hidD (fun W hW => by rw [hy2]; exact F20.out W f' c' hcm (HBW.out.trans ((HBZ.out.trans (hW.mono HBZ.out.size)).mono HBW.out.size)) (HTY.out.bel hW))
      have y9 : y1 ≤ 16 := by rw [hy1]; exact HWD.out c' hcm
      have HY1 := hidD hy1
      have HY2 := hidD hy2
      have H5 := hidD h5
      obtain ⟨hl5, p0, p1, p2, p3, p4⟩ := h5
      have e0 : (0 : Int) ≤ (i : Int) := by omega
      have e1 : (i : Int) < (l : Int) := by omega
      have e2 : (i : Int) ≤ 1000 := by omega
      have w8 : IntKind.i64.wrap ((z : Int) + (y1 : Int)) = (z : Int) + (y1 : Int) := by rw [IntKind.wrap_i64]; omega
      clear hv2 hc hf hO hcm hy1 hy2
      have FIN1 : Hid (((cs.take (i + 1)).map wd).sum = z + y1) := hidD (by rw [List.take_add_one, HC.out, HZ.out, HY1.out]; simp)
      have FIN2 : Hid ((cs.take (i + 1)).any dr = (y || y2)) := hidD (by rw [List.take_add_one, HC.out, HY.out, HY2.out]; simp)
      cases y with
      | true =>
        go_wp2_with (first
          | (go_at_call 18; refine G18.out.mono ?_; rintro e w18 ⟨rfl, hb18⟩; have HB18 := hidD hb18; clear p0 p1 p2 p3 p4 hl5; obtain ⟨hl5, p0, p1, p2, p3, p4⟩ := H5.out.below hb18; clear hb18)
          | (go_at_call 20; refine (G20.out w18 HB18.out).mono ?_; rintro e w19 ⟨rfl, hb19⟩; have HB19 := hidD hb19; clear hb19))
        refine ⟨⟨i + 1, hlt, by go_num, ?_, ?_, below_aft (below_aft HBZ.out HB18.out) HB19.out⟩, ?_⟩
        · rw [FIN1.out, show ((z + y1 : Nat) : Int) = (z : Int) + (y1 : Int) from by omega]
        · rw [FIN2.out]; rfl
        · show l - ((i : Int) + 1).toNat < l - (i : Int).toNat
          omega
      | false =>
        go_wp2_with (first
          | (go_at_call 18; refine G18.out.mono ?_; rintro e w18 ⟨rfl, hb18⟩; have HB18 := hidD hb18; clear p0 p1 p2 p3 p4 hl5; obtain ⟨hl5, p0, p1, p2, p3, p4⟩ := H5.out.below hb18; clear hb18)
          | (go_at_call 20; refine (G20.out w18 HB18.out).mono ?_; rintro e w19 ⟨rfl, hb19⟩; have HB19 := hidD hb19; clear hb19))
        refine ⟨⟨i + 1, hlt, by go_num, ?_, ?_, below_aft (below_aft HBZ.out HB18.out) HB19.out⟩, ?_⟩
        · rw [FIN1.out, show ((z + y1 : Nat) : Int) = (z : Int) + (y1 : Int) from by omega]
        · rw [FIN2.out]; rfl
        · show l - ((i : Int) + 1).toNat < l - (i : Int).toNat
          omega
    · obtain rfl : i = l := by omega
      have z1 : ¬ ((i : Int) < (i : Int)) := by omega
      have et : cs.take i = cs := List.take_of_length_le (by have := HL9.out; omega)
      obtain rfl : z = q := by rw [HZ.out, et]; exact HSUM.out
      obtain rfl : y = d := by rw [HY.out, et]; exact HANY.out
      clear et
      go_wp2_with (go_at_call 11; refine (CA.out _).mono ?_; rintro e w20 ⟨rfl, hb20⟩; have HB20 := hidD hb20; clear hb20)
      go_ret
      exact ⟨rfl, below_aft (HBW.out.trans (HBZ.out.mono HBW.out.size)) HB20.out⟩
set_option maxRecDepth 100000 in
set_option maxHeartbeats 16000000 in
theorem nums_y_st (w : World) (a : Option Addr) (n cap : Nat) (f : Fv) (c : Ch) (fr : Int) (L : Nat) (hL : L ≤ 60) (h9 : FitS a n cap true w) (hP : NumP w f c L) (hrg : c.rg) (C1 : Ch) (hQ : NumQ w f c L fr C1) (hfr0 : 0 ≤ fr) (hfr1 : fr ≤ 512) (h14 : ∀ W, Below w.heap.size w W → Calls Tryd.prog 14 #[.slice a n cap, f.v] W fun e w' => e = .returned (.bool true) ∧ Below W.heap.size W w') (q : Nat) (hq1 : 1 ≤ q) (hq2 : q ≤ 16) (d : Bool) (h18 : ∀ W, Below w.heap.size w W → Calls Tryd.prog 18 #[.slice a n cap, f.v] W fun e w' => e = .returned (.tuple #[.int .i64 (q : Int), .int .i64 0]) ∧ Below W.heap.size W w') (h20 : ∀ W, Below w.heap.size w W → Calls Tryd.prog 20 #[.slice a n cap, f.v] W fun e w' => e = .returned (.tuple #[.bool d, .int .i64 0]) ∧ Below W.heap.size W w') (h16 : ∀ W, Below w.heap.size w W → Calls Tryd.prog 16 #[f.v] W fun e w' => e = .returned (.bool false) ∧ Below W.heap.size W w') (cs : List Ch) (h22 : ∀ W, Below w.heap.size w W → Calls Tryd.prog 22 #[.slice a n cap, f.v] W fun e w' => ∃ v fl lo hi, e = .returned (.tuple #[v, .int .i64 0]) ∧ FRow w' W.heap.size v cs fl lo hi ∧ Below W.heap.size W w') (wd : Ch → Nat) (dr : Ch → Bool) (hwd : ∀ c ∈ cs, wd c ≤ 16) (hlc : cs.length ≤ 8) (hcr : ∀ c ∈ cs, c.rg) (hsum : (cs.map wd).sum = q) (hany : cs.any dr = d) (hlq : cs.length ≤ q) (f18 : ∀ W (g : Fv) c, c ∈ cs → Below w.heap.size w W → TyAt W g c.ty → Calls Tryd.prog 18 #[.slice a n cap, g.v] W fun e w' => e = .returned (.tuple #[.int .i64 (wd c : Int), .int .i64 0]) ∧ Below W.heap.size W w') (f20 : ∀ W (g : Fv) c, c ∈ cs → Below w.heap.size w W → TyAt W g c.ty → Calls Tryd.prog 20 #[.slice a n cap, g.v] W fun e w' => e = .returned (.tuple #[.bool (dr c), .int .i64 0]) ∧ Below W.heap.size W w') :
    Calls Tryd.prog 8 #[.slice a n cap, f.v, .int .i64 fr] w fun e w' => e = .returned (.bool true) ∧ Below w.heap.size w w' := by
  have CA : Hid (∀ W, Calls Tryd.prog 11 #[] W fun e w' => e = .returned (.bool true) ∧ Below W.heap.size W w') := awake_true
  have C9 := hidD h9
  have HP := hidD hP
  have HRG := hidD hrg
  have HQ := hidD hQ
  have wf : IntKind.i64.wrap (fr + (L : Int)) = fr + (L : Int) := by rw [IntKind.wrap_i64]; omega
  have C14 := hidD h14
  have C18 := hidD h18
  have C20 := hidD h20
  have C16 := hidD h16
  have C22 := hidD h22
  have HWD := hidD hwd
  have HCR := hidD hcr
  have HSUM := hidD hsum
  have HANY := hidD hany
  have F18 := hidD f18
  have F20 := hidD f20
  have k1 : ¬ (q : Int) < 1 := by omega
  obtain ⟨k, m, r, s, aa, nn, cc⟩ := f
  show Calls Tryd.prog 8 #[.slice a n cap, tyV k m r s aa nn cc, .int .i64 fr] w _
  clear h9 hP hrg hQ h14 h18 h20 h16 h22 hwd hcr hsum hany f18 f20
  have st1 : Stg 1 := .mk 1
  go_enter Tryd.func8, Tryd.ntmps8
  go_wp2_with (first
    | (have _s := st1; clear st1 _s; go_at_call 9; refine (C9.out _ (belA (Below.refl _ _))).mono ?_; rintro e w1 ⟨rfl, hb1⟩; have HB1 := hidD hb1; obtain ⟨hlp, p0, p1, p2, p3, p4⟩ := keepP (f := ⟨k, m, r, s, aa, nn, cc⟩) HB1.out; simp only [Nat.zero_add] at p0 p1 p2 p3 p4; clear hb1; have st2 : Stg 2 := .mk 2)
    | (have _s := st2; clear st2 _s; go_at_call 10; refine (HP.out.c10 w1 (below1 HB1.out)).mono ?_; rintro e w2 ⟨rfl, hb2⟩; have HB2 := hidD (below_aft HB1.out hb2); clear p0 p1 p2 p3 p4 hlp; obtain ⟨hlp, p0, p1, p2, p3, p4⟩ := keepP (f := ⟨k, m, r, s, aa, nn, cc⟩) HB2.out; simp only [Nat.zero_add] at p0 p1 p2 p3 p4; clear hb2; have st3 : Stg 3 := .mk 3)
    | (have _s := st3; clear st3 _s; go_at_call 32; refine (HP.out.c32 w2 (below1 HB2.out)).mono ?_; rintro e w3 ⟨⟨a7, cap7, rfl, hI⟩, hb3⟩; have HI := hidD hI; have HB3 := hidD (below_aft HB2.out hb3); clear p0 p1 p2 p3 p4 hlp; obtain ⟨hlp, p0, p1, p2, p3, p4⟩ := keepP (f := ⟨k, m, r, s, aa, nn, cc⟩) HB3.out; simp only [Nat.zero_add] at p0 p1 p2 p3 p4; clear hb3 hI; have st4 : Stg 4 := .mk 4)
    | (have _s := st4; clear st4 _s; go_at_call 36; refine (HP.out.c36 w3 a7 cap7 (below1 HB3.out) HI.out).mono ?_; rintro e w4 ⟨fx, rfl, hN⟩; have HN4 := hidD hN; have HB4 := hidD (below_aft HB3.out hN.bel); clear p0 p1 p2 p3 p4 hlp; obtain ⟨hlp, p0, p1, p2, p3, p4⟩ := keepP (f := ⟨k, m, r, s, aa, nn, cc⟩) HB4.out; simp only [Nat.zero_add] at p0 p1 p2 p3 p4; clear hN; have st5 : Stg 5 := .mk 5)
    | (have _s := st5; clear st5 _s; go_at_call 26; refine (HP.out.c26 (w4.alloc fx.o) (below1 (belA HB4.out))).mono ?_; rintro e w5 ⟨fy, rfl, hN⟩; have HN5 := hidD hN; have HB5 := hidD (below_aft (belA HB4.out) hN.bel); clear p0 p1 p2 p3 p4 hlp; obtain ⟨hlp, p0, p1, p2, p3, p4⟩ := keepP (f := ⟨k, m, r, s, aa, nn, cc⟩) HB5.out; simp only [Nat.zero_add] at p0 p1 p2 p3 p4; obtain ⟨hlq, q0, q1, q2, q3, q4⟩ := ((At.new w4 fx.o).below hN.bel).ty; simp only [Nat.zero_add] at q0 q1 q2 q3 q4; clear hN; have st6 : Stg 6 := .mk 6)
    | (have _s := st6; clear st6 _s; go_at_call 30; refine (HP.out.c30 (w5.alloc fy.o) fx (below1 (belA HB5.out)) (((HN4.out.own.ty HRG.out).bel (below1 HN5.out.bel)).bel (belA (Below.refl _ _)))).mono ?_; rintro e w6 ⟨rfl, hb6⟩; have HB6 := hidD (below_aft (belA HB5.out) hb6); have HY6 := hidD (((HN5.out.own.ty HRG.out).bel (belA (o := fy.o) (Below.refl _ _))).bel hb6); clear p0 p1 p2 p3 p4 hlp; obtain ⟨hlp, p0, p1, p2, p3, p4⟩ := keepP (f := ⟨k, m, r, s, aa, nn, cc⟩) HB6.out; simp only [Nat.zero_add] at p0 p1 p2 p3 p4; clear q0 q1 q2 q3 q4 hlq; obtain ⟨hlq, q0, q1, q2, q3, q4⟩ := ((At.new w5 fy.o).below hb6).ty; simp only [Nat.zero_add] at q0 q1 q2 q3 q4; clear hb6; have st7 : Stg 7 := .mk 7)
    | (have _s := st7; clear st7 _s; go_at_call 30; refine (HP.out.c30 w6 fy (below1 HB6.out) HY6.out).mono ?_; rintro e w7 ⟨rfl, hb7⟩; have HB7 := hidD (below_aft HB6.out hb7); clear p0 p1 p2 p3 p4 hlp; clear q0 q1 q2 q3 q4 hlq; obtain ⟨hlp, p0, p1, p2, p3, p4⟩ := keepP (f := ⟨k, m, r, s, aa, nn, cc⟩) HB7.out; simp only [Nat.zero_add] at p0 p1 p2 p3 p4; clear hb7; have st8 : Stg 8 := .mk 8)
    | (have _s := st8; clear st8 _s; go_at_call 34; refine (HQ.out.c34 w7 (below1 HB7.out)).mono ?_; rintro e w8 ⟨fz, rfl, hN⟩; have HN8 := hidD hN; have HB8 := hidD (below_aft HB7.out hN.bel); clear p0 p1 p2 p3 p4 hlp; obtain ⟨hlp, p0, p1, p2, p3, p4⟩ := keepP (f := ⟨k, m, r, s, aa, nn, cc⟩) HB8.out; simp only [Nat.zero_add] at p0 p1 p2 p3 p4; clear hN; have st9 : Stg 9 := .mk 9)
    | (have _s := st9; clear st9 _s; go_at_call 34; refine (HQ.out.d34 (w8.alloc fz.o) fz ((HN8.out.own.ty HQ.out.rg).bel (belA (Below.refl _ _)))).mono ?_; rintro e w9 ⟨fu, rfl, hN⟩; have HN9 := hidD hN; have HB9 := hidD (below_aft (belA HB8.out) hN.bel); have HZ9 := hidD ((HN8.out.own.ty HQ.out.rg).bel (below1 hN.bel)); clear p0 p1 p2 p3 p4 hlp; obtain ⟨hlp, p0, p1, p2, p3, p4⟩ := keepP (f := ⟨k, m, r, s, aa, nn, cc⟩) HB9.out; simp only [Nat.zero_add] at p0 p1 p2 p3 p4; obtain ⟨hlq, q0, q1, q2, q3, q4⟩ := ((At.new w8 fz.o).below hN.bel).ty; simp only [Nat.zero_add] at q0 q1 q2 q3 q4; clear hN; have st10 : Stg 10 := .mk 10)
    | (have _s := st10; clear st10 _s; go_at_call 30; refine (HQ.out.d30 (w9.alloc fu.o) fz fu (HZ9.out.bel (belA (Below.refl _ _))) ((HN9.out.own.ty HQ.out.rg).bel (belA (Below.refl _ _)))).mono ?_; rintro e w10 ⟨rfl, hb10⟩; have HB10 := hidD (below_aft (belA HB9.out) hb10); have HZ10 := hidD (HZ9.out.bel (below1 hb10)); clear p0 p1 p2 p3 p4 hlp; obtain ⟨hlp, p0, p1, p2, p3, p4⟩ := keepP (f := ⟨k, m, r, s, aa, nn, cc⟩) HB10.out; simp only [Nat.zero_add] at p0 p1 p2 p3 p4; clear q0 q1 q2 q3 q4 hlq; obtain ⟨hlq, q0, q1, q2, q3, q4⟩ := ((((At.new w8 fz.o).below HN9.out.bel).alloc fu.o).below hb10).ty; simp only [Nat.zero_add] at q0 q1 q2 q3 q4; have HA10 := hidD ((((At.new w8 fz.o).below HN9.out.bel).alloc fu.o).below hb10); clear hb10; have st11 : Stg 11 := .mk 11)
    | (have _s := st11; clear st11 _s; go_at_call 28; refine (HQ.out.d28 w10 fz (below1 HB10.out) HZ10.out).mono ?_; rintro e w11 ⟨rfl, hb11⟩; have HB11 := hidD (below_aft HB10.out hb11); have HZ11 := hidD (HZ10.out.bel hb11); clear p0 p1 p2 p3 p4 hlp; obtain ⟨hlp, p0, p1, p2, p3, p4⟩ := keepP (f := ⟨k, m, r, s, aa, nn, cc⟩) HB11.out; simp only [Nat.zero_add] at p0 p1 p2 p3 p4; clear q0 q1 q2 q3 q4 hlq; obtain ⟨hlq, q0, q1, q2, q3, q4⟩ := (HA10.out.below hb11).ty; simp only [Nat.zero_add] at q0 q1 q2 q3 q4; clear hb11; have st12 : Stg 12 := .mk 12)
    | (have _s := st12; clear st12 _s; go_at_call 32; refine (HQ.out.d32 w11 fz HZ11.out).mono ?_; rintro e w12 ⟨⟨a12, cap12, rfl⟩, hb12⟩; have HB12 := hidD (below_aft HB11.out hb12); clear p0 p1 p2 p3 p4 hlp; clear q0 q1 q2 q3 q4 hlq; obtain ⟨hlp, p0, p1, p2, p3, p4⟩ := keepP (f := ⟨k, m, r, s, aa, nn, cc⟩) HB12.out; simp only [Nat.zero_add] at p0 p1 p2 p3 p4; clear hb12; have st13 : Stg 13 := .mk 13)
    | (have _s := st13; clear st13 _s; go_at_call 14; refine (C14.out w12 (below1 HB12.out)).mono ?_; rintro e w13 ⟨rfl, hb13⟩; have HB13 := hidD (below_aft HB12.out hb13); clear p0 p1 p2 p3 p4 hlp; obtain ⟨hlp, p0, p1, p2, p3, p4⟩ := keepP (f := ⟨k, m, r, s, aa, nn, cc⟩) HB13.out; simp only [Nat.zero_add] at p0 p1 p2 p3 p4; clear hb13; have st14 : Stg 14 := .mk 14)
    | (have _s := st14; clear st14 _s; go_at_call 18; refine (C18.out w13 (below1 HB13.out)).mono ?_; rintro e w14 ⟨rfl, hb14⟩; have HB14 := hidD (below_aft HB13.out hb14); clear p0 p1 p2 p3 p4 hlp; obtain ⟨hlp, p0, p1, p2, p3, p4⟩ := keepP (f := ⟨k, m, r, s, aa, nn, cc⟩) HB14.out; simp only [Nat.zero_add] at p0 p1 p2 p3 p4; clear hb14; have st15 : Stg 15 := .mk 15)
    | (have _s := st15; clear st15 _s; go_at_call 20; refine (C20.out w14 (below1 HB14.out)).mono ?_; rintro e w15 ⟨rfl, hb15⟩; have HB15 := hidD (below_aft HB14.out hb15); clear p0 p1 p2 p3 p4 hlp; obtain ⟨hlp, p0, p1, p2, p3, p4⟩ := keepP (f := ⟨k, m, r, s, aa, nn, cc⟩) HB15.out; simp only [Nat.zero_add] at p0 p1 p2 p3 p4; clear hb15; have st16 : Stg 16 := .mk 16)
    | (have _s := st16; clear st16 _s; go_at_call 16; refine (C16.out w15 (below1 HB15.out)).mono ?_; rintro e w16 ⟨rfl, hb16⟩; have HB16 := hidD (below_aft HB15.out hb16); clear p0 p1 p2 p3 p4 hlp; obtain ⟨hlp, p0, p1, p2, p3, p4⟩ := keepP (f := ⟨k, m, r, s, aa, nn, cc⟩) HB16.out; simp only [Nat.zero_add] at p0 p1 p2 p3 p4; clear hb16; have st17 : Stg 17 := .mk 17)
    | (have _s := st17; clear st17 _s; go_at_call 22; refine (C22.out w16 (below1 HB16.out)).mono ?_; rintro e w17 ⟨v19, fl, lo, hi, rfl, hR, hb17⟩; have HR := hidD hR; have HB17 := hidD (below_aft HB16.out hb17); clear p0 p1 p2 p3 p4 hlp; clear hb17 hR; have st18 : Stg 18 := .mk 18))
  obtain ⟨ra, rcap, hvv⟩ := own_sl HR.out.row
  subst hvv
  obtain ⟨l, hl⟩ : ∃ l, l = cs.length := ⟨_, rfl⟩
  have HL9 := hidD hl
  have HR9 := HR
  rw [← hl] at HR9 ⊢
  have l8 : l ≤ 8 := by omega
  have lq : (l : Int) ≤ (q : Int) := by omega
  have dd : (d == d) = true := by cases d <;> rfl
  have HBW := hidD (below1 HB17.out)
  clear HR hl hlc hlq HB1 HB2 HB3 HB4 HB5 HB6 HB7 HB13 HB14 HB15 HB16 HN4 HN5 HY6 HI C9 C14 C16 C18 C20 C22 HP
  go_loopw [20, 21, 22] (fun v20 v21 v22 Z => ∃ i : Nat, i ≤ l ∧ v22 = .int .i64 i ∧ v20 = .int .i64 ((((cs.take i).map wd).sum : Nat) : Int) ∧ v21 = .bool ((cs.take i).any dr) ∧ Below w17.heap.size w17 Z) (fun _ _ v22 _ => l - (intOf v22).toNat)
  case atStart => exact ⟨0, Nat.zero_le _, rfl, rfl, rfl, Below.refl _ _⟩
  case round =>
    obtain ⟨i, hi, rfl, rfl, rfl, hBZ⟩ := hrel
    have HBZ := hidD hBZ
    obtain ⟨z, hz⟩ : ∃ z, z = ((cs.take i).map wd).sum := ⟨_, rfl⟩
    obtain ⟨y, hy⟩ : ∃ y, y = (cs.take i).any dr := ⟨_, rfl⟩
    have HZ := hidD hz
    have HY := hidD hy
    rw [← hz, ← hy]
    have z9 : z ≤ 200 := by
      have h1 := sum_le16 wd (cs.take i) (fun c hc => HWD.out c (List.mem_of_mem_take hc))
      have h2 : (cs.take i).length ≤ i := by simp; omega
      omega
    clear hBZ hz hy
    by_cases hlt : i < l
    · obtain ⟨g, cap', c', f', hv, hg, hBg, hc, hf, h5, hO⟩ := FRow.at (n := 0) (HR9.out.bel HBZ.out) (i := i) (by have := HL9.out; omega)
      injection hv with hv1 hv2 hv3
      subst hv1 hv3
      have HC := hidD hc
      have hcm := List.mem_of_getElem? hc
      have HTY := hidD (hO.ty (HCR.out c' hcm))
      obtain ⟨y1, hy1⟩ : ∃ y1, y1 = wd c' := ⟨_, rfl⟩
      obtain ⟨y2, hy2⟩ : ∃ y2, y2 = dr c' := ⟨_, rfl⟩
      have G18 : Hid (Calls Tryd.prog 18 #[.slice a n cap, f'.v] wr fun e w' => e = .returned (.tuple #[.int .i64 (y1 : Int), .int .i64 0]) ∧ Below wr.heap.size wr w') := hidD (by rw [hy1]; exact F18.out wr f' c' hcm (HBW.out.trans (HBZ.out.mono HBW.out.size)) HTY.out)
      have G20 : Hid (∀ W, Below wr.heap.size wr W → Calls Tryd.prog 20 #[.slice a n cap, f'.v] W fun e w' => e = .returned (.tuple #[.bool y2, .int .i64 0]) ∧ Below W.heap.size W w') := hidD (fun W hW => by rw [hy2]; exact F20.out W f' c' hcm (HBW.out.trans ((HBZ.out.trans (hW.mono HBZ.out.size)).mono HBW.out.size)) (HTY.out.bel hW))
      have y9 : y1 ≤ 16 := by rw [hy1]; exact HWD.out c' hcm
      have HY1 := hidD hy1
      have HY2 := hidD hy2
      have H5 := hidD h5
      obtain ⟨hl5, p0, p1, p2, p3, p4⟩ := h5
      have e0 : (0 : Int) ≤ (i : Int) := by omega
      have e1 : (i : Int) < (l : Int) := by omega
      have e2 : (i : Int) ≤ 1000 := by omega
      have w8 : IntKind.i64.wrap ((z : Int) + (y1 : Int)) = (z : Int) + (y1 : Int) := by rw [IntKind.wrap_i64]; omega
      clear hv2 hc hf hO hcm hy1 hy2
      have FIN1 : Hid (((cs.take (i + 1)).map wd).sum = z + y1) := hidD (by rw [List.take_add_one, HC.out, HZ.out, HY1.out]; simp)
      have FIN2 : Hid ((cs.take (i + 1)).any dr = (y || y2)) := hidD (by rw [List.take_add_one, HC.out, HY.out, HY2.out]; simp)
      cases y with
      | true =>
        go_wp2_with (first
          | (go_at_call 18; refine G18.out.mono ?_; rintro e w18 ⟨rfl, hb18⟩; have HB18 := hidD hb18; clear p0 p1 p2 p3 p4 hl5; obtain ⟨hl5, p0, p1, p2, p3, p4⟩ := H5.out.below hb18; clear hb18)
          | (go_at_call 20; refine (G20.out w18 HB18.out).mono ?_; rintro e w19 ⟨rfl, hb19⟩; have HB19 := hidD hb19; clear hb19))
        refine ⟨⟨i + 1, hlt, by go_num, ?_, ?_, below_aft (below_aft HBZ.out HB18.out) HB19.out⟩, ?_⟩
        · rw [FIN1.out, show ((z + y1 : Nat) : Int) = (z : Int) + (y1 : Int) from by omega]
        · rw [FIN2.out]; rfl
        · show l - ((i : Int) + 1).toNat < l - (i : Int).toNat
          omega
      | false =>
        go_wp2_with (first
          | (go_at_call 18; refine G18.out.mono ?_; rintro e w18 ⟨rfl, hb18⟩; have HB18 := hidD hb18; clear p0 p1 p2 p3 p4 hl5; obtain ⟨hl5, p0, p1, p2, p3, p4⟩ := H5.out.below hb18; clear hb18)
          | (go_at_call 20; refine (G20.out w18 HB18.out).mono ?_; rintro e w19 ⟨rfl, hb19⟩; have HB19 := hidD hb19; clear hb19))
        refine ⟨⟨i + 1, hlt, by go_num, ?_, ?_, below_aft (below_aft HBZ.out HB18.out) HB19.out⟩, ?_⟩
        · rw [FIN1.out, show ((z + y1 : Nat) : Int) = (z : Int) + (y1 : Int) from by omega]
        · rw [FIN2.out]; rfl
        · show l - ((i : Int) + 1).toNat < l - (i : Int).toNat
          omega
    · obtain rfl : i = l := by omega
      have z1 : ¬ ((i : Int) < (i : Int)) := by omega
      have et : cs.take i = cs := List.take_of_length_le (by have := HL9.out; omega)
      obtain rfl : z = q := by rw [HZ.out, et]; exact HSUM.out
      obtain rfl : y = d := by rw [HY.out, et]; exact HANY.out
      clear et
      go_wp2_with (go_at_call 11; refine (CA.out _).mono ?_; rintro e w20 ⟨rfl, hb20⟩; have HB20 := hidD hb20; clear hb20)
      go_ret
      exact ⟨rfl, below_aft (HBW.out.trans (HBZ.out.mono HBW.out.size)) HB20.out⟩
end Go.Proofs.YtjchbclkdbojpaaDoor
