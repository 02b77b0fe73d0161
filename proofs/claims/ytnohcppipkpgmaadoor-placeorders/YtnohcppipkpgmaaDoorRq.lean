import Derived.Test.YtnohcppipkpgmaaDoorRp
namespace Go.Proofs.YtnohcppipkpgmaaDoor
open Go.RowKit Go.Shelf
set_option linter.unusedVariables false
set_option linter.unusedSimpArgs false

theorem own_int {V : World} {B cap : Nat} {a : Option Addr} {q : List Int} (h : V.ownsRow B 3 1 (.slice a q.length cap) q.length (iCells q)) (hr : ∀ x ∈ q, -9223372036854775808 ≤ x ∧ x ≤ 9223372036854775807) : IntR V a q.length cap q := by
  rcases h.2 with ⟨e, h0⟩ | ⟨g, cap', cur, e, h1, hg, h2, h3, h4, ht⟩
  · injection e with e1 e2 e3
    subst e1 e3
    refine ⟨rfl, by omega, by simp, fun hne => ?_, hr, fun _ => rfl⟩
    exact absurd (List.length_eq_zero_iff.1 h0) hne
  · injection e with e1 e2 e3
    subst e1 e3
    refine ⟨rfl, h2, h3, fun hne => ⟨g, 0, rfl, lt_of_block hg, fun i x hx => ?_⟩, hr, fun e => by cases e⟩
    rw [Nat.zero_add]
    exact (own_cell h (j := i) (u := .int .i64 x) (by rw [iCells, List.getElem?_map, hx]; rfl)).1
set_option maxRecDepth 100000 in
set_option maxHeartbeats 8000000 in
/-- Within. -/
theorem Within_any {w W : World} (hW : Below w.heap.size w W) {a la : Option Addr} {n cap ln lcap : Nat} {ok : Bool} {fc : Nat → List Ch} {cl : List Ch} (hC : Cx w a la n cap ln lcap ok fc cl) {x y : Pt} {p q : List Int} (hP : PAt W x p) (hQ : PAt W y q) (d : Nat) (hd : d ≤ 255) (R1 R2 : Option (Ch × List Int)) (hR1 : R1 = wyX ok fc cl x.l p) (hR2 : R2 = wyX ok fc cl y.l q) :
    Calls Tryd.prog 22 #[.slice a n cap, .slice la ln lcap, x.v, y.v, .int .u8 (d : Int)] W fun e w' => WithPost R1 R2 x y p q d e ∧ Below W.heap.size W w' := by
  have C := hidD (follow_two (below_aft hW bel3) hC (ps_two hP hQ))
  rw [← hR1, ← hR2] at C
  have CD : Hid (∀ V, Calls Tryd.prog 43 #[.int .u8 (d : Int)] V fun e w' => e = .returned (.bool (decide (1 ≤ d ∧ d ≤ 3))) ∧ w' = V) := fun V => isDepth_any d V
  have HA7 : Hid (At (((W.alloc x.o).alloc y.o).alloc (twoO x y)) W.heap.size x.o) := ((At.new W x.o).alloc _).alloc _
  have HA8 : Hid (At (((W.alloc x.o).alloc y.o).alloc (twoO x y)) (W.heap.size + 1) y.o) := (at_snd W x.o y.o).alloc _
  have HP := hidD hP
  have HQ := hidD hQ
  by_cases hsome : R1.isSome = true ∧ R2.isSome = true
  · obtain ⟨⟨c, gs⟩, hz⟩ := Option.isSome_iff_exists.1 hsome.2
    have C2 : Hid (Calls Tryd.prog 36 #[.slice a n cap, .slice la ln lcap, .slice (some ⟨W.heap.size + 2, 0, none⟩) 2 2] (((W.alloc x.o).alloc y.o).alloc (twoO x y)) fun e w' => (∃ g2 cap2 z, e = .returned (.tuple #[.slice (some ⟨g2, 0, none⟩) 2 cap2, .int .i64 0]) ∧ g2 < w'.heap.size ∧ w'.cell? ⟨g2, 11, none⟩ = some (.slice z.ga z.gn z.gcap) ∧ WayIs w (((W.alloc x.o).alloc y.o).alloc (twoO x y)) w' z c gs) ∧ Below (((W.alloc x.o).alloc y.o).alloc (twoO x y)).heap.size (((W.alloc x.o).alloc y.o).alloc (twoO x y)) w') := by
      refine C.out.mono fun e w' k => ⟨?_, k.2⟩
      rcases k.1 with ⟨g2, cap2, z, c', gs', h1, h2, h3, h4, h5, h6⟩ | ⟨h1, h2⟩
      · rw [hz] at h3
        cases h3
        exact ⟨g2, cap2, z, h1, h4, h5, h6⟩
      · rcases h2 with h2 | h2
        · rw [h2] at hsome
          simp at hsome
        · rw [h2] at hsome
          simp at hsome
    by_cases hdd : 1 ≤ d ∧ d ≤ 3
    · have hpl : p.length = x.n := hP.row.len.symm
      have hok := wyX_ok hC (hR2.symm.trans hz)
      have hgl : gs.length = q.length := hok.2.2.1
      have hgr : ∀ g ∈ gs, 0 ≤ g ∧ g ≤ 3 := hok.2.2.2.2.1
      obtain ⟨bp, hbp⟩ : ∃ bp : Bool, bp = true ↔ x.l = y.l ∧ p <+: q := by
        by_cases h : x.l = y.l ∧ p <+: q
        · exact ⟨true, by simpa using h⟩
        · exact ⟨false, by simpa using h⟩
      have HBP := hidD hbp
      obtain ⟨bw, hbw⟩ : ∃ bw, bw = wiB d (gs.drop p.length) := ⟨_, rfl⟩
      have HPO : Hid (∀ b : Bool, (b = true ↔ bp = true ∧ bw = true) → WithPost R1 R2 x y p q d (.returned (.tuple #[.bool b, .int .i64 0]))) := fun b hb => by
        unfold WithPost
        rw [if_pos ⟨hsome.1, hsome.2, hdd⟩]
        refine ⟨b, rfl, hb.trans ⟨fun h => ⟨hbp.1 h.1, fun z h1 => ?_⟩, fun h => ⟨hbp.2 h.1, ?_⟩⟩⟩
        · rw [hz] at h1
          cases h1
          rw [← hbw]
          exact h.2
        · rw [hbw]
          exact h.2 _ hz
      have CP : Hid (∀ V, Below W.heap.size W V → Calls Tryd.prog 24 #[x.v, y.v] V fun e w' => e = .returned (.bool bp) ∧ Below V.heap.size V w') := fun V hV => Prefix_any (HP.out.bel hV) (HQ.out.bel hV) bp hbp
      have CW : Hid (∀ V a' n' cap', IntR V a' n' cap' (gs.drop p.length) → n' ≤ 100 → Calls Tryd.prog 44 #[.slice a' n' cap', .int .u8 (d : Int)] V fun e w' => e = .returned (.bool bw) ∧ w' = V) := fun V a' n' cap' h h1 => isWithin_any h h1 d (by omega) bw hbw
      have HZ : Hid (∀ (V : World) (z : Wy), WayIs w (((W.alloc x.o).alloc y.o).alloc (twoO x y)) V z c gs → IntR V z.ga z.gn z.gcap gs) := fun V z hw => by
        have h1 := hw.row
        have h2 := hw.gn
        rw [h2] at h1 ⊢
        exact own_int h1 (fun g hg => by have := hgr g hg; omega)
      have HG8 : Hid (gs.length ≤ 8 ∧ (bp = true → p.length ≤ gs.length)) := ⟨by have := hok.2.2.2.1; omega, fun h => by rw [hgl]; exact ((hbp.1 h).2).length_le⟩
      rw [decide_eq_true hdd] at CD
      obtain ⟨l, pa, m, pcap⟩ := x
      obtain ⟨l', pa', m', pcap'⟩ := y
      have hpl2 : p.length = m := hpl
      show Calls Tryd.prog 22 #[.slice a n cap, .slice la ln lcap, plV l pa m pcap, plV l' pa' m' pcap', .int .u8 (d : Int)] W _
      rw [hpl2] at CW HG8
      clear C hC hP hQ hR1 hR2 hz hsome hok hgl hgr hbw hpl hpl2 hdd hbp hd
      go_enter Tryd.func22, Tryd.ntmps22
      go_wp2_with (first
        | (go_at_call 36; refine C2.out.mono ?_; rintro e w1 ⟨⟨g2, cap2, z, rfl, hg2, hc2, hwy⟩, hb1⟩; have HB1 := hidD (below3 hb1); have HZ1 := hidD (HZ.out w1 z hwy); have HX1 := hidD (HA7.out.below hb1); have HY1 := hidD (HA8.out.below hb1); clear hb1 hwy)
        | (go_at_call 43; refine (CD.out _).mono ?_; rintro e w2 ⟨rfl, hw2⟩; have hw3 := hw2.symm; subst hw3; clear hw2))
      obtain ⟨ga, gn, gcap, hgv⟩ : ∃ ga gn gcap, (z.ga, z.gn, z.gcap) = (ga, gn, gcap) := ⟨_, _, _, rfl⟩
      obtain ⟨e1, e2, e3⟩ : z.ga = ga ∧ z.gn = gn ∧ z.gcap = gcap := by
        simp at hgv
        exact ⟨hgv.1, hgv.2.1, hgv.2.2⟩
      rw [e1, e2, e3] at HZ1 hc2
      clear hgv e1 e2 e3
      have HC2 := hidD hc2
      have hgn : gn = gs.length := HZ1.out.len
      have hgc : gn ≤ gcap := HZ1.out.le
      have HL7 : Hid (W.heap.size < w1.heap.size) := HX1.out.lt
      have HL8 : Hid (W.heap.size + 1 < w1.heap.size) := HY1.out.lt
      have HG2 := hidD hg2
      have HXC : Hid (∀ V, Below w1.heap.size w1 V → V.cell? ⟨W.heap.size, 0, none⟩ = some (.int .i64 l) ∧ V.cell? ⟨W.heap.size, 1, none⟩ = some (.slice pa m pcap)) := fun V hV => ⟨(hV.cell (p := ⟨W.heap.size, 0, none⟩) HL7.out).trans HX1.out.pl.1, (hV.cell (p := ⟨W.heap.size, 1, none⟩) HL7.out).trans HX1.out.pl.2⟩
      have HYC : Hid (∀ V, Below w1.heap.size w1 V → V.cell? ⟨W.heap.size + 1, 0, none⟩ = some (.int .i64 l') ∧ V.cell? ⟨W.heap.size + 1, 1, none⟩ = some (.slice pa' m' pcap')) := fun V hV => ⟨(hV.cell (p := ⟨W.heap.size + 1, 0, none⟩) HL8.out).trans HY1.out.pl.1, (hV.cell (p := ⟨W.heap.size + 1, 1, none⟩) HL8.out).trans HY1.out.pl.2⟩
      have HGC : Hid (∀ V, Below w1.heap.size w1 V → V.cell? ⟨g2, 11, none⟩ = some (.slice ga gn gcap)) := fun V hV => (hV.cell (p := ⟨g2, 11, none⟩) HG2.out).trans HC2.out
      clear hc2 hg2 C2
      refine beginH (S := fun V => Below w1.heap.size w1 V) (fun _ _ _ _ _ h => h) (by kernel_rfl) (belN (Below.refl _ _) 1) (fun hq hHeld => ?_)
      refine takeH (i := 0) (d := 30) (plV l pa m pcap) hq rfl rfl (by kernel_rfl) (by kernel_rfl) (by kernel_rfl) (by rfl) (fun W hSw => by (obtain ⟨z0, z1⟩ := HXC.out _ hSw; go_simp; try rfl)) hHeld ?_
      try simp only [Act.put, List.setIfInBounds_toArray, List.set_cons_zero, List.set_cons_succ]
      refine takeH (i := 1) (d := 31) (plV l' pa' m' pcap') hq rfl rfl (by kernel_rfl) (by kernel_rfl) (by kernel_rfl) (by rfl) (fun W hSw => by (obtain ⟨z0, z1⟩ := HYC.out _ hSw; go_simp; try rfl)) hHeld ?_
      try simp only [Act.put, List.setIfInBounds_toArray, List.set_cons_zero, List.set_cons_succ]
      refine wpAnyH_ready (rs := [2]) (by kernel_rfl) (by simp) ?_
      refine AllReadyH.cons rfl (fun K hK => ?_) AllReadyH.nil
      go_simp
      refine (CP.out _ (belN HB1.out 1)).mono ?_
      rintro e w3 ⟨rfl, hb3⟩
      have hS3 : Below w1.heap.size w1 w3 := below_aft (belN (Below.refl _ _) 1) hb3
      go_wp2_with fail
      refine hK.out _ _ hS3 (fun hHeld => ?_)
      clear hK K
      try simp only [Act.put, List.setIfInBounds_toArray, List.set_cons_zero, List.set_cons_succ]
      have HS3 := hidD hS3
      clear hb3 hS3
      refine takeH (i := 3) (d := 33) (.bool bp) hq rfl rfl (by kernel_rfl) (by kernel_rfl) (by kernel_rfl) (by rfl) (fun W hSw => by (go_simp; try rfl)) hHeld ?_
      try simp only [Act.put, List.setIfInBounds_toArray, List.set_cons_zero, List.set_cons_succ]
      cases bp with
      | false =>
        refine skipH (i := 4) (d := 34) hq rfl rfl (by kernel_rfl) (by kernel_rfl) (by kernel_rfl) (by rfl) hHeld ?_
        try simp only [Act.put, List.setIfInBounds_toArray, List.set_cons_zero, List.set_cons_succ]
        refine skipH (i := 5) (d := 35) hq rfl rfl (by kernel_rfl) (by kernel_rfl) (by kernel_rfl) (by rfl) hHeld ?_
        try simp only [Act.put, List.setIfInBounds_toArray, List.set_cons_zero, List.set_cons_succ]
        refine skipH (i := 6) (d := 36) hq rfl rfl (by kernel_rfl) (by kernel_rfl) (by kernel_rfl) (by rfl) hHeld ?_
        try simp only [Act.put, List.setIfInBounds_toArray, List.set_cons_zero, List.set_cons_succ]
        refine skipH (i := 7) (d := 37) hq rfl rfl (by kernel_rfl) (by kernel_rfl) (by kernel_rfl) (by rfl) hHeld ?_
        try simp only [Act.put, List.setIfInBounds_toArray, List.set_cons_zero, List.set_cons_succ]
        refine skipH (i := 8) (d := 38) hq rfl rfl (by kernel_rfl) (by kernel_rfl) (by kernel_rfl) (by rfl) hHeld ?_
        try simp only [Act.put, List.setIfInBounds_toArray, List.set_cons_zero, List.set_cons_succ]
        refine skipH (i := 9) (d := 39) hq rfl rfl (by kernel_rfl) (by kernel_rfl) (by kernel_rfl) (by rfl) hHeld ?_
        try simp only [Act.put, List.setIfInBounds_toArray, List.set_cons_zero, List.set_cons_succ]
        refine skipH (i := 10) (d := 40) hq rfl rfl (by kernel_rfl) (by kernel_rfl) (by kernel_rfl) (by rfl) hHeld ?_
        try simp only [Act.put, List.setIfInBounds_toArray, List.set_cons_zero, List.set_cons_succ]
        refine skipH (i := 11) (d := 41) hq rfl rfl (by kernel_rfl) (by kernel_rfl) (by kernel_rfl) (by rfl) hHeld ?_
        try simp only [Act.put, List.setIfInBounds_toArray, List.set_cons_zero, List.set_cons_succ]
        refine skipH (i := 12) (d := 42) hq rfl rfl (by kernel_rfl) (by kernel_rfl) (by kernel_rfl) (by rfl) hHeld ?_
        try simp only [Act.put, List.setIfInBounds_toArray, List.set_cons_zero, List.set_cons_succ]
        refine skipH (i := 13) (d := 43) hq rfl rfl (by kernel_rfl) (by kernel_rfl) (by kernel_rfl) (by rfl) hHeld ?_
        try simp only [Act.put, List.setIfInBounds_toArray, List.set_cons_zero, List.set_cons_succ]
        refine takeH (i := 14) (d := 44) (.bool false) hq rfl rfl (by kernel_rfl) (by kernel_rfl) (by kernel_rfl) (by rfl) (fun W hSw => by (go_simp; try rfl)) hHeld ?_
        try simp only [Act.put, List.setIfInBounds_toArray, List.set_cons_zero, List.set_cons_succ]
        refine wpAnyH_ready (rs := [15]) (by kernel_rfl) (by simp) ?_
        refine AllReadyH.cons rfl (fun K hK => ?_) AllReadyH.nil
        go_simp
        go_wp2_with fail
        refine hK.out _ _ HS3.out (fun hHeld => ?_)
        clear hK K
        try simp only [Act.put, List.setIfInBounds_toArray, List.set_cons_zero, List.set_cons_succ]
        refine wpAnyH_ready (rs := [16]) (by kernel_rfl) (by simp) ?_
        refine AllReadyH.cons rfl (fun K hK => ?_) AllReadyH.nil
        go_simp
        go_wp2_with fail
        refine hK.out _ _ HS3.out (fun hHeld => ?_)
        clear hK K
        try simp only [Act.put, List.setIfInBounds_toArray, List.set_cons_zero, List.set_cons_succ]
        refine wpAnyH_done (by kernel_rfl) ?_ _
        go_wp2_with fail
        go_ret2
        exact ⟨HPO.out _ (by simp), below_aft HB1.out HS3.out⟩
      | true =>
        have hmg : m ≤ gn := by have := HG8.out.2 rfl; omega
        have hgn8 : gn ≤ 8 := by have := HG8.out.1; omega
        have HMG := hidD hmg
        have HG88 := hidD hgn8
        clear hgn hgn8
        have m0 : (0 : Int) ≤ (m : Int) := by omega
        have m1 : (m : Int) ≤ (gn : Int) := by omega
        have m2 : (m : Int) ≤ (gcap : Int) := by omega
        have m3 : (gn : Int) ≤ (gcap : Int) := by omega
        refine takeH (i := 4) (d := 34) _ hq rfl rfl (by kernel_rfl) (by kernel_rfl) (by kernel_rfl) (by rfl) (fun W hSw => by (go_simp; try rfl)) hHeld ?_
        try simp only [Act.put, List.setIfInBounds_toArray, List.set_cons_zero, List.set_cons_succ]
        refine takeH (i := 5) (d := 35) _ hq rfl rfl (by kernel_rfl) (by kernel_rfl) (by kernel_rfl) (by rfl) (fun W hSw => by (go_simp; try rfl)) hHeld ?_
        try simp only [Act.put, List.setIfInBounds_toArray, List.set_cons_zero, List.set_cons_succ]
        refine takeH (i := 6) (d := 36) _ hq rfl rfl (by kernel_rfl) (by kernel_rfl) (by kernel_rfl) (by rfl) (fun W hSw => by (go_simp; try rfl)) hHeld ?_
        try simp only [Act.put, List.setIfInBounds_toArray, List.set_cons_zero, List.set_cons_succ]
        refine takeH (i := 7) (d := 37) (.slice ga gn gcap) hq rfl rfl (by kernel_rfl) (by kernel_rfl) (by kernel_rfl) (by rfl) (fun W hSw => by (have z0 := HGC.out _ hSw; go_simp; try rfl)) hHeld ?_
        try simp only [Act.put, List.setIfInBounds_toArray, List.set_cons_zero, List.set_cons_succ]
        refine takeH (i := 8) (d := 38) _ hq rfl rfl (by kernel_rfl) (by kernel_rfl) (by kernel_rfl) (by rfl) (fun W hSw => by (go_simp; try rfl)) hHeld ?_
        try simp only [Act.put, List.setIfInBounds_toArray, List.set_cons_zero, List.set_cons_succ]
        refine takeH (i := 9) (d := 39) (.slice pa m pcap) hq rfl rfl (by kernel_rfl) (by kernel_rfl) (by kernel_rfl) (by rfl) (fun W hSw => by (obtain ⟨z0, z1⟩ := HXC.out _ hSw; go_simp; try rfl)) hHeld ?_
        try simp only [Act.put, List.setIfInBounds_toArray, List.set_cons_zero, List.set_cons_succ]
        refine takeH (i := 10) (d := 40) (.int .i64 (m : Int)) hq rfl rfl (by kernel_rfl) (by kernel_rfl) (by kernel_rfl) (by rfl) (fun W hSw => by (go_simp; try rfl)) hHeld ?_
        try simp only [Act.put, List.setIfInBounds_toArray, List.set_cons_zero, List.set_cons_succ]
        refine takeH (i := 12) (d := 42) _ hq rfl rfl (by kernel_rfl) (by kernel_rfl) (by kernel_rfl) (by rfl) (fun W hSw => by (go_simp; try rfl)) hHeld ?_
        try simp only [Act.put, List.setIfInBounds_toArray, List.set_cons_zero, List.set_cons_succ]
        rcases Option.eq_none_or_eq_some ga with rfl | ⟨⟨g3, off3, sp3⟩, rfl⟩
        · obtain rfl : gcap = 0 := HZ1.out.nil rfl
          obtain rfl : gn = 0 := by omega
          obtain rfl : m = 0 := by omega
          refine takeH (i := 11) (d := 41) (.slice none 0 0) hq rfl rfl (by kernel_rfl) (by kernel_rfl) (by kernel_rfl) (by rfl) (fun W hSw => by (go_simp; try rfl)) hHeld ?_
          try simp only [Act.put, List.setIfInBounds_toArray, List.set_cons_zero, List.set_cons_succ]
          refine wpAnyH_ready (rs := [13]) (by kernel_rfl) (by simp) ?_
          refine AllReadyH.cons rfl (fun K hK => ?_) AllReadyH.nil
          go_simp
          refine (CW.out w3 none 0 0 ((HZ1.out.bel HS3.out).rest 0 (by have := HMG.out; omega) _ (fun h => absurd rfl h) (fun _ => rfl)) (by have := HG88.out; omega)).mono ?_
          rintro e w4 ⟨rfl, hw4⟩
          subst hw4
          go_wp2_with fail
          refine hK.out _ _ HS3.out (fun hHeld => ?_)
          clear hK K
          try simp only [Act.put, List.setIfInBounds_toArray, List.set_cons_zero, List.set_cons_succ]
          refine takeH (i := 14) (d := 44) (.bool bw) hq rfl rfl (by kernel_rfl) (by kernel_rfl) (by kernel_rfl) (by rfl) (fun W hSw => by (go_simp; try rfl)) hHeld ?_
          try simp only [Act.put, List.setIfInBounds_toArray, List.set_cons_zero, List.set_cons_succ]
          refine wpAnyH_ready (rs := [15]) (by kernel_rfl) (by simp) ?_
          refine AllReadyH.cons rfl (fun K hK => ?_) AllReadyH.nil
          go_simp
          go_wp2_with fail
          refine hK.out _ _ HS3.out (fun hHeld => ?_)
          clear hK K
          try simp only [Act.put, List.setIfInBounds_toArray, List.set_cons_zero, List.set_cons_succ]
          refine wpAnyH_ready (rs := [16]) (by kernel_rfl) (by simp) ?_
          refine AllReadyH.cons rfl (fun K hK => ?_) AllReadyH.nil
          go_simp
          go_wp2_with fail
          refine hK.out _ _ HS3.out (fun hHeld => ?_)
          clear hK K
          try simp only [Act.put, List.setIfInBounds_toArray, List.set_cons_zero, List.set_cons_succ]
          refine wpAnyH_done (by kernel_rfl) ?_ _
          go_wp2_with fail
          go_ret2
          exact ⟨HPO.out _ (by simp), below_aft HB1.out HS3.out⟩
        · by_cases hcm : gcap = m
          · subst hcm
            obtain rfl : gn = gcap := by omega
            refine takeH (i := 11) (d := 41) (.slice (some ⟨g3, off3, sp3⟩) 0 0) hq rfl rfl (by kernel_rfl) (by kernel_rfl) (by kernel_rfl) (by rfl) (fun W hSw => by (go_simp; try rfl)) hHeld ?_
            try simp only [Act.put, List.setIfInBounds_toArray, List.set_cons_zero, List.set_cons_succ]
            refine wpAnyH_ready (rs := [13]) (by kernel_rfl) (by simp) ?_
            refine AllReadyH.cons rfl (fun K hK => ?_) AllReadyH.nil
            go_simp
            refine (CW.out w3 (some ⟨g3, off3, sp3⟩) 0 0 (by have e := (HZ1.out.bel HS3.out).rest gn (Nat.le_refl _) (some ⟨g3, off3, sp3⟩) (fun h => absurd rfl h) (fun h => by cases h); rw [Nat.sub_self] at e; exact e) (by have := HG88.out; omega)).mono ?_
            rintro e w4 ⟨rfl, hw4⟩
            subst hw4
            go_wp2_with fail
            refine hK.out _ _ HS3.out (fun hHeld => ?_)
            clear hK K
            try simp only [Act.put, List.setIfInBounds_toArray, List.set_cons_zero, List.set_cons_succ]
            refine takeH (i := 14) (d := 44) (.bool bw) hq rfl rfl (by kernel_rfl) (by kernel_rfl) (by kernel_rfl) (by rfl) (fun W hSw => by (go_simp; try rfl)) hHeld ?_
            try simp only [Act.put, List.setIfInBounds_toArray, List.set_cons_zero, List.set_cons_succ]
            refine wpAnyH_ready (rs := [15]) (by kernel_rfl) (by simp) ?_
            refine AllReadyH.cons rfl (fun K hK => ?_) AllReadyH.nil
            go_simp
            go_wp2_with fail
            refine hK.out _ _ HS3.out (fun hHeld => ?_)
            clear hK K
            try simp only [Act.put, List.setIfInBounds_toArray, List.set_cons_zero, List.set_cons_succ]
            refine wpAnyH_ready (rs := [16]) (by kernel_rfl) (by simp) ?_
            refine AllReadyH.cons rfl (fun K hK => ?_) AllReadyH.nil
            go_simp
            go_wp2_with fail
            refine hK.out _ _ HS3.out (fun hHeld => ?_)
            clear hK K
            try simp only [Act.put, List.setIfInBounds_toArray, List.set_cons_zero, List.set_cons_succ]
            refine wpAnyH_done (by kernel_rfl) ?_ _
            go_wp2_with fail
            go_ret2
            exact ⟨HPO.out _ (by simp), below_aft HB1.out HS3.out⟩
          · have hcm2 : ¬ (gcap : Int) = (m : Int) := by omega
            refine takeH (i := 11) (d := 41) (.slice (some ((⟨g3, off3, sp3⟩ : Addr).add m)) (gn - m) (gcap - m)) hq rfl rfl (by kernel_rfl) (by kernel_rfl) (by kernel_rfl) (by rfl) (fun W hSw => by (go_simp; try rfl)) hHeld ?_
            try simp only [Act.put, List.setIfInBounds_toArray, List.set_cons_zero, List.set_cons_succ]
            refine wpAnyH_ready (rs := [13]) (by kernel_rfl) (by simp) ?_
            refine AllReadyH.cons rfl (fun K hK => ?_) AllReadyH.nil
            go_simp
            refine (CW.out w3 (some ((⟨g3, off3, sp3⟩ : Addr).add m)) (gn - m) (gcap - m) ((HZ1.out.bel HS3.out).rest m (by have := HMG.out; omega) _ (fun h g off e => by cases e; rw [Addr.add_lit]) (fun h => by cases h)) (by have := HG88.out; omega)).mono ?_
            rintro e w4 ⟨rfl, hw4⟩
            subst hw4
            go_wp2_with fail
            refine hK.out _ _ HS3.out (fun hHeld => ?_)
            clear hK K
            try simp only [Act.put, List.setIfInBounds_toArray, List.set_cons_zero, List.set_cons_succ]
            refine takeH (i := 14) (d := 44) (.bool bw) hq rfl rfl (by kernel_rfl) (by kernel_rfl) (by kernel_rfl) (by rfl) (fun W hSw => by (go_simp; try rfl)) hHeld ?_
            try simp only [Act.put, List.setIfInBounds_toArray, List.set_cons_zero, List.set_cons_succ]
            refine wpAnyH_ready (rs := [15]) (by kernel_rfl) (by simp) ?_
            refine AllReadyH.cons rfl (fun K hK => ?_) AllReadyH.nil
            go_simp
            go_wp2_with fail
            refine hK.out _ _ HS3.out (fun hHeld => ?_)
            clear hK K
            try simp only [Act.put, List.setIfInBounds_toArray, List.set_cons_zero, List.set_cons_succ]
            refine wpAnyH_ready (rs := [16]) (by kernel_rfl) (by simp) ?_
            refine AllReadyH.cons rfl (fun K hK => ?_) AllReadyH.nil
            go_simp
            go_wp2_with fail
            refine hK.out _ _ HS3.out (fun hHeld => ?_)
            clear hK K
            try simp only [Act.put, List.setIfInBounds_toArray, List.set_cons_zero, List.set_cons_succ]
            refine wpAnyH_done (by kernel_rfl) ?_ _
            go_wp2_with fail
            go_ret2
            exact ⟨HPO.out _ (by simp), below_aft HB1.out HS3.out⟩
    · have HPO : Hid (∀ e, e = .returned (.tuple #[.bool false, .int .i64 2]) → WithPost R1 R2 x y p q d e) := fun e he => by
        unfold WithPost
        rw [if_neg (fun h => hdd h.2.2)]
        exact he
      rw [decide_eq_false hdd] at CD
      obtain ⟨l, pa, m, pcap⟩ := x
      obtain ⟨l', pa', m', pcap'⟩ := y
      show Calls Tryd.prog 22 #[.slice a n cap, .slice la ln lcap, plV l pa m pcap, plV l' pa' m' pcap', .int .u8 (d : Int)] W _
      clear C hC hP hQ hR1 hR2 hz hsome
      go_enter Tryd.func22, Tryd.ntmps22
      go_wp2_with (first
        | (go_at_call 36; refine C2.out.mono ?_; rintro e w1 ⟨⟨g2, cap2, z, rfl, hg2, hc2, hwy⟩, hb1⟩; have HB1 := hidD (below3 hb1); clear hb1 hwy)
        | (go_at_call 43; refine (CD.out _).mono ?_; rintro e w2 ⟨rfl, hw2⟩; subst hw2))
      go_ret2
      exact ⟨HPO.out _ rfl, HB1.out⟩
  · have HPO : Hid (∀ e, e = .returned (.tuple #[.bool false, .int .i64 2]) → WithPost R1 R2 x y p q d e) := fun e he => by
      unfold WithPost
      rw [if_neg (fun h => hsome ⟨h.1, h.2.1⟩)]
      exact he
    have C2 : Hid (Calls Tryd.prog 36 #[.slice a n cap, .slice la ln lcap, .slice (some ⟨W.heap.size + 2, 0, none⟩) 2 2] (((W.alloc x.o).alloc y.o).alloc (twoO x y)) fun e w' => e = .returned (.tuple #[.slice none 0 0, .int .i64 2]) ∧ Below (((W.alloc x.o).alloc y.o).alloc (twoO x y)).heap.size (((W.alloc x.o).alloc y.o).alloc (twoO x y)) w') := by
      refine C.out.mono fun e w' k => ⟨?_, k.2⟩
      rcases k.1 with ⟨g2, cap2, z, c', gs', h1, h2, h3, h4, h5, h6⟩ | ⟨h1, h2⟩
      · exact absurd ⟨h2, by rw [h3]; rfl⟩ hsome
      · exact h1
    obtain ⟨l, pa, m, pcap⟩ := x
    obtain ⟨l', pa', m', pcap'⟩ := y
    show Calls Tryd.prog 22 #[.slice a n cap, .slice la ln lcap, plV l pa m pcap, plV l' pa' m' pcap', .int .u8 (d : Int)] W _
    clear C hC hP hQ hR1 hR2 hsome
    go_enter Tryd.func22, Tryd.ntmps22
    go_wp2_with (go_at_call 36; refine C2.out.mono ?_; rintro e w1 ⟨rfl, hb1⟩)
    go_ret2
    exact ⟨HPO.out _ rfl, below3 hb1⟩
end Go.Proofs.YtnohcppipkpgmaaDoor
