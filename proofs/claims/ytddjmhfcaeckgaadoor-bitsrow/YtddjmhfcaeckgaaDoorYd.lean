import Derived.Test.YtddjmhfcaeckgaaDoorYg
namespace Go.Proofs.YtddjmhfcaeckgaaDoor
open Go.RowKit Go.Shelf
attribute [local go_sem] Oper.semAt_some
set_option linter.unusedVariables false
set_option linter.unusedSimpArgs false

theorem mine_sepp {w1 w2 : World} {base1 base2 n1 n2 c1 c2 : Nat} {a1 a2 : Option Addr} {z1 z2 : List Int} (h1 : Mine w1 base1 a1 n1 c1 z1) (h2 : Mine w2 base2 a2 n2 c2 z2) (hb : w1.heap.size ≤ base2) : ∀ g, a1 = some ⟨g, 0, none⟩ → ∀ b off, a2 = some ⟨b, off, none⟩ → b ≠ g := by
  intro g e1 b off e2
  rcases h1.form with ⟨h, _⟩ | ⟨g1, h, _, hl⟩ <;> rw [h] at e1 <;> simp at e1
  rcases h2.form with ⟨h, _⟩ | ⟨g2, h, hl2, _⟩ <;> rw [h] at e2 <;> simp at e2
  omega
theorem mine_off {w : World} {base n c p : Nat} {a : Option Addr} {z : List Int} (h : Mine w base a n c z) (hp : p < base) : ∀ g, a = some ⟨g, 0, none⟩ → g ≠ p := by
  intro g e
  rcases h.form with ⟨h, _⟩ | ⟨g1, h, hl, _⟩ <;> rw [h] at e <;> simp at e
  omega
theorem Mine.setBoth {w : World} {base n c p : Nat} {a : Option Addr} {z : List Int} (h : Mine w base a n c z) (hp : p < base) (u v : Value) : Mine ((w.setCell ⟨p, 0, none⟩ u).setCell ⟨p, 1, none⟩ v) base a n c z :=
  (h.setOther (p := ⟨p, 0, none⟩) (mine_off h hp) u).setOther (p := ⟨p, 1, none⟩) (mine_off h hp) v
theorem eql_func (gf : Nat) (lb : Array Value) (w : World) : (binOp .eql 39 (.func (.func gf) #[] lb) .nilFunc).run Tryd.prog w = .ok (.bool false) w := by
  kernel_rfl
theorem imine_cells {w : World} {base n cap : Nat} {a : Option Addr} {ks : List Int} (h : IMine w base a n cap ks) : ICells w a ks := by
  have hl := h.1
  simp at hl
  rcases Nat.eq_zero_or_pos n with h0 | h0
  · left; exact List.length_eq_zero_iff.1 (by omega)
  · obtain ⟨m, rfl⟩ : ∃ m, n = m + 1 := ⟨n - 1, by omega⟩
    obtain ⟨g, rfl, hb, hg, hcap, hks, hc⟩ := h.form
    exact .inr ⟨g, 0, rfl, hg, fun i hi => by rw [Nat.zero_add]; exact hc i (by omega)⟩
theorem imine_grown {w w' : World} {base n cap : Nat} {a : Option Addr} {ks : List Int} {r : Option Nat} (h : IMine w base a n cap ks) (hg : w.grownBy w' r) (hr : ∀ k, r = some k → k < base) : IMine w' base a n cap ks := by
  refine ⟨h.1, ?_⟩
  rcases h.2 with h' | ⟨g, cap', cur, h', hb', hg', rr⟩
  · exact .inl h'
  · exact .inr ⟨g, cap', cur, h', hb', (hg.block g (lt_of_block hg') (fun e => by have := hr g e.symm; omega)).trans hg', rr⟩
theorem Tells.below {W W' : World} {gf : Nat} {lb : Array Value} {L : List Nat} (h : Tells W gf lb L) (hb : Below W.heap.size W W') : Tells W' gf lb L := by
  obtain ⟨h1, gE, h2, h3⟩ := h
  exact ⟨h1, gE, Nat.lt_of_lt_of_le h2 hb.size, fun w1 h => h3 w1 (hb.trans (h.mono hb.size))⟩
theorem list_any (x : Int) (a : Option Addr) (n cap : Nat) (zs : List Int) (w : World) (hz : zs.length = n) (hw : Words zs) (hc : Cells w a zs) (hy : mayB x zs = true) :
    Calls Tryd.prog 19 #[.agg #[.int .i64 x, .slice a n cap]] w fun e w' => ∃ aa cc, e = .returned (.slice aa (told x n zs).length cc) ∧ IMine w' w.heap.size aa (told x n zs).length cc ((told x n zs).map (fun (j : Nat) => (j : Int))) ∧ Below w.heap.size w w' := by
  obtain ⟨q1, q2, q3⟩ := mayB_width hy
  obtain ⟨xn, rfl⟩ := Int.eq_ofNat_of_zero_le q1
  have e : ls zs xn = (told (xn : Int) n zs).map (fun (j : Nat) => (j : Int)) := by rw [ls_all hz hy hw]; simp [told, hy]
  have H := refList_yes xn a n cap zs w hz hw hc hy
  rw [e, List.length_map] at H
  exact H
set_option maxRecDepth 100000 in
set_option maxHeartbeats 4000000 in
theorem row_short (x y k few : Int) (a : Option Addr) (n cap : Nat) (zs : List Int) (w : World) (hz : zs.length = n) (hn : n ≤ 4096) (hw : Words zs) (hnil : a = none → cap = 0) (hc : Cells w a zs) (hT : Tab w) :
    Calls Tryd.prog 3 #[.agg #[.int .i64 x, .slice a n cap], .int .i64 y, .int .i64 k, .int .i64 few] w fun e w' => e = .returned (.bool true) ∧ Below w.heap.size w w' := by
  have hlong : ¬ (4096 : Int) < (n : Int) := by omega
  have hmax : n ≤ maxLen := by unfold maxLen; omega
  obtain ⟨vv, nn, er, hnn, hN12, hN13⟩ := new_any y
  obtain ⟨vx, nx, zx, e2, hx17, hxn, hyes, hno, hO⟩ := own_any x n zs hz hmax
  obtain ⟨mb, hmb⟩ : ∃ mb, mb = mayB x zs := ⟨_, rfl⟩
  rw [← hmb] at hyes hno
  obtain ⟨gv, hgv⟩ : ∃ gv, gv = gt x k zs := ⟨_, rfl⟩
  obtain ⟨L, hL⟩ : ∃ L, L = told x n zs := ⟨_, rfl⟩
  have hLl : L.length ≤ 1088 := by rw [hL]; exact told_len x n zs hz
  have HLn : Hid (mb = false → L = []) := fun h => by rw [hL, hmb.symm.trans h |> fun e => show told x n zs = [] by simp [told, e]]
  have HLi : Hid (mb = true → ∀ W, Cells W a zs → Calls Tryd.prog 19 #[.agg #[.int .i64 x, .slice a n cap]] W fun e w' => ∃ aa cc, e = .returned (.slice aa L.length cc) ∧ IMine w' W.heap.size aa L.length cc (L.map (fun (j : Nat) => (j : Int))) ∧ Below W.heap.size W w') := fun h W h1 => by rw [hL]; exact list_any x a n cap zs W hz hw h1 (hmb.symm.trans h)
  have HEa : Hid (∀ W a cap, Tab W → Cells W a zs → Calls Tryd.prog 20 #[.agg #[.int .i64 x, .slice a n cap]] W fun e w' => ∃ gf lb, e = .returned (.func (.func gf) #[] lb) ∧ Tells w' gf lb L ∧ Below W.heap.size W w') := fun W a cap h1 h2 => by rw [hL]; exact each_any x a n cap zs W hz hmax hw h2 h1
  have HCo : Hid (∀ W a cap, Cells W a zs → Calls Tryd.prog 21 #[.agg #[.int .i64 x, .slice a n cap]] W fun e w' => e = .returned (.int .i64 ((L.length : Nat) : Int)) ∧ Below W.heap.size W w') := fun W a cap h2 => by rw [hL]; exact count_any x a n cap zs W hz hmax hw h2
  have HN2 : Hid (∀ W, Calls Tryd.prog 12 #[.int .i64 y] W fun e w' => ∃ aa cc, e = .returned (.tuple #[.agg #[.int .i64 vv, .slice aa nn cc], .int .i64 er]) ∧ Mine w' W.heap.size aa nn cc (List.replicate nn 0) ∧ Below W.heap.size W w') := hN12
  have HN3 : Hid (∀ W, Calls Tryd.prog 13 #[.int .i64 y] W fun e w' => ∃ aa cc, e = .returned (.tuple #[.agg #[.int .i64 vv, .slice aa nn cc], .int .i64 er]) ∧ Mine w' W.heap.size aa nn cc (List.replicate nn 0) ∧ Below W.heap.size W w') := hN13
  have HOw : Hid (∀ W a cap, Cells W a zs → Calls Tryd.prog 16 #[.agg #[.int .i64 x, .slice a n cap]] W fun e w' => ∃ aa cc, e = .returned (.tuple #[.agg #[.int .i64 vx, .slice aa nx cc], .int .i64 e2]) ∧ Mine w' W.heap.size aa nx cc zx ∧ Below W.heap.size W w') := hO
  have HMa : Hid (∀ W a cap, Cells W a zs → Calls Tryd.prog 9 #[.agg #[.int .i64 x, .slice a n cap]] W fun e w' => e = .returned (.bool mb) ∧ Below W.heap.size W w') := fun W a cap h => by rw [hmb]; exact mayb_any x a n cap zs W hz hmax h
  have HRM : Hid (∀ W a cap, Cells W a zs → Calls Tryd.prog 15 #[.agg #[.int .i64 x, .slice a n cap]] W fun e w' => e = .returned (.bool mb) ∧ Below W.heap.size W w') := fun W a cap h => by rw [hmb]; exact refMay_any x a n cap zs W hz hmax hw h
  have HGe : Hid (∀ W a cap, Cells W a zs → Calls Tryd.prog 17 #[.agg #[.int .i64 x, .slice a n cap], .int .i64 k] W fun e w' => e = .returned (.bool gv) ∧ Below W.heap.size W w') := fun W a cap h => by rw [hgv]; exact get_any x k a n cap zs W hz hmax h
  have HRG : Hid (∀ W a cap, Cells W a zs → Calls Tryd.prog 18 #[.agg #[.int .i64 x, .slice a n cap], .int .i64 k] W fun e w' => e = .returned (.bool gv) ∧ Below W.heap.size W w') := fun W a cap h => by rw [hgv]; exact refGet_any x k a n cap zs W hz hmax hw h
  have HLe : Hid (∀ W, Cells W a zs → Calls Tryd.prog 11 #[.agg #[.int .i64 x, .slice a n cap]] W fun e w' => ∃ g cap', e = .returned (.agg #[.int .i64 x, .slice (some ⟨g, 0, none⟩) n cap']) ∧ Mine w' W.heap.size (some ⟨g, 0, none⟩) (n + 1) cap' (zs ++ [77]) ∧ Below W.heap.size W w') := fun W h => lent_any x a n cap zs W hz (by omega) hnil h
  have HC : Hid (∀ W, Below w.heap.size w W → Cells W a zs) := fun W h => hc.below h
  obtain ⟨W0, hW0⟩ : ∃ W0, W0 = ((w.alloc (Two (.int .i64 x) (.slice a n cap))).alloc (One (.int .i64 few) 3)).alloc (One (.bool false) 4) := ⟨_, rfl⟩
  have A4 : At W0 w.heap.size (Two (.int .i64 x) (.slice a n cap)) := by rw [hW0]; exact ((At.new w _).alloc _).alloc _
  have A7 : At W0 (w.heap.size + 1) (One (.int .i64 few) 3) := by rw [hW0]; exact (at_snd w _ _).alloc _
  have A8 : At W0 (w.heap.size + 1 + 1) (One (.bool false) 4) := by
    rw [hW0]
    have := at_snd (w.alloc (Two (.int .i64 x) (.slice a n cap))) (One (.int .i64 few) 3) (One (.bool false) 4)
    rwa [World.size_alloc] at this
  have BW : Below w.heap.size w W0 := by rw [hW0]; exact (((Below.refl _ _).alloc (Nat.le_refl _) _).alloc (by simp) _).alloc (by simp; omega) _
  have HW0 : Hid (((w.alloc (.cells #[.int .i64 x, .slice a n cap] 24)).alloc (.cells #[.int .i64 few] 3)).alloc (.cells #[.bool false] 4) = W0) := hW0.symm
  have hclt := hc.lt
  clear hW0 hc hmb hgv hL hN12 hN13 hO
  refine (callsIn_wide (n := 4)).1 ?_
  refine callsIn_of_wp_marks Tryd.func3 rfl trivial ?_ rfl
  simp only [Tryd.ntmps3, List.size_toArray, List.length_cons, List.length_nil, Nat.reduceAdd, Nat.reduceSub, Array.replicate_succ, Array.replicate_zero, List.push_toArray, List.append_toArray, List.nil_append, List.cons_append]
  gi_wp2_with (first
    | (refine ⟨trivial, ?_⟩; gi_at_call 11; rw [HW0.out]; refine (callsIn_wide.2 (HLe.out _ (HC.out _ BW))).mono ?_; rintro e v1 ⟨g, cg, rfl, mG, hb1⟩; obtain ⟨vb, hvb⟩ : ∃ vb, vb = v1.alloc (Two (.int .i64 x) (.slice (some ⟨g, 0, none⟩) n cg)) := ⟨_, rfl⟩; have HV : Hid (v1.alloc (.cells #[.int .i64 x, .slice (some ⟨g, 0, none⟩) n cg] 24) = vb) := hvb.symm; have hb1' : Below W0.heap.size W0 vb := (by rw [hvb]; exact belA2 hb1); replace A4 := A4.below hb1'; replace A7 := A7.below hb1'; replace A8 := A8.below hb1'; have A9 : At vb v1.heap.size (Two (.int .i64 x) (.slice (some ⟨g, 0, none⟩) n cg)) := (by rw [hvb]; exact At.new v1 _); have MG : Mine vb W0.heap.size (some ⟨g, 0, none⟩) (n + 1) cg (zs ++ [77]) := (by rw [hvb]; exact mG.belowAll ((Below.refl _ _).alloc (Nat.le_refl _) _)); replace BW := BW.trans (hb1'.mono BW.size); clear hvb)
    | (refine ⟨trivial, ?_⟩; gi_at_call 12; have _hh := T10; refine (callsIn_wide.2 (HN2.out _)).mono ?_; rintro e v3 ⟨a3, c3, rfl, m3, hb3⟩; replace T10 := (T10.below hb3).alloc (Two (.int .i64 vv) (.slice a3 nn c3)); have T12 := At.new v3 (Two (.int .i64 vv) (.slice a3 nn c3)); replace M2 := M2.belowAll (belA2 (o := Two (.int .i64 vv) (.slice a3 nn c3)) hb3); have M3 := m3.belowAll ((Below.refl _ _).alloc (Nat.le_refl _) (Two (.int .i64 vv) (.slice a3 nn c3))); have B3 := B2.trans ((belA2 (o := Two (.int .i64 vv) (.slice a3 nn c3)) hb3).mono B2.size))
    | (refine ⟨trivial, ?_⟩; gi_at_call 12; rw [HV.out]; refine (callsIn_wide.2 (HN2.out _)).mono ?_; rintro e v2 ⟨a2, c2, rfl, m2, hb2⟩; have T10 := At.new v2 (Two (.int .i64 vv) (.slice a2 nn c2)); have M2 := m2.belowAll ((Below.refl _ _).alloc (Nat.le_refl _) (Two (.int .i64 vv) (.slice a2 nn c2))); have B2 : Below vb.heap.size vb (v2.alloc (Two (.int .i64 vv) (.slice a2 nn c2))) := belA2 hb2)
    | (refine ⟨trivial, ?_⟩; gi_at_call 13; refine (callsIn_wide.2 (HN3.out _)).mono ?_; rintro e v4 ⟨a4, c4, rfl, m4, hb4⟩; replace T10 := (T10.below hb4).alloc (Two (.int .i64 vv) (.slice a4 nn c4)); replace T12 := (T12.below hb4).alloc (Two (.int .i64 vv) (.slice a4 nn c4)); have T14 := At.new v4 (Two (.int .i64 vv) (.slice a4 nn c4)); replace M2 := M2.belowAll (belA2 (o := Two (.int .i64 vv) (.slice a4 nn c4)) hb4); replace M3 := M3.belowAll (belA2 (o := Two (.int .i64 vv) (.slice a4 nn c4)) hb4); have M4 := m4.belowAll ((Below.refl _ _).alloc (Nat.le_refl _) (Two (.int .i64 vv) (.slice a4 nn c4))); have B4 := B3.trans ((belA2 (o := Two (.int .i64 vv) (.slice a4 nn c4)) hb4).mono B3.size); obtain ⟨t0, t1, t2⟩ := T10.all; obtain ⟨s0, s1, s2⟩ := T12.all; obtain ⟨r0, r1, r2⟩ := T14.all)
    | (refine ⟨trivial, ?_⟩; gi_at_call 14; refine (callsIn_wide.2 (held_any vv a2 a3 a4 nn c2 c3 c4 _ (List.replicate nn 0) _ (by omega) M2 M3.cells M4.cells (fun _ => mine_sepp m2 m3 (by simp)) (fun _ => mine_sepp m2 m4 (by have := hb3.size; simp at this ⊢; omega)))).mono ?_; rintro e v5 ⟨rfl, hg5⟩; have B5 : Below vb.heap.size vb v5 := B4.grown hg5 B4.size (mine_blk M2); have hl2 : v2.heap.size < v3.heap.size := (by have := hb3.size; simp at this; omega); replace T10 := T10.grown hg5 (mine_ne M2 T10); replace T12 := T12.grown hg5 (mine_ne M2 T12); have hv2 := hb2.size; clear t0 t1 t2 s0 s1 s2 r0 r1 r2 T14 M2 M3 M4 B2 B3 B4 m2 m3 m4 hb2 hb3 hb4 hg5; obtain ⟨u0, u1, u2⟩ := (A4.below B5).all)
    | (refine ⟨trivial, ?_⟩; gi_at_call 15; refine (callsIn_wide.2 (HRM.out v5 a cap (HC.out _ (BW.trans (B5.mono BW.size))))).mono ?_; rintro e v6 ⟨rfl, hb6⟩; have B6 := B5.trans (hb6.mono B5.size); replace T10 := T10.below hb6; replace T12 := T12.below hb6; have hvb6 := B6.size; have hw6 : w.heap.size ≤ v6.heap.size := Nat.le_trans BW.size B6.size; have HG : Hid (∀ W, Below vb.heap.size vb W → Cells W (some ⟨g, 0, none⟩) zs) := (fun W h => (MG.take.cells).below h); clear u0 u1 u2 B5 hb6; obtain ⟨u0, u1, u2⟩ := (A9.below B6).all)
    | (refine ⟨trivial, ?_⟩; gi_at_call 16; have _hh := M7; refine (callsIn_wide.2 (HOw.out _ (some ⟨g, 0, none⟩) cg (HG.out _ B7))).mono ?_; rintro e v8 ⟨a8, c8, rfl, m8, hb8⟩; have hl8 := T12.lt; replace T10 := ((T10.below hb8).set (a := ⟨v3.heap.size, 0, none⟩) (by simp; omega) (.int .i64 vx)).set (a := ⟨v3.heap.size, 1, none⟩) (by simp; omega) (.slice a8 nx c8); clear s0 s1 s2; obtain ⟨s0, s1, s2⟩ := (T12.below hb8).all; replace T12 := (T12.below hb8).setTwo (.int .i64 vx) (.slice a8 nx c8); replace M7 := (M7.belowAll hb8).setBoth hl7' (.int .i64 vx) (.slice a8 nx c8); have M8 := m8.setBoth hl8 (.int .i64 vx) (.slice a8 nx c8); have sp := mine_sepp m7 m8 (by simp); have B8 := below_setTwo (b := v3.heap.size) (B7.trans (hb8.mono B7.size)) (by omega) (.int .i64 vx) (.slice a8 nx c8); clear u0 u1 u2 B7 hb8 m8)
    | (refine ⟨trivial, ?_⟩; gi_at_call 16; refine (callsIn_wide.2 (HOw.out _ (some ⟨g, 0, none⟩) cg (HG.out _ B6))).mono ?_; rintro e v7 ⟨a7, c7, rfl, m7, hb7⟩; have hl7 := T10.lt; have hl7' := T12.lt; replace T12 := ((T12.below hb7).set (a := ⟨v2.heap.size, 0, none⟩) (by simp; omega) (.int .i64 vx)).set (a := ⟨v2.heap.size, 1, none⟩) (by simp; omega) (.slice a7 nx c7); obtain ⟨t0, t1, t2⟩ := (T10.below hb7).all; replace T10 := (T10.below hb7).setTwo (.int .i64 vx) (.slice a7 nx c7); have M7 := m7.setBoth hl7 (.int .i64 vx) (.slice a7 nx c7); have B7 := below_setTwo (b := v2.heap.size) (B6.trans (hb7.mono B6.size)) hv2 (.int .i64 vx) (.slice a7 nx c7); clear u0 u1 u2 B6 hb7; obtain ⟨u0, u1, u2⟩ := (A9.below B7).all; obtain ⟨s0, s1, s2⟩ := T12.all))
  clear t0 t1 t2 s0 s1 s2
  generalize hW8 : (v8.setCell ⟨v3.heap.size, 0, none⟩ (.int .i64 vx)).setCell ⟨v3.heap.size, 1, none⟩ (.slice a8 nx c8) = W8 at *
  clear hW8
  gi_cut [93] from 19 (fun v wx => v = .bool false ∧ Below W8.heap.size W8 wx)
  case first =>
    have HS : Hid (∀ W', Below W8.heap.size W8 W' → (W'.cell? ⟨v1.heap.size, 0, none⟩ = some (.int .i64 x) ∧ W'.cell? ⟨v1.heap.size, 1, none⟩ = some (.slice (some ⟨g, 0, none⟩) n cg) ∧ W'.cell? ⟨w.heap.size, 0, none⟩ = some (.int .i64 x) ∧ W'.cell? ⟨w.heap.size, 1, none⟩ = some (.slice a n cap))) := fun W' h => ⟨((A9.below B8).below h).all.1, ((A9.below B8).below h).all.2.1, ((A4.below B8).below h).all.1, ((A4.below B8).below h).all.2.1⟩
    refine wpIn_wide.2 ?_
    go_region_held3 (fun W' => W'.cell? ⟨v1.heap.size, 0, none⟩ = some (.int .i64 x) ∧ W'.cell? ⟨v1.heap.size, 1, none⟩ = some (.slice (some ⟨g, 0, none⟩) n cg) ∧ W'.cell? ⟨w.heap.size, 0, none⟩ = some (.int .i64 x) ∧ W'.cell? ⟨w.heap.size, 1, none⟩ = some (.slice a n cap))
      (first | (refine HS.out _ ?_; repeat (first | (with_reducible exact hbd) | (with_reducible exact hbc) | (with_reducible exact hbb) | (with_reducible exact Below.refl _ _) | (with_reducible refine belD2 ?_))) | go_keep)
      (first
        | (go_at_call 18; refine (HRG.out w2 a cap (HC.out _ (BW.trans ((B8.trans (hbc.mono B8.size)).mono BW.size)))).mono ?_; rintro e w3 ⟨rfl, hb3⟩; have hbd : Below W8.heap.size W8 w3 := below_aft hbc hb3)
        | (go_at_call 17; refine (HGe.out w1 _ _ (HG.out _ (B8.trans (hbb.mono B8.size)))).mono ?_; rintro e w2 ⟨rfl, hb2⟩; have hbc : Below W8.heap.size W8 w2 := below_aft hbb hb2)
        | (go_at_call 9; refine (HMa.out W8.drew _ _ (HG.out _ B8.drew)).mono ?_; rintro e w1 ⟨rfl, hb1⟩; have hbb : Below W8.heap.size W8 w1 := below_aft (Below.refl _ _).drew hb1))
    all_goals go_wp2_with fail
    all_goals gi_meet
    all_goals exact ⟨by simp, hbd⟩
  case rest =>
  obtain ⟨rfl, hb9⟩ := hcut
  generalize wc = W9 at *
  have B9 := B8.trans (hb9.mono B8.size)
  replace T10 := T10.below hb9
  replace T12 := T12.below hb9
  replace M7 := M7.belowAll hb9
  replace M8 := M8.belowAll hb9
  clear B8 hb9
  gi_upto_if 94 with fail
  gi_cut [] from 19 (fun wx => ∃ la lc, At wx W9.heap.size (One (.slice la L.length lc) 36) ∧ ICells wx la (L.map (fun (j : Nat) => (j : Int))) ∧ Below vb.heap.size vb wx)
  case first =>
    have A17 := At.new W9 (One (.slice none 0 0) 36)
    have B9' := belA2 (o := One (.slice none 0 0) 36) B9
    have T10' := T10.alloc (One (.slice none 0 0) 36)
    have T12' := T12.alloc (One (.slice none 0 0) 36)
    obtain ⟨t0, t1, t2⟩ := T10'.all
    obtain ⟨s0, s1, s2⟩ := T12'.all
    cases mb
    · obtain ⟨q1, q2, q3, q4⟩ := hno rfl
      subst q1 q2 q3 q4
      have hLn := HLn.out rfl
      subst hLn
      gi_wp2_with (refine ⟨trivial, ?_⟩; gi_at_call 14; refine (callsIn_wide.2 (held_nil 0 a7 a8 none c7 c8 0 _)).mono ?_; rintro e v10 ⟨rfl, hb10⟩)
      gi_meet
      exact ⟨none, 0, A17.below hb10, .inl rfl, B9'.trans (hb10.mono B9'.size)⟩
    · obtain ⟨q1, q2, q3, q4⟩ := hyes rfl
      have q1 := q1.symm
      have q2 := q2.symm
      have q3 := q3.symm
      subst q1 q2 q3 q4
      obtain ⟨u0, u1, u2⟩ := (A4.below B9').all
      have hM7 : ∀ kk, blk a7 = some kk → kk < W9.heap.size := by
        intro kk hk
        rcases M7.form with ⟨h, _⟩ | ⟨gg, h, _, hl⟩
        · rw [h] at hk; simp [blk] at hk
        · rw [h] at hk; simp [blk] at hk; omega
      have HLI : Hid (∀ W, Cells W a zs → Calls Tryd.prog 19 #[.agg #[.int .i64 x, .slice a n cap]] W fun e w' => ∃ aa cc, e = .returned (.slice aa L.length cc) ∧ IMine w' W.heap.size aa L.length cc (L.map (fun (j : Nat) => (j : Int))) ∧ Below W.heap.size W w') := HLi.out rfl
      gi_wp2_with (first
        | (refine ⟨trivial, ?_⟩; gi_at_call 19; refine (callsIn_wide.2 (HLI.out _ (HC.out _ (BW.trans (B9'.mono BW.size))))).mono ?_; rintro e v10 ⟨la, lc, rfl, mI, hb10⟩; replace A17 := A17.below hb10; obtain ⟨d0, d1⟩ := A17.one; replace A17 := A17.setOne (.slice la L.length lc); have B10 := (B9'.trans (hb10.mono B9'.size)).setCell (p := ⟨W9.heap.size, 0, none⟩) B9.size (.slice la L.length lc); have G10 := grownBy_setCell' v10 W9.heap.size (.slice la L.length lc); replace mI := imine_grown mI G10 (by intro kk hk; simp at hk; simp; omega); clear t0 t1 t2 s0 s1 s2 u0 u1 u2; have hlt10 := T10.lt; have hlt12 := T12.lt; have T10' := (T10'.below hb10).set (a := ⟨W9.heap.size, 0, none⟩) (by simp; omega) (.slice la L.length lc); have T12' := (T12'.below hb10).set (a := ⟨W9.heap.size, 0, none⟩) (by simp; omega) (.slice la L.length lc); obtain ⟨t0, t1, t2⟩ := T10'.all; obtain ⟨s0, s1, s2⟩ := T12'.all; obtain ⟨u0, u1, u2⟩ := (A4.below B10).all; have hMo : ∀ {aa cc base}, Mine W9 base aa n cc zs → Mine (v10.setCell ⟨W9.heap.size, 0, none⟩ (.slice la L.length lc)) base aa n cc zs := (fun {aa cc base} h => (((h.belowAll ((Below.refl _ _).alloc (Nat.le_refl _) _)).belowAll hb10).setOther (p := ⟨W9.heap.size, 0, none⟩) (by intro gg e; rcases h.form with ⟨h', _⟩ | ⟨g1, h', _, hl⟩ <;> rw [h'] at e <;> simp at e; simp; omega) _))))
      refine ⟨trivial, ?_⟩
      have h1 := hMo M7
      have h2 := hMo M8
      have h3 := HC.out _ (BW.trans (B10.mono BW.size))
      have h4 := held_any x a7 a8 a n c7 c8 cap _ zs _ (by omega) h1 h2.cells h3 (fun _ => sp) (fun h0 gg e1 b off e2 => by
        have h1 := hclt b off e2 (by intro e; rw [e] at hz; simp at hz; omega)
        have h2 := mine_blk M7 gg (by rw [e1]; rfl)
        omega)
      refine (callsIn_wide.2 h4).mono ?_
      rintro e v11 ⟨rfl, hg11⟩
      gi_wp2
      gi_meet
      refine ⟨la, lc, A17.grown hg11 (fun e => by have := hM7 _ e.symm; omega), imine_cells (imine_grown mI hg11 (fun kk hk => by have := hM7 kk hk; simp; omega)), B10.grown hg11 B10.size (fun kk hk => ?_)⟩
      have := mine_blk M7 kk hk
      omega
  case rest =>
  obtain ⟨la, lc, A17, hIC, B10⟩ := hcut
  generalize wc = W10 at *
  clear T10 T12 M7 M8 hyes hno
  obtain ⟨u0', u1', u2'⟩ := (A9.below B10).all
  have hTab : Tab W10 := hT.below (BW.trans (B10.mono BW.size)) hT.1
  gi_wp2_with (refine ⟨trivial, ?_⟩; gi_at_call 20; refine (callsIn_wide.2 (HEa.out _ (some ⟨g, 0, none⟩) cg hTab (HG.out _ B10))).mono ?_; rintro e v12 ⟨gf, lb, rfl, hTe, hb12⟩)
  clear u0' u1' u2'
  have B12 := B10.trans (hb12.mono B10.size)
  replace A17 := A17.below hb12
  replace hIC := hIC.below hb12
  clear B10 hb12 hTab
  gi_cut [125] from 19 (fun v wx => v = .bool false ∧ Below v12.heap.size v12 wx)
  case first =>
    have HS : Hid (∀ W', Below v12.heap.size v12 W' → (W'.cell? ⟨v1.heap.size, 0, none⟩ = some (.int .i64 x) ∧ W'.cell? ⟨v1.heap.size, 1, none⟩ = some (.slice (some ⟨g, 0, none⟩) n cg) ∧ W'.cell? ⟨W9.heap.size, 0, none⟩ = some (.slice la L.length lc))) := fun W' h => ⟨((A9.below B12).below h).all.1, ((A9.below B12).below h).all.2.1, (A17.below h).one.1⟩
    have hef := eql_func gf lb
    refine wpIn_wide.2 ?_
    go_region_held3 (fun W' => W'.cell? ⟨v1.heap.size, 0, none⟩ = some (.int .i64 x) ∧ W'.cell? ⟨v1.heap.size, 1, none⟩ = some (.slice (some ⟨g, 0, none⟩) n cg) ∧ W'.cell? ⟨W9.heap.size, 0, none⟩ = some (.slice la L.length lc))
      (first | (refine HS.out _ ?_; repeat (first | (with_reducible exact hbb) | (with_reducible exact Below.refl _ _) | (with_reducible refine belD2 ?_))) | go_keep)
      (first
        | (go_at_call 21; refine (HCo.out v12.drew _ _ (HG.out _ B12.drew)).mono ?_; rintro e w1 ⟨rfl, hb1⟩; have hbb : Below v12.heap.size v12 w1 := below_aft (Below.refl _ _).drew hb1))
    all_goals go_wp2_with fail
    all_goals gi_meet
    all_goals exact ⟨by simp, hbb⟩
  case rest =>
  obtain ⟨rfl, hb13⟩ := hcut
  generalize wc = W13 at *
  have B13 := B12.trans (hb13.mono B12.size)
  replace A17 := A17.below hb13
  replace hIC := hIC.below hb13
  replace hTe := hTe.below hb13
  clear B12 hb13
  gi_upto_region 25 with fail
  refine row_loop few (w.heap.size + 1) (w.heap.size + 1 + 1) W9.heap.size gf lb L la lc W13 (A7.below B13) (A8.below B13) A17 hIC hTe hLl (Nat.lt_of_lt_of_le hT.1 (Nat.le_trans BW.size B13.size)) _ _ _ _ _ _ _ _ _ _ _ _ _ _ _ _ _ _ _ _ _ _ _ _ _ _ _ _ _ _ _ _ _ _ _ _ _ _ _ _ _ _ _ _ _ _ _ _ _ _ _ _ _ _ _ _ _ _ _ _ _ _ _ _ _ _ _ _ _ _ _ _ _ _ _ _ _ _ _ _ _ _ _ _ _ _ _ _ _ _ _ _ _ _ _ _ _ _ _ _ _ _ _ _ _ _ _ _ _ _ _ _ _ _ _ _ _ _ _ _ _ _ _ _ _ _ _ _ _ _ _ _ _ _ _ _ _ _ _ _ _ _ _ _ _ _ _ _ _ _ _ _ _ _ _ _ _ _ _ _ _ _ _ _ _ _ _ _ _ ?_
  clear A17 hIC hTe
  intro D1 D2 b19 u20 u21 u126 u127 u128 u129 u130 u131 u132 u133 u134 u135 u136 u137 u138 u139 u140 u141 u142 u143 u144 u145 u146 u147 u148 u149 u150 u151 u152 u153 u154 u155 u156 u157 u158 u159 u160 u161 u162 u163 u164 u165 u166 V hBV hKV hD1 hD2 hDne
  have BV := B13.trans (hBV.mono B13.size)
  have hs13 := Nat.le_trans BW.size B13.size
  obtain ⟨z0, z1, z2⟩ := (A9.below BV).all
  obtain ⟨e0, e1, e2'⟩ := (A4.below BV).all
  have hBwV := BW.trans (BV.mono BW.size)
  clear hBV B13
  gi_wp2_with (first
    | (refine ⟨trivial, ?_⟩; gi_at_call 22; refine (callsIn_wide.2 (kept_true x g n cg _ a cap zs V (by omega) (MG.belowAll BV) (HC.out _ hBwV))).mono ?_; rintro e y1 ⟨rfl, hy1⟩)
    | (refine ⟨trivial, ?_⟩; gi_at_call 10; refine (callsIn_wide.2 (awake_true _)).mono ?_; rintro e y2 ⟨rfl, hy2⟩; have A8z := ((A8.below BV).below hy1).below hy2; obtain ⟨c8, f8⟩ := A8z.one))
  have M1 := below_aft hy1 hy2
  have M2 := (keeps_below M1).trans (KeepsOthers.setCell y2 ⟨w.heap.size + 1 + 1, 0, none⟩ (.bool true))
  have hK2 := M2.same D2 _ (hKV D2 (by simp)) rfl
  have hK1 := M2.same D1 _ (hKV D1 (by simp)) rfl
  have M3 := (hBwV.trans (M1.mono hBwV.size)).setCell (p := ⟨w.heap.size + 1 + 1, 0, none⟩) (by simp; omega) (.bool true)
  have hcr := World.cell?_setCell_same' y2 ⟨w.heap.size + 1 + 1, 0, none⟩ (.bool true) (by rw [c8]; rfl)
  generalize hWr : y2.setCell ⟨w.heap.size + 1 + 1, 0, none⟩ (.bool true) = Wr at *
  refine ⟨by simp, .inl ⟨_, _, rfl, run_takeDeferred hK2, ?_⟩⟩
  have hcr2 := cell_kept hcr (grownBy_putObj' _ D2 (.deferred none)) (fun r e => by cases e; exact ⟨_, hK2, rfl⟩)
  have M4 := M3.trans (belowK_b (w := w) (Nat.le_refl _) _ D2 _ (.deferred none) (Nat.le_trans hs13 hD2) hK2 rfl rfl)
  have hK1' : (Wr.putObj D2 (.deferred none)).heap[D1]? = some (.deferred (some [])) := (World.putObj_heap_other hDne.symm).trans hK1
  refine ⟨by simp, .inl ⟨_, _, rfl, run_takeDeferred hK1', ?_⟩⟩
  have hcr3 := cell_kept hcr2 (grownBy_putObj' _ D1 (.deferred none)) (fun r e => by cases e; exact ⟨_, hK1', rfl⟩)
  have M5 := M4.trans (belowK_b (w := w) (Nat.le_refl _) _ D1 _ (.deferred none) (Nat.le_trans hs13 hD1) hK1' rfl rfl)
  refine ⟨.bool true, ?_, rfl, M5⟩
  simp [results, Tryd.results3, go_sem, hcr3]
end Go.Proofs.YtddjmhfcaeckgaaDoor
