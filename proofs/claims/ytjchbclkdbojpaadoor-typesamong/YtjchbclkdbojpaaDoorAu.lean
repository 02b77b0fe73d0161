import Derived.Test.YtjchbclkdbojpaaDoorAs
import Derived.Test.YtjchbclkdbojpaaDoorAr
namespace Go.Proofs.YtjchbclkdbojpaaDoor
open Go.RowKit
set_option linter.unusedVariables false
set_option linter.unusedSimpArgs false

theorem Tryd.results35 : Tryd.f35.results = #[.cell 4 26, .tmp 5, .tmp 6] := rfl
theorem Tryd.results37 : Tryd.f37.results = #[.cell 4 26, .tmp 5] := rfl
theorem irow_at {W : World} {B cap n : Nat} {a : Option Addr} {ys : List Value} (h : W.ownsRow B 3 1 (.slice a n cap) n ys) (hn : 0 < n) : ∃ g, a = some ⟨g, 0, none⟩ ∧ B ≤ g ∧ g < W.heap.size ∧ (∀ t, t < n → W.cell? ⟨g, t, none⟩ = ys[t]?) ∧ ∀ t, W.frozen? ⟨g, t, none⟩ = false := by
  obtain ⟨g, cap', e⟩ := own_is h hn
  injection e with e1 _ e3
  subst e1
  exact ⟨g, rfl, (h.lt g rfl).1, (h.lt g rfl).2, fun t ht => h.cellAt t (by omega), fun t => h.frozenAt t⟩
theorem own_intR {W : World} {B n cap : Nat} {a : Option Addr} {L : List Int} (h : W.ownsRow B 3 1 (.slice a n cap) n (iCells L)) (hr : ∀ x ∈ L, -9223372036854775808 ≤ x ∧ x ≤ 9223372036854775807) : IntR W a n cap L := by
  have hl : n = L.length := by have := h.1; simp [iCells] at this; omega
  refine ⟨hl, ?_, ?_, fun hne => ?_, hr, fun e => ?_⟩
  · rcases h.2 with ⟨e, h0⟩ | ⟨g, cap', cur, e, _, _, h1, h2, _⟩
    · omega
    · injection e with _ _ e3; omega
  · rcases h.2 with ⟨e, h0⟩ | ⟨g, cap', cur, e, _, _, h1, h2, _⟩
    · injection e with _ _ e3; subst e3; simp
    · injection e with _ _ e3; subst e3; exact h2
  · have hp : 0 < n := by
      rcases Nat.eq_zero_or_pos n with h0 | h0
      · exact absurd (List.length_eq_zero_iff.1 (by omega)) hne
      · exact h0
    obtain ⟨g, rfl, _, hg, hc, _⟩ := irow_at h hp
    refine ⟨g, 0, rfl, hg, fun i x hx => ?_⟩
    have hi := (List.getElem?_eq_some_iff.1 hx).1
    rw [Nat.zero_add, hc i (by omega)]
    simp [iCells, hx]
  · subst e
    rcases h.2 with ⟨e, h0⟩ | ⟨g, cap', cur, e, _⟩
    · injection e
    · injection e with e1; cases e1
set_option maxRecDepth 100000 in
set_option maxHeartbeats 1000000 in
theorem rNumber_no (t : Ty) (f : Fv) (fr : Int) (w : World) (h : TyAt w f t) (b : Bool) (hb : isT t = b) (hn : b = false ∨ fr < 0 ∨ 512 < fr) : Calls Tryd.prog 35 #[f.v, .int .i64 fr] w fun e w' => ∃ f' : Fv, e = .returned (.tuple #[f'.v, .int .i64 0, .int .i64 2]) ∧ New w w' f' (.leaf 0 0) := by
  have CI : Hid (Calls Tryd.prog 27 #[f.v] ((w.alloc f.o).alloc zT.o) fun e w' => e = .returned (.bool b) ∧ Below ((w.alloc f.o).alloc zT.o).heap.size ((w.alloc f.o).alloc zT.o) w') := by
    have := is_any t f _ (h.bel (belB w f zT))
    rw [hb] at this
    exact this
  have A4 : Hid (At ((w.alloc f.o).alloc zT.o) (w.heap.size + 1) zT.o) := at_snd _ _ _
  obtain ⟨k, m, r, s, a, n, cap⟩ := f
  show Calls Tryd.prog 35 #[tyV k m r s a n cap, .int .i64 fr] w _
  clear h hb
  cases b with
  | false =>
    clear hn
    go_enter Tryd.func35, Tryd.ntmps35
    go_wp2_with (go_at_call 27; refine CI.out.mono ?_; rintro e w1 ⟨rfl, hb1⟩; have B4 := (A4.out.below hb1); have g0 := B4.tyF 0; have g1 := B4.tyF 1; have g2 := B4.tyF 2; have g3 := B4.tyF 3; have g4 := B4.tyF 4; obtain ⟨hl4, q0, q1, q2, q3, q4⟩ := B4.ty; simp only [Nat.zero_add] at q0 q1 q2 q3 q4)
    obtain ⟨F1, F2⟩ := new_zero (below2 hb1) (b := w.heap.size + 1) (by omega) B4
    exact bodyPost_ret (results_c3 (g := zT) Tryd.results35 rfl rfl rfl F1) rfl ⟨zT, rfl, F2⟩
  | true =>
    by_cases h0 : fr < 0
    · clear hn
      go_enter Tryd.func35, Tryd.ntmps35
      go_wp2_with (go_at_call 27; refine CI.out.mono ?_; rintro e w1 ⟨rfl, hb1⟩; have B4 := (A4.out.below hb1); have g0 := B4.tyF 0; have g1 := B4.tyF 1; have g2 := B4.tyF 2; have g3 := B4.tyF 3; have g4 := B4.tyF 4; obtain ⟨hl4, q0, q1, q2, q3, q4⟩ := B4.ty; simp only [Nat.zero_add] at q0 q1 q2 q3 q4)
      obtain ⟨F1, F2⟩ := new_zero (below2 hb1) (b := w.heap.size + 1) (by omega) B4
      exact bodyPost_ret (results_c3 (g := zT) Tryd.results35 rfl rfl rfl F1) rfl ⟨zT, rfl, F2⟩
    · have h1 : 512 < fr := by simp at hn; omega
      clear hn
      go_enter Tryd.func35, Tryd.ntmps35
      go_wp2_with (go_at_call 27; refine CI.out.mono ?_; rintro e w1 ⟨rfl, hb1⟩; have B4 := (A4.out.below hb1); have g0 := B4.tyF 0; have g1 := B4.tyF 1; have g2 := B4.tyF 2; have g3 := B4.tyF 3; have g4 := B4.tyF 4; obtain ⟨hl4, q0, q1, q2, q3, q4⟩ := B4.ty; simp only [Nat.zero_add] at q0 q1 q2 q3 q4)
      obtain ⟨F1, F2⟩ := new_zero (below2 hb1) (b := w.heap.size + 1) (by omega) B4
      exact bodyPost_ret (results_c3 (g := zT) Tryd.results35 rfl rfl rfl F1) rfl ⟨zT, rfl, F2⟩
set_option maxRecDepth 100000 in
set_option maxHeartbeats 4000000 in
theorem rNumber_yes (c : Ch) (f : Fv) (fr : Int) (w : World) (hc : Ok c) (h : TyAt w f c.ty) (h0 : 0 ≤ fr) (h1 : fr ≤ 512) : Calls Tryd.prog 35 #[f.v, .int .i64 fr] w fun e w' => ∃ f' : Fv, e = .returned (.tuple #[f'.v, .int .i64 (fr + c.regs.length), .int .i64 0]) ∧ New w w' f' (layC c (numL fr c.regs.length)) := by
  have CI : Hid (Calls Tryd.prog 27 #[f.v] ((w.alloc f.o).alloc zT.o) fun e w' => e = .returned (.bool true) ∧ Below ((w.alloc f.o).alloc zT.o).heap.size ((w.alloc f.o).alloc zT.o) w') := by
    have := is_any c.ty f _ (h.bel (belB w f zT))
    rw [hc.is] at this
    exact this
  obtain ⟨n, hn⟩ : ∃ n, n = c.regs.length := ⟨_, rfl⟩
  have hn60 : n ≤ 60 := by have := hc.deep; have := regs_le c; omega
  rw [← hn]
  have CR : Hid (∀ V, Below w.heap.size w V → Calls Tryd.prog 33 #[f.v] V fun e w' => (∃ v, e = .returned v ∧ w'.ownsRow V.heap.size 3 1 v n (iCells c.regs)) ∧ Below V.heap.size V w') := fun V hV => by rw [hn]; exact rRegions_yes c f V hc (h.bel hV)
  have CL : Hid (∀ V a cap, Below w.heap.size w V → IntR V a n cap (numL fr n) → Calls Tryd.prog 69 #[f.v, .slice a n cap] V fun e w' => ∃ f' : Fv, e = .returned f'.v ∧ New V w' f' (layC c (numL fr n))) := fun V a cap hV hr => laid_any c f a n cap (numL fr n) V hc.ok (h.bel hV) hr (by rw [numL_len]; omega)
  have A2 : Hid (At ((w.alloc f.o).alloc zT.o) w.heap.size f.o) := (At.new _ _).alloc _
  have A4 : Hid (At ((w.alloc f.o).alloc zT.o) (w.heap.size + 1) zT.o) := at_snd _ _ _
  have z0 : ¬ fr < 0 := by omega
  have z1 : ¬ 512 < fr := by omega
  obtain ⟨k, m, r, s, a', n', cap'⟩ := f
  show Calls Tryd.prog 35 #[tyV k m r s a' n' cap', .int .i64 fr] w _
  clear h hc hn
  go_enter Tryd.func35, Tryd.ntmps35
  go_wp2_with (first
    | (go_at_call 27; refine CI.out.mono ?_; rintro e w1 ⟨rfl, hb1⟩; have B2 := A2.out.below hb1; obtain ⟨hl2, p0, p1, p2, p3, p4⟩ := B2.ty)
    | (go_at_call 33; refine (CR.out _ (below2 hb1)).mono ?_; rintro e w2 ⟨⟨v, rfl, ho2⟩, hb2⟩; obtain ⟨a, cap, rfl⟩ := own_sl ho2; clear p0 p1 p2 p3 p4))
  have HO := hid2 ho2
  have HA2 := hid2 (B2.below hb2)
  have HA4 := hid2 ((A4.out.below hb1).below hb2)
  have HB2 := hid2 (below_aft (below2 hb1) hb2)
  obtain ⟨B, hB⟩ : ∃ B, B = w1.heap.size := ⟨_, rfl⟩
  have hBw : w.heap.size + 2 ≤ B := by have := hb1.size; simp only [World.size_alloc] at this; omega
  have hBw2 : B ≤ w2.heap.size := by have := hb2.size; omega
  rw [← hB] at HO
  clear ho2 hb2 hb1 CI CR A2 A4 B2 hl2 hB
  go_loopw [8] (fun i W => ∃ j : Nat, j ≤ n ∧ i = .int .i64 j ∧ (∃ ys, W.ownsRow B 3 1 (.slice a n cap) n ys ∧ ∀ t, t < j → ys[t]? = some (.int .i64 (fr + t))) ∧ Below B w2 W) (fun i _ => n - (intOf i).toNat)
  case atStart => exact ⟨0, Nat.zero_le _, rfl, ⟨_, HO.out, fun t ht => by omega⟩, Below.refl _ _⟩
  case round =>
    obtain ⟨j, hj, rfl, ⟨ys, hys, hyt⟩, hbW⟩ := hrel
    have HY := hid2 hys
    have HYT := hid2 hyt
    have HBW := hid2 hbW
    clear hys hyt hbW HO
    by_cases hlt : j < n
    · obtain ⟨g, rfl, hBg, hg, hcell, hfz⟩ := irow_at HY.out (by omega)
      have hl : ys.length = n := by have := HY.out.1; omega
      obtain ⟨y, hy⟩ : ∃ y, ys[j]? = some y := ⟨_, List.getElem?_eq_getElem (by omega)⟩
      have hcx := (hcell j hlt).trans hy
      have hfx := hfz j
      have k0 : (0 : Int) ≤ (j : Int) := by omega
      have k1 : (j : Int) < (n : Int) := by omega
      have k2 : (j : Int) ≤ 1000 := by omega
      have s1 := HY.out.stored j (.int .i64 (fr + j))
      have HS1 := hid2 s1.1
      have HYY := hid2 hy
      clear hcell hfz s1 hy CL
      go_wp2_with fail
      refine ⟨⟨j + 1, hlt, rfl, ⟨_, HS1.out, fun t ht => ?_⟩, HBW.out.setCell (p := ⟨g, j, none⟩) hBg _⟩, ?_⟩
      · by_cases e : t = j
        · subst e
          rw [List.getElem?_set_self (by omega)]
        · rw [List.getElem?_set_ne (by omega)]
          exact HYT.out t (by omega)
      · show n - ((j : Int) + 1).toNat < n - (j : Int).toNat
        omega
    · obtain rfl : j = n := by omega
      have z9 : ¬ ((j : Int) < (j : Int)) := by omega
      have hl : ys.length = j := by have := HY.out.1; omega
      have hys : ys = iCells (numL fr j) := by
        apply List.ext_getElem?
        intro t
        by_cases ht : t < j
        · rw [HYT.out t ht]
          simp [iCells, numL_get _ _ _ ht]
        · rw [List.getElem?_eq_none (by omega), List.getElem?_eq_none (by simp [iCells, numL_len]; omega)]
      rw [hys] at HY
      have HI := hid2 (own_intR HY.out (fun x hx => by
        obtain ⟨i, hi⟩ := List.mem_iff_getElem?.1 hx
        have hil := (List.getElem?_eq_some_iff.1 hi).1
        rw [numL_len] at hil
        rw [numL_get _ _ _ hil] at hi
        cases hi
        omega))
      have HBa := hid2 (HB2.out.trans (HBW.out.mono (by omega)))
      have B2 := HA2.out.belowB HBW.out (by omega)
      have HC4 := hid2 (HA4.out.belowB HBW.out (by omega))
      obtain ⟨hl2, p0, p1, p2, p3, p4⟩ := B2.ty
      clear hys hl
      have jb : (j : Int) ≤ 1000 := by omega
      go_wp2_with (go_at_call 69; refine (CL.out _ _ _ HBa.out HI.out).mono ?_; rintro e w3 ⟨f2, rfl, hP⟩; clear p0 p1 p2 p3 p4; have B4 := HC4.out.below hP.bel; have g0 := B4.tyF 0; have g1 := B4.tyF 1; have g2 := B4.tyF 2; have g3 := B4.tyF 3; have g4 := B4.tyF 4; obtain ⟨hl4, q0, q1, q2, q3, q4⟩ := B4.ty; simp only [Nat.zero_add] at q0 q1 q2 q3 q4)
      have F1 := (B4.set5 f2).ty
      have hz4 := HC4.out.lt
      exact bodyPost_ret (results_c3 (g := f2) Tryd.results35 rfl rfl rfl F1) rfl ⟨f2, rfl, ⟨(hP.own.keep fun i o hi hh hA => hA.S5 (by omega) f2).low (by have := HBa.out.size; omega) (by rw [size_S5]; exact Nat.le_refl _), below_s5 (below_aft HBa.out hP.bel) (by omega) f2⟩⟩
set_option maxRecDepth 100000 in
set_option maxHeartbeats 1000000 in
theorem rAnew_un (t : Ty) (f : Fv) (a : Option Addr) (n cap : Nat) (w : World) (h : TyAt w f t) (hb : isT t = false) : Calls Tryd.prog 37 #[f.v, .slice a n cap] w fun e w' => ∃ f' : Fv, e = .returned (.tuple #[f'.v, .int .i64 2]) ∧ New w w' f' (.leaf 0 0) := by
  have CI : Hid (Calls Tryd.prog 27 #[f.v] ((w.alloc f.o).alloc zT.o) fun e w' => e = .returned (.bool false) ∧ Below ((w.alloc f.o).alloc zT.o).heap.size ((w.alloc f.o).alloc zT.o) w') := by
    have := is_any _ f _ (h.bel (belB w f zT))
    rw [hb] at this
    exact this
  have A2 : Hid (At ((w.alloc f.o).alloc zT.o) w.heap.size f.o) := (At.new _ _).alloc _
  have A4 : Hid (At ((w.alloc f.o).alloc zT.o) (w.heap.size + 1) zT.o) := at_snd _ _ _
  obtain ⟨k, m, r, s, a', n', cap'⟩ := f
  show Calls Tryd.prog 37 #[tyV k m r s a' n' cap', .slice a n cap] w _
  clear h hb A2
  go_enter Tryd.func37, Tryd.ntmps37
  go_wp2_with (go_at_call 27; refine CI.out.mono ?_; rintro e w1 ⟨rfl, hb1⟩; have B4 := (A4.out.below hb1); have g0 := B4.tyF 0; have g1 := B4.tyF 1; have g2 := B4.tyF 2; have g3 := B4.tyF 3; have g4 := B4.tyF 4; obtain ⟨hl4, q0, q1, q2, q3, q4⟩ := B4.ty; simp only [Nat.zero_add] at q0 q1 q2 q3 q4)
  obtain ⟨F1, F2⟩ := new_zero (below2 hb1) (b := w.heap.size + 1) (by omega) B4
  exact bodyPost_ret (results_c2 (g := zT) Tryd.results37 rfl rfl F1) rfl ⟨zT, rfl, F2⟩
set_option maxRecDepth 100000 in
set_option maxHeartbeats 1000000 in
theorem rAnew_len (c : Ch) (f : Fv) (a : Option Addr) (n cap : Nat) (w : World) (hc : Ok c) (h : TyAt w f c.ty) (hne : n ≠ c.regs.length) : Calls Tryd.prog 37 #[f.v, .slice a n cap] w fun e w' => ∃ f' : Fv, e = .returned (.tuple #[f'.v, .int .i64 2]) ∧ New w w' f' (.leaf 0 0) := by
  have CR : Hid (∀ V, Below w.heap.size w V → Calls Tryd.prog 33 #[f.v] V fun e w' => (∃ v, e = .returned v ∧ w'.ownsRow V.heap.size 3 1 v c.regs.length (iCells c.regs)) ∧ Below V.heap.size V w') := fun V hV => rRegions_yes c f V hc (h.bel hV)
  have hb := hc.is
  have CI : Hid (Calls Tryd.prog 27 #[f.v] ((w.alloc f.o).alloc zT.o) fun e w' => e = .returned (.bool true) ∧ Below ((w.alloc f.o).alloc zT.o).heap.size ((w.alloc f.o).alloc zT.o) w') := by
    have := is_any _ f _ (h.bel (belB w f zT))
    rw [hb] at this
    exact this
  have A2 : Hid (At ((w.alloc f.o).alloc zT.o) w.heap.size f.o) := (At.new _ _).alloc _
  have A4 : Hid (At ((w.alloc f.o).alloc zT.o) (w.heap.size + 1) zT.o) := at_snd _ _ _
  have hz : ¬ ((n : Int) = (c.regs.length : Int)) := by omega
  obtain ⟨k, m, r, s, a', n', cap'⟩ := f
  show Calls Tryd.prog 37 #[tyV k m r s a' n' cap', .slice a n cap] w _
  clear h hb hc hne
  go_enter Tryd.func37, Tryd.ntmps37
  go_wp2_with (first
    | (go_at_call 27; refine CI.out.mono ?_; rintro e w1 ⟨rfl, hb1⟩; obtain ⟨hl2, p0, p1, p2, p3, p4⟩ := (A2.out.below hb1).ty)
    | (go_at_call 33; refine (CR.out _ (below2 hb1)).mono ?_; rintro e w2 ⟨⟨v, rfl, ho2⟩, hb2⟩; obtain ⟨a1, c1, rfl⟩ := own_sl ho2; clear ho2 p0 p1 p2 p3 p4; have B4 := (A4.out.below hb1).below hb2; have g0 := B4.tyF 0; have g1 := B4.tyF 1; have g2 := B4.tyF 2; have g3 := B4.tyF 3; have g4 := B4.tyF 4; obtain ⟨hl4, q0, q1, q2, q3, q4⟩ := B4.ty; simp only [Nat.zero_add] at q0 q1 q2 q3 q4))
  obtain ⟨F1, F2⟩ := new_zero (below_aft (below2 hb1) hb2) (b := w.heap.size + 1) (by omega) B4
  exact bodyPost_ret (results_c2 (g := zT) Tryd.results37 rfl rfl F1) rfl ⟨zT, rfl, F2⟩
set_option maxRecDepth 100000 in
set_option maxHeartbeats 4000000 in
theorem rAnew_yes (c : Ch) (f : Fv) (a : Option Addr) (n cap : Nat) (X : List Int) (w : World) (hc : Ok c) (h : TyAt w f c.ty) (hr : IntR w a n cap X) (hlen : X.length = c.regs.length) : Calls Tryd.prog 37 #[f.v, .slice a n cap] w fun e w' => ∃ f' : Fv, e = .returned (.tuple #[f'.v, .int .i64 (anN X)]) ∧ New w w' f' (anC c X) := by
  have CR : Hid (∀ V, Below w.heap.size w V → Calls Tryd.prog 33 #[f.v] V fun e w' => (∃ v, e = .returned v ∧ w'.ownsRow V.heap.size 3 1 v c.regs.length (iCells c.regs)) ∧ Below V.heap.size V w') := fun V hV => rRegions_yes c f V hc (h.bel hV)
  have hb := hc.is
  have CI : Hid (Calls Tryd.prog 27 #[f.v] ((w.alloc f.o).alloc zT.o) fun e w' => e = .returned (.bool true) ∧ Below ((w.alloc f.o).alloc zT.o).heap.size ((w.alloc f.o).alloc zT.o) w') := by
    have := is_any _ f _ (h.bel (belB w f zT))
    rw [hb] at this
    exact this
  have A2 : Hid (At ((w.alloc f.o).alloc zT.o) w.heap.size f.o) := (At.new _ _).alloc _
  have A4 : Hid (At ((w.alloc f.o).alloc zT.o) (w.heap.size + 1) zT.o) := at_snd _ _ _
  have hn : n = c.regs.length := by rw [hr.len, hlen]
  have hX60 : X.length ≤ 60 := by have := hc.deep; have := regs_le c; omega
  rw [← hn] at CR
  have HR : Hid (IntR w a n cap X) := hr
  have CL : Hid (∀ V, Below w.heap.size w V → Calls Tryd.prog 69 #[f.v, .slice a n cap] V fun e w' => ∃ f' : Fv, e = .returned f'.v ∧ New V w' f' (layC c X)) := fun V hV => laid_any c f a n cap X V hc.ok (h.bel hV) (hr.bel hV) (by omega)
  obtain ⟨k, m, r, s, a', n', cap'⟩ := f
  show Calls Tryd.prog 37 #[tyV k m r s a' n' cap', .slice a n cap] w _
  clear h hb hc hr hn hlen
  go_enter Tryd.func37, Tryd.ntmps37
  go_wp2_with (first
    | (go_at_call 27; refine CI.out.mono ?_; rintro e w1 ⟨rfl, hb1⟩; have B2 := A2.out.below hb1; obtain ⟨hl2, p0, p1, p2, p3, p4⟩ := B2.ty)
    | (go_at_call 33; refine (CR.out _ (below2 hb1)).mono ?_; rintro e w2 ⟨⟨v, rfl, ho2⟩, hb2⟩; obtain ⟨a1, c1, rfl⟩ := own_sl ho2; clear ho2 p0 p1 p2 p3 p4))
  have HC2 := hid2 (B2.below hb2)
  have HC4 := hid2 ((A4.out.below hb1).below hb2)
  have HB2 := hid2 (below_aft (below2 hb1) hb2)
  clear hb1 hb2 B2 hl2 CI CR A2 A4
  go_loopw [6] (fun i W => ∃ j : Nat, j ≤ n ∧ i = .int .i64 j ∧ W = w2 ∧ ∀ k x, k < j → X[k]? = some x → -1 ≤ x) (fun i _ => n - (intOf i).toNat)
  case atStart => exact ⟨0, Nat.zero_le _, rfl, rfl, fun k x hk => by omega⟩
  case round =>
    obtain ⟨j, hj, rfl, hW, hall⟩ := hrel
    cases hW
    have hln : n = X.length := HR.out.len
    by_cases hlt : j < n
    · obtain ⟨x, hx⟩ : ∃ x, X[j]? = some x := ⟨_, List.getElem?_eq_getElem (by omega)⟩
      obtain ⟨g, off, hag, hg, hcell⟩ := HR.out.cells (fun e => by subst e; simp at hx)
      have hcx : w2.cell? ⟨g, off + j, none⟩ = some (.int .i64 x) := (HB2.out.cell (p := ⟨g, off + j, none⟩) hg).trans (hcell _ _ hx)
      have hgl : g < w2.heap.size := Nat.lt_of_lt_of_le hg HB2.out.size
      subst hag
      have k0 : (0 : Int) ≤ (j : Int) := by omega
      have k1 : (j : Int) < (n : Int) := by omega
      have k2 : (j : Int) ≤ 1000 := by omega
      have HX := hid2 hx
      have HALL := hid2 hall
      clear hln hcell hall hx CL HR
      by_cases hxn : x < -1
      · have B4 := HC4.out
        have g0 := B4.tyF 0
        have g1 := B4.tyF 1
        have g2 := B4.tyF 2
        have g3 := B4.tyF 3
        have g4 := B4.tyF 4
        obtain ⟨hl4, q0, q1, q2, q3, q4⟩ := B4.ty
        simp only [Nat.zero_add] at q0 q1 q2 q3 q4
        go_wp2_with fail
        obtain ⟨F1, F2⟩ := new_zero HB2.out (b := w.heap.size + 1) (by omega) B4
        have hf : ¬ (X.all (fun x => decide (-1 ≤ x)) = true) := fun hh => by
          rw [List.all_eq_true] at hh
          have := hh x (List.mem_of_getElem? HX.out)
          simp at this
          omega
        have hN : anN X = 2 := if_neg hf
        have hC : anC c X = .leaf 0 0 := if_neg hf
        rw [hN, hC]
        exact bodyPost_ret (results_c2 (g := zT) Tryd.results37 rfl rfl F1) rfl ⟨zT, rfl, F2⟩
      · go_wp2_with fail
        refine ⟨⟨j + 1, hlt, rfl, (by first | rfl | trivial), fun k y hk hy => ?_⟩, ?_⟩
        · by_cases e : k = j
          · subst e
            rw [HX.out] at hy
            cases hy
            omega
          · exact HALL.out k y (by omega) hy
        · show n - ((j : Int) + 1).toNat < n - (j : Int).toNat
          omega
    · obtain rfl : j = n := by omega
      have z1 : ¬ ((j : Int) < (j : Int)) := by omega
      have ht : X.all (fun x => decide (-1 ≤ x)) = true := by
        rw [List.all_eq_true]
        intro x hx
        obtain ⟨k, hk⟩ := List.mem_iff_getElem?.1 hx
        have hkl := (List.getElem?_eq_some_iff.1 hk).1
        exact decide_eq_true (hall k x (by omega) hk)
      have hN := hid2 (show anN X = 0 from if_pos ht)
      have hC := hid2 (show anC c X = layC c X from if_pos ht)
      obtain ⟨hl2, p0, p1, p2, p3, p4⟩ := HC2.out.ty
      clear hall ht hln HR
      go_wp2_with (go_at_call 69; refine (CL.out w2 HB2.out).mono ?_; rintro e w3 ⟨f2, rfl, hP⟩; clear p0 p1 p2 p3 p4; have B4 := HC4.out.below hP.bel; have g0 := B4.tyF 0; have g1 := B4.tyF 1; have g2 := B4.tyF 2; have g3 := B4.tyF 3; have g4 := B4.tyF 4; obtain ⟨hl4, q0, q1, q2, q3, q4⟩ := B4.ty; simp only [Nat.zero_add] at q0 q1 q2 q3 q4)
      have F1 := (B4.set5 f2).ty
      have hz4 := HC4.out.lt
      rw [hN.out, hC.out]
      exact bodyPost_ret (results_c2 (g := f2) Tryd.results37 rfl rfl F1) rfl ⟨f2, rfl, ⟨(hP.own.keep fun i o hi hh hA => hA.S5 (by omega) f2).low (by have := HB2.out.size; omega) (by rw [size_S5]; exact Nat.le_refl _), below_s5 (below_aft HB2.out hP.bel) (by omega) f2⟩⟩
end Go.Proofs.YtjchbclkdbojpaaDoor
