import Derived.Test.YtnohcppipkpgmaaDoorRr
namespace Go.Proofs.YtnohcppipkpgmaaDoor
open Go.RowKit Go.Shelf
set_option linter.unusedVariables false
set_option linter.unusedSimpArgs false

theorem it_small (w0 : World) (i : Nat) (hi : i < 100) : ItC w0 i := fun W hW => (Tryd.strconv_Itoa_small i hi W).mono fun e w' k => ⟨by rw [k.1, Lib.itoa_nonneg]; rfl, by rw [k.2]; exact Below.refl _ _⟩
abbrev awT : Fv := ⟨1, false, 0, 0, none, 0, 0⟩
abbrev awR (b : Nat) : Fv := ⟨4, true, -1, 0, some ⟨b, 0, none⟩, 1, 1⟩
def awC : Ch := .ref true (-1) (.leaf 1 0)
abbrev awP (b : Nat) : Pt := ⟨0, some ⟨b + 1 + 1, 0, none⟩, 1, 1⟩
abbrev awW (w : World) : World := (((w.alloc awT.o).alloc (awR w.heap.size).o).alloc (.cells #[.int .i64 (-1)] 62)).alloc (awP w.heap.size).o
theorem awake_at (w : World) : At (awW w) w.heap.size awT.o ∧ At (awW w) (w.heap.size + 1) (awR w.heap.size).o ∧ At (awW w) (w.heap.size + 1 + 1) (.cells #[.int .i64 (-1)] 62) ∧ At (awW w) (w.heap.size + 1 + 1 + 1) (awP w.heap.size).o := by
  refine ⟨(((At.new w _).alloc _).alloc _).alloc _, ((at_snd w _ _).alloc _).alloc _, ?_, ?_⟩
  · have := At.new ((w.alloc awT.o).alloc (awR w.heap.size).o) (.cells #[.int .i64 (-1)] 62)
    simp only [World.size_alloc] at this
    exact this.alloc _
  · have := At.new (((w.alloc awT.o).alloc (awR w.heap.size).o).alloc (.cells #[.int .i64 (-1)] 62)) (awP w.heap.size).o
    simpa only [World.size_alloc] using this
theorem awake_p (w : World) : PAt (awW w) (awP w.heap.size) [-1] := by
  have h := (awake_at w).2.2.1
  refine ⟨⟨rfl, Nat.le_refl 1, (by unfold maxLen; decide : 1 ≤ maxLen), fun _ => ⟨w.heap.size + 1 + 1, 0, rfl, h.lt, fun i x hx => ?_⟩, fun x hx => by simp at hx; omega, fun e => by cases e⟩, (by decide : (-9223372036854775808 : Int) ≤ 0), (by decide : (0 : Int) ≤ 9223372036854775807)⟩
  have hi : i = 0 := by
    have := (List.getElem?_eq_some_iff.1 hx).1
    simp at this
    omega
  subst hi
  simp at hx
  subst hx
  unfold At at h
  generalize awW w = V at h ⊢
  simp [World.cell?, h]
theorem place_nil (w : World) (l : Int) (h0 : -9223372036854775808 ≤ l) (h1 : l ≤ 9223372036854775807) : PAt w ⟨l, none, 0, 0⟩ [] := ⟨⟨rfl, Nat.le_refl _, by simp, fun h => absurd rfl h, fun x hx => by simp at hx, fun _ => rfl⟩, h0, h1⟩
theorem st_nil (w : World) : StAt w none 0 0 [] := ⟨rfl, by simp, fun h => absurd rfl h⟩
theorem awake_lc (w : World) : LcAt (awW w) (some ⟨w.heap.size + 1, 0, none⟩) 1 1 [awC.ty] := by
  obtain ⟨h0, h1, -, -⟩ := awake_at w
  refine ⟨rfl, by unfold maxLen; decide, fun _ => ⟨w.heap.size + 1, 0, rfl, fun i t hi => ?_⟩⟩
  have hi0 : i = 0 := by
    have := (List.getElem?_eq_some_iff.1 hi).1
    simp at this
    omega
  subst hi0
  simp at hi
  subst hi
  refine ⟨awR w.heap.size, h1.ty, ?_⟩
  exact TyAt.mkOne 4 true (-1) 0 (by omega) (by omega) (by omega) (by omega) (by omega) w.heap.size 0 1 awT _ h0.ty (TyAt.mkLeaf 1 0 (by omega) (by omega) (by omega) none 0)
theorem awake_cx (w : World) : ∃ fc cl, Cx (awW w) none (some ⟨w.heap.size + 1, 0, none⟩) 0 0 1 1 true fc cl ∧ wyX true fc cl 0 [-1] = some (.leaf 1 0, [2]) ∧ (wyX true fc cl 0 []).isSome = true := by
  obtain ⟨b1, b2, b3, hb⟩ := flt_ex []
  obtain ⟨fc, cl, h1, h2⟩ := cx_of (st_nil (awW w)) (awake_lc w) hb
  have hok : mayL 0 (decide ((stRes 0 b1 b2 b3).2 = 0)) [awC.ty] = true := by
    rw [mayL_iff]
    refine ⟨?_, fun t ht => ?_⟩
    · rw [stRes_0 (by omega) (fun j hj => by omega) (fun j hj => by omega) (fun j hj => by omega)]
      rfl
    · simp at ht
      subst ht
      exact ch_mayB ⟨by omega, .inl ⟨.inl rfl, rfl⟩⟩ (by decide)
  rw [hok] at h1
  obtain ⟨e, -⟩ := h2 hok
  have hcl : cl = [awC] := by
    match cl, e with
    | [], e => simp at e
    | [c], e =>
      simp at e
      rw [Ch.ty_inj e]
    | c :: d :: cl, e => simp at e
  subst hcl
  refine ⟨fc, _, h1, ?_, ?_⟩
  · rfl
  · rfl
def awS : List UInt8 := [95, 48, 46, 42]
theorem it0 : Lib.itoa 0 = [48] := by rw [show (0 : Int) = ((0 : Nat) : Int) from rfl, Lib.itoa_nonneg, Lib.decDigits_one (by omega)]; rfl
theorem awTxt : txtP 0 [-1] = awS := by
  unfold txtP
  rw [it0]
  rfl
theorem awRd : rdP awS = some (0, [-1]) := by
  rw [← awTxt, rdP_txt (by omega) (by omega) (fun s hs => by simp at hs; omega)]
  rfl
theorem awBad : ¬ badP 0 [-1] := by
  rintro (h | ⟨s, hs, h⟩)
  · omega
  · simp at hs
    omega
theorem Text_aw {w : World} {x : Pt} (h : PAt w x [-1]) (hl : x.l = 0) : Calls Tryd.prog 29 #[x.v] w fun e w' => e = .returned (.string (str awS)) ∧ Below w.heap.size w w' := by
  have := Text_any h (by simp) (fun n h0 hn => by
    have hn0 : n = ((0 : Nat) : Int) := by
      rcases hn with hn | hn
      · omega
      · simp at hn
        omega
    rw [hn0]
    exact it_small w 0 (by omega))
  rw [hl, txP_ok awBad, awTxt] at this
  exact this
set_option maxRecDepth 100000 in
set_option maxHeartbeats 8000000 in
theorem awake_true (w : World) : Calls Tryd.prog 10 #[] w fun e w' => e = .returned (.bool true) ∧ Below w.heap.size w w' := by
  obtain ⟨fc, cl, hC, hw1, hw2⟩ := awake_cx w
  obtain ⟨-, -, -, hAp⟩ := awake_at w
  have hPp := awake_p w
  have HB0 : Hid (Below w.heap.size w (awW w)) := belA (belA (belA (belA (Below.refl _ _))))
  have C12 : Hid (∀ W, Below (awW w).heap.size (awW w) W → Calls Tryd.prog 12 #[.slice none 0 0, .slice (some ⟨w.heap.size + 1, 0, none⟩) 1 1, (awP w.heap.size).v] W fun e w' => (∃ f : Fv, e = .returned (.tuple #[f.v, .int .i64 0]) ∧ f.k = 1) ∧ Below W.heap.size W w') := fun W hW => by
    refine (Type_any hW hC (hPp.bel hW) _ hw1.symm (fun z hz => by cases hz; decide)).mono fun e w' k => ⟨?_, k.2⟩
    obtain ⟨f, h1, h2⟩ := k.1
    refine ⟨f, h1, ?_⟩
    have h3 := h2.own
    cases h3
    rfl
  have C22 : Hid (∀ W, Below (awW w).heap.size (awW w) W → ∀ d : Nat, d = 2 ∨ d = 3 → Calls Tryd.prog 22 #[.slice none 0 0, .slice (some ⟨w.heap.size + 1, 0, none⟩) 1 1, plV 0 none 0 0, (awP w.heap.size).v, .int .u8 (d : Int)] W fun e w' => e = .returned (.tuple #[.bool (decide (d = 3)), .int .i64 0]) ∧ Below W.heap.size W w') := fun W hW d hd => by
    refine (Within_any hW hC (place_nil W 0 (by omega) (by omega)) (hPp.bel hW) d (by omega) _ _ rfl hw1.symm).mono fun e w' k => ⟨?_, k.2⟩
    have k1 := k.1
    unfold WithPost at k1
    rw [if_pos ⟨hw2, rfl, by omega, by omega⟩] at k1
    obtain ⟨b, h1, h2⟩ := k1
    rw [h1]
    have : b = decide (d = 3) := by
      rw [Bool.eq_iff_iff, h2, decide_eq_true_iff]
      constructor
      · rintro ⟨-, h⟩
        have := h _ rfl
        rcases hd with rfl | rfl
        · revert this; decide
        · rfl
      · rintro rfl
        exact ⟨⟨rfl, List.nil_prefix⟩, fun z hz => by cases hz; decide⟩
    rw [this]
  have C14 : Hid (∀ W, Below (awW w).heap.size (awW w) W → Calls Tryd.prog 14 #[.slice none 0 0, .slice (some ⟨w.heap.size + 1, 0, none⟩) 1 1, (awP w.heap.size).v] W fun e w' => e = .returned (.tuple #[plV 0 none 0 0, .int .i64 0]) ∧ Below W.heap.size W w') := fun W hW => by
    refine (Held_any hW hC (hPp.bel hW) _ hw1.symm).mono fun e w' k => ⟨?_, k.2⟩
    obtain ⟨gl, ga, h1, -⟩ := k.1
    exact h1
  have C33 : Hid (∀ W, Calls Tryd.prog 33 #[.string ⟨#[95, 48, 46, 42]⟩] W fun e w' => (∃ x : Pt, e = .returned (.tuple #[x.v, .int .i64 0]) ∧ x.l = 0 ∧ PAt w' x [-1]) ∧ Below W.heap.size W w') := fun W => by
    refine (Read_any awS (by decide) W _ awRd.symm).mono fun e w' k => ⟨?_, k.2⟩
    obtain ⟨x, p, er, h1, h2, h3⟩ := k.1
    rcases h3.1 with ⟨h4, rfl⟩ | ⟨h4, -⟩
    · injection h4 with h4
      injection h4 with h5 h6
      subst h6
      exact ⟨x, h1, h5.symm, h2⟩
    · cases h4
  have C16 : Hid (∀ W, Below (awW w).heap.size (awW w) W → Calls Tryd.prog 16 #[.slice none 0 0, .slice (some ⟨w.heap.size + 1, 0, none⟩) 1 1, (awP w.heap.size).v] W fun e w' => e = .returned (.bool true) ∧ Below W.heap.size W w') := fun W hW => May_any hW hC (hPp.bel hW) true (by rw [hw1]; rfl)
  have C28 : Hid (∀ W x, Below (awW w).heap.size (awW w) W → PAt W x [-1] → x.l = 0 → Calls Tryd.prog 28 #[(awP w.heap.size).v, x.v] W fun e w' => e = .returned (.bool true) ∧ Below W.heap.size W w') := fun W x hW hx hl => Same_any (hPp.bel hW) hx true (by simp [hl])
  have C29 : Hid (∀ W, Below (awW w).heap.size (awW w) W → Calls Tryd.prog 29 #[(awP w.heap.size).v] W fun e w' => e = .returned (.string (str awS)) ∧ Below W.heap.size W w') := fun W hW => Text_aw (hPp.bel hW) rfl
  have C24 : Hid (∀ W, Below (awW w).heap.size (awW w) W → Calls Tryd.prog 24 #[plV 0 none 0 0, (awP w.heap.size).v] W fun e w' => e = .returned (.bool true) ∧ Below W.heap.size W w') := fun W hW => Prefix_any (x := ⟨0, none, 0, 0⟩) (place_nil W 0 (by omega) (by omega)) (hPp.bel hW) true (by simp)
  have C31 : Hid (∀ W, Below (awW w).heap.size (awW w) W → Calls Tryd.prog 31 #[(awP w.heap.size).v] W fun e w' => ∃ gl, e = .returned (.slice (some ⟨gl, 0, none⟩) 2 2) ∧ Below W.heap.size W w') := fun W hW => (Prefixes_any (hPp.bel hW) (by simp)).mono fun e w' k => by
    obtain ⟨gl, ga, h1, -, h3⟩ := k
    exact ⟨gl, h1, h3⟩
  have KP : Hid (∀ W, Below (awW w).heap.size (awW w) W → W.cell? ⟨w.heap.size + 1 + 1 + 1, 0, none⟩ = some (.int .i64 0) ∧ W.cell? ⟨w.heap.size + 1 + 1 + 1, 1, none⟩ = some (.slice (some ⟨w.heap.size + 1 + 1, 0, none⟩) 1 1) ∧ w.heap.size + 1 + 1 + 1 < W.heap.size) := fun W hW => ⟨(hAp.below hW).pl.1, (hAp.below hW).pl.2, (hAp.below hW).lt⟩
  have t1 : (str awS).toList = awS := str_toList awS
  clear hC hw1 hw2 hAp hPp
  have st1 : Stg 1 := .mk 1
  go_enter Tryd.func10, Tryd.ntmps10
  go_wp2_with (first
    | (go_at_call 12; refine (C12.out _ (Below.refl _ _)).mono ?_; rintro e w1 ⟨⟨f, rfl, hf⟩, hb1⟩; obtain ⟨c0, c1, c2⟩ := KP.out w1 hb1; have HB1 := hidD hb1; have HF := hidD hf; clear hb1 hf)
    | (have _s := st1; clear st1 _s; go_at_call 22; refine (C22.out _ (belA HB1.out) 3 (by omega)).mono ?_; rintro e w2 ⟨rfl, hb2⟩; have HB2 := hidD (below_aft (belA HB1.out) hb2); have HT2 := hidD ((At.new w1 f.o).below hb2); clear c0 c1 c2 hb2; obtain ⟨c0, c1, c2⟩ := KP.out w2 HB2.out; have st2 : Stg 2 := .mk 2)
    | (have _s := st2; clear st2 _s; go_at_call 22; refine (C22.out _ HB2.out 2 (by omega)).mono ?_; rintro e w3 ⟨rfl, hb3⟩; have HB3 := hidD (below_aft HB2.out hb3); have HT3 := hidD (HT2.out.below hb3); clear c0 c1 c2 hb3; obtain ⟨c0, c1, c2⟩ := KP.out w3 HB3.out)
    | (go_at_call 14; refine (C14.out _ HB3.out).mono ?_; rintro e w4 ⟨rfl, hb4⟩; have HB4 := hidD (below_aft HB3.out hb4); have HT4 := hidD (HT3.out.below hb4); clear c0 c1 c2 hb4; obtain ⟨c0, c1, c2⟩ := KP.out w4 HB4.out)
    | (go_at_call 33; refine (C33.out _).mono ?_; rintro e w5 ⟨⟨x, rfl, hx0, hx1⟩, hb5⟩; have HB5 := hidD (below_aft (belA HB4.out) hb5); have HT5 := hidD ((HT4.out.alloc _).below hb5); have HH5 := hidD ((At.new w4 (plO 0 none 0 0)).below hb5); have HX1 := hidD (hx1.bel (belA (Below.refl _ _) : Below w5.heap.size w5 (w5.alloc x.o))); have HX0 := hidD hx0; clear c0 c1 c2 hb5 hx1 hx0; obtain ⟨c0, c1, c2⟩ := KP.out w5 HB5.out; obtain ⟨d0, d1⟩ := HH5.out.pl; have d2 := HH5.out.lt; obtain ⟨hlt, e0, -⟩ := HT5.out.ty; rw [HF.out] at e0)
    | (go_at_call 28; refine (C28.out _ x (belA HB5.out) HX1.out HX0.out).mono ?_; rintro e w6 ⟨rfl, hb6⟩; have HB6 := hidD (below_aft (belA HB5.out) hb6); clear c0 c1 c2 hb6; obtain ⟨c0, c1, c2⟩ := KP.out w6 HB6.out)
    | (go_at_call 29; refine (C29.out _ HB6.out).mono ?_; rintro e w7 ⟨rfl, hb7⟩; have HB7 := hidD (below_aft HB6.out hb7); clear c0 c1 c2 hb7; obtain ⟨c0, c1, c2⟩ := KP.out w7 HB7.out)
    | (go_at_call 16; refine (C16.out _ HB7.out).mono ?_; rintro e w8 ⟨rfl, hb8⟩; have HB8 := hidD (below_aft HB7.out hb8); clear c0 c1 c2 hb8; obtain ⟨c0, c1, c2⟩ := KP.out w8 HB8.out)
    | (go_at_call 24; refine (C24.out _ HB8.out).mono ?_; rintro e w9 ⟨rfl, hb9⟩; have HB9 := hidD (below_aft HB8.out hb9); clear c0 c1 c2 hb9; obtain ⟨c0, c1, c2⟩ := KP.out w9 HB9.out)
    | (go_at_call 31; refine (C31.out _ HB9.out).mono ?_; rintro e w10 ⟨gl, rfl, hb10⟩; have HB10 := hidD (below_aft HB9.out hb10); clear c0 c1 c2 hb10))
  go_ret
  exact ⟨rfl, below_aft HB0.out HB10.out⟩
end Go.Proofs.YtnohcppipkpgmaaDoor
