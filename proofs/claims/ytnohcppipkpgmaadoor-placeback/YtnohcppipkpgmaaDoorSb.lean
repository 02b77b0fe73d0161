import Derived.Test.YtnohcppipkpgmaaDoorSa
namespace Go.Proofs.YtnohcppipkpgmaaDoor
open Go.RowKit Go.Shelf
set_option linter.unusedVariables false
set_option linter.unusedSimpArgs false

theorem PAt.s2 {V : World} {x : Pt} {p : List Int} (h : PAt V x p) {b : Nat} (z : Pt) (hb : ∀ ad, x.a = some ad → ad.block ≠ b) : PAt (S2 V b z) x p := by
  refine ⟨⟨h.row.len, h.row.le, h.row.big, fun hne => ?_, h.row.rng, h.row.nil⟩, h.l0, h.l1⟩
  obtain ⟨g, off, h1, h2, h3⟩ := h.row.cells hne
  refine ⟨g, off, h1, by rw [size_S2]; exact h2, fun i y hy => ?_⟩
  have hn : g ≠ b := hb _ h1
  rw [← h3 i y hy]
  exact World.cell?_of_block (a := ⟨g, off + i, none⟩) ((but_s2 V b z).block g h2 (fun e => hn (Option.some.inj e)))
theorem bad_take {l : Int} {p : List Int} {i : Nat} {x : Int} (h : p[i]? = some x) : badP l (p.take (i + 1)) ↔ badP l (p.take i) ∨ x < -1 := by
  unfold badP
  rw [List.take_add_one, h]
  simp only [List.mem_append, Option.mem_toList]
  constructor
  · rintro (h1 | ⟨s, h1 | h1, h2⟩)
    · exact .inl (.inl h1)
    · exact .inl (.inr ⟨s, h1, h2⟩)
    · have : x = s := by simpa using h1
      subst this
      exact .inr h2
  · rintro ((h1 | ⟨s, h1, h2⟩) | h1)
    · exact .inl h1
    · exact .inr ⟨s, .inl h1, h2⟩
    · exact .inr ⟨x, .inr (by simp), h1⟩
theorem txP_empty (l : Int) (p : List Int) (b : Bool) (hb : b = true ↔ badP l p) : (txP l p).isEmpty = b := by
  cases hbb : b with
  | true => rw [txP_bad (hb.1 hbb)]; rfl
  | false =>
    rw [txP_ok (fun h => by rw [hb.2 h] at hbb; cases hbb)]
    rfl
theorem rdP_txP (l : Int) (p : List Int) (h0 : -9223372036854775808 ≤ l ∧ l ≤ 9223372036854775807) (hr : ∀ x ∈ p, -9223372036854775808 ≤ x ∧ x ≤ 9223372036854775807) (b : Bool) (hb : b = true ↔ badP l p) : rdP (txP l p) = if b = false ∧ p.length ≤ 8 then some (l, p) else none := by
  cases hbb : b with
  | true =>
    rw [txP_bad (hb.1 hbb)]
    rfl
  | false =>
    have hn : ¬ badP l p := fun h => by rw [hb.2 h] at hbb; cases hbb
    rw [txP_ok hn, rdP_txt (by rcases Int.lt_or_le l 0 with h | h; exact absurd (.inl h) hn; exact h) h0.2 (fun s hs => ⟨by rcases Int.lt_or_le s (-1) with h | h; exact absurd (.inr ⟨s, hs, h⟩) hn; exact h, (hr s hs).2⟩)]
    by_cases h8 : p.length ≤ 8
    · rw [if_pos h8, if_pos ⟨rfl, h8⟩]
    · rw [if_neg h8, if_neg (fun h => h8 h.2)]
set_option maxRecDepth 100000 in
set_option maxHeartbeats 8000000 in
/-- PlaceBack. -/
theorem back_walk {w : World} (hT : TabOk w) {x : Pt} {p : List Int} (hP : PAt w x p) (S : List UInt8) (hS : S.length ≤ maxLen) :
    Calls Tryd.prog 8 #[x.v, .string (str S)] w fun e w' => e = .returned (.bool true) ∧ Below w.heap.size w w' := by
  have AW : Hid (∀ W, Calls Tryd.prog 10 #[] W fun e w' => e = .returned (.bool true) ∧ Below W.heap.size W w') := awake_true
  have hsz : (str S).size = S.length := str_size S
  obtain ⟨bf, hbf⟩ : ∃ bf : Bool, bf = true ↔ p.length ≤ 60 := by
    by_cases h : p.length ≤ 60
    · exact ⟨true, by simpa using h⟩
    · exact ⟨false, by simpa using h⟩
  have CF : Hid (Calls Tryd.prog 9 #[.slice none 0 0, .slice none 0 0, .slice (some ⟨w.heap.size + 1, 0, none⟩) 1 1] ((w.alloc x.o).alloc x.o) fun e w' => e = .returned (.bool bf) ∧ w' = (w.alloc x.o).alloc x.o) :=
    fits_nil (ps_one hP) (by simp) bf (by rw [hbf]; simp)
  have A0 : At ((w.alloc x.o).alloc x.o) w.heap.size x.o := (At.new _ _).alloc _
  have HA0 := hidD A0
  have HB0 := hidD (bel2 : Below w.heap.size w ((w.alloc x.o).alloc x.o))
  have hln : S.length ≤ 9223372036854775807 := by unfold maxLen at hS; omega
  by_cases h60 : p.length ≤ 60
  · by_cases h4096 : S.length ≤ 4096
    · have e1 : bf = true := hbf.2 h60
      subst e1
      have s1 : ¬ (4096 : Int) < (S.length : Int) := by omega
      have CT : Hid (∀ W, Below w.heap.size w W → Calls Tryd.prog 29 #[x.v] W fun e w' => e = .returned (.string (str (txP x.l p))) ∧ Below W.heap.size W w') := fun W hW => Text_tab hT hW (hP.bel hW) (by omega)
      have HP := hidD hP
      have HT := hidD hT
      obtain ⟨l, pa, m, pcap⟩ := x
      have hm : m = p.length := hP.row.len
      have HM := hidD hm
      obtain ⟨bb, hbb⟩ : ∃ bb : Bool, bb = true ↔ badP l p := by
        by_cases h : badP l p
        · exact ⟨true, by simpa using h⟩
        · exact ⟨false, by simpa using h⟩
      have HBB := hidD hbb
      obtain ⟨T, hTT⟩ : ∃ T, T = txP l p := ⟨_, rfl⟩
      have tE : T.isEmpty = bb := by rw [hTT]; exact txP_empty l p bb hbb
      have t1 : (str T).toList = T := str_toList T
      have CT' : Hid (∀ W, Below w.heap.size w W → Calls Tryd.prog 29 #[plV l pa m pcap] W fun e w' => e = .returned (.string (str T)) ∧ Below W.heap.size W w') := by rw [hTT]; exact CT.out
      have hRd : rdP T = if bb = false ∧ p.length ≤ 8 then some (l, p) else none := by rw [hTT]; exact rdP_txP l p ⟨hP.l0, hP.l1⟩ hP.row.rng bb hbb
      have hTl : T.length ≤ 100000 := by
        rw [hTT]
        by_cases hbad : badP l p
        · rw [txP_bad hbad]; simp
        · rw [txP_ok hbad]
          unfold txtP
          have e1 := Lib.itoa_length_le l hP.l0 hP.l1
          have e2 := flat_len p hP.row.rng
          rw [List.length_cons, List.length_append]
          omega
      have CR1 : Hid (∀ W, Calls Tryd.prog 33 #[.string (str T)] W fun e w' => (∃ (y : Pt) (er : Int), e = .returned (.tuple #[y.v, .int .i64 er]) ∧ (bb = false ∧ m ≤ 8 ∧ er = 0 ∧ y.l = l ∧ PAt w' y p ∨ ¬ (bb = false ∧ m ≤ 8) ∧ er = 90)) ∧ Below W.heap.size W w') := fun W => by
        refine (Read_any T hTl W _ hRd.symm).mono fun e w' k => ⟨?_, k.2⟩
        obtain ⟨y, q, er, h1, h2, h3⟩ := k.1
        refine ⟨y, er, h1, ?_⟩
        replace h3 := h3.1
        by_cases hc : bb = false ∧ p.length ≤ 8
        · rw [if_pos hc] at h3
          rcases h3 with ⟨h4, h5⟩ | ⟨h4, -⟩
          · cases h4
            exact .inl ⟨hc.1, by omega, h5, rfl, h2⟩
          · cases h4
        · rw [if_neg hc] at h3
          rcases h3 with ⟨h4, -⟩ | ⟨-, -, -, h5⟩
          · cases h4
          · exact .inr ⟨fun h => hc ⟨h.1, by omega⟩, h5⟩
      have CR2 : Hid (∃ er2 : Int, (er2 = 0 ∨ er2 = 90) ∧ ∀ W, Below w.heap.size w W → Calls Tryd.prog 33 #[.string (str S)] W fun e w' => (∃ (y : Pt), e = .returned (.tuple #[y.v, .int .i64 er2]) ∧ (er2 = 0 → ∀ b, w.heap.size ≤ b → b < W.heap.size → ∀ z : Pt, ∀ V, V = S2 w' b z → Calls Tryd.prog 29 #[y.v] V fun e w2 => e = .returned (.string (str S)) ∧ Below V.heap.size V w2)) ∧ Below W.heap.size W w') := by
        refine ⟨if (rdP S).isSome then 0 else 90, by cases (rdP S).isSome <;> simp, fun W hW => ?_⟩
        refine (Read_any S (by omega) W _ rfl).mono fun e w' k => ⟨?_, k.2⟩
        obtain ⟨y, q, er, h1, h2, h3⟩ := k.1
        rcases h3.1 with ⟨h4, h5⟩ | ⟨h4, -, -, h5⟩
        · refine ⟨y, by rw [h1, h4, h5]; rfl, fun _ b hb0 hb z V hV => ?_⟩
          subst hV
          obtain ⟨g1, g2, g3, g4, g5⟩ := rdP_text h4
          have := Text_tab HT.out (below_s2 (below_aft hW k.2) hb0 z) (h2.s2 z (fun ad had => by have := h3.2 ad had; omega)) (by omega)
          rw [txP_ok (fun h => by rcases h with h | ⟨s, hs, h⟩; omega; have := (g3 s hs).1; omega), ← g5] at this
          exact this
        · refine ⟨y, by rw [h1, h4, h5]; rfl, fun h => ?_⟩
          rw [h4] at h
          cases h
      have CS : Hid (∀ W (y : Pt), Below w.heap.size w W → PAt W y p → y.l = l → Calls Tryd.prog 28 #[plV l pa m pcap, y.v] W fun e w' => e = .returned (.bool true) ∧ Below W.heap.size W w') := fun W y hW hy hl => Same_any (HP.out.bel hW) hy true (by show true = true ↔ l = y.l ∧ p = p; simp [hl])
      show Calls Tryd.prog 8 #[plV l pa m pcap, .string (str S)] w _
      have HRow := hidD hP.row
      have HS1 := hidD h4096
      have H60 := hidD h60
      have s2 : decide ((4096 : Int) < (S.length : Int)) = false := decide_eq_false s1
      have s3 : decide (4096 < S.length) = false := decide_eq_false (by omega)
      obtain ⟨bl, hbl⟩ : ∃ bl, decide (l < 0) = bl := ⟨_, rfl⟩
      have HBL : Hid (bl = true ↔ badP l (p.take 0)) := by
        show bl = true ↔ badP l (p.take 0)
        rw [← hbl, decide_eq_true_iff]
        unfold badP
        simp
      clear hP hT CT hbf hbb hTT hRd hTl hm A0 hS h60 h4096 s1
      go_enter Tryd.func8, Tryd.ntmps8
      go_wp2_with (first
        | (go_at_call 9; refine CF.out.mono ?_; rintro e w1 ⟨rfl, hw⟩; have HA1 : Hid (At w1 w.heap.size (plO l pa m pcap)) := (by rw [hw]; exact HA0.out); have HB1 : Hid (Below w.heap.size w w1) := (by rw [hw]; exact HB0.out); clear hw; obtain ⟨c0, c1⟩ := HA1.out.pl)
        | (go_at_call 29; refine (CT'.out _ HB1.out).mono ?_; rintro e w2 ⟨rfl, hb2⟩; have HB2 := hidD (below_aft HB1.out hb2); have HA2 := hidD (HA1.out.below hb2); clear c0 c1 hb2; obtain ⟨c0, c1⟩ := HA2.out.pl))
      have HB1' := HB2
      clear HA1 HB1
      have TE := hidD tE
      have BLK : Hid (decide (l < 0) = bl) := hbl
      clear tE hbl
      go_loopw [6, 7] (fun x y V => ∃ (i : Nat) (bi : Bool), i ≤ m ∧ y = .int .i64 i ∧ x = .bool bi ∧ (bi = true ↔ badP l (p.take i)) ∧ V = w2) (fun _ y _ => m - (intOf y).toNat)
      case atStart => exact ⟨0, bl, Nat.zero_le _, rfl, rfl, HBL.out, rfl⟩
      case round =>
        obtain ⟨i, bi, hi, rfl, rfl, hbi, rfl⟩ := hrel
        have HBI := hidD hbi
        clear hbi
        by_cases hlt : i < m
        · obtain ⟨y, hy⟩ : ∃ y, p[i]? = some y := ⟨_, List.getElem?_eq_getElem (by have := HM.out; omega)⟩
          obtain ⟨g, off, ea, hg, hc, -⟩ := (HRow.out.bel HB2.out).nth hy
          have ea2 : pa = some ⟨g, off, none⟩ := ea
          have bt := bad_take (l := l) hy
          have HBT := hidD bt
          subst ea2
          have i0 : (0 : Int) ≤ (i : Int) := by omega
          have i1 : (i : Int) < (m : Int) := by omega
          have i2 : (i : Int) ≤ 1000 := by have := H60.out; have := HM.out; omega
          clear hy ea bt
          cases bi with
          | true =>
            go_wp2_with fail
            refine ⟨⟨i + 1, true, hlt, rfl, rfl, ?_, trivial⟩, ?_⟩
            · rw [HBT.out]
              exact ⟨fun _ => .inl (HBI.out.1 rfl), fun _ => rfl⟩
            · show m - ((i : Int) + 1).toNat < m - (i : Int).toNat
              omega
          | false =>
            have hnb : ¬ badP l (p.take i) := fun h => by have := HBI.out.2 h; cases this
            have HNB := hidD hnb
            clear hnb
            go_wp2_with fail
            refine ⟨⟨i + 1, decide (y < -1), hlt, rfl, rfl, ?_, trivial⟩, ?_⟩
            · rw [HBT.out, decide_eq_true_iff]
              exact ⟨fun h => .inr h, fun h => h.elim (fun h => absurd h HNB.out) id⟩
            · show m - ((i : Int) + 1).toNat < m - (i : Int).toNat
              omega
        · obtain rfl : i = m := by omega
          have lt : ¬ (i : Int) < (i : Int) := by omega
          have hbib : bi = bb := by
            have h1 := HBI.out
            rw [HM.out, List.take_length] at h1
            rw [Bool.eq_iff_iff, h1, HBB.out]
          subst hbib
          have tE := TE.out
          clear HBI HBL
          obtain ⟨er2, h09, hC2⟩ := CR2.out
          have C2 := hidD hC2
          clear hC2 CR2
          cases bi with
          | true =>
            rcases h09 with rfl | rfl
            · have u1 : (str S).toList = S := str_toList S
              have st1 : Stg 1 := .mk 1
              go_wp2_with (first
                | (have _s := st1; clear st1 _s; go_at_call 33; refine (CR1.out _).mono ?_; rintro e w3 ⟨⟨y, er, rfl, hy⟩, hb3⟩; have her : er = 90 := (by rcases hy with ⟨h, -⟩ | ⟨-, h⟩; cases h; exact h); subst her; clear hy; have HB3 := hidD (below_aft HB2.out hb3); have HA3 := hidD (HA2.out.below hb3); have HY3 := hidD (At.new w3 y.o); have h3lt := HA3.out.lt; clear c0 c1 hb3; obtain ⟨c0, c1⟩ := HA3.out.pl; have st2 : Stg 2 := .mk 2; have HBX : Hid (Below w.heap.size w (w3.alloc y.o)) := (belA HB3.out); have HYX := HY3; have LT3 : Hid (w3.heap.size < (w3.alloc y.o).heap.size) := (by show w3.heap.size < (w3.alloc y.o).heap.size; simp))
                | (have _s := st2; clear st2 _s; go_at_call 33; refine (C2.out _ HBX.out).mono ?_; rintro e w5 ⟨⟨z, rfl, hz⟩, hb5⟩; have HB5 := hidD (below_aft HBX.out hb5); have HY5 := hidD (HYX.out.below hb5); have HZ := hidD hz; clear hz hb5)
                | ((with_reducible show wpList _ _ _ (Oper.mk none (Op.store 26 _ _) _ _ _ none :: _) _ _); refine wpl_storeP w3.heap.size y z HY5.out rfl rfl ?_; intro w6 hw6; have HB6 : Hid (Below w.heap.size w w6) := (by rw [hw6]; exact below_s2 HB5.out HB3.out.size z); have HZ6 : Hid (At w6 w3.heap.size z.o) := (by rw [hw6]; exact HY5.out.set2 z); obtain ⟨d0, d1⟩ := HZ6.out.pl; have HC6 : Hid (Calls Tryd.prog 29 #[z.v] w6 fun e w2 => e = .returned (.string (str S)) ∧ Below w6.heap.size w6 w2) := (by first | exact HZ.out trivial w3.heap.size HB3.out.size LT3.out z w6 hw6 | exact HZ.out rfl w3.heap.size HB3.out.size LT3.out z w6 hw6); clear hw6)
                | (go_at_call 29; refine HC6.out.mono ?_; rintro e w7 ⟨rfl, hb7⟩; have HB7 := hidD (below_aft HB6.out hb7); clear hb7)
                | (go_at_call 10; refine (AW.out _).mono ?_; rintro e w8 ⟨rfl, hb8⟩; have HB8 := hidD (below_aft HB7.out hb8); clear hb8))
              go_ret
              exact ⟨rfl, HB8.out⟩
            · have u1 : (str S).toList = S := str_toList S
              have st1 : Stg 1 := .mk 1
              go_wp2_with (first
                | (have _s := st1; clear st1 _s; go_at_call 33; refine (CR1.out _).mono ?_; rintro e w3 ⟨⟨y, er, rfl, hy⟩, hb3⟩; have her : er = 90 := (by rcases hy with ⟨h, -⟩ | ⟨-, h⟩; cases h; exact h); subst her; clear hy; have HB3 := hidD (below_aft HB2.out hb3); have HA3 := hidD (HA2.out.below hb3); have HY3 := hidD (At.new w3 y.o); have h3lt := HA3.out.lt; clear c0 c1 hb3; obtain ⟨c0, c1⟩ := HA3.out.pl; have st2 : Stg 2 := .mk 2; have HBX : Hid (Below w.heap.size w (w3.alloc y.o)) := (belA HB3.out); have HYX := HY3; have LT3 : Hid (w3.heap.size < (w3.alloc y.o).heap.size) := (by show w3.heap.size < (w3.alloc y.o).heap.size; simp))
                | (have _s := st2; clear st2 _s; go_at_call 33; refine (C2.out _ HBX.out).mono ?_; rintro e w5 ⟨⟨z, rfl, hz⟩, hb5⟩; have HB5 := hidD (below_aft HBX.out hb5); have HY5 := hidD (HYX.out.below hb5); have HZ := hidD hz; clear hz hb5)
                | ((with_reducible show wpList _ _ _ (Oper.mk none (Op.store 26 _ _) _ _ _ none :: _) _ _); refine wpl_storeP w3.heap.size y z HY5.out rfl rfl ?_; intro w6 hw6; have HB6 : Hid (Below w.heap.size w w6) := (by rw [hw6]; exact below_s2 HB5.out HB3.out.size z); have HZ6 : Hid (At w6 w3.heap.size z.o) := (by rw [hw6]; exact HY5.out.set2 z); obtain ⟨d0, d1⟩ := HZ6.out.pl; clear hw6)
                | (go_at_call 10; refine (AW.out _).mono ?_; rintro e w8 ⟨rfl, hb8⟩; have HB8 := hidD (below_aft HB6.out hb8); clear hb8))
              go_ret
              exact ⟨rfl, HB8.out⟩
          | false =>
            by_cases h8 : i ≤ 8
            · have H8 := hidD h8
              have k8 : (i : Int) ≤ 8 := by omega
              rcases h09 with rfl | rfl
              · have u1 : (str S).toList = S := str_toList S
                have st1 : Stg 1 := .mk 1
                go_wp2_with (first
                  | (have _s := st1; clear st1 _s; go_at_call 33; refine (CR1.out _).mono ?_; rintro e w3 ⟨⟨y, er, rfl, hy⟩, hb3⟩; have hyy : er = 0 ∧ y.l = l ∧ PAt w3 y p := (by rcases hy with ⟨-, -, h1, h2, h3⟩ | ⟨h, -⟩; exact ⟨h1, h2, h3⟩; exact absurd ⟨rfl, H8.out⟩ h); obtain ⟨rfl, hyl, hyp⟩ := hyy; have HYL := hidD hyl; have HYP := hidD hyp; clear hy hyl hyp; have HB3 := hidD (below_aft HB2.out hb3); have HA3 := hidD (HA2.out.below hb3); have HY3 := hidD (At.new w3 y.o); have h3lt := HA3.out.lt; clear c0 c1 hb3; obtain ⟨c0, c1⟩ := HA3.out.pl; have st2 : Stg 2 := .mk 2)
                  | (go_at_call 28; refine (CS.out _ y (belA HB3.out) (HYP.out.bel (belA (Below.refl _ _))) HYL.out).mono ?_; rintro e w4 ⟨rfl, hb4⟩; have HBX := hidD (below_aft (belA HB3.out) hb4); have HYX := hidD (HY3.out.below hb4); have LT3 : Hid (w3.heap.size < w4.heap.size) := HYX.out.lt; have HA4 := hidD ((HA3.out.alloc y.o).below hb4); clear c0 c1 hb4; obtain ⟨c0, c1⟩ := HA4.out.pl)
                  | (have _s := st2; clear st2 _s; go_at_call 33; refine (C2.out _ HBX.out).mono ?_; rintro e w5 ⟨⟨z, rfl, hz⟩, hb5⟩; have HB5 := hidD (below_aft HBX.out hb5); have HY5 := hidD (HYX.out.below hb5); have HZ := hidD hz; clear hz hb5)
                  | ((with_reducible show wpList _ _ _ (Oper.mk none (Op.store 26 _ _) _ _ _ none :: _) _ _); refine wpl_storeP w3.heap.size y z HY5.out rfl rfl ?_; intro w6 hw6; have HB6 : Hid (Below w.heap.size w w6) := (by rw [hw6]; exact below_s2 HB5.out HB3.out.size z); have HZ6 : Hid (At w6 w3.heap.size z.o) := (by rw [hw6]; exact HY5.out.set2 z); obtain ⟨d0, d1⟩ := HZ6.out.pl; have HC6 : Hid (Calls Tryd.prog 29 #[z.v] w6 fun e w2 => e = .returned (.string (str S)) ∧ Below w6.heap.size w6 w2) := (by first | exact HZ.out trivial w3.heap.size HB3.out.size LT3.out z w6 hw6 | exact HZ.out rfl w3.heap.size HB3.out.size LT3.out z w6 hw6); clear hw6)
                  | (go_at_call 29; refine HC6.out.mono ?_; rintro e w7 ⟨rfl, hb7⟩; have HB7 := hidD (below_aft HB6.out hb7); clear hb7)
                  | (go_at_call 10; refine (AW.out _).mono ?_; rintro e w8 ⟨rfl, hb8⟩; have HB8 := hidD (below_aft HB7.out hb8); clear hb8))
                go_ret
                exact ⟨rfl, HB8.out⟩
              · have u1 : (str S).toList = S := str_toList S
                have st1 : Stg 1 := .mk 1
                go_wp2_with (first
                  | (have _s := st1; clear st1 _s; go_at_call 33; refine (CR1.out _).mono ?_; rintro e w3 ⟨⟨y, er, rfl, hy⟩, hb3⟩; have hyy : er = 0 ∧ y.l = l ∧ PAt w3 y p := (by rcases hy with ⟨-, -, h1, h2, h3⟩ | ⟨h, -⟩; exact ⟨h1, h2, h3⟩; exact absurd ⟨rfl, H8.out⟩ h); obtain ⟨rfl, hyl, hyp⟩ := hyy; have HYL := hidD hyl; have HYP := hidD hyp; clear hy hyl hyp; have HB3 := hidD (below_aft HB2.out hb3); have HA3 := hidD (HA2.out.below hb3); have HY3 := hidD (At.new w3 y.o); have h3lt := HA3.out.lt; clear c0 c1 hb3; obtain ⟨c0, c1⟩ := HA3.out.pl; have st2 : Stg 2 := .mk 2)
                  | (go_at_call 28; refine (CS.out _ y (belA HB3.out) (HYP.out.bel (belA (Below.refl _ _))) HYL.out).mono ?_; rintro e w4 ⟨rfl, hb4⟩; have HBX := hidD (below_aft (belA HB3.out) hb4); have HYX := hidD (HY3.out.below hb4); have LT3 : Hid (w3.heap.size < w4.heap.size) := HYX.out.lt; have HA4 := hidD ((HA3.out.alloc y.o).below hb4); clear c0 c1 hb4; obtain ⟨c0, c1⟩ := HA4.out.pl)
                  | (have _s := st2; clear st2 _s; go_at_call 33; refine (C2.out _ HBX.out).mono ?_; rintro e w5 ⟨⟨z, rfl, hz⟩, hb5⟩; have HB5 := hidD (below_aft HBX.out hb5); have HY5 := hidD (HYX.out.below hb5); have HZ := hidD hz; clear hz hb5)
                  | ((with_reducible show wpList _ _ _ (Oper.mk none (Op.store 26 _ _) _ _ _ none :: _) _ _); refine wpl_storeP w3.heap.size y z HY5.out rfl rfl ?_; intro w6 hw6; have HB6 : Hid (Below w.heap.size w w6) := (by rw [hw6]; exact below_s2 HB5.out HB3.out.size z); have HZ6 : Hid (At w6 w3.heap.size z.o) := (by rw [hw6]; exact HY5.out.set2 z); obtain ⟨d0, d1⟩ := HZ6.out.pl; clear hw6)
                  | (go_at_call 10; refine (AW.out _).mono ?_; rintro e w8 ⟨rfl, hb8⟩; have HB8 := hidD (below_aft HB6.out hb8); clear hb8))
                go_ret
                exact ⟨rfl, HB8.out⟩
            · have H8 := hidD h8
              have k8 : ¬ (i : Int) ≤ 8 := by omega
              have k9 : (8 : Int) < (i : Int) := by omega
              have k10 : decide (i ≤ 8) = false := decide_eq_false h8
              have k11 : decide ((i : Int) ≤ 8) = false := decide_eq_false k8
              rcases h09 with rfl | rfl
              · have u1 : (str S).toList = S := str_toList S
                have st1 : Stg 1 := .mk 1
                go_wp2_with (first
                  | (have _s := st1; clear st1 _s; go_at_call 33; refine (CR1.out _).mono ?_; rintro e w3 ⟨⟨y, er, rfl, hy⟩, hb3⟩; have her : er = 90 := (by rcases hy with ⟨-, h, -⟩ | ⟨-, h⟩; exact absurd h H8.out; exact h); subst her; clear hy; have HB3 := hidD (below_aft HB2.out hb3); have HA3 := hidD (HA2.out.below hb3); have HY3 := hidD (At.new w3 y.o); have h3lt := HA3.out.lt; clear c0 c1 hb3; obtain ⟨c0, c1⟩ := HA3.out.pl; have st2 : Stg 2 := .mk 2; have HBX : Hid (Below w.heap.size w (w3.alloc y.o)) := (belA HB3.out); have HYX := HY3; have LT3 : Hid (w3.heap.size < (w3.alloc y.o).heap.size) := (by show w3.heap.size < (w3.alloc y.o).heap.size; simp))
                  | (have _s := st2; clear st2 _s; go_at_call 33; refine (C2.out _ HBX.out).mono ?_; rintro e w5 ⟨⟨z, rfl, hz⟩, hb5⟩; have HB5 := hidD (below_aft HBX.out hb5); have HY5 := hidD (HYX.out.below hb5); have HZ := hidD hz; clear hz hb5)
                  | ((with_reducible show wpList _ _ _ (Oper.mk none (Op.store 26 _ _) _ _ _ none :: _) _ _); refine wpl_storeP w3.heap.size y z HY5.out rfl rfl ?_; intro w6 hw6; have HB6 : Hid (Below w.heap.size w w6) := (by rw [hw6]; exact below_s2 HB5.out HB3.out.size z); have HZ6 : Hid (At w6 w3.heap.size z.o) := (by rw [hw6]; exact HY5.out.set2 z); obtain ⟨d0, d1⟩ := HZ6.out.pl; have HC6 : Hid (Calls Tryd.prog 29 #[z.v] w6 fun e w2 => e = .returned (.string (str S)) ∧ Below w6.heap.size w6 w2) := (by first | exact HZ.out trivial w3.heap.size HB3.out.size LT3.out z w6 hw6 | exact HZ.out rfl w3.heap.size HB3.out.size LT3.out z w6 hw6); clear hw6)
                  | (go_at_call 29; refine HC6.out.mono ?_; rintro e w7 ⟨rfl, hb7⟩; have HB7 := hidD (below_aft HB6.out hb7); clear hb7)
                  | (go_at_call 10; refine (AW.out _).mono ?_; rintro e w8 ⟨rfl, hb8⟩; have HB8 := hidD (below_aft HB7.out hb8); clear hb8))
                go_ret
                exact ⟨rfl, HB8.out⟩
              · have u1 : (str S).toList = S := str_toList S
                have st1 : Stg 1 := .mk 1
                go_wp2_with (first
                  | (have _s := st1; clear st1 _s; go_at_call 33; refine (CR1.out _).mono ?_; rintro e w3 ⟨⟨y, er, rfl, hy⟩, hb3⟩; have her : er = 90 := (by rcases hy with ⟨-, h, -⟩ | ⟨-, h⟩; exact absurd h H8.out; exact h); subst her; clear hy; have HB3 := hidD (below_aft HB2.out hb3); have HA3 := hidD (HA2.out.below hb3); have HY3 := hidD (At.new w3 y.o); have h3lt := HA3.out.lt; clear c0 c1 hb3; obtain ⟨c0, c1⟩ := HA3.out.pl; have st2 : Stg 2 := .mk 2; have HBX : Hid (Below w.heap.size w (w3.alloc y.o)) := (belA HB3.out); have HYX := HY3; have LT3 : Hid (w3.heap.size < (w3.alloc y.o).heap.size) := (by show w3.heap.size < (w3.alloc y.o).heap.size; simp))
                  | (have _s := st2; clear st2 _s; go_at_call 33; refine (C2.out _ HBX.out).mono ?_; rintro e w5 ⟨⟨z, rfl, hz⟩, hb5⟩; have HB5 := hidD (below_aft HBX.out hb5); have HY5 := hidD (HYX.out.below hb5); have HZ := hidD hz; clear hz hb5)
                  | ((with_reducible show wpList _ _ _ (Oper.mk none (Op.store 26 _ _) _ _ _ none :: _) _ _); refine wpl_storeP w3.heap.size y z HY5.out rfl rfl ?_; intro w6 hw6; have HB6 : Hid (Below w.heap.size w w6) := (by rw [hw6]; exact below_s2 HB5.out HB3.out.size z); have HZ6 : Hid (At w6 w3.heap.size z.o) := (by rw [hw6]; exact HY5.out.set2 z); obtain ⟨d0, d1⟩ := HZ6.out.pl; clear hw6)
                  | (go_at_call 10; refine (AW.out _).mono ?_; rintro e w8 ⟨rfl, hb8⟩; have HB8 := hidD (below_aft HB6.out hb8); clear hb8))
                go_ret
                exact ⟨rfl, HB8.out⟩
    · have e1 : bf = true := hbf.2 h60
      subst e1
      have s1 : (4096 : Int) < (S.length : Int) := by omega
      obtain ⟨l, pa, m, pcap⟩ := x
      show Calls Tryd.prog 8 #[plV l pa m pcap, .string (str S)] w _
      clear hP hT hbf A0 hS h60 h4096 HA0
      go_enter Tryd.func8, Tryd.ntmps8
      go_wp2_with (first
        | (go_at_call 9; refine CF.out.mono ?_; rintro e w1 ⟨rfl, hw⟩; have HB1 : Hid (Below w.heap.size w w1) := (by rw [hw]; exact HB0.out); clear hw)
        | (go_at_call 10; refine (AW.out _).mono ?_; rintro e w8 ⟨rfl, hb8⟩; have HB8 := hidD (below_aft HB1.out hb8); clear hb8))
      go_ret
      exact ⟨rfl, HB8.out⟩
  · have e1 : bf = false := by
      cases hh : bf with
      | false => rfl
      | true => exact absurd (hbf.1 hh) h60
    subst e1
    obtain ⟨l, pa, m, pcap⟩ := x
    show Calls Tryd.prog 8 #[plV l pa m pcap, .string (str S)] w _
    clear hP hT hbf A0 hS h60 HA0
    go_enter Tryd.func8, Tryd.ntmps8
    go_wp2_with (first
      | (go_at_call 9; refine CF.out.mono ?_; rintro e w1 ⟨rfl, hw⟩; have HB1 : Hid (Below w.heap.size w w1) := (by rw [hw]; exact HB0.out); clear hw)
      | (go_at_call 10; refine (AW.out _).mono ?_; rintro e w8 ⟨rfl, hb8⟩; have HB8 := hidD (below_aft HB1.out hb8); clear hb8))
    go_ret
    exact ⟨rfl, HB8.out⟩
end Go.Proofs.YtnohcppipkpgmaaDoor
