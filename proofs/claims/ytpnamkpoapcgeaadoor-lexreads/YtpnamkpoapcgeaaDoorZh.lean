import Derived.Test.YtpnamkpoapcgeaaDoorZg
namespace Go.Proofs.YtpnamkpoapcgeaaDoor
open Go.RowKit Go.Shelf
attribute [local go_sem] Oper.semAt_some
set_option linter.unusedVariables false
set_option linter.unusedSimpArgs false

theorem keeps_below {W W' : World} (h : Below W.heap.size W W') : KeepsOthers W W' := KeepsOthers.of_grownBy (grown_of_below (r := none) h) (fun j o e => by cases e)
set_option maxRecDepth 100000 in
set_option maxHeartbeats 4000000 in
theorem lexReads_long (S : List UInt8) (few : Int) (w : World) (hm : S.length ≤ maxLen) (hbig : 16384 < S.length) :
    Calls Tryd.prog 3 #[.string (str S), .int .i64 few] w fun e w' => e = .returned (.bool true) ∧ Below w.heap.size w w' := by
  have hsz := str_size S
  have hgt : (16384 : Int) < (S.length : Int) := by omega
  have HA : Hid (∀ W, Calls Tryd.prog 9 #[] W fun e w' => e = .returned (.bool true) ∧ Below W.heap.size W w') := awake_any
  have A4 := at_snd w (One (.int .i64 few) 3) (One (.bool false) 4)
  go_enter Tryd.func3, Tryd.ntmps3
  go_wp2_with (first | (go_at_call 9; refine (HA.out _).mono ?_; rintro e w1 ⟨rfl, hb1⟩; obtain ⟨c4, f4⟩ := (A4.below hb1).one))
  have hcr := World.cell?_setCell_same' w1 ⟨w.heap.size + 1, 0, none⟩ (.bool true) (by rw [c4]; rfl)
  refine ⟨rfl, .bool true, ?_, rfl, (below2 hb1).setCell (p := ⟨w.heap.size + 1, 0, none⟩) (by simp) _⟩
  simp [results, Tryd.results3, go_sem, hcr]

set_option maxRecDepth 100000 in
set_option maxHeartbeats 8000000 in
theorem lexReads_walk (S : List UInt8) (few : Int) (w : World) (hm : S.length ≤ maxLen) :
    Calls Tryd.prog 3 #[.string (str S), .int .i64 few] w fun e w' => e = .returned (.bool true) ∧ Below w.heap.size w w' := by
  by_cases hbig : 16384 < S.length
  · exact lexReads_long S few w hm hbig
  have hsz := str_size S
  have hgt : ¬ (16384 : Int) < (S.length : Int) := by omega
  obtain ⟨p, er, h10, h11⟩ := lex_both S (by omega)
  have hts : (lexToks S).length ≤ 65536 := by have := lexToks_len S; omega
  have HE : Hid (∀ W, Calls Tryd.prog 13 #[.string (str S)] W fun e w' => ∃ b v, e = .returned (.func (.func 54) #[] #[.pointer (some ⟨b, 0, none⟩)]) ∧ At w' b (One v 23) ∧ TRow w' W.heap.size v (lexToks S) ∧ Below W.heap.size W w') := each_any S hm
  generalize lexToks S = ts at *
  have H10 : Hid (∀ W, Calls Tryd.prog 10 #[.string (str S)] W fun e w' => ∃ v, e = .returned (.tuple #[v, .int .i64 p, .int .i64 er]) ∧ TRow w' W.heap.size v ts ∧ Below W.heap.size W w') := h10
  have H11 : Hid (∀ W, Calls Tryd.prog 11 #[.string (str S)] W fun e w' => ∃ v, e = .returned (.tuple #[v, .int .i64 p, .int .i64 er]) ∧ TRow w' W.heap.size v ts ∧ Below W.heap.size W w') := h11
  clear h10 h11
  obtain ⟨W0, hW0⟩ : ∃ W0, W0 = (w.alloc (One (.int .i64 few) 3)).alloc (One (.bool false) 4) := ⟨_, rfl⟩
  have A3 : At W0 w.heap.size (One (.int .i64 few) 3) := by rw [hW0]; exact (At.new w _).alloc _
  have A4 : At W0 (w.heap.size + 1) (One (.bool false) 4) := by rw [hW0]; exact at_snd w _ _
  have BW : Below w.heap.size w W0 := by rw [hW0]; exact ((Below.refl _ _).alloc (Nat.le_refl _) _).alloc (by simp) _
  have HW0 : Hid ((w.alloc (.cells #[.int .i64 few] 3)).alloc (.cells #[.bool false] 4) = W0) := hW0.symm
  have hs0 : W0.heap.size = w.heap.size + 1 + 1 := by rw [hW0]; simp
  have HS0 : Hid (W0.heap.size = w.heap.size + 1 + 1) := hs0
  clear hW0 hs0
  have HTS : Hid (ts.length ≤ 65536) := hts
  clear hts
  refine (callsIn_wide (n := 4)).1 ?_
  refine callsIn_of_wp_marks Tryd.func3 rfl trivial ?_ rfl
  simp only [Tryd.ntmps3, List.size_toArray, List.length_cons, List.length_nil, Nat.reduceAdd, Nat.reduceSub, Array.replicate_succ, Array.replicate_zero, List.push_toArray, List.append_toArray, List.nil_append, List.cons_append]
  gi_wp2_with (first
    | (refine ⟨trivial, ?_⟩; gi_at_call 10; have _hh := R1; refine (callsIn_wide.2 (H10.out _)).mono ?_; rintro e w2 ⟨v2, rfl, R2, hb2⟩; obtain ⟨a2, c2, rfl, T2, G2⟩ := trow_at R2)
    | (refine ⟨trivial, ?_⟩; gi_at_call 10; rw [HW0.out]; refine (callsIn_wide.2 (H10.out _)).mono ?_; rintro e w1 ⟨v1, rfl, R1, hb1⟩; obtain ⟨a1, c1, rfl, T1, G1⟩ := trow_at R1)
    | (refine ⟨trivial, ?_⟩; gi_at_call 11; refine (callsIn_wide.2 (H11.out _)).mono ?_; rintro e w3 ⟨v3, rfl, R3, hb3⟩; obtain ⟨a3, c3, rfl, T3, G3⟩ := trow_at R3; have A11 := At.new w3 (One (.slice a3 ts.length c3) 23); obtain ⟨c11, f11⟩ := A11.one)
    | (refine ⟨trivial, ?_⟩; gi_at_call 12; refine (callsIn_wide.2 (sameTokens_ok ts a1 a3 c1 c3 _ (((T1.below hb2).below hb3).below (belA (Below.refl _ _))) (T3.below (belA (Below.refl _ _))) HTS.out)).mono ?_; rintro e w5 ⟨rfl, hb5⟩))
  have hs12 := hb2.size
  have hs23 := hb3.size
  have hs01 := hb1.size
  have B3 : Below w1.heap.size w1 w5 := (hb2.trans ((belA hb3 (o := One (.slice a3 ts.length c3) 23)).mono hs12)).trans (hb5.mono (by simp; omega))
  have B5 : Below W0.heap.size W0 w5 := hb1.trans (B3.mono hs01)
  have hs5 : w3.heap.size + 1 ≤ w5.heap.size := by have := hb5.size; simpa using this
  have D2 : TAt w5 a2 ts := (T2.below (belA hb3 (o := One (.slice a3 ts.length c3) 23))).below hb5
  have D3 : TAt w5 a3 ts := (T3.below (belA (Below.refl _ _) (o := One (.slice a3 ts.length c3) 23))).below hb5
  have D11 := A11.below hb5
  have hraw : ts ≠ [] → ∃ g cur, a1 = some ⟨g, 0, none⟩ ∧ W0.heap.size ≤ g ∧ g < w1.heap.size ∧ At w5 g (.cells cur 32 (0, 0)) ∧ ts.length * 4 ≤ cur.size := fun hne => by
    obtain ⟨g, c, cur, e, h1, h2, h3⟩ := trow_raw R1 hne
    cases e
    exact ⟨g, cur, rfl, h1, h2.lt, h2.below B3, h3⟩
  clear R1 R2 R3 T1 T2 T3 A11 c11 f11 hb1 hb2 hb3 hb5 B3 H10 H11
  obtain ⟨g, hg⟩ : ∃ g, g = blkOr a1 w1.heap.size := ⟨_, rfl⟩
  have hraw' : ts ≠ [] → ∃ cur, a1 = some ⟨g, 0, none⟩ ∧ W0.heap.size ≤ g ∧ g < w1.heap.size ∧ At w5 g (.cells cur 32 (0, 0)) ∧ ts.length * 4 ≤ cur.size := fun hne => by
    obtain ⟨g', cur, e, h1, h2, h3, h4⟩ := hraw hne
    have : g = g' := by rw [hg, e]; rfl
    subst this
    exact ⟨cur, e, h1, h2, h3, h4⟩
  have HRAW : Hid (ts ≠ [] → a1 = some ⟨g, 0, none⟩ ∧ W0.heap.size ≤ g ∧ g < w1.heap.size) := fun h => by
    obtain ⟨_, h1, h2, h3, _⟩ := hraw' h
    exact ⟨h1, h2, h3⟩
  have hgoal := hraw'
  clear hraw hraw' hg
  gi_loopw [14] (fun i W => ∃ k : Nat, k ≤ ts.length ∧ i = .int .i64 k ∧ Below W0.heap.size W0 W ∧ W.heap.size = w5.heap.size ∧ (∀ b, (ts ≠ [] → b ≠ g) → W.heap[b]? = w5.heap[b]?) ∧ (ts ≠ [] → ∃ cur, At W g (.cells cur 32 (0, 0)) ∧ ts.length * 4 ≤ cur.size)) (fun i _ => ts.length - (intOf i).toNat)
  case atStart => exact ⟨0, Nat.zero_le _, rfl, B5, rfl, fun _ _ => rfl, fun h => by obtain ⟨cur, _, _, _, h1, h2⟩ := hgoal h; exact ⟨cur, h1, h2⟩⟩
  case round =>
  obtain ⟨k, hk, rfl, hB, hsz5, hother, hrow⟩ := hrel
  by_cases hlt : k < ts.length
  · have hne : ts ≠ [] := by rintro rfl; simp at hlt
    obtain ⟨rfl, hWg, hg1⟩ := HRAW.out hne
    obtain ⟨cur, hA, hcur⟩ := hrow hne
    obtain ⟨c0, f0⟩ := row_cells hA (k * 4) (by omega)
    obtain ⟨c1', f1⟩ := row_cells hA (k * 4 + 1) (by omega)
    obtain ⟨c2', f2⟩ := row_cells hA (k * 4 + 2) (by omega)
    obtain ⟨c3', f3⟩ := row_cells hA (k * 4 + 3) (by omega)
    generalize cur[k * 4] = u0 at c0
    generalize cur[k * 4 + 1] = u1 at c1'
    generalize cur[k * 4 + 2] = u2 at c2'
    generalize cur[k * 4 + 3] = u3 at c3'
    have g1' : (0 : Int) ≤ (k : Int) := by omega
    have g2' : (k : Int) < (ts.length : Int) := by omega
    have hT := HTS.out
    have w3' : IntKind.i64.wrap ((k : Int) + 1) = (k : Int) + 1 := by rw [IntKind.wrap_i64]; omega
    clear hgoal D2 D3 D11 hrow hT
    gi_wp2
    refine ⟨⟨k + 1, by omega, by go_num, setTokAt_below hB hWg (k * 4) 0 0 0 ⟨#[111, 118, 101, 114]⟩, (setTokAt_size wr g (k * 4) 0 0 0 ⟨#[111, 118, 101, 114]⟩).trans hsz5, fun b hb => (setTokAt_heap wr g (k * 4) b 0 0 0 ⟨#[111, 118, 101, 114]⟩ (hb hne)).trans (hother b hb), fun _ => ?_⟩, by simp [intOf]; omega⟩
    obtain ⟨cur', h1, h2⟩ := setTokAt_row hA (k * 4) 0 0 0 ⟨#[111, 118, 101, 114]⟩
    exact ⟨cur', h1, by omega⟩
  · obtain rfl : k = ts.length := by omega
    have E2 : TAt wr a2 ts := fun hn => tat_off D2 (fun b hb => hother b (fun _ => hb)) (fun g' e => by have := (G2 g' e).1; have := (HRAW.out hn).2.2; omega) hn
    have E3 : TAt wr a3 ts := fun hn => tat_off D3 (fun b hb => hother b (fun _ => hb)) (fun g' e => by have := (G3 g' e).1; have := (HRAW.out hn).2.2; omega) hn
    have E11 : At wr w3.heap.size (One (.slice a3 ts.length c3) 23) := (hother w3.heap.size (fun hn => by have := (HRAW.out hn).2.2; omega)).trans D11
    clear hgoal D2 D3 D11 hrow hother hlt HRAW
    gi_wp2_with (first
      | (refine ⟨trivial, ?_⟩; gi_at_call 13; refine (callsIn_wide.2 (HE.out _)).mono ?_; rintro e w6 ⟨bx, v, rfl, hbx, RI, hb6⟩; obtain ⟨ia, ic, rfl, TI, GI⟩ := trow_at RI; have hef := eql_func 54 #[.pointer (some ⟨bx, 0, none⟩)]; have F11 := E11.below hb6; obtain ⟨c11, f11⟩ := F11.one)
      | (refine ⟨trivial, ?_⟩; gi_at_call 12; refine (callsIn_wide.2 (sameTokens_ok ts a2 a3 c2 c3 _ (E2.below hb6) (E3.below hb6) HTS.out)).mono ?_; rintro e w7 ⟨rfl, hb7⟩))
    have B6 := below_aft hB hb6
    have B7 := below_aft B6 hb7
    have hbxl := hbx.lt
    have hs7 := hb7.size
    have hgb : blkOr ia bx < w7.heap.size := by
      unfold blkOr
      cases hia : ia with
      | none => simp; omega
      | some q => have := (GI q.block (by rw [hia]; rfl)).2; simp; omega
    refine reads_loop few w.heap.size (w.heap.size + 1) w3.heap.size bx ts a3 c3 ia ic w7 (A3.below B7) (A4.below B7) (F11.below hb7) ((E3.below hb6).below hb7) (hbx.below hb7) (TI.below hb7) hgb HTS.out _ _ _ _ _ _ _ _ _ _ _ _ _ _ _ _ _ _ _ _ _ _ _ _ _ _ _ _ _ _ _ _ _ _ _ _ _ _ _ _ _ _ _ _ _ _ _ _ _ _ _ _ _ _ _ _ _ _ _ _ _ _ _ _ _ _ _ _ _ _ _ _ _ _ _ _ _ _ _ _ _ _ _ _ _ _ _ _ _ _ _ _ _ _ _ _ _ _ _ _ _ _ _ _ _ _ _ _ _ _ _ _ _ ?_
    clear E2 E3 E11 F11 TI RI hbx c11 f11 hef
    intro D1 D2 b16 u17 u18 u75 u76 u77 u78 u79 u80 u81 u82 u83 u84 u85 u86 u87 u88 u89 u90 u91 u92 u93 u94 u95 u96 u97 u98 u99 u100 u101 u102 u103 u104 u105 u106 u107 u108 u109 u110 u111 u112 u113 u114 u115 V hBV hKV hD1 hD2 hDne
    have BV := below_aft B7 hBV
    have hBwV := below_aft BW BV
    have hs0 := HS0.out
    have hsz7 : w.heap.size + 1 + 1 ≤ w7.heap.size := by have := B7.size; omega
    gi_wp2_with (first
      | (refine ⟨trivial, ?_⟩; gi_at_call 9; refine (callsIn_wide.2 (awake_any _)).mono ?_; rintro e y2 ⟨rfl, hy2⟩; have A4z := (A4.below BV).below hy2; obtain ⟨c4, f4⟩ := A4z.one))
    have M2 := (keeps_below hy2).trans (KeepsOthers.setCell y2 ⟨w.heap.size + 1, 0, none⟩ (.bool true))
    have hK2 := M2.same D2 _ (hKV D2 (by simp)) rfl
    have hK1 := M2.same D1 _ (hKV D1 (by simp)) rfl
    have M3 := (below_aft hBwV hy2).setCell (p := ⟨w.heap.size + 1, 0, none⟩) (by simp) (.bool true)
    have hcr := World.cell?_setCell_same' y2 ⟨w.heap.size + 1, 0, none⟩ (.bool true) (by rw [c4]; rfl)
    generalize hWr : y2.setCell ⟨w.heap.size + 1, 0, none⟩ (.bool true) = Wr at *
    refine ⟨by simp, .inl ⟨_, _, rfl, run_takeDeferred hK2, ?_⟩⟩
    have hcr2 := cell_kept hcr (grownBy_putObj' _ D2 (.deferred none)) (fun r e => by cases e; exact ⟨_, hK2, rfl⟩)
    have M4 := M3.trans (belowK_b (w := w) (Nat.le_refl _) _ D2 _ (.deferred none) (by omega) hK2 rfl rfl)
    have hK1' : (Wr.putObj D2 (.deferred none)).heap[D1]? = some (.deferred (some [])) := (World.putObj_heap_other hDne.symm).trans hK1
    refine ⟨by simp, .inl ⟨_, _, rfl, run_takeDeferred hK1', ?_⟩⟩
    have hcr3 := cell_kept hcr2 (grownBy_putObj' _ D1 (.deferred none)) (fun r e => by cases e; exact ⟨_, hK1', rfl⟩)
    have M5 := M4.trans (belowK_b (w := w) (Nat.le_refl _) _ D1 _ (.deferred none) (by omega) hK1' rfl rfl)
    refine ⟨.bool true, ?_, rfl, M5⟩
    simp [results, Tryd.results3, go_sem, hcr3]
end Go.Proofs.YtpnamkpoapcgeaaDoor
