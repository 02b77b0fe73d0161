import Derived.Test.YtpnamkpoapcgeaaDoorTe
namespace Go.Proofs.YtpnamkpoapcgeaaDoor
open Go.RowKit Go.Shelf
attribute [local go_sem] Oper.semAt_some
set_option linter.unusedVariables false
set_option linter.unusedSimpArgs false

/-- What is said of a panic does not hang on the frame. -/
def CalmP (Q : Exit → Act → World → Prop) : Prop := ∀ c (a : Act) (d : Tmp) (v : Value) (w : World), Q (.panic c) (a.put (some d) v) w → Q (.panic c) a w
theorem beginH {P : Program} {ops : Array Oper} {Q : Exit → Act → World → Prop} {S : World → Prop} {id : Nat} {a : Act} {w : World} (hq : CalmP Q) (hm : P.follows .mixedOrders = true) (hS : S w.drew)
    (h : CalmP Q → S w.drew → wpAnyH P .any ops Q S ops.size (Array.replicate ops.size false) a w.drew) : (Code.region id ops true).wp P Q a w :=
  wp_region_held_drew hm hS (h hq)
theorem takeH {P : Program} {ops : Array Oper} {Q : Exit → Act → World → Prop} {S : World → Prop} {md : Region.Mode} {i d : Nat} {oi : Oper} (v : Value) {fuel : Nat} {listed : Array Bool} {a : Act} {w : World} (hq : CalmP Q) (hi : ops[i]? = some oi) (hd : oi.dst = some d)
    (hs : Region.noSelect ops = true) (hf : Region.free md ops listed i = true) (hr : (Region.ready md ops listed).contains i = true)
    (hw : Region.wanted oi (yielded ops a.tmps) = true) (hy : ∀ w, S w → (execOp a.eval oi).run P w = .ok (.value v) w) (hS : S w)
    (h : wpAnyH P md ops Q S fuel (listed.setIfInBounds i true) (a.put (some d) v) w) : wpAnyH P md ops Q S (fuel + 1) listed a w :=
  wpAnyH_take hi hs hf hr (fun c a w h => hq c a d _ w (hd ▸ h)) (Or.inl ⟨hw, hy⟩) hS (hd ▸ h)
theorem skipH {P : Program} {ops : Array Oper} {Q : Exit → Act → World → Prop} {S : World → Prop} {md : Region.Mode} {i d : Nat} {oi : Oper} {fuel : Nat} {listed : Array Bool} {a : Act} {w : World} (hq : CalmP Q) (hi : ops[i]? = some oi) (hd : oi.dst = some d)
    (hs : Region.noSelect ops = true) (hf : Region.free md ops listed i = true) (hr : (Region.ready md ops listed).contains i = true)
    (hw : Region.wanted oi (yielded ops a.tmps) = false) (hS : S w)
    (h : wpAnyH P md ops Q S fuel (listed.setIfInBounds i true) (a.put (some d) undef) w) : wpAnyH P md ops Q S (fuel + 1) listed a w :=
  wpAnyH_take hi hs hf hr (fun c a w h => hq c a d _ w (hd ▸ h)) (Or.inr ⟨hw, rfl⟩) hS (hd ▸ h)
set_option maxRecDepth 100000 in
set_option maxHeartbeats 4000000 in
theorem clash_len (a b : Tz) (L : List Tk) (w : World) (ha : a.s.length ≤ 140737488355328) (hb : b.s.length ≤ 140737488355328) (hTa : (tzText a).length ≤ 140737488355328) (hTb : (tzText b).length ≤ 140737488355328)
    (hna : ∀ W, Below w.heap.size w W → Num W a) (hnb : ∀ W, Below w.heap.size w W → Num W b) (hL : lexToks (tzText a ++ tzText b) = L) (h2 : L.length ≠ 2) :
    Calls Tryd.prog 41 #[tzV a, tzV b] w fun e w' => e = .returned (.bool true) ∧ Below w.heap.size w w' := by
  obtain ⟨ak, ap, an, za⟩ := a
  obtain ⟨bk, bp, bn, zb⟩ := b
  have HTa : Hid (∀ W, Below w.heap.size w W → Calls Tryd.prog 34 #[tok ak ap an (str za)] W fun e w' => e = .returned (.string (str (tzText ⟨ak, ap, an, za⟩))) ∧ Below W.heap.size W w') := fun W hW => textOf_any ⟨ak, ap, an, za⟩ W ha (hna _ (hW.alloc hW.size _))
  have HTb : Hid (∀ W, Below w.heap.size w W → Calls Tryd.prog 34 #[tok bk bp bn (str zb)] W fun e w' => e = .returned (.string (str (tzText ⟨bk, bp, bn, zb⟩))) ∧ Below W.heap.size W w') := fun W hW => textOf_any ⟨bk, bp, bn, zb⟩ W hb (hnb _ (hW.alloc hW.size _))
  generalize tzText ⟨ak, ap, an, za⟩ = Ta at *
  generalize tzText ⟨bk, bp, bn, zb⟩ = Tb at *
  have HL : Hid (∀ W, Calls Tryd.prog 10 #[.string (str Ta ++ str Tb)] W fun e w' => ∃ (v : Value) (p er : Int), e = .returned (.tuple #[v, .int .i64 p, .int .i64 er]) ∧ TRow w' W.heap.size v L ∧ Below W.heap.size W w') := fun W => by
    rw [str_append, ← hL]; exact lex_row W _ (by rw [List.length_append]; unfold maxLen; omega)
  have hsa := str_size Ta
  have hsb := str_size Tb
  have hle : ¬ (9223372036854775807 < Ta.length + Tb.length) := by omega
  have A1 := (At.new w (Tok ak ap an (str za))).alloc (Tok bk bp bn (str zb))
  have A2 := at_snd w (Tok ak ap an (str za)) (Tok bk bp bn (str zb))
  have B0 : Below w.heap.size w ((w.alloc (Tok ak ap an (str za))).alloc (Tok bk bp bn (str zb))) := belA (belA (Below.refl _ _))
  obtain ⟨c0, c1, c2, c3, cf⟩ := A1.tok
  obtain ⟨d0, d1, d2, d3, df⟩ := A2.tok
  clear hL
  go_enter Tryd.func41, Tryd.ntmps41
  go_wp2
  generalize (w.alloc (Tok ak ap an (str za))).alloc (Tok bk bp bn (str zb)) = U at *
  have KS : Hid (∀ W', Below U.heap.size U W' → (fun W' => Below U.heap.size U W' ∧ W'.cell? ⟨w.heap.size, 0, none⟩ = some (.int .u8 ak) ∧ W'.cell? ⟨w.heap.size, 1, none⟩ = some (.int .i64 ap) ∧ W'.cell? ⟨w.heap.size, 2, none⟩ = some (.int .i64 an) ∧ W'.cell? ⟨w.heap.size, 3, none⟩ = some (.string (str za))
    ∧ W'.cell? ⟨w.heap.size + 1, 0, none⟩ = some (.int .u8 bk) ∧ W'.cell? ⟨w.heap.size + 1, 1, none⟩ = some (.int .i64 bp) ∧ W'.cell? ⟨w.heap.size + 1, 2, none⟩ = some (.int .i64 bn) ∧ W'.cell? ⟨w.heap.size + 1, 3, none⟩ = some (.string (str zb))) W') := fun W' h => by
    obtain ⟨e0, e1, e2, e3, _⟩ := (A1.below h).tok
    obtain ⟨g0, g1, g2, g3, _⟩ := (A2.below h).tok
    exact ⟨h, e0, e1, e2, e3, g0, g1, g2, g3⟩
  go_region_held3 (fun W' => Below U.heap.size U W' ∧ W'.cell? ⟨w.heap.size, 0, none⟩ = some (.int .u8 ak) ∧ W'.cell? ⟨w.heap.size, 1, none⟩ = some (.int .i64 ap) ∧ W'.cell? ⟨w.heap.size, 2, none⟩ = some (.int .i64 an) ∧ W'.cell? ⟨w.heap.size, 3, none⟩ = some (.string (str za))
    ∧ W'.cell? ⟨w.heap.size + 1, 0, none⟩ = some (.int .u8 bk) ∧ W'.cell? ⟨w.heap.size + 1, 1, none⟩ = some (.int .i64 bp) ∧ W'.cell? ⟨w.heap.size + 1, 2, none⟩ = some (.int .i64 bn) ∧ W'.cell? ⟨w.heap.size + 1, 3, none⟩ = some (.string (str zb)))
    (first | (exact KS.out _ (Below.refl _ _).drew) | (exact KS.out _ hbb) | go_keep)
    (first
      | (go_at_call 34; (with_reducible show Calls _ _ #[.agg #[.int .u8 ak, _, _, _]] _ _); refine (HTa.out _ (below_aft B0 (Below.refl _ _).drew)).mono ?_; rintro e w1 ⟨rfl, hb1⟩; have hbb : Below U.heap.size U w1 := (Below.refl _ _).drew.trans (hb1.mono (Nat.le_refl _)))
      | (go_at_call 34; (with_reducible show Calls _ _ #[.agg #[.int .u8 bk, _, _, _]] _ _); refine (HTb.out _ (below_aft B0 hbb)).mono ?_; rintro e w2 ⟨rfl, hb2⟩; replace hbb := below_aft hbb hb2)
      | (go_at_call 10; refine (HL.out _).mono ?_; rintro e w3 ⟨v, p, er, rfl, hrow, hb3⟩; have hW2 := hbb; replace hbb := below_aft hbb hb3))
  obtain ⟨sa, sc, rfl, hta, _⟩ := trow_at hrow
  have h2d : ((L.length : Int) != 2) = true := by simpa using (by omega : ¬ (L.length : Int) = 2)
  have BW : Below w.heap.size w w3 := below_aft B0 hbb
  go_wp2
  go_quiet (fail)
  go_wp2
  go_ret
  exact ⟨rfl, below_drewN BW _⟩
set_option maxRecDepth 100000 in
set_option maxHeartbeats 4000000 in
theorem clash_one (a b : Tz) (x y : Tk) (w : World) (ha : a.s.length ≤ 140737488355328) (hb : b.s.length ≤ 140737488355328) (hTa : (tzText a).length ≤ 140737488355328) (hTb : (tzText b).length ≤ 140737488355328)
    (hna : ∀ W, Below w.heap.size w W → Num W a) (hnb : ∀ W, Below w.heap.size w W → Num W b) (hL : lexToks (tzText a ++ tzText b) = [x, y]) (hx : tzSame (tkZ x) a = false) :
    Calls Tryd.prog 41 #[tzV a, tzV b] w fun e w' => e = .returned (.bool true) ∧ Below w.heap.size w w' := by
  obtain ⟨ak, ap, an, za⟩ := a
  obtain ⟨bk, bp, bn, zb⟩ := b
  have HTa : Hid (∀ W, Below w.heap.size w W → Calls Tryd.prog 34 #[tok ak ap an (str za)] W fun e w' => e = .returned (.string (str (tzText ⟨ak, ap, an, za⟩))) ∧ Below W.heap.size W w') := fun W hW => textOf_any ⟨ak, ap, an, za⟩ W ha (hna _ (hW.alloc hW.size _))
  have HTb : Hid (∀ W, Below w.heap.size w W → Calls Tryd.prog 34 #[tok bk bp bn (str zb)] W fun e w' => e = .returned (.string (str (tzText ⟨bk, bp, bn, zb⟩))) ∧ Below W.heap.size W w') := fun W hW => textOf_any ⟨bk, bp, bn, zb⟩ W hb (hnb _ (hW.alloc hW.size _))
  generalize tzText ⟨ak, ap, an, za⟩ = Ta at *
  generalize tzText ⟨bk, bp, bn, zb⟩ = Tb at *
  have HL : Hid (∀ W, Calls Tryd.prog 10 #[.string (str Ta ++ str Tb)] W fun e w' => ∃ (v : Value) (p er : Int), e = .returned (.tuple #[v, .int .i64 p, .int .i64 er]) ∧ TRow w' W.heap.size v [x, y] ∧ Below W.heap.size W w') := fun W => by
    rw [str_append, ← hL]; exact lex_row W _ (by rw [List.length_append]; unfold maxLen; omega)
  have hsa := str_size Ta
  have hsb := str_size Tb
  have hle : ¬ (9223372036854775807 < Ta.length + Tb.length) := by omega
  have A1 := (At.new w (Tok ak ap an (str za))).alloc (Tok bk bp bn (str zb))
  have A2 := at_snd w (Tok ak ap an (str za)) (Tok bk bp bn (str zb))
  have B0 : Below w.heap.size w ((w.alloc (Tok ak ap an (str za))).alloc (Tok bk bp bn (str zb))) := belA (belA (Below.refl _ _))
  obtain ⟨c0, c1, c2, c3, cf⟩ := A1.tok
  obtain ⟨d0, d1, d2, d3, df⟩ := A2.tok
  clear hL
  go_enter Tryd.func41, Tryd.ntmps41
  go_wp2
  generalize (w.alloc (Tok ak ap an (str za))).alloc (Tok bk bp bn (str zb)) = U at *
  have KS : Hid (∀ W', Below U.heap.size U W' → (fun W' => Below U.heap.size U W' ∧ W'.cell? ⟨w.heap.size, 0, none⟩ = some (.int .u8 ak) ∧ W'.cell? ⟨w.heap.size, 1, none⟩ = some (.int .i64 ap) ∧ W'.cell? ⟨w.heap.size, 2, none⟩ = some (.int .i64 an) ∧ W'.cell? ⟨w.heap.size, 3, none⟩ = some (.string (str za))
    ∧ W'.cell? ⟨w.heap.size + 1, 0, none⟩ = some (.int .u8 bk) ∧ W'.cell? ⟨w.heap.size + 1, 1, none⟩ = some (.int .i64 bp) ∧ W'.cell? ⟨w.heap.size + 1, 2, none⟩ = some (.int .i64 bn) ∧ W'.cell? ⟨w.heap.size + 1, 3, none⟩ = some (.string (str zb))) W') := fun W' h => by
    obtain ⟨e0, e1, e2, e3, _⟩ := (A1.below h).tok
    obtain ⟨g0, g1, g2, g3, _⟩ := (A2.below h).tok
    exact ⟨h, e0, e1, e2, e3, g0, g1, g2, g3⟩
  go_region_held3 (fun W' => Below U.heap.size U W' ∧ W'.cell? ⟨w.heap.size, 0, none⟩ = some (.int .u8 ak) ∧ W'.cell? ⟨w.heap.size, 1, none⟩ = some (.int .i64 ap) ∧ W'.cell? ⟨w.heap.size, 2, none⟩ = some (.int .i64 an) ∧ W'.cell? ⟨w.heap.size, 3, none⟩ = some (.string (str za))
    ∧ W'.cell? ⟨w.heap.size + 1, 0, none⟩ = some (.int .u8 bk) ∧ W'.cell? ⟨w.heap.size + 1, 1, none⟩ = some (.int .i64 bp) ∧ W'.cell? ⟨w.heap.size + 1, 2, none⟩ = some (.int .i64 bn) ∧ W'.cell? ⟨w.heap.size + 1, 3, none⟩ = some (.string (str zb)))
    (first | (exact KS.out _ (Below.refl _ _).drew) | (exact KS.out _ hbb) | go_keep)
    (first
      | (go_at_call 34; (with_reducible show Calls _ _ #[.agg #[.int .u8 ak, _, _, _]] _ _); refine (HTa.out _ (below_aft B0 (Below.refl _ _).drew)).mono ?_; rintro e w1 ⟨rfl, hb1⟩; have hbb : Below U.heap.size U w1 := (Below.refl _ _).drew.trans (hb1.mono (Nat.le_refl _)))
      | (go_at_call 34; (with_reducible show Calls _ _ #[.agg #[.int .u8 bk, _, _, _]] _ _); refine (HTb.out _ (below_aft B0 hbb)).mono ?_; rintro e w2 ⟨rfl, hb2⟩; replace hbb := below_aft hbb hb2)
      | (go_at_call 10; refine (HL.out _).mono ?_; rintro e w3 ⟨v, p, er, rfl, hrow, hb3⟩; have hW2 := hbb; replace hbb := below_aft hbb hb3))
  obtain ⟨g, cp, rfl, hg1, hg2, hcp, hcell⟩ := row_two hrow
  have HS1 : Hid (∀ W, Calls Tryd.prog 69 #[tok x.k x.p x.n (str x.s), tok ak ap an (str za)] W fun e w' => e = .returned (.bool false) ∧ Below W.heap.size W w') := fun W => by
    rw [← hx]; exact same_any (tkZ x) ⟨ak, ap, an, za⟩ W
  have BW : Below w.heap.size w w3 := below_aft B0 hbb
  replace A1 := A1.below hbb
  have k0 := hcell 0 _ rfl
  have k1 := hcell 1 _ rfl
  have k2 := hcell 2 _ rfl
  have k3 := hcell 3 _ rfl
  clear KS HTa HTb HL A2 hcell hrow hx
  have KS3 : Hid (∀ W', Below w3.heap.size w3 W' → (Below w3.heap.size w3 W' ∧ W'.cell? ⟨w.heap.size, 0, none⟩ = some (.int .u8 ak) ∧ W'.cell? ⟨w.heap.size, 1, none⟩ = some (.int .i64 ap) ∧ W'.cell? ⟨w.heap.size, 2, none⟩ = some (.int .i64 an) ∧ W'.cell? ⟨w.heap.size, 3, none⟩ = some (.string (str za)) ∧ W'.cell? ⟨g, 0, none⟩ = some (.int .u8 x.k) ∧ W'.cell? ⟨g, 1, none⟩ = some (.int .i64 x.p) ∧ W'.cell? ⟨g, 2, none⟩ = some (.int .i64 x.n) ∧ W'.cell? ⟨g, 3, none⟩ = some (.string (str x.s)))) := fun W' h => by
    obtain ⟨e0, e1, e2, e3, _⟩ := (A1.below h).tok
    exact ⟨h, e0, e1, e2, e3, (h.cell hg2).trans k0, (h.cell hg2).trans k1, (h.cell hg2).trans k2, (h.cell hg2).trans k3⟩
  go_wp2
  refine beginH (S := fun W' => Below w3.heap.size w3 W' ∧ W'.cell? ⟨w.heap.size, 0, none⟩ = some (.int .u8 ak) ∧ W'.cell? ⟨w.heap.size, 1, none⟩ = some (.int .i64 ap) ∧ W'.cell? ⟨w.heap.size, 2, none⟩ = some (.int .i64 an) ∧ W'.cell? ⟨w.heap.size, 3, none⟩ = some (.string (str za)) ∧ W'.cell? ⟨g, 0, none⟩ = some (.int .u8 x.k) ∧ W'.cell? ⟨g, 1, none⟩ = some (.int .i64 x.p) ∧ W'.cell? ⟨g, 2, none⟩ = some (.int .i64 x.n) ∧ W'.cell? ⟨g, 3, none⟩ = some (.string (str x.s))) (fun _ _ _ _ _ h => h) (by kernel_rfl) (KS3.out _ (Below.refl _ _).drew) (fun hq hHeld => ?_)
  refine takeH (i := 0) (d := 18) (.slice (some ⟨g, 0, none⟩) 2 cp) hq rfl rfl (by kernel_rfl) (by kernel_rfl) (by kernel_rfl) (by rfl) (fun W hSw => by go_simp) hHeld ?_
  try simp only [Act.put, List.setIfInBounds_toArray, List.set_cons_zero, List.set_cons_succ]
  refine takeH (i := 1) (d := 19) (.int .i64 2) hq rfl rfl (by kernel_rfl) (by kernel_rfl) (by kernel_rfl) (by rfl) (fun W hSw => by go_simp) hHeld ?_
  try simp only [Act.put, List.setIfInBounds_toArray, List.set_cons_zero, List.set_cons_succ]
  refine takeH (i := 2) (d := 20) (.bool false) hq rfl rfl (by kernel_rfl) (by kernel_rfl) (by kernel_rfl) (by rfl) (fun W hSw => by go_simp) hHeld ?_
  try simp only [Act.put, List.setIfInBounds_toArray, List.set_cons_zero, List.set_cons_succ]
  refine takeH (i := 3) (d := 21) (.bool false) hq rfl rfl (by kernel_rfl) (by kernel_rfl) (by kernel_rfl) (by rfl) (fun W hSw => by go_simp) hHeld ?_
  try simp only [Act.put, List.setIfInBounds_toArray, List.set_cons_zero, List.set_cons_succ]
  refine takeH (i := 4) (d := 22) (.slice (some ⟨g, 0, none⟩) 2 cp) hq rfl rfl (by kernel_rfl) (by kernel_rfl) (by kernel_rfl) (by rfl) (fun W hSw => by go_simp) hHeld ?_
  try simp only [Act.put, List.setIfInBounds_toArray, List.set_cons_zero, List.set_cons_succ]
  refine takeH (i := 5) (d := 23) (.pointer (some ⟨g, 0, none⟩)) hq rfl rfl (by kernel_rfl) (by kernel_rfl) (by kernel_rfl) (by rfl) (fun W hSw => by go_simp) hHeld ?_
  try simp only [Act.put, List.setIfInBounds_toArray, List.set_cons_zero, List.set_cons_succ]
  refine takeH (i := 6) (d := 24) (tok x.k x.p x.n (str x.s)) hq rfl rfl (by kernel_rfl) (by kernel_rfl) (by kernel_rfl) (by rfl) (fun W hSw => by obtain ⟨-, -, -, -, -, s1, s2, s3, s4⟩ := hSw; go_simp) hHeld ?_
  try simp only [Act.put, List.setIfInBounds_toArray, List.set_cons_zero, List.set_cons_succ]
  refine takeH (i := 7) (d := 25) (tok ak ap an (str za)) hq rfl rfl (by kernel_rfl) (by kernel_rfl) (by kernel_rfl) (by rfl) (fun W hSw => by obtain ⟨-, s1, s2, s3, s4, -⟩ := hSw; go_simp) hHeld ?_
  try simp only [Act.put, List.setIfInBounds_toArray, List.set_cons_zero, List.set_cons_succ]
  refine wpAnyH_ready (rs := [8]) (by kernel_rfl) (by simp) ?_
  refine AllReadyH.cons rfl (fun K hK => ?_) AllReadyH.nil
  go_simp
  refine (HS1.out _).mono ?_; rintro e w4 ⟨rfl, hb4⟩; have hbd : Below w3.heap.size w3 w4 := (Below.refl _ _).drew.trans (hb4.mono (Nat.le_refl _))
  go_wp2_with fail
  refine hK.out _ _ (KS3.out _ hbd) (fun hHeld => ?_)
  clear hK K
  try simp only [Act.put, List.setIfInBounds_toArray, List.set_cons_zero, List.set_cons_succ]
  refine takeH (i := 9) (d := 27) (.bool true) hq rfl rfl (by kernel_rfl) (by kernel_rfl) (by kernel_rfl) (by rfl) (fun W hSw => by go_simp) hHeld ?_
  try simp only [Act.put, List.setIfInBounds_toArray, List.set_cons_zero, List.set_cons_succ]
  refine takeH (i := 10) (d := 28) (.bool true) hq rfl rfl (by kernel_rfl) (by kernel_rfl) (by kernel_rfl) (by rfl) (fun W hSw => by go_simp) hHeld ?_
  try simp only [Act.put, List.setIfInBounds_toArray, List.set_cons_zero, List.set_cons_succ]
  refine takeH (i := 11) (d := 29) (.bool true) hq rfl rfl (by kernel_rfl) (by kernel_rfl) (by kernel_rfl) (by rfl) (fun W hSw => by go_simp) hHeld ?_
  try simp only [Act.put, List.setIfInBounds_toArray, List.set_cons_zero, List.set_cons_succ]
  refine skipH (i := 12) (d := 30) hq rfl rfl (by kernel_rfl) (by kernel_rfl) (by kernel_rfl) (by rfl) hHeld ?_
  try simp only [Act.put, List.setIfInBounds_toArray, List.set_cons_zero, List.set_cons_succ]
  refine skipH (i := 13) (d := 31) hq rfl rfl (by kernel_rfl) (by kernel_rfl) (by kernel_rfl) (by rfl) hHeld ?_
  try simp only [Act.put, List.setIfInBounds_toArray, List.set_cons_zero, List.set_cons_succ]
  refine skipH (i := 14) (d := 32) hq rfl rfl (by kernel_rfl) (by kernel_rfl) (by kernel_rfl) (by rfl) hHeld ?_
  try simp only [Act.put, List.setIfInBounds_toArray, List.set_cons_zero, List.set_cons_succ]
  refine skipH (i := 15) (d := 33) hq rfl rfl (by kernel_rfl) (by kernel_rfl) (by kernel_rfl) (by rfl) hHeld ?_
  try simp only [Act.put, List.setIfInBounds_toArray, List.set_cons_zero, List.set_cons_succ]
  refine skipH (i := 16) (d := 34) hq rfl rfl (by kernel_rfl) (by kernel_rfl) (by kernel_rfl) (by rfl) hHeld ?_
  try simp only [Act.put, List.setIfInBounds_toArray, List.set_cons_zero, List.set_cons_succ]
  refine skipH (i := 17) (d := 35) hq rfl rfl (by kernel_rfl) (by kernel_rfl) (by kernel_rfl) (by rfl) hHeld ?_
  try simp only [Act.put, List.setIfInBounds_toArray, List.set_cons_zero, List.set_cons_succ]
  refine takeH (i := 18) (d := 36) (.bool true) hq rfl rfl (by kernel_rfl) (by kernel_rfl) (by kernel_rfl) (by rfl) (fun W hSw => by go_simp) hHeld ?_
  try simp only [Act.put, List.setIfInBounds_toArray, List.set_cons_zero, List.set_cons_succ]
  refine takeH (i := 19) (d := 4) (.bool true) hq rfl rfl (by kernel_rfl) (by kernel_rfl) (by kernel_rfl) (by rfl) (fun W hSw => by go_simp) hHeld ?_
  try simp only [Act.put, List.setIfInBounds_toArray, List.set_cons_zero, List.set_cons_succ]
  refine wpAnyH_done (by kernel_rfl) ?_ _
  go_wp2
  go_ret
  exact ⟨rfl, below_aft BW hbd⟩

theorem clash_any (a b : Tz) (w : World) (ha : a.s.length ≤ 140737488355328) (hb : b.s.length ≤ 140737488355328) (hTa : (tzText a).length ≤ 140737488355328) (hTb : (tzText b).length ≤ 140737488355328)
    (hna : ∀ W, Below w.heap.size w W → Num W a) (hnb : ∀ W, Below w.heap.size w W → Num W b) :
    Calls Tryd.prog 41 #[tzV a, tzV b] w fun e w' => e = .returned (.bool (cl a b)) ∧ Below w.heap.size w w' := by
  unfold cl
  split
  · rename_i x y hl
    cases hx : tzSame (tkZ x) a with
    | true => rw [Bool.true_and]; exact clash_two a b x y w ha hb hTa hTb hna hnb hl hx
    | false => rw [Bool.false_and]; exact clash_one a b x y w ha hb hTa hTb hna hnb hl hx
  · rename_i hno
    refine clash_len a b _ w ha hb hTa hTb hna hnb rfl (fun h2 => ?_)
    obtain ⟨x, y, e⟩ := len_two h2
    exact hno x y e
end Go.Proofs.YtpnamkpoapcgeaaDoor
