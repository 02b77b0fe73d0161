import Derived.Test.YtahdnfogdnondaaGreatDoorTps
import Derived.BigRegion
namespace Go.Proofs.YtahdnfogdnondaaGreatDoor
open Go.RowKit Go.Shelf
set_option linter.unusedVariables false
set_option linter.unusedSimpArgs false

theorem app_str {W : World} {lo : Nat} {v : Value} {m : Nat} {xs : List Value} (h : W.ownsRow lo 9 1 v m xs) {bz : Nat} {t : ByteArray} (hz : At W bz (One (.string t) 9)) (hm : m ≤ 1000) (hlo : lo ≤ W.heap.size) :
    ∃ g6 c6 w', (Builtin.append_ #[33, 33] 33 #[v, .slice (some ⟨bz, 0, none⟩) 1 1]).run Tryz.prog W = .ok (.slice (some ⟨g6, 0, none⟩) (m + 1) c6) w' ∧ w'.ownsRow lo 9 1 (.slice (some ⟨g6, 0, none⟩) (m + 1) c6) (m + 1) (xs ++ [.string t]) ∧ W.grownBy w' v.ownBlock := by
  obtain ⟨i0, hi0, hz0, hz1, hz2⟩ := info_parts Tryz.info9
  obtain ⟨v', w', hr, h2, h3, h4⟩ := run_append_own (P := Tryz.prog) W lo 33 33 9 i0 _ 1 16 Tryz.underlying33 hi0 hz0 hz1 hz2 rfl (by decide) _ m _ h ⟨bz, 0, none⟩ 1 1 [.string t] rfl (fun j u hu => by
    match j, hu with
    | 0, hu => simp at hu; subst hu; exact hz.one.1
    | j + 1, hu => simp at hu) (fun u hu => by simp at hu; subst hu; rfl) (by unfold maxLen; omega) (by omega) hlo
  rcases h2.2 with ⟨-, h9⟩ | ⟨g, cap, cur, rfl, h8⟩
  · simp at h9
  · exact ⟨g, cap, w', hr, h2, h3⟩
theorem wp_append1 {w w' : World} {o : Oper} {a : Act} {K : Act → World → Prop} {Q : Exit → Act → World → Prop} {s x : Nat} {v u v' : Value} (ho : o.op = Op.call { callee := Callee.builtin Builtin.append, args := #[.tmp s, .tmp x], argTypes := #[33, 33] }) (hs : a.eval (.tmp s) = v) (hx : a.eval (.tmp x) = u) (hr : (Builtin.append_ #[33, 33] o.type #[v, u]).run Tryz.prog w = .ok v' w')
    (h : K (a.put o.dst v') w') : Oper.wp Tryz.prog o a w K Q := by
  unfold Oper.wp
  simp [execOp, ho, resolve, invoke, builtin, hs, hx, hr, Result.andThen]
  exact h
theorem own_ge {W : World} {lo : Nat} {v : Value} {m : Nat} {xs : List Value} (h : W.ownsRow lo 9 1 v m xs) : ∀ b, v.ownBlock = some b → lo ≤ b := fun b hb => by
  rcases h.2 with ⟨rfl, -⟩ | ⟨g, cap, cur, rfl, h1, -⟩
  · simp [Value.ownBlock] at hb
  · simp [Value.ownBlock] at hb
    omega
theorem own_set {W : World} {lo : Nat} {v : Value} {m : Nat} {xs : List Value} (h : W.ownsRow lo 9 1 v m xs) {b : Nat} (hb : b < lo) (o : Nat) (u : Value) : (W.setCell ⟨b, o, none⟩ u).ownsRow lo 9 1 v m xs := by
  refine ⟨h.1, ?_⟩
  rcases h.2 with ⟨h1, h2⟩ | ⟨g, cap, cur, h1, h2, h3, h4⟩
  · exact .inl ⟨h1, h2⟩
  · exact .inr ⟨g, cap, cur, h1, h2, (by
      have := At.set (b := g) (o := .cells cur 9 (0, 0)) h3 (a := ⟨b, o, none⟩) (by simp; omega) u
      exact this), h4⟩
/-- What linesOf's closure stands on: how far in, the lines so far, in memory of their own. -/
structure LnS (B0 lo b1 b2 : Nat) (w V : World) (i : Int) (v : Value) (m : Nat) (xs : List Value) : Prop where
  a1 : At V b1 (One (.int .i64 i) 3)
  a2 : At V b2 (One v 33)
  row : V.ownsRow lo 9 1 v m xs
  bel : Below B0 w V
  lo : lo ≤ V.heap.size
set_option maxRecDepth 100000 in
set_option maxHeartbeats 4000000 in
/-- The closure at a line that opens a block. -/
theorem line_open {B0 lo b1 b2 : Nat} {w V : World} {v : Value} {m : Nat} {xs : List Value} (h : LnS B0 lo b1 b2 w V 0 v m xs) (hm : m ≤ 1000) (hbs : B0 ≤ b1 ∧ B0 ≤ b2 ∧ b1 < lo ∧ b2 < lo ∧ b1 ≠ b2) :
    Calls Tryz.prog 52 #[.string ⟨#[123]⟩, .pointer (some ⟨b1, 0, none⟩), .pointer (some ⟨b2, 0, none⟩)] V fun e V' => e = .returned (.tuple #[]) ∧ ∃ v', LnS B0 lo b1 b2 w V' 1 v' (m + 1) (xs ++ [.string ⟨#[123]⟩]) := by
  have HBS := hidD hbs
  have HLO := hidD h.lo
  have HPF : Hid (∀ W : World, Calls Tryz.prog 53 #[.string ⟨#[123]⟩, .string ⟨#[125]⟩] W fun e w' => e = .returned (.bool false) ∧ w' = W) := hidD (fun W => (Tryz.strings_HasPrefix ⟨#[123]⟩ ⟨#[125]⟩ W).mono fun e w' k => ⟨by rw [k.1]; rfl, k.2⟩)
  have HSF : Hid (∀ W : World, Calls Tryz.prog 55 #[.string ⟨#[123]⟩, .string ⟨#[123]⟩] W fun e w' => e = .returned (.bool true) ∧ w' = W) := hidD (fun W => (Tryz.strings_HasSuffix ⟨#[123]⟩ ⟨#[123]⟩ W (by decide)).mono fun e w' k => ⟨by rw [k.1]; rfl, k.2⟩)
  have HZ : Hid (∀ W : World, Calls Tryz.prog 54 #[.string ⟨#[32, 32, 32, 32]⟩, .int .i64 0] W fun e w' => e = .returned (.string ⟨#[]⟩) ∧ w' = W) := hidD (fun W => Tryz.strings_Repeat_zero _ W)
  have HH := hidD h
  obtain ⟨c1, f1⟩ := HH.out.a1.one
  clear h hbs
  go_enter Tryz.func52, Tryz.ntmps52
  go_upto_region 2 with (go_at_call 53; refine (HPF.out _).mono ?_; rintro e w1 ⟨rfl, hw1⟩; replace hw1 := hw1.symm; subst hw1)
  have HA1 := hidD HH.out.a1
  have HA2 := hidD HH.out.a2
  have HROW := hidD HH.out.row
  have HBEL := hidD HH.out.bel
  clear HH c1 f1
  have HLOW : Hid (B0 ≤ V.heap.size) := hidD (by have := HLO.out; have := HBS.out; omega)
  replace HA1 : Hid (At V.drew b1 (One (.int .i64 0) 3)) := hidD HA1.out.drew
  replace HA2 : Hid (At V.drew b2 (One v 33)) := hidD HA2.out.drew
  replace HROW : Hid (V.drew.ownsRow lo 9 1 v m xs) := hidD HROW.out.drew
  replace HBEL : Hid (Below B0 w V.drew) := hidD (belD HBEL.out)
  replace HLO : Hid (lo ≤ V.drew.heap.size) := hidD HLO.out
  replace HLOW : Hid (B0 ≤ V.drew.heap.size) := hidD HLOW.out
  refine beginH (S := fun V' => At V' b1 (One (.int .i64 0) 3)) (fun _ _ _ _ _ h => h) (by kernel_rfl) HA1.out (fun hq hHeld => ?_)
  generalize V.drew = VV at HA1 HA2 HROW HBEL HLO HLOW hHeld ⊢
  refine takeH (i := 1) (d := 9) (.int .i64 0) hq rfl rfl (by kernel_rfl) (by kernel_rfl) (by kernel_rfl) (by rfl) (fun W hSw => by (obtain ⟨c1, f1⟩ := At.one hSw; go_simp; try rfl)) hHeld ?_
  try simp only [Act.put, List.setIfInBounds_toArray, List.set_cons_zero, List.set_cons_succ]
  refine takeH (i := 3) (d := 11) (.string ⟨#[123]⟩) hq rfl rfl (by kernel_rfl) (by kernel_rfl) (by kernel_rfl) (by rfl) (fun W hSw => by (go_simp; try rfl)) hHeld ?_
  try simp only [Act.put, List.setIfInBounds_toArray, List.set_cons_zero, List.set_cons_succ]
  refine wpAnyH_ready (rs := [0, 2]) (by kernel_rfl) (by simp) ?_
  refine (AllReadyH.cons rfl (fun K hK => ?_) (AllReadyH.cons rfl (fun K hK => ?_) AllReadyH.nil))
  · obtain ⟨c2, f2⟩ := HA2.out.one
    go_simp
    go_wp2_with fail
    refine hK.out _ _ hHeld (fun hHeld => ?_)
    clear hK K c2 f2
    try simp only [Act.put, List.setIfInBounds_toArray, List.set_cons_zero, List.set_cons_succ]
    refine wpAnyH_ready (rs := [2]) (by kernel_rfl) (by simp) ?_
    refine (AllReadyH.cons rfl (fun K hK => ?_) AllReadyH.nil)
    go_simp
    refine (HZ.out _).mono ?_
    rintro e v1 ⟨rfl, hv1⟩
    replace hv1 := hv1.symm
    subst hv1
    go_wp2_with fail
    refine hK.out _ _ hHeld (fun hHeld => ?_)
    clear hK K
    try simp only [Act.put, List.setIfInBounds_toArray, List.set_cons_zero, List.set_cons_succ]
    refine takeH (i := 4) (d := 12) (.string ⟨#[123]⟩) hq rfl rfl (by kernel_rfl) (by kernel_rfl) (by kernel_rfl) (by rfl) (fun W hSw => by (go_simp; try rfl)) hHeld ?_
    try simp only [Act.put, List.setIfInBounds_toArray, List.set_cons_zero, List.set_cons_succ]
    refine wpAnyH_ready (rs := [5]) (by kernel_rfl) (by simp) ?_
    refine (AllReadyH.cons rfl (fun K hK => ?_) AllReadyH.nil)
    go_simp
    go_wp2_with fail
    have HZ5 : Hid (At (VV.alloc (One (.string ⟨#[123]⟩) 9)) VV.heap.size (One (.string ⟨#[123]⟩) 9)) := hidD (At.new _ _)
    have HA1b := hidD (HA1.out.alloc (One (.string ⟨#[123]⟩) 9))
    have HA2b := hidD (HA2.out.alloc (One (.string ⟨#[123]⟩) 9))
    have HROWb := hidD (HROW.out.alloc (One (.string ⟨#[123]⟩) 9))
    have HBELb := hidD (HBEL.out.alloc HLOW.out (One (.string ⟨#[123]⟩) 9))
    have HLOWb : Hid (lo ≤ (VV.alloc (One (.string ⟨#[123]⟩) 9)).heap.size) := hidD (by have := HLO.out; have := HLOW.out; simp; omega)
    refine hK.out _ _ (show (fun V => At V b1 (One (.int .i64 0) 3)) (VV.alloc (One (.string ⟨#[123]⟩) 9)) from HA1b.out) (fun hHeld => ?_)
    clear hK K HA1 HA2 HROW HBEL
    try simp only [Act.put, List.setIfInBounds_toArray, List.set_cons_zero, List.set_cons_succ]
    obtain ⟨bz, hbz⟩ : ∃ bz, bz = VV.heap.size := ⟨_, rfl⟩
    rw [← hbz] at HZ5 ⊢
    generalize (VV.alloc (One (.string ⟨#[123]⟩) 9)) = v5 at HZ5 HA1b HA2b HROWb HBELb HLOWb hHeld ⊢
    clear hbz
    refine wpAnyH_ready (rs := [6]) (by kernel_rfl) (by simp) ?_
    refine (AllReadyH.cons (o := { dst := some 14, op := .call { callee := .builtin .append, args := #[.tmp 8, .tmp 13], argTypes := #[33, 33] }, type := 33, pos := "line.go:21", after := _, guard := none }) rfl (fun K hK => ?_) AllReadyH.nil)
    rw [if_pos (by rfl)]
    obtain ⟨g6, c6, w6, hrun, hrow6, hg6⟩ := app_str HROWb.out HZ5.out hm HLOWb.out
    have hne := own_ge HROWb.out
    have HA1c : Hid (At w6 b1 (One (.int .i64 0) 3)) := hidD (HA1b.out.grown hg6 (fun e => by have := hne _ e.symm; have := HBS.out; omega))
    have HA2c : Hid (At w6 b2 (One v 33)) := hidD (HA2b.out.grown hg6 (fun e => by have := hne _ e.symm; have := HBS.out; omega))
    have HBELc := hidD (HBELb.out.grown hg6 (by have := HLOWb.out; have := HBS.out; omega) (fun b e => by have := hne b e; have := HBS.out; omega))
    have HROWc := hidD hrow6
    have HLOWc := hidD (Nat.le_trans HLOWb.out hg6.size)
    refine wp_append1 rfl rfl rfl hrun ?_
    refine hK.out _ _ (show (fun V => At V b1 (One (.int .i64 0) 3)) w6 from HA1c.out) (fun hHeld => ?_)
    clear hK K hrun hrow6 hg6 hne
    try simp only [Act.put, List.setIfInBounds_toArray, List.set_cons_zero, List.set_cons_succ]
    refine wpAnyH_ready (rs := [7]) (by kernel_rfl) (by simp) ?_
    refine (AllReadyH.cons rfl (fun K hK => ?_) AllReadyH.nil)
    obtain ⟨c2, f2⟩ := HA2c.out.one
    go_simp
    go_wp2_with fail
    have HA2d : Hid (At (w6.setCell ⟨b2, 0, none⟩ (.slice (some ⟨g6, 0, none⟩) (m + 1) c6)) b2 (One (.slice (some ⟨g6, 0, none⟩) (m + 1) c6) 33)) := hidD (HA2c.out.setOne (.slice (some ⟨g6, 0, none⟩) (m + 1) c6))
    have HA1d : Hid (At (w6.setCell ⟨b2, 0, none⟩ (.slice (some ⟨g6, 0, none⟩) (m + 1) c6)) b1 (One (.int .i64 0) 3)) := hidD (HA1c.out.set (by have := HBS.out; simp; omega) (.slice (some ⟨g6, 0, none⟩) (m + 1) c6))
    have HROWd : Hid ((w6.setCell ⟨b2, 0, none⟩ (.slice (some ⟨g6, 0, none⟩) (m + 1) c6)).ownsRow lo 9 1 (.slice (some ⟨g6, 0, none⟩) (m + 1) c6) (m + 1) (xs ++ [.string ⟨#[123]⟩])) := hidD (own_set HROWc.out (by have := HBS.out; omega) _ _)
    have HLOWd : Hid (lo ≤ (w6.setCell ⟨b2, 0, none⟩ (.slice (some ⟨g6, 0, none⟩) (m + 1) c6)).heap.size) := hidD (by have := HLOWc.out; simpa using this)
    have HBELd : Hid (Below B0 w (w6.setCell ⟨b2, 0, none⟩ (.slice (some ⟨g6, 0, none⟩) (m + 1) c6))) := hidD (HBELc.out.setCell (by have := HBS.out; simp; omega) _)
    refine hK.out _ _ (show (fun V => At V b1 (One (.int .i64 0) 3)) (w6.setCell ⟨b2, 0, none⟩ (.slice (some ⟨g6, 0, none⟩) (m + 1) c6)) from HA1d.out) (fun hHeld => ?_)
    clear hK K c2 f2 HA1c HA2c HROWc HBELc
    try simp only [Act.put, List.setIfInBounds_toArray, List.set_cons_zero, List.set_cons_succ]
    refine wpAnyH_done (by kernel_rfl) ?_ _
    generalize (w6.setCell ⟨b2, 0, none⟩ (.slice (some ⟨g6, 0, none⟩) (m + 1) c6)) = w7 at HA1d HA2d HROWd HBELd HLOWd hHeld ⊢
    obtain ⟨c1, f1⟩ := HA1d.out.one
    go_wp2_with (go_at_call 55; refine (HSF.out _).mono ?_; rintro e w8 ⟨rfl, hw8⟩; replace hw8 := hw8.symm; subst hw8)
    exact bodyPost_end (results_none rfl _ _ _) rfl ⟨rfl, _, ⟨HA1d.out.setOne _, HA2d.out.set (by have := HBS.out; simp; omega) _, own_set HROWd.out (by have := HBS.out; omega) _ _, HBELd.out.setCell (by have := HBS.out; simp; omega) _, (by have := HLOWd.out; simpa using this)⟩⟩
  · go_simp
    refine (HZ.out _).mono ?_
    rintro e v1 ⟨rfl, hv1⟩
    replace hv1 := hv1.symm
    subst hv1
    go_wp2_with fail
    refine hK.out _ _ hHeld (fun hHeld => ?_)
    clear hK K
    try simp only [Act.put, List.setIfInBounds_toArray, List.set_cons_zero, List.set_cons_succ]
    refine takeH (i := 4) (d := 12) (.string ⟨#[123]⟩) hq rfl rfl (by kernel_rfl) (by kernel_rfl) (by kernel_rfl) (by rfl) (fun W hSw => by (go_simp; try rfl)) hHeld ?_
    try simp only [Act.put, List.setIfInBounds_toArray, List.set_cons_zero, List.set_cons_succ]
    refine wpAnyH_ready (rs := [0, 5]) (by kernel_rfl) (by simp) ?_
    refine (AllReadyH.cons rfl (fun K hK => ?_) (AllReadyH.cons rfl (fun K hK => ?_) AllReadyH.nil))
    · obtain ⟨c2, f2⟩ := HA2.out.one
      go_simp
      go_wp2_with fail
      refine hK.out _ _ hHeld (fun hHeld => ?_)
      clear hK K c2 f2
      try simp only [Act.put, List.setIfInBounds_toArray, List.set_cons_zero, List.set_cons_succ]
      refine wpAnyH_ready (rs := [5]) (by kernel_rfl) (by simp) ?_
      refine (AllReadyH.cons rfl (fun K hK => ?_) AllReadyH.nil)
      go_simp
      go_wp2_with fail
      have HZ5 : Hid (At (VV.alloc (One (.string ⟨#[123]⟩) 9)) VV.heap.size (One (.string ⟨#[123]⟩) 9)) := hidD (At.new _ _)
      have HA1b := hidD (HA1.out.alloc (One (.string ⟨#[123]⟩) 9))
      have HA2b := hidD (HA2.out.alloc (One (.string ⟨#[123]⟩) 9))
      have HROWb := hidD (HROW.out.alloc (One (.string ⟨#[123]⟩) 9))
      have HBELb := hidD (HBEL.out.alloc HLOW.out (One (.string ⟨#[123]⟩) 9))
      have HLOWb : Hid (lo ≤ (VV.alloc (One (.string ⟨#[123]⟩) 9)).heap.size) := hidD (by have := HLO.out; have := HLOW.out; simp; omega)
      refine hK.out _ _ (show (fun V => At V b1 (One (.int .i64 0) 3)) (VV.alloc (One (.string ⟨#[123]⟩) 9)) from HA1b.out) (fun hHeld => ?_)
      clear hK K HA1 HA2 HROW HBEL
      try simp only [Act.put, List.setIfInBounds_toArray, List.set_cons_zero, List.set_cons_succ]
      obtain ⟨bz, hbz⟩ : ∃ bz, bz = VV.heap.size := ⟨_, rfl⟩
      rw [← hbz] at HZ5 ⊢
      generalize (VV.alloc (One (.string ⟨#[123]⟩) 9)) = v5 at HZ5 HA1b HA2b HROWb HBELb HLOWb hHeld ⊢
      clear hbz
      refine wpAnyH_ready (rs := [6]) (by kernel_rfl) (by simp) ?_
      refine (AllReadyH.cons (o := { dst := some 14, op := .call { callee := .builtin .append, args := #[.tmp 8, .tmp 13], argTypes := #[33, 33] }, type := 33, pos := "line.go:21", after := _, guard := none }) rfl (fun K hK => ?_) AllReadyH.nil)
      rw [if_pos (by rfl)]
      obtain ⟨g6, c6, w6, hrun, hrow6, hg6⟩ := app_str HROWb.out HZ5.out hm HLOWb.out
      have hne := own_ge HROWb.out
      have HA1c : Hid (At w6 b1 (One (.int .i64 0) 3)) := hidD (HA1b.out.grown hg6 (fun e => by have := hne _ e.symm; have := HBS.out; omega))
      have HA2c : Hid (At w6 b2 (One v 33)) := hidD (HA2b.out.grown hg6 (fun e => by have := hne _ e.symm; have := HBS.out; omega))
      have HBELc := hidD (HBELb.out.grown hg6 (by have := HLOWb.out; have := HBS.out; omega) (fun b e => by have := hne b e; have := HBS.out; omega))
      have HROWc := hidD hrow6
      have HLOWc := hidD (Nat.le_trans HLOWb.out hg6.size)
      refine wp_append1 rfl rfl rfl hrun ?_
      refine hK.out _ _ (show (fun V => At V b1 (One (.int .i64 0) 3)) w6 from HA1c.out) (fun hHeld => ?_)
      clear hK K hrun hrow6 hg6 hne
      try simp only [Act.put, List.setIfInBounds_toArray, List.set_cons_zero, List.set_cons_succ]
      refine wpAnyH_ready (rs := [7]) (by kernel_rfl) (by simp) ?_
      refine (AllReadyH.cons rfl (fun K hK => ?_) AllReadyH.nil)
      obtain ⟨c2, f2⟩ := HA2c.out.one
      go_simp
      go_wp2_with fail
      have HA2d : Hid (At (w6.setCell ⟨b2, 0, none⟩ (.slice (some ⟨g6, 0, none⟩) (m + 1) c6)) b2 (One (.slice (some ⟨g6, 0, none⟩) (m + 1) c6) 33)) := hidD (HA2c.out.setOne (.slice (some ⟨g6, 0, none⟩) (m + 1) c6))
      have HA1d : Hid (At (w6.setCell ⟨b2, 0, none⟩ (.slice (some ⟨g6, 0, none⟩) (m + 1) c6)) b1 (One (.int .i64 0) 3)) := hidD (HA1c.out.set (by have := HBS.out; simp; omega) (.slice (some ⟨g6, 0, none⟩) (m + 1) c6))
      have HROWd : Hid ((w6.setCell ⟨b2, 0, none⟩ (.slice (some ⟨g6, 0, none⟩) (m + 1) c6)).ownsRow lo 9 1 (.slice (some ⟨g6, 0, none⟩) (m + 1) c6) (m + 1) (xs ++ [.string ⟨#[123]⟩])) := hidD (own_set HROWc.out (by have := HBS.out; omega) _ _)
      have HLOWd : Hid (lo ≤ (w6.setCell ⟨b2, 0, none⟩ (.slice (some ⟨g6, 0, none⟩) (m + 1) c6)).heap.size) := hidD (by have := HLOWc.out; simpa using this)
      have HBELd : Hid (Below B0 w (w6.setCell ⟨b2, 0, none⟩ (.slice (some ⟨g6, 0, none⟩) (m + 1) c6))) := hidD (HBELc.out.setCell (by have := HBS.out; simp; omega) _)
      refine hK.out _ _ (show (fun V => At V b1 (One (.int .i64 0) 3)) (w6.setCell ⟨b2, 0, none⟩ (.slice (some ⟨g6, 0, none⟩) (m + 1) c6)) from HA1d.out) (fun hHeld => ?_)
      clear hK K c2 f2 HA1c HA2c HROWc HBELc
      try simp only [Act.put, List.setIfInBounds_toArray, List.set_cons_zero, List.set_cons_succ]
      refine wpAnyH_done (by kernel_rfl) ?_ _
      generalize (w6.setCell ⟨b2, 0, none⟩ (.slice (some ⟨g6, 0, none⟩) (m + 1) c6)) = w7 at HA1d HA2d HROWd HBELd HLOWd hHeld ⊢
      obtain ⟨c1, f1⟩ := HA1d.out.one
      go_wp2_with (go_at_call 55; refine (HSF.out _).mono ?_; rintro e w8 ⟨rfl, hw8⟩; replace hw8 := hw8.symm; subst hw8)
      exact bodyPost_end (results_none rfl _ _ _) rfl ⟨rfl, _, ⟨HA1d.out.setOne _, HA2d.out.set (by have := HBS.out; simp; omega) _, own_set HROWd.out (by have := HBS.out; omega) _ _, HBELd.out.setCell (by have := HBS.out; simp; omega) _, (by have := HLOWd.out; simpa using this)⟩⟩
    · go_simp
      go_wp2_with fail
      have HZ5 : Hid (At (VV.alloc (One (.string ⟨#[123]⟩) 9)) VV.heap.size (One (.string ⟨#[123]⟩) 9)) := hidD (At.new _ _)
      have HA1b := hidD (HA1.out.alloc (One (.string ⟨#[123]⟩) 9))
      have HA2b := hidD (HA2.out.alloc (One (.string ⟨#[123]⟩) 9))
      have HROWb := hidD (HROW.out.alloc (One (.string ⟨#[123]⟩) 9))
      have HBELb := hidD (HBEL.out.alloc HLOW.out (One (.string ⟨#[123]⟩) 9))
      have HLOWb : Hid (lo ≤ (VV.alloc (One (.string ⟨#[123]⟩) 9)).heap.size) := hidD (by have := HLO.out; have := HLOW.out; simp; omega)
      refine hK.out _ _ (show (fun V => At V b1 (One (.int .i64 0) 3)) (VV.alloc (One (.string ⟨#[123]⟩) 9)) from HA1b.out) (fun hHeld => ?_)
      clear hK K HA1 HA2 HROW HBEL
      try simp only [Act.put, List.setIfInBounds_toArray, List.set_cons_zero, List.set_cons_succ]
      obtain ⟨bz, hbz⟩ : ∃ bz, bz = VV.heap.size := ⟨_, rfl⟩
      rw [← hbz] at HZ5 ⊢
      generalize (VV.alloc (One (.string ⟨#[123]⟩) 9)) = v5 at HZ5 HA1b HA2b HROWb HBELb HLOWb hHeld ⊢
      clear hbz
      refine wpAnyH_ready (rs := [0]) (by kernel_rfl) (by simp) ?_
      refine (AllReadyH.cons rfl (fun K hK => ?_) AllReadyH.nil)
      obtain ⟨c2, f2⟩ := HA2b.out.one
      go_simp
      go_wp2_with fail
      refine hK.out _ _ hHeld (fun hHeld => ?_)
      clear hK K c2 f2
      try simp only [Act.put, List.setIfInBounds_toArray, List.set_cons_zero, List.set_cons_succ]
      refine wpAnyH_ready (rs := [6]) (by kernel_rfl) (by simp) ?_
      refine (AllReadyH.cons (o := { dst := some 14, op := .call { callee := .builtin .append, args := #[.tmp 8, .tmp 13], argTypes := #[33, 33] }, type := 33, pos := "line.go:21", after := _, guard := none }) rfl (fun K hK => ?_) AllReadyH.nil)
      rw [if_pos (by rfl)]
      obtain ⟨g6, c6, w6, hrun, hrow6, hg6⟩ := app_str HROWb.out HZ5.out hm HLOWb.out
      have hne := own_ge HROWb.out
      have HA1c : Hid (At w6 b1 (One (.int .i64 0) 3)) := hidD (HA1b.out.grown hg6 (fun e => by have := hne _ e.symm; have := HBS.out; omega))
      have HA2c : Hid (At w6 b2 (One v 33)) := hidD (HA2b.out.grown hg6 (fun e => by have := hne _ e.symm; have := HBS.out; omega))
      have HBELc := hidD (HBELb.out.grown hg6 (by have := HLOWb.out; have := HBS.out; omega) (fun b e => by have := hne b e; have := HBS.out; omega))
      have HROWc := hidD hrow6
      have HLOWc := hidD (Nat.le_trans HLOWb.out hg6.size)
      refine wp_append1 rfl rfl rfl hrun ?_
      refine hK.out _ _ (show (fun V => At V b1 (One (.int .i64 0) 3)) w6 from HA1c.out) (fun hHeld => ?_)
      clear hK K hrun hrow6 hg6 hne
      try simp only [Act.put, List.setIfInBounds_toArray, List.set_cons_zero, List.set_cons_succ]
      refine wpAnyH_ready (rs := [7]) (by kernel_rfl) (by simp) ?_
      refine (AllReadyH.cons rfl (fun K hK => ?_) AllReadyH.nil)
      obtain ⟨c2, f2⟩ := HA2c.out.one
      go_simp
      go_wp2_with fail
      have HA2d : Hid (At (w6.setCell ⟨b2, 0, none⟩ (.slice (some ⟨g6, 0, none⟩) (m + 1) c6)) b2 (One (.slice (some ⟨g6, 0, none⟩) (m + 1) c6) 33)) := hidD (HA2c.out.setOne (.slice (some ⟨g6, 0, none⟩) (m + 1) c6))
      have HA1d : Hid (At (w6.setCell ⟨b2, 0, none⟩ (.slice (some ⟨g6, 0, none⟩) (m + 1) c6)) b1 (One (.int .i64 0) 3)) := hidD (HA1c.out.set (by have := HBS.out; simp; omega) (.slice (some ⟨g6, 0, none⟩) (m + 1) c6))
      have HROWd : Hid ((w6.setCell ⟨b2, 0, none⟩ (.slice (some ⟨g6, 0, none⟩) (m + 1) c6)).ownsRow lo 9 1 (.slice (some ⟨g6, 0, none⟩) (m + 1) c6) (m + 1) (xs ++ [.string ⟨#[123]⟩])) := hidD (own_set HROWc.out (by have := HBS.out; omega) _ _)
      have HLOWd : Hid (lo ≤ (w6.setCell ⟨b2, 0, none⟩ (.slice (some ⟨g6, 0, none⟩) (m + 1) c6)).heap.size) := hidD (by have := HLOWc.out; simpa using this)
      have HBELd : Hid (Below B0 w (w6.setCell ⟨b2, 0, none⟩ (.slice (some ⟨g6, 0, none⟩) (m + 1) c6))) := hidD (HBELc.out.setCell (by have := HBS.out; simp; omega) _)
      refine hK.out _ _ (show (fun V => At V b1 (One (.int .i64 0) 3)) (w6.setCell ⟨b2, 0, none⟩ (.slice (some ⟨g6, 0, none⟩) (m + 1) c6)) from HA1d.out) (fun hHeld => ?_)
      clear hK K c2 f2 HA1c HA2c HROWc HBELc
      try simp only [Act.put, List.setIfInBounds_toArray, List.set_cons_zero, List.set_cons_succ]
      refine wpAnyH_done (by kernel_rfl) ?_ _
      generalize (w6.setCell ⟨b2, 0, none⟩ (.slice (some ⟨g6, 0, none⟩) (m + 1) c6)) = w7 at HA1d HA2d HROWd HBELd HLOWd hHeld ⊢
      obtain ⟨c1, f1⟩ := HA1d.out.one
      go_wp2_with (go_at_call 55; refine (HSF.out _).mono ?_; rintro e w8 ⟨rfl, hw8⟩; replace hw8 := hw8.symm; subst hw8)
      exact bodyPost_end (results_none rfl _ _ _) rfl ⟨rfl, _, ⟨HA1d.out.setOne _, HA2d.out.set (by have := HBS.out; simp; omega) _, own_set HROWd.out (by have := HBS.out; omega) _ _, HBELd.out.setCell (by have := HBS.out; simp; omega) _, (by have := HLOWd.out; simpa using this)⟩⟩
set_option maxRecDepth 100000 in
set_option maxHeartbeats 4000000 in
/-- The closure at a line that closes a block. -/
theorem line_close {B0 lo b1 b2 : Nat} {w V : World} {v : Value} {m : Nat} {xs : List Value} (h : LnS B0 lo b1 b2 w V 1 v m xs) (hm : m ≤ 1000) (hbs : B0 ≤ b1 ∧ B0 ≤ b2 ∧ b1 < lo ∧ b2 < lo ∧ b1 ≠ b2) :
    Calls Tryz.prog 52 #[.string ⟨#[125]⟩, .pointer (some ⟨b1, 0, none⟩), .pointer (some ⟨b2, 0, none⟩)] V fun e V' => e = .returned (.tuple #[]) ∧ ∃ v', LnS B0 lo b1 b2 w V' 0 v' (m + 1) (xs ++ [.string ⟨#[125]⟩]) := by
  have HBS := hidD hbs
  have HLO := hidD h.lo
  have HPF : Hid (∀ W : World, Calls Tryz.prog 53 #[.string ⟨#[125]⟩, .string ⟨#[125]⟩] W fun e w' => e = .returned (.bool true) ∧ w' = W) := hidD (fun W => (Tryz.strings_HasPrefix ⟨#[125]⟩ ⟨#[125]⟩ W).mono fun e w' k => ⟨by rw [k.1]; rfl, k.2⟩)
  have HSF : Hid (∀ W : World, Calls Tryz.prog 55 #[.string ⟨#[125]⟩, .string ⟨#[123]⟩] W fun e w' => e = .returned (.bool false) ∧ w' = W) := hidD (fun W => (Tryz.strings_HasSuffix ⟨#[125]⟩ ⟨#[123]⟩ W (by decide)).mono fun e w' k => ⟨by rw [k.1]; rfl, k.2⟩)
  have HZ : Hid (∀ W : World, Calls Tryz.prog 54 #[.string ⟨#[32, 32, 32, 32]⟩, .int .i64 0] W fun e w' => e = .returned (.string ⟨#[]⟩) ∧ w' = W) := hidD (fun W => Tryz.strings_Repeat_zero _ W)
  have HH := hidD h
  obtain ⟨c1, f1⟩ := HH.out.a1.one
  clear h hbs
  go_enter Tryz.func52, Tryz.ntmps52
  go_upto_region 2 with (go_at_call 53; refine (HPF.out _).mono ?_; rintro e w1 ⟨rfl, hw1⟩; replace hw1 := hw1.symm; subst hw1)
  have HA1 : Hid (At (V.setCell ⟨b1, 0, none⟩ (.int .i64 0)) b1 (One (.int .i64 0) 3)) := hidD (HH.out.a1.setOne _)
  have HA2 : Hid (At (V.setCell ⟨b1, 0, none⟩ (.int .i64 0)) b2 (One v 33)) := hidD (HH.out.a2.set (by have := HBS.out; simp; omega) _)
  have HROW : Hid ((V.setCell ⟨b1, 0, none⟩ (.int .i64 0)).ownsRow lo 9 1 v m xs) := hidD (own_set HH.out.row (by have := HBS.out; omega) _ _)
  have HBEL : Hid (Below B0 w (V.setCell ⟨b1, 0, none⟩ (.int .i64 0))) := hidD (HH.out.bel.setCell (by have := HBS.out; simp; omega) _)
  replace HLO : Hid (lo ≤ (V.setCell ⟨b1, 0, none⟩ (.int .i64 0)).heap.size) := hidD (by have := HLO.out; simp; omega)
  generalize (V.setCell ⟨b1, 0, none⟩ (.int .i64 0)) = V0 at HA1 HA2 HROW HBEL HLO ⊢
  clear HH c1 f1
  have HLOW : Hid (B0 ≤ V0.heap.size) := hidD (by have := HLO.out; have := HBS.out; omega)
  replace HA1 : Hid (At V0.drew b1 (One (.int .i64 0) 3)) := hidD HA1.out.drew
  replace HA2 : Hid (At V0.drew b2 (One v 33)) := hidD HA2.out.drew
  replace HROW : Hid (V0.drew.ownsRow lo 9 1 v m xs) := hidD HROW.out.drew
  replace HBEL : Hid (Below B0 w V0.drew) := hidD (belD HBEL.out)
  replace HLO : Hid (lo ≤ V0.drew.heap.size) := hidD HLO.out
  replace HLOW : Hid (B0 ≤ V0.drew.heap.size) := hidD HLOW.out
  refine beginH (S := fun V' => At V' b1 (One (.int .i64 0) 3)) (fun _ _ _ _ _ h => h) (by kernel_rfl) HA1.out (fun hq hHeld => ?_)
  generalize V0.drew = VV at HA1 HA2 HROW HBEL HLO HLOW hHeld ⊢
  refine takeH (i := 1) (d := 9) (.int .i64 0) hq rfl rfl (by kernel_rfl) (by kernel_rfl) (by kernel_rfl) (by rfl) (fun W hSw => by (obtain ⟨c1, f1⟩ := At.one hSw; go_simp; try rfl)) hHeld ?_
  try simp only [Act.put, List.setIfInBounds_toArray, List.set_cons_zero, List.set_cons_succ]
  refine takeH (i := 3) (d := 11) (.string ⟨#[125]⟩) hq rfl rfl (by kernel_rfl) (by kernel_rfl) (by kernel_rfl) (by rfl) (fun W hSw => by (go_simp; try rfl)) hHeld ?_
  try simp only [Act.put, List.setIfInBounds_toArray, List.set_cons_zero, List.set_cons_succ]
  refine wpAnyH_ready (rs := [0, 2]) (by kernel_rfl) (by simp) ?_
  refine (AllReadyH.cons rfl (fun K hK => ?_) (AllReadyH.cons rfl (fun K hK => ?_) AllReadyH.nil))
  · obtain ⟨c2, f2⟩ := HA2.out.one
    go_simp
    go_wp2_with fail
    refine hK.out _ _ hHeld (fun hHeld => ?_)
    clear hK K c2 f2
    try simp only [Act.put, List.setIfInBounds_toArray, List.set_cons_zero, List.set_cons_succ]
    refine wpAnyH_ready (rs := [2]) (by kernel_rfl) (by simp) ?_
    refine (AllReadyH.cons rfl (fun K hK => ?_) AllReadyH.nil)
    go_simp
    refine (HZ.out _).mono ?_
    rintro e v1 ⟨rfl, hv1⟩
    replace hv1 := hv1.symm
    subst hv1
    go_wp2_with fail
    refine hK.out _ _ hHeld (fun hHeld => ?_)
    clear hK K
    try simp only [Act.put, List.setIfInBounds_toArray, List.set_cons_zero, List.set_cons_succ]
    refine takeH (i := 4) (d := 12) (.string ⟨#[125]⟩) hq rfl rfl (by kernel_rfl) (by kernel_rfl) (by kernel_rfl) (by rfl) (fun W hSw => by (go_simp; try rfl)) hHeld ?_
    try simp only [Act.put, List.setIfInBounds_toArray, List.set_cons_zero, List.set_cons_succ]
    refine wpAnyH_ready (rs := [5]) (by kernel_rfl) (by simp) ?_
    refine (AllReadyH.cons rfl (fun K hK => ?_) AllReadyH.nil)
    go_simp
    go_wp2_with fail
    have HZ5 : Hid (At (VV.alloc (One (.string ⟨#[125]⟩) 9)) VV.heap.size (One (.string ⟨#[125]⟩) 9)) := hidD (At.new _ _)
    have HA1b := hidD (HA1.out.alloc (One (.string ⟨#[125]⟩) 9))
    have HA2b := hidD (HA2.out.alloc (One (.string ⟨#[125]⟩) 9))
    have HROWb := hidD (HROW.out.alloc (One (.string ⟨#[125]⟩) 9))
    have HBELb := hidD (HBEL.out.alloc HLOW.out (One (.string ⟨#[125]⟩) 9))
    have HLOWb : Hid (lo ≤ (VV.alloc (One (.string ⟨#[125]⟩) 9)).heap.size) := hidD (by have := HLO.out; have := HLOW.out; simp; omega)
    refine hK.out _ _ (show (fun V => At V b1 (One (.int .i64 0) 3)) (VV.alloc (One (.string ⟨#[125]⟩) 9)) from HA1b.out) (fun hHeld => ?_)
    clear hK K HA1 HA2 HROW HBEL
    try simp only [Act.put, List.setIfInBounds_toArray, List.set_cons_zero, List.set_cons_succ]
    obtain ⟨bz, hbz⟩ : ∃ bz, bz = VV.heap.size := ⟨_, rfl⟩
    rw [← hbz] at HZ5 ⊢
    generalize (VV.alloc (One (.string ⟨#[125]⟩) 9)) = v5 at HZ5 HA1b HA2b HROWb HBELb HLOWb hHeld ⊢
    clear hbz
    refine wpAnyH_ready (rs := [6]) (by kernel_rfl) (by simp) ?_
    refine (AllReadyH.cons (o := { dst := some 14, op := .call { callee := .builtin .append, args := #[.tmp 8, .tmp 13], argTypes := #[33, 33] }, type := 33, pos := "line.go:21", after := _, guard := none }) rfl (fun K hK => ?_) AllReadyH.nil)
    rw [if_pos (by rfl)]
    obtain ⟨g6, c6, w6, hrun, hrow6, hg6⟩ := app_str HROWb.out HZ5.out hm HLOWb.out
    have hne := own_ge HROWb.out
    have HA1c : Hid (At w6 b1 (One (.int .i64 0) 3)) := hidD (HA1b.out.grown hg6 (fun e => by have := hne _ e.symm; have := HBS.out; omega))
    have HA2c : Hid (At w6 b2 (One v 33)) := hidD (HA2b.out.grown hg6 (fun e => by have := hne _ e.symm; have := HBS.out; omega))
    have HBELc := hidD (HBELb.out.grown hg6 (by have := HLOWb.out; have := HBS.out; omega) (fun b e => by have := hne b e; have := HBS.out; omega))
    have HROWc := hidD hrow6
    have HLOWc := hidD (Nat.le_trans HLOWb.out hg6.size)
    refine wp_append1 rfl rfl rfl hrun ?_
    refine hK.out _ _ (show (fun V => At V b1 (One (.int .i64 0) 3)) w6 from HA1c.out) (fun hHeld => ?_)
    clear hK K hrun hrow6 hg6 hne
    try simp only [Act.put, List.setIfInBounds_toArray, List.set_cons_zero, List.set_cons_succ]
    refine wpAnyH_ready (rs := [7]) (by kernel_rfl) (by simp) ?_
    refine (AllReadyH.cons rfl (fun K hK => ?_) AllReadyH.nil)
    obtain ⟨c2, f2⟩ := HA2c.out.one
    go_simp
    go_wp2_with fail
    have HA2d : Hid (At (w6.setCell ⟨b2, 0, none⟩ (.slice (some ⟨g6, 0, none⟩) (m + 1) c6)) b2 (One (.slice (some ⟨g6, 0, none⟩) (m + 1) c6) 33)) := hidD (HA2c.out.setOne (.slice (some ⟨g6, 0, none⟩) (m + 1) c6))
    have HA1d : Hid (At (w6.setCell ⟨b2, 0, none⟩ (.slice (some ⟨g6, 0, none⟩) (m + 1) c6)) b1 (One (.int .i64 0) 3)) := hidD (HA1c.out.set (by have := HBS.out; simp; omega) (.slice (some ⟨g6, 0, none⟩) (m + 1) c6))
    have HROWd : Hid ((w6.setCell ⟨b2, 0, none⟩ (.slice (some ⟨g6, 0, none⟩) (m + 1) c6)).ownsRow lo 9 1 (.slice (some ⟨g6, 0, none⟩) (m + 1) c6) (m + 1) (xs ++ [.string ⟨#[125]⟩])) := hidD (own_set HROWc.out (by have := HBS.out; omega) _ _)
    have HLOWd : Hid (lo ≤ (w6.setCell ⟨b2, 0, none⟩ (.slice (some ⟨g6, 0, none⟩) (m + 1) c6)).heap.size) := hidD (by have := HLOWc.out; simpa using this)
    have HBELd : Hid (Below B0 w (w6.setCell ⟨b2, 0, none⟩ (.slice (some ⟨g6, 0, none⟩) (m + 1) c6))) := hidD (HBELc.out.setCell (by have := HBS.out; simp; omega) _)
    refine hK.out _ _ (show (fun V => At V b1 (One (.int .i64 0) 3)) (w6.setCell ⟨b2, 0, none⟩ (.slice (some ⟨g6, 0, none⟩) (m + 1) c6)) from HA1d.out) (fun hHeld => ?_)
    clear hK K c2 f2 HA1c HA2c HROWc HBELc
    try simp only [Act.put, List.setIfInBounds_toArray, List.set_cons_zero, List.set_cons_succ]
    refine wpAnyH_done (by kernel_rfl) ?_ _
    generalize (w6.setCell ⟨b2, 0, none⟩ (.slice (some ⟨g6, 0, none⟩) (m + 1) c6)) = w7 at HA1d HA2d HROWd HBELd HLOWd hHeld ⊢
    obtain ⟨c1, f1⟩ := HA1d.out.one
    go_wp2_with (go_at_call 55; refine (HSF.out _).mono ?_; rintro e w8 ⟨rfl, hw8⟩; replace hw8 := hw8.symm; subst hw8)
    exact bodyPost_end (results_none rfl _ _ _) rfl ⟨rfl, _, ⟨HA1d.out, HA2d.out, HROWd.out, HBELd.out, (by have := HLOWd.out; simpa using this)⟩⟩
  · go_simp
    refine (HZ.out _).mono ?_
    rintro e v1 ⟨rfl, hv1⟩
    replace hv1 := hv1.symm
    subst hv1
    go_wp2_with fail
    refine hK.out _ _ hHeld (fun hHeld => ?_)
    clear hK K
    try simp only [Act.put, List.setIfInBounds_toArray, List.set_cons_zero, List.set_cons_succ]
    refine takeH (i := 4) (d := 12) (.string ⟨#[125]⟩) hq rfl rfl (by kernel_rfl) (by kernel_rfl) (by kernel_rfl) (by rfl) (fun W hSw => by (go_simp; try rfl)) hHeld ?_
    try simp only [Act.put, List.setIfInBounds_toArray, List.set_cons_zero, List.set_cons_succ]
    refine wpAnyH_ready (rs := [0, 5]) (by kernel_rfl) (by simp) ?_
    refine (AllReadyH.cons rfl (fun K hK => ?_) (AllReadyH.cons rfl (fun K hK => ?_) AllReadyH.nil))
    · obtain ⟨c2, f2⟩ := HA2.out.one
      go_simp
      go_wp2_with fail
      refine hK.out _ _ hHeld (fun hHeld => ?_)
      clear hK K c2 f2
      try simp only [Act.put, List.setIfInBounds_toArray, List.set_cons_zero, List.set_cons_succ]
      refine wpAnyH_ready (rs := [5]) (by kernel_rfl) (by simp) ?_
      refine (AllReadyH.cons rfl (fun K hK => ?_) AllReadyH.nil)
      go_simp
      go_wp2_with fail
      have HZ5 : Hid (At (VV.alloc (One (.string ⟨#[125]⟩) 9)) VV.heap.size (One (.string ⟨#[125]⟩) 9)) := hidD (At.new _ _)
      have HA1b := hidD (HA1.out.alloc (One (.string ⟨#[125]⟩) 9))
      have HA2b := hidD (HA2.out.alloc (One (.string ⟨#[125]⟩) 9))
      have HROWb := hidD (HROW.out.alloc (One (.string ⟨#[125]⟩) 9))
      have HBELb := hidD (HBEL.out.alloc HLOW.out (One (.string ⟨#[125]⟩) 9))
      have HLOWb : Hid (lo ≤ (VV.alloc (One (.string ⟨#[125]⟩) 9)).heap.size) := hidD (by have := HLO.out; have := HLOW.out; simp; omega)
      refine hK.out _ _ (show (fun V => At V b1 (One (.int .i64 0) 3)) (VV.alloc (One (.string ⟨#[125]⟩) 9)) from HA1b.out) (fun hHeld => ?_)
      clear hK K HA1 HA2 HROW HBEL
      try simp only [Act.put, List.setIfInBounds_toArray, List.set_cons_zero, List.set_cons_succ]
      obtain ⟨bz, hbz⟩ : ∃ bz, bz = VV.heap.size := ⟨_, rfl⟩
      rw [← hbz] at HZ5 ⊢
      generalize (VV.alloc (One (.string ⟨#[125]⟩) 9)) = v5 at HZ5 HA1b HA2b HROWb HBELb HLOWb hHeld ⊢
      clear hbz
      refine wpAnyH_ready (rs := [6]) (by kernel_rfl) (by simp) ?_
      refine (AllReadyH.cons (o := { dst := some 14, op := .call { callee := .builtin .append, args := #[.tmp 8, .tmp 13], argTypes := #[33, 33] }, type := 33, pos := "line.go:21", after := _, guard := none }) rfl (fun K hK => ?_) AllReadyH.nil)
      rw [if_pos (by rfl)]
      obtain ⟨g6, c6, w6, hrun, hrow6, hg6⟩ := app_str HROWb.out HZ5.out hm HLOWb.out
      have hne := own_ge HROWb.out
      have HA1c : Hid (At w6 b1 (One (.int .i64 0) 3)) := hidD (HA1b.out.grown hg6 (fun e => by have := hne _ e.symm; have := HBS.out; omega))
      have HA2c : Hid (At w6 b2 (One v 33)) := hidD (HA2b.out.grown hg6 (fun e => by have := hne _ e.symm; have := HBS.out; omega))
      have HBELc := hidD (HBELb.out.grown hg6 (by have := HLOWb.out; have := HBS.out; omega) (fun b e => by have := hne b e; have := HBS.out; omega))
      have HROWc := hidD hrow6
      have HLOWc := hidD (Nat.le_trans HLOWb.out hg6.size)
      refine wp_append1 rfl rfl rfl hrun ?_
      refine hK.out _ _ (show (fun V => At V b1 (One (.int .i64 0) 3)) w6 from HA1c.out) (fun hHeld => ?_)
      clear hK K hrun hrow6 hg6 hne
      try simp only [Act.put, List.setIfInBounds_toArray, List.set_cons_zero, List.set_cons_succ]
      refine wpAnyH_ready (rs := [7]) (by kernel_rfl) (by simp) ?_
      refine (AllReadyH.cons rfl (fun K hK => ?_) AllReadyH.nil)
      obtain ⟨c2, f2⟩ := HA2c.out.one
      go_simp
      go_wp2_with fail
      have HA2d : Hid (At (w6.setCell ⟨b2, 0, none⟩ (.slice (some ⟨g6, 0, none⟩) (m + 1) c6)) b2 (One (.slice (some ⟨g6, 0, none⟩) (m + 1) c6) 33)) := hidD (HA2c.out.setOne (.slice (some ⟨g6, 0, none⟩) (m + 1) c6))
      have HA1d : Hid (At (w6.setCell ⟨b2, 0, none⟩ (.slice (some ⟨g6, 0, none⟩) (m + 1) c6)) b1 (One (.int .i64 0) 3)) := hidD (HA1c.out.set (by have := HBS.out; simp; omega) (.slice (some ⟨g6, 0, none⟩) (m + 1) c6))
      have HROWd : Hid ((w6.setCell ⟨b2, 0, none⟩ (.slice (some ⟨g6, 0, none⟩) (m + 1) c6)).ownsRow lo 9 1 (.slice (some ⟨g6, 0, none⟩) (m + 1) c6) (m + 1) (xs ++ [.string ⟨#[125]⟩])) := hidD (own_set HROWc.out (by have := HBS.out; omega) _ _)
      have HLOWd : Hid (lo ≤ (w6.setCell ⟨b2, 0, none⟩ (.slice (some ⟨g6, 0, none⟩) (m + 1) c6)).heap.size) := hidD (by have := HLOWc.out; simpa using this)
      have HBELd : Hid (Below B0 w (w6.setCell ⟨b2, 0, none⟩ (.slice (some ⟨g6, 0, none⟩) (m + 1) c6))) := hidD (HBELc.out.setCell (by have := HBS.out; simp; omega) _)
      refine hK.out _ _ (show (fun V => At V b1 (One (.int .i64 0) 3)) (w6.setCell ⟨b2, 0, none⟩ (.slice (some ⟨g6, 0, none⟩) (m + 1) c6)) from HA1d.out) (fun hHeld => ?_)
      clear hK K c2 f2 HA1c HA2c HROWc HBELc
      try simp only [Act.put, List.setIfInBounds_toArray, List.set_cons_zero, List.set_cons_succ]
      refine wpAnyH_done (by kernel_rfl) ?_ _
      generalize (w6.setCell ⟨b2, 0, none⟩ (.slice (some ⟨g6, 0, none⟩) (m + 1) c6)) = w7 at HA1d HA2d HROWd HBELd HLOWd hHeld ⊢
      obtain ⟨c1, f1⟩ := HA1d.out.one
      go_wp2_with (go_at_call 55; refine (HSF.out _).mono ?_; rintro e w8 ⟨rfl, hw8⟩; replace hw8 := hw8.symm; subst hw8)
      exact bodyPost_end (results_none rfl _ _ _) rfl ⟨rfl, _, ⟨HA1d.out, HA2d.out, HROWd.out, HBELd.out, (by have := HLOWd.out; simpa using this)⟩⟩
    · go_simp
      go_wp2_with fail
      have HZ5 : Hid (At (VV.alloc (One (.string ⟨#[125]⟩) 9)) VV.heap.size (One (.string ⟨#[125]⟩) 9)) := hidD (At.new _ _)
      have HA1b := hidD (HA1.out.alloc (One (.string ⟨#[125]⟩) 9))
      have HA2b := hidD (HA2.out.alloc (One (.string ⟨#[125]⟩) 9))
      have HROWb := hidD (HROW.out.alloc (One (.string ⟨#[125]⟩) 9))
      have HBELb := hidD (HBEL.out.alloc HLOW.out (One (.string ⟨#[125]⟩) 9))
      have HLOWb : Hid (lo ≤ (VV.alloc (One (.string ⟨#[125]⟩) 9)).heap.size) := hidD (by have := HLO.out; have := HLOW.out; simp; omega)
      refine hK.out _ _ (show (fun V => At V b1 (One (.int .i64 0) 3)) (VV.alloc (One (.string ⟨#[125]⟩) 9)) from HA1b.out) (fun hHeld => ?_)
      clear hK K HA1 HA2 HROW HBEL
      try simp only [Act.put, List.setIfInBounds_toArray, List.set_cons_zero, List.set_cons_succ]
      obtain ⟨bz, hbz⟩ : ∃ bz, bz = VV.heap.size := ⟨_, rfl⟩
      rw [← hbz] at HZ5 ⊢
      generalize (VV.alloc (One (.string ⟨#[125]⟩) 9)) = v5 at HZ5 HA1b HA2b HROWb HBELb HLOWb hHeld ⊢
      clear hbz
      refine wpAnyH_ready (rs := [0]) (by kernel_rfl) (by simp) ?_
      refine (AllReadyH.cons rfl (fun K hK => ?_) AllReadyH.nil)
      obtain ⟨c2, f2⟩ := HA2b.out.one
      go_simp
      go_wp2_with fail
      refine hK.out _ _ hHeld (fun hHeld => ?_)
      clear hK K c2 f2
      try simp only [Act.put, List.setIfInBounds_toArray, List.set_cons_zero, List.set_cons_succ]
      refine wpAnyH_ready (rs := [6]) (by kernel_rfl) (by simp) ?_
      refine (AllReadyH.cons (o := { dst := some 14, op := .call { callee := .builtin .append, args := #[.tmp 8, .tmp 13], argTypes := #[33, 33] }, type := 33, pos := "line.go:21", after := _, guard := none }) rfl (fun K hK => ?_) AllReadyH.nil)
      rw [if_pos (by rfl)]
      obtain ⟨g6, c6, w6, hrun, hrow6, hg6⟩ := app_str HROWb.out HZ5.out hm HLOWb.out
      have hne := own_ge HROWb.out
      have HA1c : Hid (At w6 b1 (One (.int .i64 0) 3)) := hidD (HA1b.out.grown hg6 (fun e => by have := hne _ e.symm; have := HBS.out; omega))
      have HA2c : Hid (At w6 b2 (One v 33)) := hidD (HA2b.out.grown hg6 (fun e => by have := hne _ e.symm; have := HBS.out; omega))
      have HBELc := hidD (HBELb.out.grown hg6 (by have := HLOWb.out; have := HBS.out; omega) (fun b e => by have := hne b e; have := HBS.out; omega))
      have HROWc := hidD hrow6
      have HLOWc := hidD (Nat.le_trans HLOWb.out hg6.size)
      refine wp_append1 rfl rfl rfl hrun ?_
      refine hK.out _ _ (show (fun V => At V b1 (One (.int .i64 0) 3)) w6 from HA1c.out) (fun hHeld => ?_)
      clear hK K hrun hrow6 hg6 hne
      try simp only [Act.put, List.setIfInBounds_toArray, List.set_cons_zero, List.set_cons_succ]
      refine wpAnyH_ready (rs := [7]) (by kernel_rfl) (by simp) ?_
      refine (AllReadyH.cons rfl (fun K hK => ?_) AllReadyH.nil)
      obtain ⟨c2, f2⟩ := HA2c.out.one
      go_simp
      go_wp2_with fail
      have HA2d : Hid (At (w6.setCell ⟨b2, 0, none⟩ (.slice (some ⟨g6, 0, none⟩) (m + 1) c6)) b2 (One (.slice (some ⟨g6, 0, none⟩) (m + 1) c6) 33)) := hidD (HA2c.out.setOne (.slice (some ⟨g6, 0, none⟩) (m + 1) c6))
      have HA1d : Hid (At (w6.setCell ⟨b2, 0, none⟩ (.slice (some ⟨g6, 0, none⟩) (m + 1) c6)) b1 (One (.int .i64 0) 3)) := hidD (HA1c.out.set (by have := HBS.out; simp; omega) (.slice (some ⟨g6, 0, none⟩) (m + 1) c6))
      have HROWd : Hid ((w6.setCell ⟨b2, 0, none⟩ (.slice (some ⟨g6, 0, none⟩) (m + 1) c6)).ownsRow lo 9 1 (.slice (some ⟨g6, 0, none⟩) (m + 1) c6) (m + 1) (xs ++ [.string ⟨#[125]⟩])) := hidD (own_set HROWc.out (by have := HBS.out; omega) _ _)
      have HLOWd : Hid (lo ≤ (w6.setCell ⟨b2, 0, none⟩ (.slice (some ⟨g6, 0, none⟩) (m + 1) c6)).heap.size) := hidD (by have := HLOWc.out; simpa using this)
      have HBELd : Hid (Below B0 w (w6.setCell ⟨b2, 0, none⟩ (.slice (some ⟨g6, 0, none⟩) (m + 1) c6))) := hidD (HBELc.out.setCell (by have := HBS.out; simp; omega) _)
      refine hK.out _ _ (show (fun V => At V b1 (One (.int .i64 0) 3)) (w6.setCell ⟨b2, 0, none⟩ (.slice (some ⟨g6, 0, none⟩) (m + 1) c6)) from HA1d.out) (fun hHeld => ?_)
      clear hK K c2 f2 HA1c HA2c HROWc HBELc
      try simp only [Act.put, List.setIfInBounds_toArray, List.set_cons_zero, List.set_cons_succ]
      refine wpAnyH_done (by kernel_rfl) ?_ _
      generalize (w6.setCell ⟨b2, 0, none⟩ (.slice (some ⟨g6, 0, none⟩) (m + 1) c6)) = w7 at HA1d HA2d HROWd HBELd HLOWd hHeld ⊢
      obtain ⟨c1, f1⟩ := HA1d.out.one
      go_wp2_with (go_at_call 55; refine (HSF.out _).mono ?_; rintro e w8 ⟨rfl, hw8⟩; replace hw8 := hw8.symm; subst hw8)
      exact bodyPost_end (results_none rfl _ _ _) rfl ⟨rfl, _, ⟨HA1d.out, HA2d.out, HROWd.out, HBELd.out, (by have := HLOWd.out; simpa using this)⟩⟩
end Go.Proofs.YtahdnfogdnondaaGreatDoor
