import Derived.Test.YtjchbclkdbojpaaDoorY
namespace Go.Proofs.YtjchbclkdbojpaaDoor
open Go.RowKit Go.Shelf
set_option linter.unusedVariables false
set_option linter.unusedSimpArgs false

set_option maxRecDepth 100000 in
set_option maxHeartbeats 2000000 in
theorem Text_yes (c : Ch) (f : Fv) (w : World) (hc : Ok c) (hr : c.rg) (h : TyAt w f c.ty) (hI : ∀ n ∈ c.nums, ItC w n) :
    Calls Tryd.prog 40 #[f.v] w fun e w' => e = .returned (.tuple #[.string (str (txt c)), .int .i64 0]) ∧ Below w.heap.size w w' := by
  have CS : Hid (Calls Tryd.prog 56 #[f.v] (w.alloc f.o) fun e w' => e = .returned (.bool true) ∧ Below (w.alloc f.o).heap.size (w.alloc f.o) w') := by
    have := some_any c.ty f (w.alloc f.o) (h.bel (belA (Below.refl _ _)))
    rw [hc.is] at this
    exact this
  have hlen : (txt c).length ≤ 2000 := by have := txt_len c hr; have := hc.deep; omega
  have CW : Hid (∀ W, Below w.heap.size w W → Calls Tryd.prog 75 #[.pointer (some ⟨W.heap.size, 0, none⟩), f.v] (W.alloc (.cells #[.pointer none, .slice none 0 0] 108)) fun e w' => e = .returned (.tuple #[]) ∧ BldT w.heap.size W.heap.size (txt c) w' ∧ Below w.heap.size w w') := fun W hW => by
    have h0 : BldT w.heap.size W.heap.size [] (W.alloc (.cells #[.pointer none, .slice none 0 0] 108)) := .inl ⟨hW.size, .slice none 0 0, At.new W _, World.ownsRowF_of (World.ownsRow_nil _ _ _ _), by simp [Value.ownBlock]⟩
    exact (write_all w c hc.ok hr hI f w.heap.size W.heap.size [] _ h h0 (by have := hW.size; simp; omega) (Nat.le_refl _) (hW.alloc hW.size _) (by simp; omega)).mono fun e w' k => ⟨k.1, k.2.1, (hW.alloc hW.size _).trans k.2.2.1⟩
  have CT : Hid (∀ b W, BldT w.heap.size b (txt c) W → Below w.heap.size w W → Calls Tryd.prog 76 #[.pointer (some ⟨b, 0, none⟩)] W fun e w' => e = .returned (.string (str (txt c))) ∧ Below w.heap.size w w') := fun b W h1 h2 =>
    (Tryd.Builder_String_any_k w.heap.size b (txt c) W h1 h2.size).mono fun e w' k => ⟨k.1, h2.trans k.2.2.1⟩
  have A0 : At (w.alloc f.o) w.heap.size f.o := At.new _ _
  obtain ⟨t, ht⟩ : ∃ t, t = str (txt c) := ⟨_, rfl⟩
  rw [← ht] at CT ⊢
  obtain ⟨k, m, r, s, a, n, cap⟩ := f
  show Calls Tryd.prog 40 #[tyV k m r s a n cap] w _
  clear h hI hlen ht
  go_enter Tryd.func40, Tryd.ntmps40
  go_wp2_with (first
    | (go_at_call 56; refine CS.out.mono ?_; rintro e w1 ⟨rfl, hb1⟩; obtain ⟨hl, p0, p1, p2, p3, p4⟩ := (A0.below hb1).ty)
    | (go_at_call 75; refine (CW.out w1 (below1 hb1)).mono ?_; rintro e w2 ⟨rfl, h2, h3⟩)
    | (go_at_call 76; refine (CT.out _ w2 h2 h3).mono ?_; rintro e w3 ⟨rfl, h4⟩))
  go_ret2
  exact ⟨rfl, h4⟩
set_option maxRecDepth 100000 in
theorem Text_no (t : Ty) (f : Fv) (w : World) (h : TyAt w f t) (hn : isT t = false) : Calls Tryd.prog 40 #[f.v] w fun e w' => e = .returned (.tuple #[.string (str []), .int .i64 2]) ∧ Below w.heap.size w w' := by
  have CS : Hid (Calls Tryd.prog 56 #[f.v] (w.alloc f.o) fun e w' => e = .returned (.bool false) ∧ Below (w.alloc f.o).heap.size (w.alloc f.o) w') := by
    have := some_any t f (w.alloc f.o) (h.bel (belA (Below.refl _ _)))
    rw [hn] at this
    exact this
  obtain ⟨k, m, r, s, a, n, cap⟩ := f
  show Calls Tryd.prog 40 #[tyV k m r s a n cap] w _
  clear h hn
  go_enter Tryd.func40, Tryd.ntmps40
  go_wp2_with (go_at_call 56; refine CS.out.mono ?_; rintro e w1 ⟨rfl, hb1⟩)
  go_ret2
  exact ⟨rfl, below1 hb1⟩
/-- Two lists of numbers of one length. -/
theorem equal_rows {W : World} {B1 B2 : Nat} {v1 v2 : Value} {l m : List Int} (h1 : W.ownsRow B1 3 1 v1 l.length (iCells l)) (h2 : W.ownsRow B2 3 1 v2 m.length (iCells m)) (hl : l.length = m.length) (hs : l.length ≤ 1000) :
    Calls Tryd.prog 64 #[v1, v2] W fun e w' => e = .returned (.bool (decide (l = m))) ∧ Below W.heap.size W w' := by
  have cells : ∀ {B : Nat} {g cap : Nat} {cur : Array Value} {l : List Int}, W.heap[g]? = some (.cells cur 3 (0, 0)) → cur.toList.take (l.length * 1) = iCells l → ∀ j, j < l.length → W.cell? ⟨g, 0 + j, none⟩ = some (.int .i64 (l.getD j 0)) := fun {B g cap cur l} hg ht j hj => by
    have hc : W.cell? ⟨g, 0 + j, none⟩ = cur[0 + j]? := by simp [World.cell?, hg]
    rw [hc, Nat.zero_add]
    have : (iCells l)[j]? = some (.int .i64 (l.getD j 0)) := by rw [iCells, List.getElem?_map, List.getElem?_eq_getElem hj, List.getD_eq_getElem?_getD, List.getElem?_eq_getElem hj]; rfl
    rw [← ht, List.getElem?_take] at this
    split at this
    · simpa using this
    · cases this
  rcases h1.2 with ⟨rfl, h0⟩ | ⟨g, cap, cur, rfl, _, hg, _, _, _, ht⟩
  · obtain ⟨a2, c2, rfl⟩ := own_sl h2
    refine (Tryd.slices_Equal_int_empty none a2 0 m.length c2 W (by omega)).mono ?_
    rintro e w' ⟨he, rfl⟩
    refine ⟨?_, Below.refl _ _⟩
    have el : l = [] := List.length_eq_zero_iff.1 h0
    have em : m = [] := List.length_eq_zero_iff.1 (by omega)
    rw [he, el, em]
    rfl
  · rcases h2.2 with ⟨rfl, h0⟩ | ⟨g2, cap2, cur2, rfl, _, hg2, _, _, _, ht2⟩
    · have el : l = [] := List.length_eq_zero_iff.1 (by omega)
      have em : m = [] := List.length_eq_zero_iff.1 h0
      subst el em
      refine (Tryd.slices_Equal_int_empty (some ⟨g, 0, none⟩) none cap 0 0 W (by omega)).mono ?_
      rintro e w' ⟨he, rfl⟩
      exact ⟨he, Below.refl _ _⟩
    · refine (Tryd.slices_Equal_int g 0 l.length cap g2 0 m.length cap2 l m W (Nat.le_refl _) (Nat.le_refl _) (by omega) (by omega) (cells (B := 0) (cap := 0) hg ht) (cells (B := 0) (cap := 0) hg2 ht2)).mono ?_
      rintro e w' ⟨he, q, rfl⟩
      refine ⟨?_, belN (Below.refl _ _) q⟩
      rw [he, List.take_length, List.take_length]
      apply ret_bool
      rw [Bool.eq_iff_iff]
      simp
theorem own_below {W W' : World} {B e s n : Nat} {v : Value} {xs : List Value} (h : W.ownsRow B e s v n xs) (k : Below W.heap.size W W') : W'.ownsRow B e s v n xs := by
  refine ⟨h.1, ?_⟩
  rcases h.2 with hn | ⟨g, cap, cur, hv, h1, hg, rest⟩
  · exact .inl hn
  · exact .inr ⟨g, cap, cur, hv, h1, (k.block g (lt_of_block hg)).trans hg, rest⟩
theorem alike_len : ∀ c d : Ch, alikeB c d = true → c.regs.length = d.regs.length
  | .leaf _ _, .leaf _ _, _ => rfl
  | .leaf _ _, .box _, h => by simp [alikeB] at h
  | .leaf _ _, .ref _ _ _, h => by simp [alikeB] at h
  | .box _, .leaf _ _, h => by simp [alikeB] at h
  | .box c, .box d, h => alike_len c d (by simpa [alikeB] using h)
  | .box _, .ref _ _ _, h => by simp [alikeB] at h
  | .ref _ _ _, .leaf _ _, h => by simp [alikeB] at h
  | .ref _ _ _, .box _, h => by simp [alikeB] at h
  | .ref m r c, .ref m' r' d, h => by simp [alikeB] at h; simp [Ch.regs, alike_len c d h.2]
set_option maxRecDepth 100000 in
set_option maxHeartbeats 4000000 in
theorem Same_no (f f' : Fv) (w : World) (hA : ∀ W, Below w.heap.size w W → Calls Tryd.prog 28 #[f.v, f'.v] W fun e w' => e = .returned (.bool false) ∧ Below W.heap.size W w') :
    Calls Tryd.prog 30 #[f.v, f'.v] w fun e w' => e = .returned (.bool false) ∧ Below w.heap.size w w' := by
  have CA : Hid (∀ W, Below w.heap.size w W → Calls Tryd.prog 28 #[f.v, f'.v] W fun e w' => e = .returned (.bool false) ∧ Below W.heap.size W w') := hA
  obtain ⟨N1, N2⟩ := two_new w f f'
  clear hA
  go_enter Tryd.func30, Tryd.ntmps30
  go_wp2_with fail
  refine beginH (S := fun W => Below ((w.alloc f.o).alloc f'.o).heap.size ((w.alloc f.o).alloc f'.o) W) (fun _ _ _ _ _ h => h) (by kernel_rfl) (Below.refl _ _).drew (fun hq hHeld => ?_)
  refine takeH (i := 0) (d := 5) f.v hq rfl rfl (by kernel_rfl) (by kernel_rfl) (by kernel_rfl) (by rfl) (fun W hSw => by (obtain ⟨-, p0, p1, p2, p3, p4⟩ := N1.below hSw; go_simp; try rfl)) hHeld ?_
  try simp only [Act.put, List.setIfInBounds_toArray, List.set_cons_zero, List.set_cons_succ]
  refine takeH (i := 1) (d := 6) f'.v hq rfl rfl (by kernel_rfl) (by kernel_rfl) (by kernel_rfl) (by rfl) (fun W hSw => by (obtain ⟨-, p0, p1, p2, p3, p4⟩ := N2.below hSw; go_simp; try rfl)) hHeld ?_
  try simp only [Act.put, List.setIfInBounds_toArray, List.set_cons_zero, List.set_cons_succ]
  refine wpAnyH_ready (rs := [2]) (by kernel_rfl) (by simp) ?_
  refine AllReadyH.cons rfl (fun K hK => ?_) AllReadyH.nil
  go_simp
  refine (CA.out _ (below2 hHeld)).mono ?_; rintro e w1 ⟨rfl, hb1⟩; have B1 := below_aft hHeld hb1
  go_wp2_with fail
  refine hK.out _ _ B1 (fun hHeld => ?_)
  clear hK K
  try simp only [Act.put, List.setIfInBounds_toArray, List.set_cons_zero, List.set_cons_succ]
  refine takeH (i := 3) (d := 8) _ hq rfl rfl (by kernel_rfl) (by kernel_rfl) (by kernel_rfl) (by rfl) (fun W hSw => by (go_simp; try rfl)) hHeld ?_
  try simp only [Act.put, List.setIfInBounds_toArray, List.set_cons_zero, List.set_cons_succ]
  refine skipH (i := 4) (d := 9) hq rfl rfl (by kernel_rfl) (by kernel_rfl) (by kernel_rfl) (by rfl) hHeld ?_
  try simp only [Act.put, List.setIfInBounds_toArray, List.set_cons_zero, List.set_cons_succ]
  refine skipH (i := 5) (d := 10) hq rfl rfl (by kernel_rfl) (by kernel_rfl) (by kernel_rfl) (by rfl) hHeld ?_
  try simp only [Act.put, List.setIfInBounds_toArray, List.set_cons_zero, List.set_cons_succ]
  refine skipH (i := 6) (d := 11) hq rfl rfl (by kernel_rfl) (by kernel_rfl) (by kernel_rfl) (by rfl) hHeld ?_
  try simp only [Act.put, List.setIfInBounds_toArray, List.set_cons_zero, List.set_cons_succ]
  refine skipH (i := 7) (d := 12) hq rfl rfl (by kernel_rfl) (by kernel_rfl) (by kernel_rfl) (by rfl) hHeld ?_
  try simp only [Act.put, List.setIfInBounds_toArray, List.set_cons_zero, List.set_cons_succ]
  refine skipH (i := 8) (d := 13) hq rfl rfl (by kernel_rfl) (by kernel_rfl) (by kernel_rfl) (by rfl) hHeld ?_
  try simp only [Act.put, List.setIfInBounds_toArray, List.set_cons_zero, List.set_cons_succ]
  refine takeH (i := 9) (d := 14) _ hq rfl rfl (by kernel_rfl) (by kernel_rfl) (by kernel_rfl) (by rfl) (fun W hSw => by (go_simp; try rfl)) hHeld ?_
  try simp only [Act.put, List.setIfInBounds_toArray, List.set_cons_zero, List.set_cons_succ]
  refine takeH (i := 10) (d := 4) _ hq rfl rfl (by kernel_rfl) (by kernel_rfl) (by kernel_rfl) (by rfl) (fun W hSw => by (go_simp; try rfl)) hHeld ?_
  try simp only [Act.put, List.setIfInBounds_toArray, List.set_cons_zero, List.set_cons_succ]
  refine wpAnyH_done (by kernel_rfl) ?_ _
  have BB := hHeld
  clear hHeld hq
  go_wp2_with fail
  go_ret
  exact ⟨rfl, below2 BB⟩
set_option maxRecDepth 100000 in
set_option maxHeartbeats 4000000 in
theorem Same_alike (c d : Ch) (f f' : Fv) (w : World) (h : TyAt w f c.ty) (h' : TyAt w f' d.ty) (hc : Ok c) (hd : Ok d) (ha : alikeB c d = true) :
    Calls Tryd.prog 30 #[f.v, f'.v] w fun e w' => e = .returned (.bool (decide (c.regs = d.regs))) ∧ Below w.heap.size w w' := by
  have CA : Hid (∀ W, Below w.heap.size w W → Calls Tryd.prog 28 #[f.v, f'.v] W fun e w' => e = .returned (.bool true) ∧ Below W.heap.size W w') := fun W hW => by
    have := Alike_yes c d f f' W (h.bel hW) (h'.bel hW) hc hd
    rw [ha] at this
    exact this
  have C1 : Hid (∀ W, Below w.heap.size w W → Calls Tryd.prog 32 #[f.v] W fun e w' => (∃ v, e = .returned v ∧ w'.ownsRow W.heap.size 3 1 v c.regs.length (iCells c.regs)) ∧ Below W.heap.size W w') := fun W hW => Regions_yes c f W hc (h.bel hW)
  have C2 : Hid (∀ W, Below w.heap.size w W → Calls Tryd.prog 32 #[f'.v] W fun e w' => (∃ v, e = .returned v ∧ w'.ownsRow W.heap.size 3 1 v d.regs.length (iCells d.regs)) ∧ Below W.heap.size W w') := fun W hW => Regions_yes d f' W hd (h'.bel hW)
  have hlen := alike_len c d ha
  have hs : c.regs.length ≤ 1000 := by have := regs_le c; have := hc.deep; omega
  have CE : Hid (∀ W B1 B2 v1 v2, W.ownsRow B1 3 1 v1 c.regs.length (iCells c.regs) → W.ownsRow B2 3 1 v2 d.regs.length (iCells d.regs) → Calls Tryd.prog 64 #[v1, v2] W fun e w' => e = .returned (.bool (decide (c.regs = d.regs))) ∧ Below W.heap.size W w') := fun W B1 B2 v1 v2 h1 h2 => equal_rows h1 h2 hlen hs
  obtain ⟨N1, N2⟩ := two_new w f f'
  obtain ⟨rr, hrr⟩ : ∃ rr, rr = decide (c.regs = d.regs) := ⟨_, rfl⟩
  rw [← hrr] at CE ⊢
  clear h h' ha hlen hs hrr
  go_enter Tryd.func30, Tryd.ntmps30
  go_wp2_with fail
  refine beginH (S := fun W => Below ((w.alloc f.o).alloc f'.o).heap.size ((w.alloc f.o).alloc f'.o) W) (fun _ _ _ _ _ h => h) (by kernel_rfl) (Below.refl _ _).drew (fun hq hHeld => ?_)
  refine takeH (i := 0) (d := 5) f.v hq rfl rfl (by kernel_rfl) (by kernel_rfl) (by kernel_rfl) (by rfl) (fun W hSw => by (obtain ⟨-, p0, p1, p2, p3, p4⟩ := N1.below hSw; go_simp; try rfl)) hHeld ?_
  try simp only [Act.put, List.setIfInBounds_toArray, List.set_cons_zero, List.set_cons_succ]
  refine takeH (i := 1) (d := 6) f'.v hq rfl rfl (by kernel_rfl) (by kernel_rfl) (by kernel_rfl) (by rfl) (fun W hSw => by (obtain ⟨-, p0, p1, p2, p3, p4⟩ := N2.below hSw; go_simp; try rfl)) hHeld ?_
  try simp only [Act.put, List.setIfInBounds_toArray, List.set_cons_zero, List.set_cons_succ]
  refine wpAnyH_ready (rs := [2]) (by kernel_rfl) (by simp) ?_
  refine AllReadyH.cons rfl (fun K hK => ?_) AllReadyH.nil
  go_simp
  refine (CA.out _ (below2 hHeld)).mono ?_; rintro e w1 ⟨rfl, hb1⟩; have B1 := below_aft hHeld hb1
  go_wp2_with fail
  refine hK.out _ _ B1 (fun hHeld => ?_)
  clear hK K
  try simp only [Act.put, List.setIfInBounds_toArray, List.set_cons_zero, List.set_cons_succ]
  refine takeH (i := 3) (d := 8) _ hq rfl rfl (by kernel_rfl) (by kernel_rfl) (by kernel_rfl) (by rfl) (fun W hSw => by (go_simp; try rfl)) hHeld ?_
  try simp only [Act.put, List.setIfInBounds_toArray, List.set_cons_zero, List.set_cons_succ]
  refine takeH (i := 4) (d := 9) f.v hq rfl rfl (by kernel_rfl) (by kernel_rfl) (by kernel_rfl) (by rfl) (fun W hSw => by (obtain ⟨-, p0, p1, p2, p3, p4⟩ := N1.below hSw; go_simp; try rfl)) hHeld ?_
  try simp only [Act.put, List.setIfInBounds_toArray, List.set_cons_zero, List.set_cons_succ]
  refine takeH (i := 6) (d := 11) f'.v hq rfl rfl (by kernel_rfl) (by kernel_rfl) (by kernel_rfl) (by rfl) (fun W hSw => by (obtain ⟨-, p0, p1, p2, p3, p4⟩ := N2.below hSw; go_simp; try rfl)) hHeld ?_
  try simp only [Act.put, List.setIfInBounds_toArray, List.set_cons_zero, List.set_cons_succ]
  refine wpAnyH_ready (rs := [5]) (by kernel_rfl) (by simp) ?_
  refine AllReadyH.cons rfl (fun K hK => ?_) AllReadyH.nil
  · go_simp
    refine (C1.out _ (below2 hHeld)).mono ?_
    rintro e w2 ⟨⟨v1, rfl, o1⟩, hb2⟩
    have B2 := below_aft hHeld hb2
    go_wp2_with fail
    refine hK.out _ _ ?_ (fun hHeld => ?_)
    · with_reducible exact B2
    clear hK K
    try simp only [Act.put, List.setIfInBounds_toArray, List.set_cons_zero, List.set_cons_succ]
    refine wpAnyH_ready (rs := [7]) (by kernel_rfl) (by simp) ?_
    refine AllReadyH.cons rfl (fun K hK => ?_) AllReadyH.nil
    go_simp
    refine (C2.out _ (below2 B2)).mono ?_
    rintro e w3 ⟨⟨v2, rfl, o2⟩, hb3⟩
    have B3 := below_aft B2 hb3
    have OA := own_below o1 hb3
    go_wp2_with fail
    refine hK.out _ _ ?_ (fun hHeld => ?_)
    · with_reducible exact B3
    clear hK K
    try simp only [Act.put, List.setIfInBounds_toArray, List.set_cons_zero, List.set_cons_succ]
    refine wpAnyH_ready (rs := [8]) (by kernel_rfl) (by simp) ?_
    refine AllReadyH.cons rfl (fun K hK => ?_) AllReadyH.nil
    go_simp
    refine (CE.out w3 _ _ _ _ OA o2).mono ?_
    rintro e w4 ⟨rfl, hb4⟩
    have B4 := below_aft B3 hb4
    go_wp2_with fail
    refine hK.out _ _ ?_ (fun hHeld => ?_)
    · with_reducible exact B4
    clear hK K
    try simp only [Act.put, List.setIfInBounds_toArray, List.set_cons_zero, List.set_cons_succ]
    refine takeH (i := 9) (d := 14) (.bool rr) hq rfl rfl (by kernel_rfl) (by kernel_rfl) (by kernel_rfl) (by rfl) (fun W hSw => by (go_simp; try rfl)) hHeld ?_
    try simp only [Act.put, List.setIfInBounds_toArray, List.set_cons_zero, List.set_cons_succ]
    refine takeH (i := 10) (d := 4) _ hq rfl rfl (by kernel_rfl) (by kernel_rfl) (by kernel_rfl) (by rfl) (fun W hSw => by (go_simp; try rfl)) hHeld ?_
    try simp only [Act.put, List.setIfInBounds_toArray, List.set_cons_zero, List.set_cons_succ]
    refine wpAnyH_done (by kernel_rfl) ?_ _
    clear hHeld hq
    go_wp2_with fail
    go_ret
    exact ⟨rfl, below2 B4⟩
theorem Same_yes (c d : Ch) (f f' : Fv) (w : World) (h : TyAt w f c.ty) (h' : TyAt w f' d.ty) (hc : Ok c) (hd : Ok d) : Calls Tryd.prog 30 #[f.v, f'.v] w fun e w' => e = .returned (.bool (sameC c d)) ∧ Below w.heap.size w w' := by
  unfold sameC
  cases ha : alikeB c d with
  | true =>
    rw [Bool.true_and]
    exact Same_alike c d f f' w h h' hc hd ha
  | false =>
    rw [Bool.false_and]
    exact Same_no f f' w fun W hW => by
      have := Alike_yes c d f f' W (h.bel hW) (h'.bel hW) hc hd
      rw [ha] at this
      exact this
end Go.Proofs.YtjchbclkdbojpaaDoor
