import Derived.Test.YtjchbclkdbojpaaDoorAd
namespace Go.Proofs.YtjchbclkdbojpaaDoor
open Go.RowKit Go.Shelf
set_option linter.unusedVariables false
set_option linter.unusedSimpArgs false

theorem row_cell {W : World} {B : Nat} {v : Value} {l : List Int} (h : W.ownsRow B 3 1 v l.length (iCells l)) : ∃ g off cap, v = .slice (some ⟨g, off, none⟩) l.length cap ∧ g < W.heap.size ∧ (∀ i x, l[i]? = some x → W.cell? ⟨g, off + i, none⟩ = some (.int .i64 x)) ∨ v = .slice none 0 0 ∧ l = [] := by
  rcases h.2 with ⟨rfl, h0⟩ | ⟨g, cap, cur, rfl, _, hg, _, _, _, ht⟩
  · exact ⟨0, 0, 0, .inr ⟨rfl, List.length_eq_zero_iff.1 h0⟩⟩
  · refine ⟨g, 0, cap, .inl ⟨rfl, lt_of_block hg, fun i x hx => ?_⟩⟩
    have hc : W.cell? ⟨g, 0 + i, none⟩ = cur[0 + i]? := by simp [World.cell?, hg]
    rw [hc, Nat.zero_add]
    have : (iCells l)[i]? = some (.int .i64 x) := by rw [iCells, List.getElem?_map, hx]; rfl
    rw [← ht, List.getElem?_take] at this
    split at this
    · simpa using this
    · cases this
theorem wpl_append_rows {P : Program} {w : World} {ops : Array Oper} {rest : List Oper} {o : Oper} {a : Act} {Q : Exit → Act → World → Prop} (hgd : o.guard = none) (s x : Operand) (t : TypeId)
    (ho : o.op = .call { callee := .builtin .append, args := #[s, x], argTypes := #[t, t] })
    (base B2 : Nat) (e : TypeId) (i : TypeInfo) (z : Value) (size bytes : Nat) (ht : P.underlying t = some (.slice e)) (hi : P.info? e = some i) (hz : i.zero = some z)
    (hsize : i.size = size) (hby : i.bytes = bytes) (hzs : z.cells.size = size) (hsz : 0 < size)
    (v : Value) (n : Nat) (xs : List Value) (hs : a.eval s = v) (hown : w.ownsRow base e size v n xs)
    (v2 : Value) (m : Nat) (ys : List Value) (hx : a.eval x = v2) (hown2 : w.ownsRow B2 e size v2 m ys) (h1 : ∀ u ∈ ys, u.oneCell' = true)
    (h63 : n + m ≤ maxLen) (hbytes : (n + m) * bytes ≤ 140737488355328) (hbase : base ≤ w.heap.size)
    (h : ∀ v' w', w'.ownsRow base e size v' (n + m) (xs ++ ys) → w.grownBy w' v.ownBlock → wpList P ops Q rest (a.put o.dst v') w') : wpList P ops Q (o :: rest) a w :=
  wpList_plain hgd fun _ hK => append_rows s x t ho base B2 e i z size bytes ht hi hz hsize hby hzs hsz v n xs hs hown v2 m ys hx hown2 h1 h63 hbytes hbase fun v' w' h2 h3 => hK _ _ (h v' w' h2 h3)
set_option maxRecDepth 100000 in
set_option maxHeartbeats 1000000 in
theorem rAsks_un (f f' : Fv) (w : World) (hA : ∀ W, Below w.heap.size w W → Calls Tryd.prog 29 #[f.v, f'.v] W fun e w' => e = .returned (.bool false) ∧ Below W.heap.size W w') :
    Calls Tryd.prog 39 #[f.v, f'.v] w fun e w' => e = .returned (.tuple #[.slice none 0 0, .int .i64 2]) ∧ Below w.heap.size w w' := by
  have CA : Hid (Calls Tryd.prog 29 #[f.v, f'.v] ((w.alloc f.o).alloc f'.o) fun e w' => e = .returned (.bool false) ∧ Below ((w.alloc f.o).alloc f'.o).heap.size ((w.alloc f.o).alloc f'.o) w') := hA _ (belB w f f')
  obtain ⟨k, m, r, s, a, n, cap⟩ := f
  obtain ⟨k', m', r', s', a', n', cap'⟩ := f'
  show Calls Tryd.prog 39 #[tyV k m r s a n cap, tyV k' m' r' s' a' n' cap'] w _
  clear hA
  go_enter Tryd.func39, Tryd.ntmps39
  go_wp2_with (go_at_call 29; refine CA.out.mono ?_; rintro e w1 ⟨rfl, hb1⟩)
  go_ret2
  exact ⟨rfl, below2 hb1⟩
set_option maxRecDepth 100000 in
set_option maxHeartbeats 4000000 in
theorem rAsks_alike (c d : Ch) (f f' : Fv) (w : World) (hc : Ok c) (hd : Ok d) (h : TyAt w f c.ty) (h' : TyAt w f' d.ty) (ha : alikeB c d = true) :
    Calls Tryd.prog 39 #[f.v, f'.v] w fun e w' => (((c.regs ++ d.regs).any (fun r => decide (r < 0)) = true ∧ e = .returned (.tuple #[.slice none 0 0, .int .i64 2])) ∨ ((c.regs ++ d.regs).any (fun r => decide (r < 0)) = false ∧ ∃ v, e = .returned (.tuple #[v, .int .i64 0]) ∧ w'.ownsRow w.heap.size 67 2 v (asksL false c d).length (cCells (asksL false c d)))) ∧ Below w.heap.size w w' := by
  have CA : Hid (Calls Tryd.prog 29 #[f.v, f'.v] ((w.alloc f.o).alloc f'.o) fun e w' => e = .returned (.bool true) ∧ Below ((w.alloc f.o).alloc f'.o).heap.size ((w.alloc f.o).alloc f'.o) w') := by
    have := rAlike_yes c d f f' ((w.alloc f.o).alloc f'.o) (h.bel (belB w f f')) (h'.bel (belB w f f')) hc hd
    rw [ha] at this
    exact this
  have C1 : Hid (∀ W, Below w.heap.size w W → Calls Tryd.prog 33 #[f.v] W fun e w' => (∃ v, e = .returned v ∧ w'.ownsRow W.heap.size 3 1 v c.regs.length (iCells c.regs)) ∧ Below W.heap.size W w') := fun W hW => rRegions_yes c f W hc (h.bel hW)
  have C2 : Hid (∀ W, Below w.heap.size w W → Calls Tryd.prog 33 #[f'.v] W fun e w' => (∃ v, e = .returned v ∧ w'.ownsRow W.heap.size 3 1 v d.regs.length (iCells d.regs)) ∧ Below W.heap.size W w') := fun W hW => rRegions_yes d f' W hd (h'.bel hW)
  have C3 : Hid (∀ W, Below w.heap.size w W → Calls Tryd.prog 74 #[f.v, f'.v, .bool false] W fun e w' => (∃ v, e = .returned v ∧ w'.ownsRow W.heap.size 67 2 v (asksL false c d).length (cCells (asksL false c d))) ∧ Below W.heap.size W w') := fun W hW => rask_all c d false ha hc.deep f f' W (h.bel hW) (h'.bel hW)
  have l1 : c.regs.length ≤ 48 := by have := regs_le c; have := hc.deep; omega
  have l2 : d.regs.length ≤ 48 := by have := regs_le d; have := hd.deep; omega
  obtain ⟨L, hL⟩ : ∃ L, L = c.regs ++ d.regs := ⟨_, rfl⟩
  obtain ⟨n1, hn1⟩ : ∃ n1, n1 = c.regs.length := ⟨_, rfl⟩
  obtain ⟨n2, hn2⟩ : ∃ n2, n2 = d.regs.length := ⟨_, rfl⟩
  obtain ⟨xs, hxs⟩ : ∃ xs, xs = iCells c.regs := ⟨_, rfl⟩
  obtain ⟨ys, hys⟩ : ∃ ys, ys = iCells d.regs := ⟨_, rfl⟩
  obtain ⟨AL, hAL⟩ : ∃ AL, AL = asksL false c d := ⟨_, rfl⟩
  rw [← hn1, ← hxs] at C1
  rw [← hn2, ← hys] at C2
  rw [← hAL] at C3 ⊢
  rw [← hL]
  obtain ⟨ng, hng⟩ : ∃ b, b = L.any (fun r => decide (r < 0)) := ⟨_, rfl⟩
  rw [← hng]
  have HNG : Hid (ng = L.any (fun r => decide (r < 0))) := hng
  rw [← hn1] at l1
  rw [← hn2] at l2
  have HLx : Hid (xs ++ ys = iCells L ∧ n1 + n2 = L.length ∧ (∀ u ∈ ys, u.oneCell' = true)) := ⟨by rw [hxs, hys, hL]; simp [iCells], by rw [hn1, hn2, hL]; simp, by rw [hys]; exact i_ones _⟩
  obtain ⟨i0, hi, hz0, hz1, hz2⟩ := info_parts Tryd.info3
  have HN1 : Hid (At ((w.alloc f.o).alloc f'.o) w.heap.size f.o) := (At.new w f.o).alloc f'.o
  have HN2 : Hid (At ((w.alloc f.o).alloc f'.o) (w.heap.size + 1) f'.o) := at_snd w f.o f'.o
  obtain ⟨k, m, r, s, a, n, cap⟩ := f
  obtain ⟨k', m', r', s', a', n', cap'⟩ := f'
  show Calls Tryd.prog 39 #[tyV k m r s a n cap, tyV k' m' r' s' a' n' cap'] w _
  clear hng h h' ha hL hn1 hn2 hxs hys hAL hc hd
  have st1 : Stg 1 := .mk 1
  go_enter Tryd.func39, Tryd.ntmps39
  go_wp2_with (first
    | (go_at_call 29; refine CA.out.mono ?_; rintro e w1 ⟨rfl, hb1⟩; obtain ⟨-, p0, p1, p2, p3, p4⟩ := (HN1.out.below hb1).ty)
    | (have _s := st1; clear st1 _s; go_at_call 33; refine (C1.out w1 (below2 hb1)).mono ?_; rintro e w2 ⟨⟨v1, rfl, o1⟩, hb2⟩; have st2 : Stg 2 := .mk 2; have K2 := below_aft hb1 hb2; clear p0 p1 p2 p3 p4; obtain ⟨-, p0, p1, p2, p3, p4⟩ := (HN2.out.below K2).ty; have HO1 := hid o1; clear o1)
    | (have _s := st2; clear st2 _s; go_at_call 33; refine (C2.out w2 (below2 K2)).mono ?_; rintro e w3 ⟨⟨v2, rfl, o2⟩, hb3⟩; have K3 := below_aft K2 hb3; have HO1b := hid (own_below HO1.out hb3); have HO2 := hid o2; clear o2 p0 p1 p2 p3 p4)
    | (at_builtin; refine wpl_append_rows rfl _ _ 49 rfl w1.heap.size _ 3 i0 (.int .i64 0) 1 8 Tryd.underlying49 hi hz0 hz1 hz2 rfl (by decide) _ n1 _ rfl HO1b.out _ n2 _ rfl HO2.out HLx.out.2.2 (by unfold maxLen; omega) (by omega) (by have := hb2.size; have := hb3.size; omega) ?_; intro v4 w4 ho4 hg4; have HO4 : Hid (w4.ownsRow w1.heap.size 3 1 v4 L.length (iCells L)) := (by rw [← HLx.out.1, ← HLx.out.2.1]; exact ho4); have A1d : Hid (At w4 w.heap.size (tyO k m r s a n cap)) := ((HN1.out.below K3).grown hg4 (own_ne HO1b.out (HN1.out.below K3) (by decide))); have A2d : Hid (At w4 (w.heap.size + 1) (tyO k' m' r' s' a' n' cap')) := ((HN2.out.below K3).grown hg4 (own_ne HO1b.out (HN2.out.below K3) (by decide))); have B4 : Hid (Below w.heap.size w w4) := ((below2 K3).grown hg4 (below2 K3).size (fun k hk => Nat.le_trans (below2 hb1).size (HO1b.out.lt k hk).1)); obtain ⟨a4, c4, hv4⟩ := own_sl HO4.out; subst hv4; clear ho4 hg4))
  go_loopw [7] (fun i W => ∃ j : Nat, j ≤ L.length ∧ i = .int .i64 j ∧ (∀ t, t < j → ∀ x, L[t]? = some x → 0 ≤ x) ∧ W = w4) (fun i _ => L.length - (intOf i).toNat)
  case atStart => exact ⟨0, Nat.zero_le _, rfl, fun t h => absurd h (Nat.not_lt_zero t), rfl⟩
  case round =>
    obtain ⟨j, hj, rfl, hall, rfl⟩ := hrel
    have HALL : Hid (∀ t, t < j → ∀ x, L[t]? = some x → 0 ≤ x) := hall
    have l3 : L.length ≤ 96 := by rw [← HLx.out.2.1]; omega
    clear hall
    by_cases hlt : j < L.length
    · obtain ⟨g, off, cap0, ⟨hv, hg, hcell⟩ | ⟨hv, h0⟩⟩ := row_cell HO4.out
      · injection hv with e1 e2 e3
        subst e1
        obtain ⟨x, hx⟩ : ∃ x, L[j]? = some x := ⟨_, List.getElem?_eq_getElem hlt⟩
        have hc := hcell j x hx
        have HX : Hid (L[j]? = some x) := hx
        have k0 : (0 : Int) ≤ (j : Int) := by omega
        have k1 : (j : Int) < (L.length : Int) := by omega
        have w9 : IntKind.i64.wrap ((j : Int) + 1) = (j : Int) + 1 := by rw [IntKind.wrap_i64]; omega
        clear hcell hx e3 l1 l2
        by_cases hneg : x < 0
        · have hN : ng = true := by rw [HNG.out]; exact List.any_eq_true.2 ⟨x, List.mem_of_getElem? HX.out, by simpa using hneg⟩
          have HNt := hid hN
          clear hN
          go_wp2_with fail
          go_ret2
          exact ⟨.inl ⟨HNt.out, rfl⟩, B4.out⟩
        · have hneg' : ¬ (x < 0) := hneg
          go_wp2_with fail
          refine ⟨⟨j + 1, hlt, rfl, fun t ht y hy => ?_, trivial⟩, ?_⟩
          · rcases Nat.lt_or_ge t j with h' | h'
            · exact HALL.out t h' y hy
            · obtain rfl : t = j := by omega
              rw [HX.out] at hy
              injection hy with hy
              omega
          · show L.length - ((j : Int) + 1).toNat < L.length - (j : Int).toNat
            omega
      · rw [h0] at hlt; simp at hlt
    · obtain rfl : j = L.length := by omega
      have HF : Hid (ng = false) := by
        rw [HNG.out, ← Bool.not_eq_true, List.any_eq_true]
        rintro ⟨x, hx, h2⟩
        obtain ⟨t, ht⟩ := List.mem_iff_getElem?.1 hx
        have := HALL.out t (List.getElem?_eq_some_iff.1 ht).1 x ht
        simp at h2
        omega
      have z1 : ¬ ((L.length : Int) < (L.length : Int)) := by omega
      obtain ⟨-, p0, p1, p2, p3, p4⟩ := (At.ty (f := ⟨k, m, r, s, a, n, cap⟩) A1d.out)
      obtain ⟨-, q0, q1, q2, q3, q4⟩ := (At.ty (f := ⟨k', m', r', s', a', n', cap'⟩) A2d.out)
      go_wp2_with (go_at_call 74; refine (C3.out _ B4.out).mono ?_; rintro e w5 ⟨⟨v5, rfl, o5⟩, hb5⟩)
      go_ret2
      exact ⟨.inr ⟨HF.out, v5, rfl, own_low o5 B4.out.size⟩, below_aft B4.out hb5⟩
end Go.Proofs.YtjchbclkdbojpaaDoor
