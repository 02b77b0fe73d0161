import Derived.Test.YtjchbclkdbojpaaDoorL
namespace Go.Proofs.YtjchbclkdbojpaaDoor
open Go.RowKit
set_option linter.unusedVariables false
set_option linter.unusedSimpArgs false

def cCells (l : List (Int × Int)) : List Value := l.flatMap (fun p => [.int .i64 p.1, .int .i64 p.2])
theorem cCells_app (l m : List (Int × Int)) : cCells (l ++ m) = cCells l ++ cCells m := by simp [cCells]
/-- The constraints so far. -/
def JA (w0 : World) (b : Nat) (l : List (Int × Int)) (W : World) : Prop := ∃ v, At W b (One v 61) ∧ W.ownsRow w0.heap.size 67 2 v l.length (cCells l) ∧ Below w0.heap.size w0 W ∧ w0.heap.size ≤ b
abbrev Two (u v : Value) (t : Nat) : Obj := .cells #[u, v] t (0, 0)
theorem At.two {w : World} {b t : Nat} {u v : Value} (h : At w b (Two u v t)) : w.cell? ⟨b, 0, none⟩ = some u ∧ w.cell? ⟨b, 1, none⟩ = some v := by
  unfold At at h
  exact ⟨by simp [World.cell?, h], by simp [World.cell?, h]⟩
set_option maxRecDepth 100000 in
set_option maxHeartbeats 1000000 in
theorem tellA (w0 : World) (b : Nat) : Tell2 73 b w0 (JA w0 b) where
  enters := fun args W => by kernel_rfl
  alloc := fun l W o ⟨v, h1, h2, h3, h4⟩ => ⟨v, h1.alloc o, h2.alloc o, h3.alloc h3.size o, h4⟩
  drew := fun l W ⟨v, h1, h2, h3, h4⟩ => ⟨v, h1.drew, h2.drew, h3.drew, h4⟩
  bel := fun l W ⟨v, h1, h2, h3, h4⟩ => h3
  call := by
    rintro l r s W hl ⟨v, hA, hown, hB, hb⟩
    obtain ⟨c0, f0⟩ := hA.one
    obtain ⟨i0, hi, hz0, hz1, hz2⟩ := info_parts Tryd.info67
    have hlt := hA.lt
    have news : ∀ j u, ([.int .i64 r, .int .i64 s] : List Value)[j]? = some u → (W.alloc (.cells #[.int .i64 r, .int .i64 s] 67)).cell? ((⟨W.heap.size, 0, none⟩ : Addr).add j) = some u := fun j u hu => by
      have hN := (At.new W (Two (.int .i64 r) (.int .i64 s) 67)).two
      match j, hu with
      | 0, hu => simp at hu; subst hu; simp [Addr.add, hN.1]
      | 1, hu => simp at hu; subst hu; simp [Addr.add, hN.2]
      | j + 2, hu => simp at hu
    have ones : ∀ u ∈ ([.int .i64 r, .int .i64 s] : List Value), u.oneCell' = true := fun u hu => by simp at hu; rcases hu with rfl | rfl <;> rfl
    have FIN : Hid (∀ v' w2, w2.ownsRow w0.heap.size 67 2 v' (l.length + 1) (cCells l ++ [.int .i64 r, .int .i64 s]) → (W.alloc (.cells #[.int .i64 r, .int .i64 s] 67)).grownBy w2 v.ownBlock → At w2 b (One v 61) ∧ (JA w0 b (l ++ [(r, s)]) (w2.setCell ⟨b, 0, none⟩ v') ∧ KeepT W (w2.setCell ⟨b, 0, none⟩ v'))) := fun v' w2 h1 h2 => by
      have hA2 : At w2 b (One v 61) := (hA.alloc _).grown h2 (own_ne hown hA (by decide))
      refine ⟨hA2, ⟨v', hA2.setOne v', ?_, (((hB.alloc hB.size _).grown h2 (by simp only [World.size_alloc]; have := hB.size; omega) (fun k hk => (hown.lt k hk).1)).setCell hb v'), hb⟩, ?_⟩
      · have := own_set h1 hA2 (by decide) v'
        rw [cCells_app]
        simpa [cCells] using this
      · exact ((keepT_alloc W _).trans (keepT_grown (hown.alloc _) h2 (by decide))).trans (keepT_set hA2 v')
    have HO : Hid (W.ownsRow w0.heap.size 67 2 v l.length (cCells l)) := hown
    have hbase : w0.heap.size ≤ (W.alloc (.cells #[.int .i64 r, .int .i64 s] 67)).heap.size := by simp only [World.size_alloc]; have := hB.size; omega
    clear hown hA hB
    go_enter Tryd.func73, Tryd.ntmps73
    go_wp2_with (at_builtin; refine wpList_append_own _ rfl _ _ 61 rfl w0.heap.size 67 i0 (.agg #[.int .i64 0, .int .i64 0]) 2 16 Tryd.underlying61 hi hz0 hz1 hz2 rfl (by decide) _ l.length _ rfl (HO.out.alloc _) ⟨W.heap.size, 0, none⟩ 1 1 [.int .i64 r, .int .i64 s] rfl rfl news ones (by unfold maxLen; omega) (by omega) hbase ?_; intro v' w2 ho hg hn; obtain ⟨gg, cc, hvv⟩ := own_is ho (by omega); subst hvv; obtain ⟨hA2, hf⟩ := FIN.out _ w2 ho hg; obtain ⟨c2, f2⟩ := hA2.one)
    go_end0
    exact ⟨rfl, hf.1, hf.2⟩
/-- Are all regions there? -/
def bareB (c : Ch) : Bool := c.regs.any (fun r => decide (r < 0))
set_option maxRecDepth 100000 in
set_option maxHeartbeats 2000000 in
theorem Asks_yes (c d : Ch) (f f' : Fv) (w : World) (hc : Ok c) (hd : Ok d) (h : TyAt w f c.ty) (h' : TyAt w f' d.ty) (ha : alikeB c d = true) (hb : bareB c = false) (hb' : bareB d = false) :
    Calls Tryd.prog 38 #[f.v, f'.v] w fun e w' => (∃ v, e = .returned (.tuple #[v, .int .i64 0]) ∧ w'.ownsRow w.heap.size 67 2 v (asksL false c d).length (cCells (asksL false c d))) ∧ Below w.heap.size w w' := by
  have CA : Hid (Calls Tryd.prog 28 #[f.v, f'.v] ((w.alloc f.o).alloc f'.o) fun e w' => e = .returned (.bool true) ∧ Below ((w.alloc f.o).alloc f'.o).heap.size ((w.alloc f.o).alloc f'.o) w') := by
    have := Alike_yes c d f f' ((w.alloc f.o).alloc f'.o) (h.bel (belB w f f')) (h'.bel (belB w f f')) hc hd
    rw [ha] at this
    exact this
  have CB : Hid (∀ W, Below w.heap.size w W → Calls Tryd.prog 71 #[f.v] W fun e w' => e = .returned (.bool false) ∧ Below W.heap.size W w') := fun W hW => by
    have := bare_any c f W hc (h.bel hW)
    rw [show c.regs.any (fun r => decide (r < 0)) = false from hb] at this
    exact this
  have CB' : Hid (∀ W, Below w.heap.size w W → Calls Tryd.prog 71 #[f'.v] W fun e w' => e = .returned (.bool false) ∧ Below W.heap.size W w') := fun W hW => by
    have := bare_any d f' W hd (h'.bel hW)
    rw [show d.regs.any (fun r => decide (r < 0)) = false from hb'] at this
    exact this
  have CE : Hid (∀ W, Below w.heap.size w W → Calls Tryd.prog 72 #[f.v, f'.v, .bool false, fnB 73 W.heap.size] (W.alloc (One (.slice none 0 0) 61)) fun e w' => e = .returned (.tuple #[]) ∧ JA w W.heap.size (asksL false c d) w') := fun W hW => by
    have := asks_any (tellA w W.heap.size) c d f f' false [] (W.alloc (One (.slice none 0 0) 61)) hc.ok ha (by have := hc.deep; simp; omega) h h' ⟨_, At.new _ _, World.ownsRow_nil _ _ _ _, belA hW, hW.size⟩
    exact this.mono fun e w' k => ⟨k.1, k.2.1⟩
  obtain ⟨N1, N2⟩ := two_new w f f'
  have HN1 : Hid (C5 ((w.alloc f.o).alloc f'.o) w.heap.size 0 f) := N1
  have HN2 : Hid (C5 ((w.alloc f.o).alloc f'.o) (w.heap.size + 1) 0 f') := N2
  obtain ⟨k, m, r, s, a, n, cap⟩ := f
  obtain ⟨k', m', r', s', a', n', cap'⟩ := f'
  show Calls Tryd.prog 38 #[tyV k m r s a n cap, tyV k' m' r' s' a' n' cap'] w _
  clear h h' ha hb hb' N1 N2
  have st1 : Stg 1 := .mk 1
  go_enter Tryd.func38, Tryd.ntmps38
  go_wp2_with (first
    | (have _s := st1; clear st1 _s; go_at_call 28; refine CA.out.mono ?_; rintro e w1 ⟨rfl, hb1⟩; have st2 : Stg 2 := .mk 2; obtain ⟨-, p0, p1, p2, p3, p4⟩ := HN1.out.below hb1; obtain ⟨-, q0, q1, q2, q3, q4⟩ := HN2.out.below hb1)
    | (have _s := st2; clear st2 _s; go_at_call 71; refine (CB.out _ (below2 hb1)).mono ?_; rintro e w2 ⟨rfl, hb2⟩; have st3 : Stg 3 := .mk 3; have k2 := hb1.trans (hb2.mono hb1.size); clear p0 p1 p2 p3 p4 q0 q1 q2 q3 q4; obtain ⟨-, p0, p1, p2, p3, p4⟩ := HN1.out.below k2; obtain ⟨-, q0, q1, q2, q3, q4⟩ := HN2.out.below k2)
    | (have _s := st3; clear st3 _s; go_at_call 71; refine (CB'.out _ (below2 k2)).mono ?_; rintro e w3 ⟨rfl, hb3⟩; have k3 := k2.trans (hb3.mono k2.size); clear p0 p1 p2 p3 p4 q0 q1 q2 q3 q4; obtain ⟨hl1, p0, p1, p2, p3, p4⟩ := HN1.out.below k3; obtain ⟨hl2, q0, q1, q2, q3, q4⟩ := HN2.out.below k3)
    | (go_at_call 72; refine (CE.out w3 (below2 k3)).mono ?_; rintro e w4 ⟨rfl, v, hv1, hv2, hv3, hv4⟩; obtain ⟨aa, cc, hvv⟩ := own_sl hv2; subst hvv; obtain ⟨c1, f1⟩ := hv1.one))
  go_ret2
  exact ⟨⟨_, rfl, hv2⟩, hv3⟩
set_option maxRecDepth 100000 in
set_option maxHeartbeats 2000000 in
theorem Asks_no (t u : Ty) (f f' : Fv) (w : World) (h : TyAt w f t) (h' : TyAt w f' u) (x : Bool) (hA : ∀ W, Below w.heap.size w W → Calls Tryd.prog 28 #[f.v, f'.v] W fun e w' => e = .returned (.bool x) ∧ Below W.heap.size W w')
    (hx : x = true → ∃ c d, t = c.ty ∧ u = d.ty ∧ Ok c ∧ Ok d ∧ (bareB c = true ∨ bareB d = true)) :
    Calls Tryd.prog 38 #[f.v, f'.v] w fun e w' => e = .returned (.tuple #[.slice none 0 0, .int .i64 2]) ∧ Below w.heap.size w w' := by
  have CA : Hid (Calls Tryd.prog 28 #[f.v, f'.v] ((w.alloc f.o).alloc f'.o) fun e w' => e = .returned (.bool x) ∧ Below ((w.alloc f.o).alloc f'.o).heap.size ((w.alloc f.o).alloc f'.o) w') := hA _ (belB w f f')
  have HN1 : Hid (C5 ((w.alloc f.o).alloc f'.o) w.heap.size 0 f) := (two_new w f f').1
  have HN2 : Hid (C5 ((w.alloc f.o).alloc f'.o) (w.heap.size + 1) 0 f') := (two_new w f f').2
  cases x with
  | false =>
    obtain ⟨k, m, r, s, a, n, cap⟩ := f
    obtain ⟨k', m', r', s', a', n', cap'⟩ := f'
    show Calls Tryd.prog 38 #[tyV k m r s a n cap, tyV k' m' r' s' a' n' cap'] w _
    clear h h' hA hx HN1 HN2
    go_enter Tryd.func38, Tryd.ntmps38
    go_wp2_with (go_at_call 28; refine CA.out.mono ?_; rintro e w1 ⟨rfl, hb1⟩)
    go_ret2
    exact ⟨rfl, below2 hb1⟩
  | true =>
    obtain ⟨c, d, rfl, rfl, hc, hd, hbb⟩ := hx rfl
    have CB : Hid (∀ W, Below w.heap.size w W → Calls Tryd.prog 71 #[f.v] W fun e w' => e = .returned (.bool (bareB c)) ∧ Below W.heap.size W w') := fun W hW => bare_any c f W hc (h.bel hW)
    have CB' : Hid (∀ W, Below w.heap.size w W → Calls Tryd.prog 71 #[f'.v] W fun e w' => e = .returned (.bool (bareB d)) ∧ Below W.heap.size W w') := fun W hW => bare_any d f' W hd (h'.bel hW)
    obtain ⟨k, m, r, s, a, n, cap⟩ := f
    obtain ⟨k', m', r', s', a', n', cap'⟩ := f'
    show Calls Tryd.prog 38 #[tyV k m r s a n cap, tyV k' m' r' s' a' n' cap'] w _
    clear h h' hA hx
    cases hb1 : bareB c with
    | true =>
      rw [hb1] at CB
      clear hbb hb1
      go_enter Tryd.func38, Tryd.ntmps38
      go_wp2_with (first
        | (go_at_call 28; refine CA.out.mono ?_; rintro e w1 ⟨rfl, hb1⟩; obtain ⟨-, p0, p1, p2, p3, p4⟩ := HN1.out.below hb1)
        | (go_at_call 71; refine (CB.out _ (below2 hb1)).mono ?_; rintro e w2 ⟨rfl, hb2⟩))
      go_ret2
      exact ⟨rfl, below_aft (below2 hb1) hb2⟩
    | false =>
      have hb2 : bareB d = true := by rcases hbb with h | h; rw [hb1] at h; cases h; exact h
      rw [hb1] at CB
      rw [hb2] at CB'
      clear hbb hb1 hb2
      have st1 : Stg 1 := .mk 1
      go_enter Tryd.func38, Tryd.ntmps38
      go_wp2_with (first
        | (go_at_call 28; refine CA.out.mono ?_; rintro e w1 ⟨rfl, hb1⟩; obtain ⟨-, p0, p1, p2, p3, p4⟩ := HN1.out.below hb1)
        | (have _s := st1; clear st1 _s; go_at_call 71; refine (CB.out _ (below2 hb1)).mono ?_; rintro e w2 ⟨rfl, hb2⟩; have st2 : Stg 2 := .mk 2; have k2 := hb1.trans (hb2.mono hb1.size); clear p0 p1 p2 p3 p4; obtain ⟨-, q0, q1, q2, q3, q4⟩ := HN2.out.below k2)
        | (have _s := st2; clear st2 _s; go_at_call 71; refine (CB'.out _ (below2 k2)).mono ?_; rintro e w3 ⟨rfl, hb3⟩))
      go_ret2
      exact ⟨rfl, below_aft (below_aft (below2 hb1) hb2) hb3⟩
end Go.Proofs.YtjchbclkdbojpaaDoor
