import Derived.Test.YtjchbclkdbojpaaDoorDm
namespace Go.Proofs.YtjchbclkdbojpaaDoor
open Go.RowKit Go.Shelf
set_option linter.unusedVariables false
set_option linter.unusedSimpArgs false

theorem alike_lay : ∀ (c : Ch) (X : List Int), alikeB (layC c X) c = true
  | .leaf k s, X => by simp [layC, alikeB]
  | .box c, X => by simp only [layC, alikeB]; exact alike_lay c X
  | .ref m r c, [] => by simp only [layC]; exact alike_self _
  | .ref m r c, x :: X => by simp [layC, alikeB, alike_lay c X]
theorem lay_self : ∀ c : Ch, layC c c.regs = c
  | .leaf k s => rfl
  | .box c => by simp only [layC, Ch.regs]; rw [lay_self c]
  | .ref m r c => by simp only [layC, Ch.regs]; rw [lay_self c]
theorem lay_ok {n : Int} : ∀ (c : Ch) (X : List Int), c.ok n → (∀ x ∈ X, -1 ≤ x) → (layC c X).ok n
  | .leaf k s, X, h, _ => h
  | .box c, X, h, hX => lay_ok c X h hX
  | .ref m r c, [], h, _ => h
  | .ref m r c, x :: X, h, hX => ⟨hX x (by simp), lay_ok c X h.2 (fun y hy => hX y (by simp [hy]))⟩
theorem lay_deep : ∀ (c : Ch) (X : List Int), (layC c X).depth = c.depth
  | .leaf k s, X => rfl
  | .box c, X => by simp only [layC, Ch.depth]; rw [lay_deep c X]
  | .ref m r c, [] => rfl
  | .ref m r c, x :: X => by simp only [layC, Ch.depth]; rw [lay_deep c X]
theorem regs_ok {n : Int} : ∀ c : Ch, c.ok n → ∀ x ∈ c.regs, -1 ≤ x
  | .leaf k s, _, x, h => by simp [Ch.regs] at h
  | .box c, h, x, hx => regs_ok c h x hx
  | .ref m r c, h, x, hx => by
    rcases List.mem_cons.1 hx with rfl | hx
    · exact h.1
    · exact regs_ok c h.2 x hx
theorem regs_rg : ∀ c : Ch, c.rg → ∀ x ∈ c.regs, -9223372036854775808 ≤ x ∧ x ≤ 9223372036854775807
  | .leaf k s, _, x, h => by simp [Ch.regs] at h
  | .box c, h, x, hx => regs_rg c h x hx
  | .ref m r c, h, x, hx => by
    rcases List.mem_cons.1 hx with rfl | hx
    · exact h.1
    · exact regs_rg c h.2 x hx
theorem an_self (c : Ch) {n : Int} (h : c.ok n) : anN c.regs = 0 ∧ anC c c.regs = c := by
  have : c.regs.all (fun x => decide (-1 ≤ x)) = true := List.all_eq_true.2 fun x hx => decide_eq_true (regs_ok c h x hx)
  exact ⟨by unfold anN; rw [if_pos this], by unfold anC; rw [if_pos this, lay_self]⟩
theorem num_ok (c : Ch) (fr : Int) (k : Nat) (hc : Ok c) (h0 : 0 ≤ fr) : Ok (layC c (numL fr k)) :=
  ⟨lay_ok c _ hc.ok (fun x hx => by
    obtain ⟨i, hi⟩ := List.mem_iff_getElem?.1 hx
    have hil := (List.getElem?_eq_some_iff.1 hi).1
    rw [numL_len] at hil
    rw [numL_get _ _ _ hil] at hi
    cases hi
    omega), by rw [lay_deep]; exact hc.deep⟩
theorem num_rg (c : Ch) (fr : Int) (k : Nat) (hc : c.rg) (hk : k ≤ 100) (h0 : 0 ≤ fr) (h1 : fr ≤ 512) : (layC c (numL fr k)).rg := lay_rg c _ hc (fun x hx => by
    obtain ⟨i, hi⟩ := List.mem_iff_getElem?.1 hx
    have hil := (List.getElem?_eq_some_iff.1 hi).1
    rw [numL_len] at hil
    rw [numL_get _ _ _ hil] at hi
    cases hi
    omega)
theorem num_twice (c : Ch) (fr : Int) (k : Nat) (hk : c.regs.length = k) : (layC c (numL fr k)).regs.length = k ∧ layC (layC c (numL fr k)) (numL fr k) = layC c (numL fr k) := by
  have h1 : (layC c (numL fr k)).regs = numL fr k := lay_regs c _ (by rw [numL_len]; exact hk)
  refine ⟨by rw [h1, numL_len], ?_⟩
  have := lay_self (layC c (numL fr k))
  rw [h1] at this
  exact this
/-- What the law asks of a type that may be somewhere: its regions, it anew, it in memory of its own. -/
structure NumP (w : World) (f : Fv) (c : Ch) (L : Nat) : Prop where
  c10 : ∀ W, Below w.heap.size w W → Calls Tryd.prog 10 #[f.v, .int .i64 60] W fun e w' => e = .returned (.bool true) ∧ Below W.heap.size W w'
  c32 : ∀ W, Below w.heap.size w W → Calls Tryd.prog 32 #[f.v] W fun e w' => (∃ a7 cap7, e = .returned (.slice a7 L cap7) ∧ IntR w' a7 L cap7 c.regs) ∧ Below W.heap.size W w'
  c36 : ∀ W aa cc, Below w.heap.size w W → IntR W aa L cc c.regs → Calls Tryd.prog 36 #[f.v, .slice aa L cc] W fun e w' => ∃ f' : Fv, e = .returned (.tuple #[f'.v, .int .i64 0]) ∧ New W w' f' c
  c26 : ∀ W, Below w.heap.size w W → Calls Tryd.prog 26 #[f.v] W fun e w' => ∃ f' : Fv, e = .returned (.tuple #[f'.v, .int .i64 0]) ∧ New W w' f' c
  c30 : ∀ W (g : Fv), Below w.heap.size w W → TyAt W g c.ty → Calls Tryd.prog 30 #[g.v, f.v] W fun e w' => e = .returned (.bool true) ∧ Below W.heap.size W w'
theorem num_p (w : World) (f : Fv) (c : Ch) (hc : Ok c) (ht : TyAt w f c.ty) (hF : FitC 60 c.ty true) (L : Nat) (hL : L = c.regs.length) : NumP w f c L where
  c10 := fun W hW => hF f W (ht.bel hW)
  c32 := fun W hW => (Regions_yes c f W hc (ht.bel hW)).mono (by
    rintro e w' ⟨⟨v, rfl, ho⟩, hb⟩
    rw [← hL] at ho
    obtain ⟨a7, cap7, rfl⟩ := own_sl ho
    exact ⟨⟨a7, cap7, rfl, own_intR ho (regs_rg c (TyAt.rg ht))⟩, hb⟩)
  c36 := fun W aa cc hW hI => (Anew_yes c f aa L cc c.regs W hc (ht.bel hW) hI rfl).mono (by
    rintro e w' ⟨f', rfl, hN⟩
    rw [(an_self c hc.ok).2] at hN
    exact ⟨f', by rw [(an_self c hc.ok).1], hN⟩)
  c26 := fun W hW => Own_yes c f W hc (ht.bel hW)
  c30 := fun W g hW hg => (Same_yes c c g f W hg (ht.bel hW) hc hc).mono (by
    rintro e w' ⟨rfl, hb⟩
    exact ⟨by rw [same_self], hb⟩)
/-- What the law asks of it numbered. -/
structure NumQ (w : World) (f : Fv) (c : Ch) (L : Nat) (fr : Int) (C1 : Ch) : Prop where
  c34 : ∀ W, Below w.heap.size w W → Calls Tryd.prog 34 #[f.v, .int .i64 fr] W fun e w' => ∃ f' : Fv, e = .returned (.tuple #[f'.v, .int .i64 (fr + L), .int .i64 0]) ∧ New W w' f' C1
  d34 : ∀ W (g : Fv), TyAt W g C1.ty → Calls Tryd.prog 34 #[g.v, .int .i64 fr] W fun e w' => ∃ f' : Fv, e = .returned (.tuple #[f'.v, .int .i64 (fr + L), .int .i64 0]) ∧ New W w' f' C1
  d30 : ∀ W (g g' : Fv), TyAt W g C1.ty → TyAt W g' C1.ty → Calls Tryd.prog 30 #[g.v, g'.v] W fun e w' => e = .returned (.bool true) ∧ Below W.heap.size W w'
  d28 : ∀ W (g : Fv), Below w.heap.size w W → TyAt W g C1.ty → Calls Tryd.prog 28 #[g.v, f.v] W fun e w' => e = .returned (.bool true) ∧ Below W.heap.size W w'
  d32 : ∀ W (g : Fv), TyAt W g C1.ty → Calls Tryd.prog 32 #[g.v] W fun e w' => (∃ a7 cap7, e = .returned (.slice a7 L cap7)) ∧ Below W.heap.size W w'
  rg : C1.rg
theorem num_q (w : World) (f : Fv) (c : Ch) (hc : Ok c) (ht : TyAt w f c.ty) (L : Nat) (hL : L = c.regs.length) (fr : Int) (h0 : 0 ≤ fr) (h1 : fr ≤ 512) : NumQ w f c L fr (layC c (numL fr L)) := by
  have hO := num_ok c fr L hc h0
  obtain ⟨e1, e2⟩ := num_twice c fr L hL.symm
  have hl : L ≤ 100 := by have := hc.deep; have := regs_le c; omega
  refine ⟨fun W hW => ?_, fun W g hg => ?_, fun W g g' hg hg' => ?_, fun W g hW hg => ?_, fun W g hg => ?_, num_rg c fr L (TyAt.rg ht) hl h0 h1⟩
  · have := Number_yes c f fr W hc (ht.bel hW) h0 h1
    rw [← hL] at this
    exact this
  · have := Number_yes _ g fr W hO hg h0 h1
    rw [e1, e2] at this
    exact this
  · have := Same_yes _ _ g g' W hg hg' hO hO
    rw [same_self] at this
    exact this
  · have := Alike_yes _ _ g f W hg (ht.bel hW) hO hc
    rw [alike_lay] at this
    exact this
  · refine (Regions_yes _ g W hO hg).mono ?_
    rintro e w' ⟨⟨v, rfl, ho⟩, hb⟩
    rw [e1] at ho
    obtain ⟨a7, cap7, rfl⟩ := own_sl ho
    exact ⟨⟨a7, cap7, rfl⟩, hb⟩
theorem sum_le16 {α : Type} (wd : α → Nat) : ∀ l : List α, (∀ c ∈ l, wd c ≤ 16) → (l.map wd).sum ≤ 16 * l.length
  | [], _ => by simp
  | x :: l, h => by
    have h1 := h x List.mem_cons_self
    have h2 := sum_le16 wd l (fun c hc => h c (List.mem_cons_of_mem _ hc))
    simp only [List.map_cons, List.sum_cons, List.length_cons]
    omega
/-- What stays: the type's variable. -/
theorem keepP {w W : World} {f : Fv} (h : Below (w.alloc f.o).heap.size (w.alloc f.o) W) : C5 W w.heap.size 0 f := ((At.new w f.o).below h).ty
set_option maxRecDepth 100000 in
set_option maxHeartbeats 16000000 in
theorem nums_n_no (w : World) (a : Option Addr) (n cap : Nat) (f : Fv) (c : Ch) (fr : Int) (L : Nat) (hL : L ≤ 60) (h9 : FitS a n cap true w) (hP : NumP w f c L) (hrg : c.rg) (h34 : ∀ W, Below w.heap.size w W → Calls Tryd.prog 34 #[f.v, .int .i64 fr] W fun e w' => ∃ f' : Fv, e = .returned (.tuple #[f'.v, .int .i64 0, .int .i64 2]) ∧ New W w' f' (.leaf 0 0)) (h14 : ∀ W, Below w.heap.size w W → Calls Tryd.prog 14 #[.slice a n cap, f.v] W fun e w' => e = .returned (.bool false) ∧ Below W.heap.size W w') :
    Calls Tryd.prog 8 #[.slice a n cap, f.v, .int .i64 fr] w fun e w' => e = .returned (.bool true) ∧ Below w.heap.size w w' := by
  have CA : Hid (∀ W, Calls Tryd.prog 11 #[] W fun e w' => e = .returned (.bool true) ∧ Below W.heap.size W w') := awake_true
  have C9 := hidD h9
  have HP := hidD hP
  have HRG := hidD hrg
  have C34 := hidD h34
  have C14 := hidD h14
  obtain ⟨k, m, r, s, aa, nn, cc⟩ := f
  show Calls Tryd.prog 8 #[.slice a n cap, tyV k m r s aa nn cc, .int .i64 fr] w _
  clear h9 hP hrg h34 h14
  have st1 : Stg 1 := .mk 1
  go_enter Tryd.func8, Tryd.ntmps8
  go_wp2_with (first
    | (have _s := st1; clear st1 _s; go_at_call 9; refine (C9.out _ (belA (Below.refl _ _))).mono ?_; rintro e w1 ⟨rfl, hb1⟩; have HB1 := hidD hb1; obtain ⟨hlp, p0, p1, p2, p3, p4⟩ := keepP (f := ⟨k, m, r, s, aa, nn, cc⟩) HB1.out; simp only [Nat.zero_add] at p0 p1 p2 p3 p4; clear hb1; have st2 : Stg 2 := .mk 2)
    | (have _s := st2; clear st2 _s; go_at_call 10; refine (HP.out.c10 w1 (below1 HB1.out)).mono ?_; rintro e w2 ⟨rfl, hb2⟩; have HB2 := hidD (below_aft HB1.out hb2); clear p0 p1 p2 p3 p4 hlp; obtain ⟨hlp, p0, p1, p2, p3, p4⟩ := keepP (f := ⟨k, m, r, s, aa, nn, cc⟩) HB2.out; simp only [Nat.zero_add] at p0 p1 p2 p3 p4; clear hb2; have st3 : Stg 3 := .mk 3)
    | (have _s := st3; clear st3 _s; go_at_call 32; refine (HP.out.c32 w2 (below1 HB2.out)).mono ?_; rintro e w3 ⟨⟨a7, cap7, rfl, hI⟩, hb3⟩; have HI := hidD hI; have HB3 := hidD (below_aft HB2.out hb3); clear p0 p1 p2 p3 p4 hlp; obtain ⟨hlp, p0, p1, p2, p3, p4⟩ := keepP (f := ⟨k, m, r, s, aa, nn, cc⟩) HB3.out; simp only [Nat.zero_add] at p0 p1 p2 p3 p4; clear hb3 hI; have st4 : Stg 4 := .mk 4)
    | (have _s := st4; clear st4 _s; go_at_call 36; refine (HP.out.c36 w3 a7 cap7 (below1 HB3.out) HI.out).mono ?_; rintro e w4 ⟨fx, rfl, hN⟩; have HN4 := hidD hN; have HB4 := hidD (below_aft HB3.out hN.bel); clear p0 p1 p2 p3 p4 hlp; obtain ⟨hlp, p0, p1, p2, p3, p4⟩ := keepP (f := ⟨k, m, r, s, aa, nn, cc⟩) HB4.out; simp only [Nat.zero_add] at p0 p1 p2 p3 p4; clear hN; have st5 : Stg 5 := .mk 5)
    | (have _s := st5; clear st5 _s; go_at_call 26; refine (HP.out.c26 (w4.alloc fx.o) (below1 (belA HB4.out))).mono ?_; rintro e w5 ⟨fy, rfl, hN⟩; have HN5 := hidD hN; have HB5 := hidD (below_aft (belA HB4.out) hN.bel); clear p0 p1 p2 p3 p4 hlp; obtain ⟨hlp, p0, p1, p2, p3, p4⟩ := keepP (f := ⟨k, m, r, s, aa, nn, cc⟩) HB5.out; simp only [Nat.zero_add] at p0 p1 p2 p3 p4; obtain ⟨hlq, q0, q1, q2, q3, q4⟩ := ((At.new w4 fx.o).below hN.bel).ty; simp only [Nat.zero_add] at q0 q1 q2 q3 q4; clear hN; have st6 : Stg 6 := .mk 6)
    | (have _s := st6; clear st6 _s; go_at_call 30; refine (HP.out.c30 (w5.alloc fy.o) fx (below1 (belA HB5.out)) (((HN4.out.own.ty HRG.out).bel (below1 HN5.out.bel)).bel (belA (Below.refl _ _)))).mono ?_; rintro e w6 ⟨rfl, hb6⟩; have HB6 := hidD (below_aft (belA HB5.out) hb6); have HY6 := hidD (((HN5.out.own.ty HRG.out).bel (belA (o := fy.o) (Below.refl _ _))).bel hb6); clear p0 p1 p2 p3 p4 hlp; obtain ⟨hlp, p0, p1, p2, p3, p4⟩ := keepP (f := ⟨k, m, r, s, aa, nn, cc⟩) HB6.out; simp only [Nat.zero_add] at p0 p1 p2 p3 p4; clear q0 q1 q2 q3 q4 hlq; obtain ⟨hlq, q0, q1, q2, q3, q4⟩ := ((At.new w5 fy.o).below hb6).ty; simp only [Nat.zero_add] at q0 q1 q2 q3 q4; clear hb6; have st7 : Stg 7 := .mk 7)
    | (have _s := st7; clear st7 _s; go_at_call 30; refine (HP.out.c30 w6 fy (below1 HB6.out) HY6.out).mono ?_; rintro e w7 ⟨rfl, hb7⟩; have HB7 := hidD (below_aft HB6.out hb7); clear p0 p1 p2 p3 p4 hlp; clear q0 q1 q2 q3 q4 hlq; obtain ⟨hlp, p0, p1, p2, p3, p4⟩ := keepP (f := ⟨k, m, r, s, aa, nn, cc⟩) HB7.out; simp only [Nat.zero_add] at p0 p1 p2 p3 p4; clear hb7; have st8 : Stg 8 := .mk 8)
    | (have _s := st8; clear st8 _s; go_at_call 34; refine (C34.out w7 (below1 HB7.out)).mono ?_; rintro e w8 ⟨fz, rfl, hN⟩; have HB8 := hidD (below_aft HB7.out hN.bel); clear p0 p1 p2 p3 p4 hlp; obtain ⟨hlp, p0, p1, p2, p3, p4⟩ := keepP (f := ⟨k, m, r, s, aa, nn, cc⟩) HB8.out; simp only [Nat.zero_add] at p0 p1 p2 p3 p4; clear hN; have st13 : Stg 13 := .mk 13)
    | (have _s := st13; clear st13 _s; go_at_call 14; refine (C14.out (w8.alloc fz.o) (below1 (belA HB8.out))).mono ?_; rintro e w13 ⟨rfl, hb13⟩; have HB13 := hidD (below_aft (belA HB8.out) hb13); clear p0 p1 p2 p3 p4 hlp; obtain ⟨hlp, p0, p1, p2, p3, p4⟩ := keepP (f := ⟨k, m, r, s, aa, nn, cc⟩) HB13.out; simp only [Nat.zero_add] at p0 p1 p2 p3 p4; clear hb13; have st14 : Stg 14 := .mk 14)
    | (have _s := st14; clear st14 _s; go_at_call 11; refine (CA.out _).mono ?_; rintro e w14 ⟨rfl, hb14⟩; have HB14 := hidD (below_aft HB13.out hb14); clear hb14))
  go_ret
  exact ⟨rfl, below1 HB14.out⟩
set_option maxRecDepth 100000 in
set_option maxHeartbeats 16000000 in
theorem nums_y_no (w : World) (a : Option Addr) (n cap : Nat) (f : Fv) (c : Ch) (fr : Int) (L : Nat) (hL : L ≤ 60) (h9 : FitS a n cap true w) (hP : NumP w f c L) (hrg : c.rg) (C1 : Ch) (hQ : NumQ w f c L fr C1) (hfr0 : 0 ≤ fr) (hfr1 : fr ≤ 512) (h14 : ∀ W, Below w.heap.size w W → Calls Tryd.prog 14 #[.slice a n cap, f.v] W fun e w' => e = .returned (.bool false) ∧ Below W.heap.size W w') :
    Calls Tryd.prog 8 #[.slice a n cap, f.v, .int .i64 fr] w fun e w' => e = .returned (.bool true) ∧ Below w.heap.size w w' := by
  have CA : Hid (∀ W, Calls Tryd.prog 11 #[] W fun e w' => e = .returned (.bool true) ∧ Below W.heap.size W w') := awake_true
  have C9 := hidD h9
  have HP := hidD hP
  have HRG := hidD hrg
  have HQ := hidD hQ
  have wf : IntKind.i64.wrap (fr + (L : Int)) = fr + (L : Int) := by rw [IntKind.wrap_i64]; omega
  have C14 := hidD h14
  obtain ⟨k, m, r, s, aa, nn, cc⟩ := f
  show Calls Tryd.prog 8 #[.slice a n cap, tyV k m r s aa nn cc, .int .i64 fr] w _
  clear h9 hP hrg hQ h14
  have st1 : Stg 1 := .mk 1
  go_enter Tryd.func8, Tryd.ntmps8
  go_wp2_with (first
    | (have _s := st1; clear st1 _s; go_at_call 9; refine (C9.out _ (belA (Below.refl _ _))).mono ?_; rintro e w1 ⟨rfl, hb1⟩; have HB1 := hidD hb1; obtain ⟨hlp, p0, p1, p2, p3, p4⟩ := keepP (f := ⟨k, m, r, s, aa, nn, cc⟩) HB1.out; simp only [Nat.zero_add] at p0 p1 p2 p3 p4; clear hb1; have st2 : Stg 2 := .mk 2)
    | (have _s := st2; clear st2 _s; go_at_call 10; refine (HP.out.c10 w1 (below1 HB1.out)).mono ?_; rintro e w2 ⟨rfl, hb2⟩; have HB2 := hidD (below_aft HB1.out hb2); clear p0 p1 p2 p3 p4 hlp; obtain ⟨hlp, p0, p1, p2, p3, p4⟩ := keepP (f := ⟨k, m, r, s, aa, nn, cc⟩) HB2.out; simp only [Nat.zero_add] at p0 p1 p2 p3 p4; clear hb2; have st3 : Stg 3 := .mk 3)
    | (have _s := st3; clear st3 _s; go_at_call 32; refine (HP.out.c32 w2 (below1 HB2.out)).mono ?_; rintro e w3 ⟨⟨a7, cap7, rfl, hI⟩, hb3⟩; have HI := hidD hI; have HB3 := hidD (below_aft HB2.out hb3); clear p0 p1 p2 p3 p4 hlp; obtain ⟨hlp, p0, p1, p2, p3, p4⟩ := keepP (f := ⟨k, m, r, s, aa, nn, cc⟩) HB3.out; simp only [Nat.zero_add] at p0 p1 p2 p3 p4; clear hb3 hI; have st4 : Stg 4 := .mk 4)
    | (have _s := st4; clear st4 _s; go_at_call 36; refine (HP.out.c36 w3 a7 cap7 (below1 HB3.out) HI.out).mono ?_; rintro e w4 ⟨fx, rfl, hN⟩; have HN4 := hidD hN; have HB4 := hidD (below_aft HB3.out hN.bel); clear p0 p1 p2 p3 p4 hlp; obtain ⟨hlp, p0, p1, p2, p3, p4⟩ := keepP (f := ⟨k, m, r, s, aa, nn, cc⟩) HB4.out; simp only [Nat.zero_add] at p0 p1 p2 p3 p4; clear hN; have st5 : Stg 5 := .mk 5)
    | (have _s := st5; clear st5 _s; go_at_call 26; refine (HP.out.c26 (w4.alloc fx.o) (below1 (belA HB4.out))).mono ?_; rintro e w5 ⟨fy, rfl, hN⟩; have HN5 := hidD hN; have HB5 := hidD (below_aft (belA HB4.out) hN.bel); clear p0 p1 p2 p3 p4 hlp; obtain ⟨hlp, p0, p1, p2, p3, p4⟩ := keepP (f := ⟨k, m, r, s, aa, nn, cc⟩) HB5.out; simp only [Nat.zero_add] at p0 p1 p2 p3 p4; obtain ⟨hlq, q0, q1, q2, q3, q4⟩ := ((At.new w4 fx.o).below hN.bel).ty; simp only [Nat.zero_add] at q0 q1 q2 q3 q4; clear hN; have st6 : Stg 6 := .mk 6)
    | (have _s := st6; clear st6 _s; go_at_call 30; refine (HP.out.c30 (w5.alloc fy.o) fx (below1 (belA HB5.out)) (((HN4.out.own.ty HRG.out).bel (below1 HN5.out.bel)).bel (belA (Below.refl _ _)))).mono ?_; rintro e w6 ⟨rfl, hb6⟩; have HB6 := hidD (below_aft (belA HB5.out) hb6); have HY6 := hidD (((HN5.out.own.ty HRG.out).bel (belA (o := fy.o) (Below.refl _ _))).bel hb6); clear p0 p1 p2 p3 p4 hlp; obtain ⟨hlp, p0, p1, p2, p3, p4⟩ := keepP (f := ⟨k, m, r, s, aa, nn, cc⟩) HB6.out; simp only [Nat.zero_add] at p0 p1 p2 p3 p4; clear q0 q1 q2 q3 q4 hlq; obtain ⟨hlq, q0, q1, q2, q3, q4⟩ := ((At.new w5 fy.o).below hb6).ty; simp only [Nat.zero_add] at q0 q1 q2 q3 q4; clear hb6; have st7 : Stg 7 := .mk 7)
    | (have _s := st7; clear st7 _s; go_at_call 30; refine (HP.out.c30 w6 fy (below1 HB6.out) HY6.out).mono ?_; rintro e w7 ⟨rfl, hb7⟩; have HB7 := hidD (below_aft HB6.out hb7); clear p0 p1 p2 p3 p4 hlp; clear q0 q1 q2 q3 q4 hlq; obtain ⟨hlp, p0, p1, p2, p3, p4⟩ := keepP (f := ⟨k, m, r, s, aa, nn, cc⟩) HB7.out; simp only [Nat.zero_add] at p0 p1 p2 p3 p4; clear hb7; have st8 : Stg 8 := .mk 8)
    | (have _s := st8; clear st8 _s; go_at_call 34; refine (HQ.out.c34 w7 (below1 HB7.out)).mono ?_; rintro e w8 ⟨fz, rfl, hN⟩; have HN8 := hidD hN; have HB8 := hidD (below_aft HB7.out hN.bel); clear p0 p1 p2 p3 p4 hlp; obtain ⟨hlp, p0, p1, p2, p3, p4⟩ := keepP (f := ⟨k, m, r, s, aa, nn, cc⟩) HB8.out; simp only [Nat.zero_add] at p0 p1 p2 p3 p4; clear hN; have st9 : Stg 9 := .mk 9)
    | (have _s := st9; clear st9 _s; go_at_call 34; refine (HQ.out.d34 (w8.alloc fz.o) fz ((HN8.out.own.ty HQ.out.rg).bel (belA (Below.refl _ _)))).mono ?_; rintro e w9 ⟨fu, rfl, hN⟩; have HN9 := hidD hN; have HB9 := hidD (below_aft (belA HB8.out) hN.bel); have HZ9 := hidD ((HN8.out.own.ty HQ.out.rg).bel (below1 hN.bel)); clear p0 p1 p2 p3 p4 hlp; obtain ⟨hlp, p0, p1, p2, p3, p4⟩ := keepP (f := ⟨k, m, r, s, aa, nn, cc⟩) HB9.out; simp only [Nat.zero_add] at p0 p1 p2 p3 p4; obtain ⟨hlq, q0, q1, q2, q3, q4⟩ := ((At.new w8 fz.o).below hN.bel).ty; simp only [Nat.zero_add] at q0 q1 q2 q3 q4; clear hN; have st10 : Stg 10 := .mk 10)
    | (have _s := st10; clear st10 _s; go_at_call 30; refine (HQ.out.d30 (w9.alloc fu.o) fz fu (HZ9.out.bel (belA (Below.refl _ _))) ((HN9.out.own.ty HQ.out.rg).bel (belA (Below.refl _ _)))).mono ?_; rintro e w10 ⟨rfl, hb10⟩; have HB10 := hidD (below_aft (belA HB9.out) hb10); have HZ10 := hidD (HZ9.out.bel (below1 hb10)); clear p0 p1 p2 p3 p4 hlp; obtain ⟨hlp, p0, p1, p2, p3, p4⟩ := keepP (f := ⟨k, m, r, s, aa, nn, cc⟩) HB10.out; simp only [Nat.zero_add] at p0 p1 p2 p3 p4; clear q0 q1 q2 q3 q4 hlq; obtain ⟨hlq, q0, q1, q2, q3, q4⟩ := ((((At.new w8 fz.o).below HN9.out.bel).alloc fu.o).below hb10).ty; simp only [Nat.zero_add] at q0 q1 q2 q3 q4; have HA10 := hidD ((((At.new w8 fz.o).below HN9.out.bel).alloc fu.o).below hb10); clear hb10; have st11 : Stg 11 := .mk 11)
    | (have _s := st11; clear st11 _s; go_at_call 28; refine (HQ.out.d28 w10 fz (below1 HB10.out) HZ10.out).mono ?_; rintro e w11 ⟨rfl, hb11⟩; have HB11 := hidD (below_aft HB10.out hb11); have HZ11 := hidD (HZ10.out.bel hb11); clear p0 p1 p2 p3 p4 hlp; obtain ⟨hlp, p0, p1, p2, p3, p4⟩ := keepP (f := ⟨k, m, r, s, aa, nn, cc⟩) HB11.out; simp only [Nat.zero_add] at p0 p1 p2 p3 p4; clear q0 q1 q2 q3 q4 hlq; obtain ⟨hlq, q0, q1, q2, q3, q4⟩ := (HA10.out.below hb11).ty; simp only [Nat.zero_add] at q0 q1 q2 q3 q4; clear hb11; have st12 : Stg 12 := .mk 12)
    | (have _s := st12; clear st12 _s; go_at_call 32; refine (HQ.out.d32 w11 fz HZ11.out).mono ?_; rintro e w12 ⟨⟨a12, cap12, rfl⟩, hb12⟩; have HB12 := hidD (below_aft HB11.out hb12); clear p0 p1 p2 p3 p4 hlp; clear q0 q1 q2 q3 q4 hlq; obtain ⟨hlp, p0, p1, p2, p3, p4⟩ := keepP (f := ⟨k, m, r, s, aa, nn, cc⟩) HB12.out; simp only [Nat.zero_add] at p0 p1 p2 p3 p4; clear hb12; have st13 : Stg 13 := .mk 13)
    | (have _s := st13; clear st13 _s; go_at_call 14; refine (C14.out w12 (below1 HB12.out)).mono ?_; rintro e w13 ⟨rfl, hb13⟩; have HB13 := hidD (below_aft HB12.out hb13); clear p0 p1 p2 p3 p4 hlp; obtain ⟨hlp, p0, p1, p2, p3, p4⟩ := keepP (f := ⟨k, m, r, s, aa, nn, cc⟩) HB13.out; simp only [Nat.zero_add] at p0 p1 p2 p3 p4; clear hb13; have st14 : Stg 14 := .mk 14)
    | (have _s := st14; clear st14 _s; go_at_call 11; refine (CA.out _).mono ?_; rintro e w14 ⟨rfl, hb14⟩; have HB14 := hidD (below_aft HB13.out hb14); clear hb14))
  go_ret
  exact ⟨rfl, below1 HB14.out⟩
set_option maxRecDepth 100000 in
set_option maxHeartbeats 16000000 in
theorem nums_n_cp (w : World) (a : Option Addr) (n cap : Nat) (f : Fv) (c : Ch) (fr : Int) (L : Nat) (hL : L ≤ 60) (h9 : FitS a n cap true w) (hP : NumP w f c L) (hrg : c.rg) (h34 : ∀ W, Below w.heap.size w W → Calls Tryd.prog 34 #[f.v, .int .i64 fr] W fun e w' => ∃ f' : Fv, e = .returned (.tuple #[f'.v, .int .i64 0, .int .i64 2]) ∧ New W w' f' (.leaf 0 0)) (h14 : ∀ W, Below w.heap.size w W → Calls Tryd.prog 14 #[.slice a n cap, f.v] W fun e w' => e = .returned (.bool true) ∧ Below W.heap.size W w') (h18 : ∀ W, Below w.heap.size w W → Calls Tryd.prog 18 #[.slice a n cap, f.v] W fun e w' => e = .returned (.tuple #[.int .i64 1, .int .i64 0]) ∧ Below W.heap.size W w') (h20 : ∀ W, Below w.heap.size w W → Calls Tryd.prog 20 #[.slice a n cap, f.v] W fun e w' => e = .returned (.tuple #[.bool false, .int .i64 0]) ∧ Below W.heap.size W w') (h16 : ∀ W, Below w.heap.size w W → Calls Tryd.prog 16 #[f.v] W fun e w' => e = .returned (.bool true) ∧ Below W.heap.size W w') (h22 : ∀ W, Below w.heap.size w W → Calls Tryd.prog 22 #[.slice a n cap, f.v] W fun e w' => e = .returned (.tuple #[.slice none 0 0, .int .i64 2]) ∧ Below W.heap.size W w') :
    Calls Tryd.prog 8 #[.slice a n cap, f.v, .int .i64 fr] w fun e w' => e = .returned (.bool true) ∧ Below w.heap.size w w' := by
  have CA : Hid (∀ W, Calls Tryd.prog 11 #[] W fun e w' => e = .returned (.bool true) ∧ Below W.heap.size W w') := awake_true
  have C9 := hidD h9
  have HP := hidD hP
  have HRG := hidD hrg
  have C34 := hidD h34
  have C14 := hidD h14
  have C18 := hidD h18
  have C20 := hidD h20
  have C16 := hidD h16
  have C22 := hidD h22
  obtain ⟨k, m, r, s, aa, nn, cc⟩ := f
  show Calls Tryd.prog 8 #[.slice a n cap, tyV k m r s aa nn cc, .int .i64 fr] w _
  clear h9 hP hrg h34 h14 h18 h20 h16 h22
  have st1 : Stg 1 := .mk 1
  go_enter Tryd.func8, Tryd.ntmps8
  go_wp2_with (first
    | (have _s := st1; clear st1 _s; go_at_call 9; refine (C9.out _ (belA (Below.refl _ _))).mono ?_; rintro e w1 ⟨rfl, hb1⟩; have HB1 := hidD hb1; obtain ⟨hlp, p0, p1, p2, p3, p4⟩ := keepP (f := ⟨k, m, r, s, aa, nn, cc⟩) HB1.out; simp only [Nat.zero_add] at p0 p1 p2 p3 p4; clear hb1; have st2 : Stg 2 := .mk 2)
    | (have _s := st2; clear st2 _s; go_at_call 10; refine (HP.out.c10 w1 (below1 HB1.out)).mono ?_; rintro e w2 ⟨rfl, hb2⟩; have HB2 := hidD (below_aft HB1.out hb2); clear p0 p1 p2 p3 p4 hlp; obtain ⟨hlp, p0, p1, p2, p3, p4⟩ := keepP (f := ⟨k, m, r, s, aa, nn, cc⟩) HB2.out; simp only [Nat.zero_add] at p0 p1 p2 p3 p4; clear hb2; have st3 : Stg 3 := .mk 3)
    | (have _s := st3; clear st3 _s; go_at_call 32; refine (HP.out.c32 w2 (below1 HB2.out)).mono ?_; rintro e w3 ⟨⟨a7, cap7, rfl, hI⟩, hb3⟩; have HI := hidD hI; have HB3 := hidD (below_aft HB2.out hb3); clear p0 p1 p2 p3 p4 hlp; obtain ⟨hlp, p0, p1, p2, p3, p4⟩ := keepP (f := ⟨k, m, r, s, aa, nn, cc⟩) HB3.out; simp only [Nat.zero_add] at p0 p1 p2 p3 p4; clear hb3 hI; have st4 : Stg 4 := .mk 4)
    | (have _s := st4; clear st4 _s; go_at_call 36; refine (HP.out.c36 w3 a7 cap7 (below1 HB3.out) HI.out).mono ?_; rintro e w4 ⟨fx, rfl, hN⟩; have HN4 := hidD hN; have HB4 := hidD (below_aft HB3.out hN.bel); clear p0 p1 p2 p3 p4 hlp; obtain ⟨hlp, p0, p1, p2, p3, p4⟩ := keepP (f := ⟨k, m, r, s, aa, nn, cc⟩) HB4.out; simp only [Nat.zero_add] at p0 p1 p2 p3 p4; clear hN; have st5 : Stg 5 := .mk 5)
    | (have _s := st5; clear st5 _s; go_at_call 26; refine (HP.out.c26 (w4.alloc fx.o) (below1 (belA HB4.out))).mono ?_; rintro e w5 ⟨fy, rfl, hN⟩; have HN5 := hidD hN; have HB5 := hidD (below_aft (belA HB4.out) hN.bel); clear p0 p1 p2 p3 p4 hlp; obtain ⟨hlp, p0, p1, p2, p3, p4⟩ := keepP (f := ⟨k, m, r, s, aa, nn, cc⟩) HB5.out; simp only [Nat.zero_add] at p0 p1 p2 p3 p4; obtain ⟨hlq, q0, q1, q2, q3, q4⟩ := ((At.new w4 fx.o).below hN.bel).ty; simp only [Nat.zero_add] at q0 q1 q2 q3 q4; clear hN; have st6 : Stg 6 := .mk 6)
    | (have _s := st6; clear st6 _s; go_at_call 30; refine (HP.out.c30 (w5.alloc fy.o) fx (below1 (belA HB5.out)) (((HN4.out.own.ty HRG.out).bel (below1 HN5.out.bel)).bel (belA (Below.refl _ _)))).mono ?_; rintro e w6 ⟨rfl, hb6⟩; have HB6 := hidD (below_aft (belA HB5.out) hb6); have HY6 := hidD (((HN5.out.own.ty HRG.out).bel (belA (o := fy.o) (Below.refl _ _))).bel hb6); clear p0 p1 p2 p3 p4 hlp; obtain ⟨hlp, p0, p1, p2, p3, p4⟩ := keepP (f := ⟨k, m, r, s, aa, nn, cc⟩) HB6.out; simp only [Nat.zero_add] at p0 p1 p2 p3 p4; clear q0 q1 q2 q3 q4 hlq; obtain ⟨hlq, q0, q1, q2, q3, q4⟩ := ((At.new w5 fy.o).below hb6).ty; simp only [Nat.zero_add] at q0 q1 q2 q3 q4; clear hb6; have st7 : Stg 7 := .mk 7)
    | (have _s := st7; clear st7 _s; go_at_call 30; refine (HP.out.c30 w6 fy (below1 HB6.out) HY6.out).mono ?_; rintro e w7 ⟨rfl, hb7⟩; have HB7 := hidD (below_aft HB6.out hb7); clear p0 p1 p2 p3 p4 hlp; clear q0 q1 q2 q3 q4 hlq; obtain ⟨hlp, p0, p1, p2, p3, p4⟩ := keepP (f := ⟨k, m, r, s, aa, nn, cc⟩) HB7.out; simp only [Nat.zero_add] at p0 p1 p2 p3 p4; clear hb7; have st8 : Stg 8 := .mk 8)
    | (have _s := st8; clear st8 _s; go_at_call 34; refine (C34.out w7 (below1 HB7.out)).mono ?_; rintro e w8 ⟨fz, rfl, hN⟩; have HB8 := hidD (below_aft HB7.out hN.bel); clear p0 p1 p2 p3 p4 hlp; obtain ⟨hlp, p0, p1, p2, p3, p4⟩ := keepP (f := ⟨k, m, r, s, aa, nn, cc⟩) HB8.out; simp only [Nat.zero_add] at p0 p1 p2 p3 p4; clear hN; have st13 : Stg 13 := .mk 13)
    | (have _s := st13; clear st13 _s; go_at_call 14; refine (C14.out (w8.alloc fz.o) (below1 (belA HB8.out))).mono ?_; rintro e w13 ⟨rfl, hb13⟩; have HB13 := hidD (below_aft (belA HB8.out) hb13); clear p0 p1 p2 p3 p4 hlp; obtain ⟨hlp, p0, p1, p2, p3, p4⟩ := keepP (f := ⟨k, m, r, s, aa, nn, cc⟩) HB13.out; simp only [Nat.zero_add] at p0 p1 p2 p3 p4; clear hb13; have st14 : Stg 14 := .mk 14)
    | (have _s := st14; clear st14 _s; go_at_call 18; refine (C18.out w13 (below1 HB13.out)).mono ?_; rintro e w14 ⟨rfl, hb14⟩; have HB14 := hidD (below_aft HB13.out hb14); clear p0 p1 p2 p3 p4 hlp; obtain ⟨hlp, p0, p1, p2, p3, p4⟩ := keepP (f := ⟨k, m, r, s, aa, nn, cc⟩) HB14.out; simp only [Nat.zero_add] at p0 p1 p2 p3 p4; clear hb14; have st15 : Stg 15 := .mk 15)
    | (have _s := st15; clear st15 _s; go_at_call 20; refine (C20.out w14 (below1 HB14.out)).mono ?_; rintro e w15 ⟨rfl, hb15⟩; have HB15 := hidD (below_aft HB14.out hb15); clear p0 p1 p2 p3 p4 hlp; obtain ⟨hlp, p0, p1, p2, p3, p4⟩ := keepP (f := ⟨k, m, r, s, aa, nn, cc⟩) HB15.out; simp only [Nat.zero_add] at p0 p1 p2 p3 p4; clear hb15; have st16 : Stg 16 := .mk 16)
    | (have _s := st16; clear st16 _s; go_at_call 16; refine (C16.out w15 (below1 HB15.out)).mono ?_; rintro e w16 ⟨rfl, hb16⟩; have HB16 := hidD (below_aft HB15.out hb16); clear p0 p1 p2 p3 p4 hlp; obtain ⟨hlp, p0, p1, p2, p3, p4⟩ := keepP (f := ⟨k, m, r, s, aa, nn, cc⟩) HB16.out; simp only [Nat.zero_add] at p0 p1 p2 p3 p4; clear hb16; have st17 : Stg 17 := .mk 17)
    | (have _s := st17; clear st17 _s; go_at_call 22; refine (C22.out w16 (below1 HB16.out)).mono ?_; rintro e w17 ⟨rfl, hb17⟩; have HB17 := hidD (below_aft HB16.out hb17); clear p0 p1 p2 p3 p4 hlp; clear hb17; have st18 : Stg 18 := .mk 18)
    | (have _s := st18; clear st18 _s; go_at_call 11; refine (CA.out _).mono ?_; rintro e w18 ⟨rfl, hb18⟩; have HB18 := hidD (below_aft HB17.out hb18); clear hb18))
  go_ret
  exact ⟨rfl, below1 HB18.out⟩
set_option maxRecDepth 100000 in
set_option maxHeartbeats 16000000 in
theorem nums_y_cp (w : World) (a : Option Addr) (n cap : Nat) (f : Fv) (c : Ch) (fr : Int) (L : Nat) (hL : L ≤ 60) (h9 : FitS a n cap true w) (hP : NumP w f c L) (hrg : c.rg) (C1 : Ch) (hQ : NumQ w f c L fr C1) (hfr0 : 0 ≤ fr) (hfr1 : fr ≤ 512) (h14 : ∀ W, Below w.heap.size w W → Calls Tryd.prog 14 #[.slice a n cap, f.v] W fun e w' => e = .returned (.bool true) ∧ Below W.heap.size W w') (h18 : ∀ W, Below w.heap.size w W → Calls Tryd.prog 18 #[.slice a n cap, f.v] W fun e w' => e = .returned (.tuple #[.int .i64 1, .int .i64 0]) ∧ Below W.heap.size W w') (h20 : ∀ W, Below w.heap.size w W → Calls Tryd.prog 20 #[.slice a n cap, f.v] W fun e w' => e = .returned (.tuple #[.bool false, .int .i64 0]) ∧ Below W.heap.size W w') (h16 : ∀ W, Below w.heap.size w W → Calls Tryd.prog 16 #[f.v] W fun e w' => e = .returned (.bool true) ∧ Below W.heap.size W w') (h22 : ∀ W, Below w.heap.size w W → Calls Tryd.prog 22 #[.slice a n cap, f.v] W fun e w' => e = .returned (.tuple #[.slice none 0 0, .int .i64 2]) ∧ Below W.heap.size W w') :
    Calls Tryd.prog 8 #[.slice a n cap, f.v, .int .i64 fr] w fun e w' => e = .returned (.bool true) ∧ Below w.heap.size w w' := by
  have CA : Hid (∀ W, Calls Tryd.prog 11 #[] W fun e w' => e = .returned (.bool true) ∧ Below W.heap.size W w') := awake_true
  have C9 := hidD h9
  have HP := hidD hP
  have HRG := hidD hrg
  have HQ := hidD hQ
  have wf : IntKind.i64.wrap (fr + (L : Int)) = fr + (L : Int) := by rw [IntKind.wrap_i64]; omega
  have C14 := hidD h14
  have C18 := hidD h18
  have C20 := hidD h20
  have C16 := hidD h16
  have C22 := hidD h22
  obtain ⟨k, m, r, s, aa, nn, cc⟩ := f
  show Calls Tryd.prog 8 #[.slice a n cap, tyV k m r s aa nn cc, .int .i64 fr] w _
  clear h9 hP hrg hQ h14 h18 h20 h16 h22
  have st1 : Stg 1 := .mk 1
  go_enter Tryd.func8, Tryd.ntmps8
  go_wp2_with (first
    | (have _s := st1; clear st1 _s; go_at_call 9; refine (C9.out _ (belA (Below.refl _ _))).mono ?_; rintro e w1 ⟨rfl, hb1⟩; have HB1 := hidD hb1; obtain ⟨hlp, p0, p1, p2, p3, p4⟩ := keepP (f := ⟨k, m, r, s, aa, nn, cc⟩) HB1.out; simp only [Nat.zero_add] at p0 p1 p2 p3 p4; clear hb1; have st2 : Stg 2 := .mk 2)
    | (have _s := st2; clear st2 _s; go_at_call 10; refine (HP.out.c10 w1 (below1 HB1.out)).mono ?_; rintro e w2 ⟨rfl, hb2⟩; have HB2 := hidD (below_aft HB1.out hb2); clear p0 p1 p2 p3 p4 hlp; obtain ⟨hlp, p0, p1, p2, p3, p4⟩ := keepP (f := ⟨k, m, r, s, aa, nn, cc⟩) HB2.out; simp only [Nat.zero_add] at p0 p1 p2 p3 p4; clear hb2; have st3 : Stg 3 := .mk 3)
    | (have _s := st3; clear st3 _s; go_at_call 32; refine (HP.out.c32 w2 (below1 HB2.out)).mono ?_; rintro e w3 ⟨⟨a7, cap7, rfl, hI⟩, hb3⟩; have HI := hidD hI; have HB3 := hidD (below_aft HB2.out hb3); clear p0 p1 p2 p3 p4 hlp; obtain ⟨hlp, p0, p1, p2, p3, p4⟩ := keepP (f := ⟨k, m, r, s, aa, nn, cc⟩) HB3.out; simp only [Nat.zero_add] at p0 p1 p2 p3 p4; clear hb3 hI; have st4 : Stg 4 := .mk 4)
    | (have _s := st4; clear st4 _s; go_at_call 36; refine (HP.out.c36 w3 a7 cap7 (below1 HB3.out) HI.out).mono ?_; rintro e w4 ⟨fx, rfl, hN⟩; have HN4 := hidD hN; have HB4 := hidD (below_aft HB3.out hN.bel); clear p0 p1 p2 p3 p4 hlp; obtain ⟨hlp, p0, p1, p2, p3, p4⟩ := keepP (f := ⟨k, m, r, s, aa, nn, cc⟩) HB4.out; simp only [Nat.zero_add] at p0 p1 p2 p3 p4; clear hN; have st5 : Stg 5 := .mk 5)
    | (have _s := st5; clear st5 _s; go_at_call 26; refine (HP.out.c26 (w4.alloc fx.o) (below1 (belA HB4.out))).mono ?_; rintro e w5 ⟨fy, rfl, hN⟩; have HN5 := hidD hN; have HB5 := hidD (below_aft (belA HB4.out) hN.bel); clear p0 p1 p2 p3 p4 hlp; obtain ⟨hlp, p0, p1, p2, p3, p4⟩ := keepP (f := ⟨k, m, r, s, aa, nn, cc⟩) HB5.out; simp only [Nat.zero_add] at p0 p1 p2 p3 p4; obtain ⟨hlq, q0, q1, q2, q3, q4⟩ := ((At.new w4 fx.o).below hN.bel).ty; simp only [Nat.zero_add] at q0 q1 q2 q3 q4; clear hN; have st6 : Stg 6 := .mk 6)
    | (have _s := st6; clear st6 _s; go_at_call 30; refine (HP.out.c30 (w5.alloc fy.o) fx (below1 (belA HB5.out)) (((HN4.out.own.ty HRG.out).bel (below1 HN5.out.bel)).bel (belA (Below.refl _ _)))).mono ?_; rintro e w6 ⟨rfl, hb6⟩; have HB6 := hidD (below_aft (belA HB5.out) hb6); have HY6 := hidD (((HN5.out.own.ty HRG.out).bel (belA (o := fy.o) (Below.refl _ _))).bel hb6); clear p0 p1 p2 p3 p4 hlp; obtain ⟨hlp, p0, p1, p2, p3, p4⟩ := keepP (f := ⟨k, m, r, s, aa, nn, cc⟩) HB6.out; simp only [Nat.zero_add] at p0 p1 p2 p3 p4; clear q0 q1 q2 q3 q4 hlq; obtain ⟨hlq, q0, q1, q2, q3, q4⟩ := ((At.new w5 fy.o).below hb6).ty; simp only [Nat.zero_add] at q0 q1 q2 q3 q4; clear hb6; have st7 : Stg 7 := .mk 7)
    | (have _s := st7; clear st7 _s; go_at_call 30; refine (HP.out.c30 w6 fy (below1 HB6.out) HY6.out).mono ?_; rintro e w7 ⟨rfl, hb7⟩; have HB7 := hidD (below_aft HB6.out hb7); clear p0 p1 p2 p3 p4 hlp; clear q0 q1 q2 q3 q4 hlq; obtain ⟨hlp, p0, p1, p2, p3, p4⟩ := keepP (f := ⟨k, m, r, s, aa, nn, cc⟩) HB7.out; simp only [Nat.zero_add] at p0 p1 p2 p3 p4; clear hb7; have st8 : Stg 8 := .mk 8)
    | (have _s := st8; clear st8 _s; go_at_call 34; refine (HQ.out.c34 w7 (below1 HB7.out)).mono ?_; rintro e w8 ⟨fz, rfl, hN⟩; have HN8 := hidD hN; have HB8 := hidD (below_aft HB7.out hN.bel); clear p0 p1 p2 p3 p4 hlp; obtain ⟨hlp, p0, p1, p2, p3, p4⟩ := keepP (f := ⟨k, m, r, s, aa, nn, cc⟩) HB8.out; simp only [Nat.zero_add] at p0 p1 p2 p3 p4; clear hN; have st9 : Stg 9 := .mk 9)
    | (have _s := st9; clear st9 _s; go_at_call 34; refine (HQ.out.d34 (w8.alloc fz.o) fz ((HN8.out.own.ty HQ.out.rg).bel (belA (Below.refl _ _)))).mono ?_; rintro e w9 ⟨fu, rfl, hN⟩; have HN9 := hidD hN; have HB9 := hidD (below_aft (belA HB8.out) hN.bel); have HZ9 := hidD ((HN8.out.own.ty HQ.out.rg).bel (below1 hN.bel)); clear p0 p1 p2 p3 p4 hlp; obtain ⟨hlp, p0, p1, p2, p3, p4⟩ := keepP (f := ⟨k, m, r, s, aa, nn, cc⟩) HB9.out; simp only [Nat.zero_add] at p0 p1 p2 p3 p4; obtain ⟨hlq, q0, q1, q2, q3, q4⟩ := ((At.new w8 fz.o).below hN.bel).ty; simp only [Nat.zero_add] at q0 q1 q2 q3 q4; clear hN; have st10 : Stg 10 := .mk 10)
    | (have _s := st10; clear st10 _s; go_at_call 30; refine (HQ.out.d30 (w9.alloc fu.o) fz fu (HZ9.out.bel (belA (Below.refl _ _))) ((HN9.out.own.ty HQ.out.rg).bel (belA (Below.refl _ _)))).mono ?_; rintro e w10 ⟨rfl, hb10⟩; have HB10 := hidD (below_aft (belA HB9.out) hb10); have HZ10 := hidD (HZ9.out.bel (below1 hb10)); clear p0 p1 p2 p3 p4 hlp; obtain ⟨hlp, p0, p1, p2, p3, p4⟩ := keepP (f := ⟨k, m, r, s, aa, nn, cc⟩) HB10.out; simp only [Nat.zero_add] at p0 p1 p2 p3 p4; clear q0 q1 q2 q3 q4 hlq; obtain ⟨hlq, q0, q1, q2, q3, q4⟩ := ((((At.new w8 fz.o).below HN9.out.bel).alloc fu.o).below hb10).ty; simp only [Nat.zero_add] at q0 q1 q2 q3 q4; have HA10 := hidD ((((At.new w8 fz.o).below HN9.out.bel).alloc fu.o).below hb10); clear hb10; have st11 : Stg 11 := .mk 11)
    | (have _s := st11; clear st11 _s; go_at_call 28; refine (HQ.out.d28 w10 fz (below1 HB10.out) HZ10.out).mono ?_; rintro e w11 ⟨rfl, hb11⟩; have HB11 := hidD (below_aft HB10.out hb11); have HZ11 := hidD (HZ10.out.bel hb11); clear p0 p1 p2 p3 p4 hlp; obtain ⟨hlp, p0, p1, p2, p3, p4⟩ := keepP (f := ⟨k, m, r, s, aa, nn, cc⟩) HB11.out; simp only [Nat.zero_add] at p0 p1 p2 p3 p4; clear q0 q1 q2 q3 q4 hlq; obtain ⟨hlq, q0, q1, q2, q3, q4⟩ := (HA10.out.below hb11).ty; simp only [Nat.zero_add] at q0 q1 q2 q3 q4; clear hb11; have st12 : Stg 12 := .mk 12)
    | (have _s := st12; clear st12 _s; go_at_call 32; refine (HQ.out.d32 w11 fz HZ11.out).mono ?_; rintro e w12 ⟨⟨a12, cap12, rfl⟩, hb12⟩; have HB12 := hidD (below_aft HB11.out hb12); clear p0 p1 p2 p3 p4 hlp; clear q0 q1 q2 q3 q4 hlq; obtain ⟨hlp, p0, p1, p2, p3, p4⟩ := keepP (f := ⟨k, m, r, s, aa, nn, cc⟩) HB12.out; simp only [Nat.zero_add] at p0 p1 p2 p3 p4; clear hb12; have st13 : Stg 13 := .mk 13)
    | (have _s := st13; clear st13 _s; go_at_call 14; refine (C14.out w12 (below1 HB12.out)).mono ?_; rintro e w13 ⟨rfl, hb13⟩; have HB13 := hidD (below_aft HB12.out hb13); clear p0 p1 p2 p3 p4 hlp; obtain ⟨hlp, p0, p1, p2, p3, p4⟩ := keepP (f := ⟨k, m, r, s, aa, nn, cc⟩) HB13.out; simp only [Nat.zero_add] at p0 p1 p2 p3 p4; clear hb13; have st14 : Stg 14 := .mk 14)
    | (have _s := st14; clear st14 _s; go_at_call 18; refine (C18.out w13 (below1 HB13.out)).mono ?_; rintro e w14 ⟨rfl, hb14⟩; have HB14 := hidD (below_aft HB13.out hb14); clear p0 p1 p2 p3 p4 hlp; obtain ⟨hlp, p0, p1, p2, p3, p4⟩ := keepP (f := ⟨k, m, r, s, aa, nn, cc⟩) HB14.out; simp only [Nat.zero_add] at p0 p1 p2 p3 p4; clear hb14; have st15 : Stg 15 := .mk 15)
    | (have _s := st15; clear st15 _s; go_at_call 20; refine (C20.out w14 (below1 HB14.out)).mono ?_; rintro e w15 ⟨rfl, hb15⟩; have HB15 := hidD (below_aft HB14.out hb15); clear p0 p1 p2 p3 p4 hlp; obtain ⟨hlp, p0, p1, p2, p3, p4⟩ := keepP (f := ⟨k, m, r, s, aa, nn, cc⟩) HB15.out; simp only [Nat.zero_add] at p0 p1 p2 p3 p4; clear hb15; have st16 : Stg 16 := .mk 16)
    | (have _s := st16; clear st16 _s; go_at_call 16; refine (C16.out w15 (below1 HB15.out)).mono ?_; rintro e w16 ⟨rfl, hb16⟩; have HB16 := hidD (below_aft HB15.out hb16); clear p0 p1 p2 p3 p4 hlp; obtain ⟨hlp, p0, p1, p2, p3, p4⟩ := keepP (f := ⟨k, m, r, s, aa, nn, cc⟩) HB16.out; simp only [Nat.zero_add] at p0 p1 p2 p3 p4; clear hb16; have st17 : Stg 17 := .mk 17)
    | (have _s := st17; clear st17 _s; go_at_call 22; refine (C22.out w16 (below1 HB16.out)).mono ?_; rintro e w17 ⟨rfl, hb17⟩; have HB17 := hidD (below_aft HB16.out hb17); clear p0 p1 p2 p3 p4 hlp; clear hb17; have st18 : Stg 18 := .mk 18)
    | (have _s := st18; clear st18 _s; go_at_call 11; refine (CA.out _).mono ?_; rintro e w18 ⟨rfl, hb18⟩; have HB18 := hidD (below_aft HB17.out hb18); clear hb18))
  go_ret
  exact ⟨rfl, below1 HB18.out⟩
set_option maxRecDepth 100000 in
set_option maxHeartbeats 16000000 in
theorem nums_n_nc (w : World) (a : Option Addr) (n cap : Nat) (f : Fv) (c : Ch) (fr : Int) (L : Nat) (hL : L ≤ 60) (h9 : FitS a n cap true w) (hP : NumP w f c L) (hrg : c.rg) (h34 : ∀ W, Below w.heap.size w W → Calls Tryd.prog 34 #[f.v, .int .i64 fr] W fun e w' => ∃ f' : Fv, e = .returned (.tuple #[f'.v, .int .i64 0, .int .i64 2]) ∧ New W w' f' (.leaf 0 0)) (h14 : ∀ W, Below w.heap.size w W → Calls Tryd.prog 14 #[.slice a n cap, f.v] W fun e w' => e = .returned (.bool true) ∧ Below W.heap.size W w') (d : Bool) (h18 : ∀ W, Below w.heap.size w W → Calls Tryd.prog 18 #[.slice a n cap, f.v] W fun e w' => e = .returned (.tuple #[.int .i64 1, .int .i64 0]) ∧ Below W.heap.size W w') (h20 : ∀ W, Below w.heap.size w W → Calls Tryd.prog 20 #[.slice a n cap, f.v] W fun e w' => e = .returned (.tuple #[.bool d, .int .i64 0]) ∧ Below W.heap.size W w') (h16 : ∀ W, Below w.heap.size w W → Calls Tryd.prog 16 #[f.v] W fun e w' => e = .returned (.bool false) ∧ Below W.heap.size W w') (h22 : ∀ W, Below w.heap.size w W → Calls Tryd.prog 22 #[.slice a n cap, f.v] W fun e w' => e = .returned (.tuple #[.slice none 0 0, .int .i64 2]) ∧ Below W.heap.size W w') :
    Calls Tryd.prog 8 #[.slice a n cap, f.v, .int .i64 fr] w fun e w' => e = .returned (.bool true) ∧ Below w.heap.size w w' := by
  have CA : Hid (∀ W, Calls Tryd.prog 11 #[] W fun e w' => e = .returned (.bool true) ∧ Below W.heap.size W w') := awake_true
  have C9 := hidD h9
  have HP := hidD hP
  have HRG := hidD hrg
  have C34 := hidD h34
  have C14 := hidD h14
  have C18 := hidD h18
  have C20 := hidD h20
  have C16 := hidD h16
  have C22 := hidD h22
  obtain ⟨k, m, r, s, aa, nn, cc⟩ := f
  show Calls Tryd.prog 8 #[.slice a n cap, tyV k m r s aa nn cc, .int .i64 fr] w _
  clear h9 hP hrg h34 h14 h18 h20 h16 h22
  have st1 : Stg 1 := .mk 1
  go_enter Tryd.func8, Tryd.ntmps8
  go_wp2_with (first
    | (have _s := st1; clear st1 _s; go_at_call 9; refine (C9.out _ (belA (Below.refl _ _))).mono ?_; rintro e w1 ⟨rfl, hb1⟩; have HB1 := hidD hb1; obtain ⟨hlp, p0, p1, p2, p3, p4⟩ := keepP (f := ⟨k, m, r, s, aa, nn, cc⟩) HB1.out; simp only [Nat.zero_add] at p0 p1 p2 p3 p4; clear hb1; have st2 : Stg 2 := .mk 2)
    | (have _s := st2; clear st2 _s; go_at_call 10; refine (HP.out.c10 w1 (below1 HB1.out)).mono ?_; rintro e w2 ⟨rfl, hb2⟩; have HB2 := hidD (below_aft HB1.out hb2); clear p0 p1 p2 p3 p4 hlp; obtain ⟨hlp, p0, p1, p2, p3, p4⟩ := keepP (f := ⟨k, m, r, s, aa, nn, cc⟩) HB2.out; simp only [Nat.zero_add] at p0 p1 p2 p3 p4; clear hb2; have st3 : Stg 3 := .mk 3)
    | (have _s := st3; clear st3 _s; go_at_call 32; refine (HP.out.c32 w2 (below1 HB2.out)).mono ?_; rintro e w3 ⟨⟨a7, cap7, rfl, hI⟩, hb3⟩; have HI := hidD hI; have HB3 := hidD (below_aft HB2.out hb3); clear p0 p1 p2 p3 p4 hlp; obtain ⟨hlp, p0, p1, p2, p3, p4⟩ := keepP (f := ⟨k, m, r, s, aa, nn, cc⟩) HB3.out; simp only [Nat.zero_add] at p0 p1 p2 p3 p4; clear hb3 hI; have st4 : Stg 4 := .mk 4)
    | (have _s := st4; clear st4 _s; go_at_call 36; refine (HP.out.c36 w3 a7 cap7 (below1 HB3.out) HI.out).mono ?_; rintro e w4 ⟨fx, rfl, hN⟩; have HN4 := hidD hN; have HB4 := hidD (below_aft HB3.out hN.bel); clear p0 p1 p2 p3 p4 hlp; obtain ⟨hlp, p0, p1, p2, p3, p4⟩ := keepP (f := ⟨k, m, r, s, aa, nn, cc⟩) HB4.out; simp only [Nat.zero_add] at p0 p1 p2 p3 p4; clear hN; have st5 : Stg 5 := .mk 5)
    | (have _s := st5; clear st5 _s; go_at_call 26; refine (HP.out.c26 (w4.alloc fx.o) (below1 (belA HB4.out))).mono ?_; rintro e w5 ⟨fy, rfl, hN⟩; have HN5 := hidD hN; have HB5 := hidD (below_aft (belA HB4.out) hN.bel); clear p0 p1 p2 p3 p4 hlp; obtain ⟨hlp, p0, p1, p2, p3, p4⟩ := keepP (f := ⟨k, m, r, s, aa, nn, cc⟩) HB5.out; simp only [Nat.zero_add] at p0 p1 p2 p3 p4; obtain ⟨hlq, q0, q1, q2, q3, q4⟩ := ((At.new w4 fx.o).below hN.bel).ty; simp only [Nat.zero_add] at q0 q1 q2 q3 q4; clear hN; have st6 : Stg 6 := .mk 6)
    | (have _s := st6; clear st6 _s; go_at_call 30; refine (HP.out.c30 (w5.alloc fy.o) fx (below1 (belA HB5.out)) (((HN4.out.own.ty HRG.out).bel (below1 HN5.out.bel)).bel (belA (Below.refl _ _)))).mono ?_; rintro e w6 ⟨rfl, hb6⟩; have HB6 := hidD (below_aft (belA HB5.out) hb6); have HY6 := hidD (((HN5.out.own.ty HRG.out).bel (belA (o := fy.o) (Below.refl _ _))).bel hb6); clear p0 p1 p2 p3 p4 hlp; obtain ⟨hlp, p0, p1, p2, p3, p4⟩ := keepP (f := ⟨k, m, r, s, aa, nn, cc⟩) HB6.out; simp only [Nat.zero_add] at p0 p1 p2 p3 p4; clear q0 q1 q2 q3 q4 hlq; obtain ⟨hlq, q0, q1, q2, q3, q4⟩ := ((At.new w5 fy.o).below hb6).ty; simp only [Nat.zero_add] at q0 q1 q2 q3 q4; clear hb6; have st7 : Stg 7 := .mk 7)
    | (have _s := st7; clear st7 _s; go_at_call 30; refine (HP.out.c30 w6 fy (below1 HB6.out) HY6.out).mono ?_; rintro e w7 ⟨rfl, hb7⟩; have HB7 := hidD (below_aft HB6.out hb7); clear p0 p1 p2 p3 p4 hlp; clear q0 q1 q2 q3 q4 hlq; obtain ⟨hlp, p0, p1, p2, p3, p4⟩ := keepP (f := ⟨k, m, r, s, aa, nn, cc⟩) HB7.out; simp only [Nat.zero_add] at p0 p1 p2 p3 p4; clear hb7; have st8 : Stg 8 := .mk 8)
    | (have _s := st8; clear st8 _s; go_at_call 34; refine (C34.out w7 (below1 HB7.out)).mono ?_; rintro e w8 ⟨fz, rfl, hN⟩; have HB8 := hidD (below_aft HB7.out hN.bel); clear p0 p1 p2 p3 p4 hlp; obtain ⟨hlp, p0, p1, p2, p3, p4⟩ := keepP (f := ⟨k, m, r, s, aa, nn, cc⟩) HB8.out; simp only [Nat.zero_add] at p0 p1 p2 p3 p4; clear hN; have st13 : Stg 13 := .mk 13)
    | (have _s := st13; clear st13 _s; go_at_call 14; refine (C14.out (w8.alloc fz.o) (below1 (belA HB8.out))).mono ?_; rintro e w13 ⟨rfl, hb13⟩; have HB13 := hidD (below_aft (belA HB8.out) hb13); clear p0 p1 p2 p3 p4 hlp; obtain ⟨hlp, p0, p1, p2, p3, p4⟩ := keepP (f := ⟨k, m, r, s, aa, nn, cc⟩) HB13.out; simp only [Nat.zero_add] at p0 p1 p2 p3 p4; clear hb13; have st14 : Stg 14 := .mk 14)
    | (have _s := st14; clear st14 _s; go_at_call 18; refine (C18.out w13 (below1 HB13.out)).mono ?_; rintro e w14 ⟨rfl, hb14⟩; have HB14 := hidD (below_aft HB13.out hb14); clear p0 p1 p2 p3 p4 hlp; obtain ⟨hlp, p0, p1, p2, p3, p4⟩ := keepP (f := ⟨k, m, r, s, aa, nn, cc⟩) HB14.out; simp only [Nat.zero_add] at p0 p1 p2 p3 p4; clear hb14; have st15 : Stg 15 := .mk 15)
    | (have _s := st15; clear st15 _s; go_at_call 20; refine (C20.out w14 (below1 HB14.out)).mono ?_; rintro e w15 ⟨rfl, hb15⟩; have HB15 := hidD (below_aft HB14.out hb15); clear p0 p1 p2 p3 p4 hlp; obtain ⟨hlp, p0, p1, p2, p3, p4⟩ := keepP (f := ⟨k, m, r, s, aa, nn, cc⟩) HB15.out; simp only [Nat.zero_add] at p0 p1 p2 p3 p4; clear hb15; have st16 : Stg 16 := .mk 16)
    | (have _s := st16; clear st16 _s; go_at_call 16; refine (C16.out w15 (below1 HB15.out)).mono ?_; rintro e w16 ⟨rfl, hb16⟩; have HB16 := hidD (below_aft HB15.out hb16); clear p0 p1 p2 p3 p4 hlp; obtain ⟨hlp, p0, p1, p2, p3, p4⟩ := keepP (f := ⟨k, m, r, s, aa, nn, cc⟩) HB16.out; simp only [Nat.zero_add] at p0 p1 p2 p3 p4; clear hb16; have st17 : Stg 17 := .mk 17)
    | (have _s := st17; clear st17 _s; go_at_call 22; refine (C22.out w16 (below1 HB16.out)).mono ?_; rintro e w17 ⟨rfl, hb17⟩; have HB17 := hidD (below_aft HB16.out hb17); clear p0 p1 p2 p3 p4 hlp; clear hb17; have st18 : Stg 18 := .mk 18)
    | (have _s := st18; clear st18 _s; go_at_call 11; refine (CA.out _).mono ?_; rintro e w18 ⟨rfl, hb18⟩; have HB18 := hidD (below_aft HB17.out hb18); clear hb18))
  go_ret
  exact ⟨rfl, below1 HB18.out⟩
set_option maxRecDepth 100000 in
set_option maxHeartbeats 16000000 in
theorem nums_y_nc (w : World) (a : Option Addr) (n cap : Nat) (f : Fv) (c : Ch) (fr : Int) (L : Nat) (hL : L ≤ 60) (h9 : FitS a n cap true w) (hP : NumP w f c L) (hrg : c.rg) (C1 : Ch) (hQ : NumQ w f c L fr C1) (hfr0 : 0 ≤ fr) (hfr1 : fr ≤ 512) (h14 : ∀ W, Below w.heap.size w W → Calls Tryd.prog 14 #[.slice a n cap, f.v] W fun e w' => e = .returned (.bool true) ∧ Below W.heap.size W w') (d : Bool) (h18 : ∀ W, Below w.heap.size w W → Calls Tryd.prog 18 #[.slice a n cap, f.v] W fun e w' => e = .returned (.tuple #[.int .i64 1, .int .i64 0]) ∧ Below W.heap.size W w') (h20 : ∀ W, Below w.heap.size w W → Calls Tryd.prog 20 #[.slice a n cap, f.v] W fun e w' => e = .returned (.tuple #[.bool d, .int .i64 0]) ∧ Below W.heap.size W w') (h16 : ∀ W, Below w.heap.size w W → Calls Tryd.prog 16 #[f.v] W fun e w' => e = .returned (.bool false) ∧ Below W.heap.size W w') (h22 : ∀ W, Below w.heap.size w W → Calls Tryd.prog 22 #[.slice a n cap, f.v] W fun e w' => e = .returned (.tuple #[.slice none 0 0, .int .i64 2]) ∧ Below W.heap.size W w') :
    Calls Tryd.prog 8 #[.slice a n cap, f.v, .int .i64 fr] w fun e w' => e = .returned (.bool true) ∧ Below w.heap.size w w' := by
  have CA : Hid (∀ W, Calls Tryd.prog 11 #[] W fun e w' => e = .returned (.bool true) ∧ Below W.heap.size W w') := awake_true
  have C9 := hidD h9
  have HP := hidD hP
  have HRG := hidD hrg
  have HQ := hidD hQ
  have wf : IntKind.i64.wrap (fr + (L : Int)) = fr + (L : Int) := by rw [IntKind.wrap_i64]; omega
  have C14 := hidD h14
  have C18 := hidD h18
  have C20 := hidD h20
  have C16 := hidD h16
  have C22 := hidD h22
  obtain ⟨k, m, r, s, aa, nn, cc⟩ := f
  show Calls Tryd.prog 8 #[.slice a n cap, tyV k m r s aa nn cc, .int .i64 fr] w _
  clear h9 hP hrg hQ h14 h18 h20 h16 h22
  have st1 : Stg 1 := .mk 1
  go_enter Tryd.func8, Tryd.ntmps8
  go_wp2_with (first
    | (have _s := st1; clear st1 _s; go_at_call 9; refine (C9.out _ (belA (Below.refl _ _))).mono ?_; rintro e w1 ⟨rfl, hb1⟩; have HB1 := hidD hb1; obtain ⟨hlp, p0, p1, p2, p3, p4⟩ := keepP (f := ⟨k, m, r, s, aa, nn, cc⟩) HB1.out; simp only [Nat.zero_add] at p0 p1 p2 p3 p4; clear hb1; have st2 : Stg 2 := .mk 2)
    | (have _s := st2; clear st2 _s; go_at_call 10; refine (HP.out.c10 w1 (below1 HB1.out)).mono ?_; rintro e w2 ⟨rfl, hb2⟩; have HB2 := hidD (below_aft HB1.out hb2); clear p0 p1 p2 p3 p4 hlp; obtain ⟨hlp, p0, p1, p2, p3, p4⟩ := keepP (f := ⟨k, m, r, s, aa, nn, cc⟩) HB2.out; simp only [Nat.zero_add] at p0 p1 p2 p3 p4; clear hb2; have st3 : Stg 3 := .mk 3)
    | (have _s := st3; clear st3 _s; go_at_call 32; refine (HP.out.c32 w2 (below1 HB2.out)).mono ?_; rintro e w3 ⟨⟨a7, cap7, rfl, hI⟩, hb3⟩; have HI := hidD hI; have HB3 := hidD (below_aft HB2.out hb3); clear p0 p1 p2 p3 p4 hlp; obtain ⟨hlp, p0, p1, p2, p3, p4⟩ := keepP (f := ⟨k, m, r, s, aa, nn, cc⟩) HB3.out; simp only [Nat.zero_add] at p0 p1 p2 p3 p4; clear hb3 hI; have st4 : Stg 4 := .mk 4)
    | (have _s := st4; clear st4 _s; go_at_call 36; refine (HP.out.c36 w3 a7 cap7 (below1 HB3.out) HI.out).mono ?_; rintro e w4 ⟨fx, rfl, hN⟩; have HN4 := hidD hN; have HB4 := hidD (below_aft HB3.out hN.bel); clear p0 p1 p2 p3 p4 hlp; obtain ⟨hlp, p0, p1, p2, p3, p4⟩ := keepP (f := ⟨k, m, r, s, aa, nn, cc⟩) HB4.out; simp only [Nat.zero_add] at p0 p1 p2 p3 p4; clear hN; have st5 : Stg 5 := .mk 5)
    | (have _s := st5; clear st5 _s; go_at_call 26; refine (HP.out.c26 (w4.alloc fx.o) (below1 (belA HB4.out))).mono ?_; rintro e w5 ⟨fy, rfl, hN⟩; have HN5 := hidD hN; have HB5 := hidD (below_aft (belA HB4.out) hN.bel); clear p0 p1 p2 p3 p4 hlp; obtain ⟨hlp, p0, p1, p2, p3, p4⟩ := keepP (f := ⟨k, m, r, s, aa, nn, cc⟩) HB5.out; simp only [Nat.zero_add] at p0 p1 p2 p3 p4; obtain ⟨hlq, q0, q1, q2, q3, q4⟩ := ((At.new w4 fx.o).below hN.bel).ty; simp only [Nat.zero_add] at q0 q1 q2 q3 q4; clear hN; have st6 : Stg 6 := .mk 6)
    | (have _s := st6; clear st6 _s; go_at_call 30; refine (HP.out.c30 (w5.alloc fy.o) fx (below1 (belA HB5.out)) (((HN4.out.own.ty HRG.out).bel (below1 HN5.out.bel)).bel (belA (Below.refl _ _)))).mono ?_; rintro e w6 ⟨rfl, hb6⟩; have HB6 := hidD (below_aft (belA HB5.out) hb6); have HY6 := hidD (((HN5.out.own.ty HRG.out).bel (belA (o := fy.o) (Below.refl _ _))).bel hb6); clear p0 p1 p2 p3 p4 hlp; obtain ⟨hlp, p0, p1, p2, p3, p4⟩ := keepP (f := ⟨k, m, r, s, aa, nn, cc⟩) HB6.out; simp only [Nat.zero_add] at p0 p1 p2 p3 p4; clear q0 q1 q2 q3 q4 hlq; obtain ⟨hlq, q0, q1, q2, q3, q4⟩ := ((At.new w5 fy.o).below hb6).ty; simp only [Nat.zero_add] at q0 q1 q2 q3 q4; clear hb6; have st7 : Stg 7 := .mk 7)
    | (have _s := st7; clear st7 _s; go_at_call 30; refine (HP.out.c30 w6 fy (below1 HB6.out) HY6.out).mono ?_; rintro e w7 ⟨rfl, hb7⟩; have HB7 := hidD (below_aft HB6.out hb7); clear p0 p1 p2 p3 p4 hlp; clear q0 q1 q2 q3 q4 hlq; obtain ⟨hlp, p0, p1, p2, p3, p4⟩ := keepP (f := ⟨k, m, r, s, aa, nn, cc⟩) HB7.out; simp only [Nat.zero_add] at p0 p1 p2 p3 p4; clear hb7; have st8 : Stg 8 := .mk 8)
    | (have _s := st8; clear st8 _s; go_at_call 34; refine (HQ.out.c34 w7 (below1 HB7.out)).mono ?_; rintro e w8 ⟨fz, rfl, hN⟩; have HN8 := hidD hN; have HB8 := hidD (below_aft HB7.out hN.bel); clear p0 p1 p2 p3 p4 hlp; obtain ⟨hlp, p0, p1, p2, p3, p4⟩ := keepP (f := ⟨k, m, r, s, aa, nn, cc⟩) HB8.out; simp only [Nat.zero_add] at p0 p1 p2 p3 p4; clear hN; have st9 : Stg 9 := .mk 9)
    | (have _s := st9; clear st9 _s; go_at_call 34; refine (HQ.out.d34 (w8.alloc fz.o) fz ((HN8.out.own.ty HQ.out.rg).bel (belA (Below.refl _ _)))).mono ?_; rintro e w9 ⟨fu, rfl, hN⟩; have HN9 := hidD hN; have HB9 := hidD (below_aft (belA HB8.out) hN.bel); have HZ9 := hidD ((HN8.out.own.ty HQ.out.rg).bel (below1 hN.bel)); clear p0 p1 p2 p3 p4 hlp; obtain ⟨hlp, p0, p1, p2, p3, p4⟩ := keepP (f := ⟨k, m, r, s, aa, nn, cc⟩) HB9.out; simp only [Nat.zero_add] at p0 p1 p2 p3 p4; obtain ⟨hlq, q0, q1, q2, q3, q4⟩ := ((At.new w8 fz.o).below hN.bel).ty; simp only [Nat.zero_add] at q0 q1 q2 q3 q4; clear hN; have st10 : Stg 10 := .mk 10)
    | (have _s := st10; clear st10 _s; go_at_call 30; refine (HQ.out.d30 (w9.alloc fu.o) fz fu (HZ9.out.bel (belA (Below.refl _ _))) ((HN9.out.own.ty HQ.out.rg).bel (belA (Below.refl _ _)))).mono ?_; rintro e w10 ⟨rfl, hb10⟩; have HB10 := hidD (below_aft (belA HB9.out) hb10); have HZ10 := hidD (HZ9.out.bel (below1 hb10)); clear p0 p1 p2 p3 p4 hlp; obtain ⟨hlp, p0, p1, p2, p3, p4⟩ := keepP (f := ⟨k, m, r, s, aa, nn, cc⟩) HB10.out; simp only [Nat.zero_add] at p0 p1 p2 p3 p4; clear q0 q1 q2 q3 q4 hlq; obtain ⟨hlq, q0, q1, q2, q3, q4⟩ := ((((At.new w8 fz.o).below HN9.out.bel).alloc fu.o).below hb10).ty; simp only [Nat.zero_add] at q0 q1 q2 q3 q4; have HA10 := hidD ((((At.new w8 fz.o).below HN9.out.bel).alloc fu.o).below hb10); clear hb10; have st11 : Stg 11 := .mk 11)
    | (have _s := st11; clear st11 _s; go_at_call 28; refine (HQ.out.d28 w10 fz (below1 HB10.out) HZ10.out).mono ?_; rintro e w11 ⟨rfl, hb11⟩; have HB11 := hidD (below_aft HB10.out hb11); have HZ11 := hidD (HZ10.out.bel hb11); clear p0 p1 p2 p3 p4 hlp; obtain ⟨hlp, p0, p1, p2, p3, p4⟩ := keepP (f := ⟨k, m, r, s, aa, nn, cc⟩) HB11.out; simp only [Nat.zero_add] at p0 p1 p2 p3 p4; clear q0 q1 q2 q3 q4 hlq; obtain ⟨hlq, q0, q1, q2, q3, q4⟩ := (HA10.out.below hb11).ty; simp only [Nat.zero_add] at q0 q1 q2 q3 q4; clear hb11; have st12 : Stg 12 := .mk 12)
    | (have _s := st12; clear st12 _s; go_at_call 32; refine (HQ.out.d32 w11 fz HZ11.out).mono ?_; rintro e w12 ⟨⟨a12, cap12, rfl⟩, hb12⟩; have HB12 := hidD (below_aft HB11.out hb12); clear p0 p1 p2 p3 p4 hlp; clear q0 q1 q2 q3 q4 hlq; obtain ⟨hlp, p0, p1, p2, p3, p4⟩ := keepP (f := ⟨k, m, r, s, aa, nn, cc⟩) HB12.out; simp only [Nat.zero_add] at p0 p1 p2 p3 p4; clear hb12; have st13 : Stg 13 := .mk 13)
    | (have _s := st13; clear st13 _s; go_at_call 14; refine (C14.out w12 (below1 HB12.out)).mono ?_; rintro e w13 ⟨rfl, hb13⟩; have HB13 := hidD (below_aft HB12.out hb13); clear p0 p1 p2 p3 p4 hlp; obtain ⟨hlp, p0, p1, p2, p3, p4⟩ := keepP (f := ⟨k, m, r, s, aa, nn, cc⟩) HB13.out; simp only [Nat.zero_add] at p0 p1 p2 p3 p4; clear hb13; have st14 : Stg 14 := .mk 14)
    | (have _s := st14; clear st14 _s; go_at_call 18; refine (C18.out w13 (below1 HB13.out)).mono ?_; rintro e w14 ⟨rfl, hb14⟩; have HB14 := hidD (below_aft HB13.out hb14); clear p0 p1 p2 p3 p4 hlp; obtain ⟨hlp, p0, p1, p2, p3, p4⟩ := keepP (f := ⟨k, m, r, s, aa, nn, cc⟩) HB14.out; simp only [Nat.zero_add] at p0 p1 p2 p3 p4; clear hb14; have st15 : Stg 15 := .mk 15)
    | (have _s := st15; clear st15 _s; go_at_call 20; refine (C20.out w14 (below1 HB14.out)).mono ?_; rintro e w15 ⟨rfl, hb15⟩; have HB15 := hidD (below_aft HB14.out hb15); clear p0 p1 p2 p3 p4 hlp; obtain ⟨hlp, p0, p1, p2, p3, p4⟩ := keepP (f := ⟨k, m, r, s, aa, nn, cc⟩) HB15.out; simp only [Nat.zero_add] at p0 p1 p2 p3 p4; clear hb15; have st16 : Stg 16 := .mk 16)
    | (have _s := st16; clear st16 _s; go_at_call 16; refine (C16.out w15 (below1 HB15.out)).mono ?_; rintro e w16 ⟨rfl, hb16⟩; have HB16 := hidD (below_aft HB15.out hb16); clear p0 p1 p2 p3 p4 hlp; obtain ⟨hlp, p0, p1, p2, p3, p4⟩ := keepP (f := ⟨k, m, r, s, aa, nn, cc⟩) HB16.out; simp only [Nat.zero_add] at p0 p1 p2 p3 p4; clear hb16; have st17 : Stg 17 := .mk 17)
    | (have _s := st17; clear st17 _s; go_at_call 22; refine (C22.out w16 (below1 HB16.out)).mono ?_; rintro e w17 ⟨rfl, hb17⟩; have HB17 := hidD (below_aft HB16.out hb17); clear p0 p1 p2 p3 p4 hlp; clear hb17; have st18 : Stg 18 := .mk 18)
    | (have _s := st18; clear st18 _s; go_at_call 11; refine (CA.out _).mono ?_; rintro e w18 ⟨rfl, hb18⟩; have HB18 := hidD (below_aft HB17.out hb18); clear hb18))
  go_ret
  exact ⟨rfl, below1 HB18.out⟩
end Go.Proofs.YtjchbclkdbojpaaDoor
