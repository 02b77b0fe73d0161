import Derived.Test.YtjchbclkdbojpaaDoorAp
namespace Go.Proofs.YtjchbclkdbojpaaDoor
open Go.RowKit
set_option linter.unusedVariables false
set_option linter.unusedSimpArgs false

theorem hidp {p : Prop} (h : p) : Hid p := h
/-- Numbers from one on. -/
def numL (fr : Int) (n : Nat) : List Int := (List.range n).map (fun i : Nat => fr + (i : Int))
theorem numL_len (fr : Int) (n : Nat) : (numL fr n).length = n := by simp [numL]
theorem numL_get (fr : Int) (n i : Nat) (h : i < n) : (numL fr n)[i]? = some (fr + i) := by simp [numL, List.getElem?_range h]
set_option maxRecDepth 100000 in
set_option maxHeartbeats 1000000 in
theorem Number_no (t : Ty) (f : Fv) (fr : Int) (w : World) (h : TyAt w f t) (b : Bool) (hb : isT t = b) (hn : b = false ∨ fr < 0 ∨ 512 < fr) : Calls Tryd.prog 34 #[f.v, .int .i64 fr] w fun e w' => ∃ f' : Fv, e = .returned (.tuple #[f'.v, .int .i64 0, .int .i64 2]) ∧ New w w' f' (.leaf 0 0) := by
  have CI : Hid (Calls Tryd.prog 56 #[f.v] ((w.alloc f.o).alloc zT.o) fun e w' => e = .returned (.bool b) ∧ Below ((w.alloc f.o).alloc zT.o).heap.size ((w.alloc f.o).alloc zT.o) w') := by
    have := some_any t f _ (h.bel (belB w f zT))
    rw [hb] at this
    exact this
  have A4 : Hid (At ((w.alloc f.o).alloc zT.o) (w.heap.size + 1) zT.o) := at_snd _ _ _
  obtain ⟨k, m, r, s, a, n, cap⟩ := f
  show Calls Tryd.prog 34 #[tyV k m r s a n cap, .int .i64 fr] w _
  clear h hb
  cases b with
  | false =>
    clear hn
    go_enter Tryd.func34, Tryd.ntmps34
    go_wp2_with (go_at_call 56; refine CI.out.mono ?_; rintro e w1 ⟨rfl, hb1⟩; have B4 := (A4.out.below hb1); have g0 := B4.tyF 0; have g1 := B4.tyF 1; have g2 := B4.tyF 2; have g3 := B4.tyF 3; have g4 := B4.tyF 4; obtain ⟨hl4, q0, q1, q2, q3, q4⟩ := B4.ty; simp only [Nat.zero_add] at q0 q1 q2 q3 q4)
    obtain ⟨F1, F2⟩ := new_zero (below2 hb1) (b := w.heap.size + 1) (by omega) B4
    exact bodyPost_ret (results_c3 (g := zT) Tryd.results34 rfl rfl rfl F1) rfl ⟨zT, rfl, F2⟩
  | true =>
    by_cases h0 : fr < 0
    · clear hn
      go_enter Tryd.func34, Tryd.ntmps34
      go_wp2_with (go_at_call 56; refine CI.out.mono ?_; rintro e w1 ⟨rfl, hb1⟩; have B4 := (A4.out.below hb1); have g0 := B4.tyF 0; have g1 := B4.tyF 1; have g2 := B4.tyF 2; have g3 := B4.tyF 3; have g4 := B4.tyF 4; obtain ⟨hl4, q0, q1, q2, q3, q4⟩ := B4.ty; simp only [Nat.zero_add] at q0 q1 q2 q3 q4)
      obtain ⟨F1, F2⟩ := new_zero (below2 hb1) (b := w.heap.size + 1) (by omega) B4
      exact bodyPost_ret (results_c3 (g := zT) Tryd.results34 rfl rfl rfl F1) rfl ⟨zT, rfl, F2⟩
    · have h1 : 512 < fr := by simp at hn; omega
      clear hn
      go_enter Tryd.func34, Tryd.ntmps34
      go_wp2_with (go_at_call 56; refine CI.out.mono ?_; rintro e w1 ⟨rfl, hb1⟩; have B4 := (A4.out.below hb1); have g0 := B4.tyF 0; have g1 := B4.tyF 1; have g2 := B4.tyF 2; have g3 := B4.tyF 3; have g4 := B4.tyF 4; obtain ⟨hl4, q0, q1, q2, q3, q4⟩ := B4.ty; simp only [Nat.zero_add] at q0 q1 q2 q3 q4)
      obtain ⟨F1, F2⟩ := new_zero (below2 hb1) (b := w.heap.size + 1) (by omega) B4
      exact bodyPost_ret (results_c3 (g := zT) Tryd.results34 rfl rfl rfl F1) rfl ⟨zT, rfl, F2⟩
set_option maxRecDepth 100000 in
set_option maxHeartbeats 2000000 in
theorem Number_yes (c : Ch) (f : Fv) (fr : Int) (w : World) (hc : Ok c) (h : TyAt w f c.ty) (h0 : 0 ≤ fr) (h1 : fr ≤ 512) : Calls Tryd.prog 34 #[f.v, .int .i64 fr] w fun e w' => ∃ f' : Fv, e = .returned (.tuple #[f'.v, .int .i64 (fr + c.regs.length), .int .i64 0]) ∧ New w w' f' (layC c (numL fr c.regs.length)) := by
  have CI : Hid (Calls Tryd.prog 56 #[f.v] ((w.alloc f.o).alloc zT.o) fun e w' => e = .returned (.bool true) ∧ Below ((w.alloc f.o).alloc zT.o).heap.size ((w.alloc f.o).alloc zT.o) w') := by
    have := some_any c.ty f _ (h.bel (belB w f zT))
    rw [hc.is] at this
    exact this
  have CT : Hid (∀ V, Below w.heap.size w V → Calls Tryd.prog 67 #[f.v, fnB 68 V.heap.size] (V.alloc (One (.int .i64 fr) 3)) fun e w' => ∃ f' : Fv, e = .returned f'.v ∧ TurnP (V.alloc (One (.int .i64 fr) 3)) (JN V V.heap.size fr) c.regs (layC c (numL fr c.regs.length)) f' w') := fun V hV => by
    have hd := hc.deep
    have hrl := regs_le c
    have := turned_any1 (turnN V V.heap.size fr (numL fr c.regs.length) h0 h1 (by rw [numL_len]; omega) (fun i hi => by rw [numL_get _ _ _ (by rwa [numL_len] at hi)]; rfl)) c f [] (V.alloc (One (.int .i64 fr) 3)) hc.ok (by rw [numL_len]; simp) (h.bel hV) ⟨by simpa using At.new V (One (.int .i64 fr) 3), belA (Below.refl _ _), Nat.le_refl _⟩
    rw [turn_lay _ _ _ (by rw [numL_len]; simp)] at this
    exact this
  have A2 : Hid (At ((w.alloc f.o).alloc zT.o) w.heap.size f.o) := (At.new _ _).alloc _
  have A4 : Hid (At ((w.alloc f.o).alloc zT.o) (w.heap.size + 1) zT.o) := at_snd _ _ _
  have z0 : ¬ fr < 0 := by omega
  have z1 : ¬ 512 < fr := by omega
  obtain ⟨k, m, r, s, a, n, cap⟩ := f
  show Calls Tryd.prog 34 #[tyV k m r s a n cap, .int .i64 fr] w _
  clear h hc h0 h1
  go_enter Tryd.func34, Tryd.ntmps34
  go_wp2_with (first
    | (go_at_call 56; refine CI.out.mono ?_; rintro e w1 ⟨rfl, hb1⟩; have B2 := A2.out.below hb1; obtain ⟨hl2, p0, p1, p2, p3, p4⟩ := B2.ty)
    | (go_at_call 67; refine (CT.out _ (below2 hb1)).mono ?_; rintro e w2 ⟨f2, rfl, hP⟩))
  have B4 : At w2 (w.heap.size + 1) zT.o := hP.keep _ _ ((A4.out.below hb1).alloc _)
  have B7 : At w2 w1.heap.size (One (.int .i64 (fr + c.regs.length)) 3) := hP.j.1
  have HB : Hid (Below w.heap.size w w2) := below_aft (below2 hb1) hP.j.2.1
  have HO : Hid (Own w2 (w.heap.size + 2) f2 (layC c (numL fr c.regs.length))) := hP.own.low (by have := hb1.size; simp only [World.size_alloc] at this ⊢; omega)
  have hs1 : w.heap.size + 2 ≤ w1.heap.size := by have := hb1.size; simp only [World.size_alloc] at this; omega
  have hs2 : w1.heap.size < w2.heap.size := B7.lt
  change Code.wp _ _ _ _ (w2.alloc f2.o)
  have C8 : At (w2.alloc f2.o) w2.heap.size f2.o := At.new _ _
  have C7 := B7.alloc f2.o
  have C4 := B4.alloc f2.o
  have HB' : Hid (Below w.heap.size w (w2.alloc f2.o)) := belA HB.out
  have HO' : Hid (Own (w2.alloc f2.o) (w.heap.size + 2) f2 (layC c (numL fr c.regs.length))) := HO.out.bel (belA (Below.refl _ _))
  obtain ⟨b8, hb8⟩ : ∃ b8, b8 = w2.heap.size := ⟨_, rfl⟩
  obtain ⟨b7, hb7⟩ : ∃ b7, b7 = w1.heap.size := ⟨_, rfl⟩
  rw [← hb8] at C8 ⊢
  rw [← hb7] at C7 ⊢
  generalize w2.alloc f2.o = V at *
  have n8 : b8 ≠ w.heap.size + 1 := by omega
  have n7 : b7 ≠ w.heap.size + 1 := by omega
  clear hb8 hb7 HB HO hP B4 B7 hb1 CI CT A2 A4 hs1 hs2 p0 p1 p2 p3 p4 hl2 B2
  refine beginH (S := (fun W' => At W' b8 f2.o ∧ At W' b7 (One (.int .i64 (fr + c.regs.length)) 3))) (fun _ _ _ _ _ h => h) (by kernel_rfl) ⟨C8.drew, C7.drew⟩ (fun hq hHeld => ?_)
  refine takeH (i := 0) (d := 25) f2.v hq rfl rfl (by kernel_rfl) (by kernel_rfl) (by kernel_rfl) (by rfl) (fun W hSw => by (obtain ⟨-, p0, p1, p2, p3, p4⟩ := At.ty hSw.1; go_simp; try rfl)) hHeld ?_
  try simp only [Act.put, List.setIfInBounds_toArray, List.set_cons_zero, List.set_cons_succ]
  refine takeH (i := 1) (d := 26) (.int .i64 (fr + c.regs.length)) hq rfl rfl (by kernel_rfl) (by kernel_rfl) (by kernel_rfl) (by rfl) (fun W hSw => by (obtain ⟨d0, d1⟩ := At.one hSw.2; go_simp; try rfl)) hHeld ?_
  try simp only [Act.put, List.setIfInBounds_toArray, List.set_cons_zero, List.set_cons_succ]
  have B4 : At V.drew (w.heap.size + 1) zT.o := C4.drew
  have D8 : At V.drew b8 f2.o := C8.drew
  have D7 : At V.drew b7 (One (.int .i64 (fr + c.regs.length)) 3) := C7.drew
  have HO : Hid (Own V.drew (w.heap.size + 2) f2 (layC c (numL fr c.regs.length))) := HO'.out.drew
  have HB : Hid (Below w.heap.size w V.drew) := HB'.out.drew
  clear HO' HB' C4 C7 C8
  generalize V.drew = U at *
  have g0 := B4.tyF 0
  have g1 := B4.tyF 1
  have g2 := B4.tyF 2
  have g3 := B4.tyF 3
  have g4 := B4.tyF 4
  obtain ⟨hl4, q0, q1, q2, q3, q4⟩ := B4.ty
  simp only [Nat.zero_add] at q0 q1 q2 q3 q4
  refine wpAnyH_ready (rs := [2]) (by kernel_rfl) (by simp) ?_
  refine AllReadyH.cons rfl (fun K hK => ?_) AllReadyH.nil
  go_simp
  go_wp2_with fail
  refine hK.out _ _ ⟨?_, ?_⟩ (fun hHeld => ?_)
  · with_reducible exact At.S5 D8 n8 f2
  · with_reducible exact At.S5 D7 n7 f2
  clear hK K
  try simp only [Act.put, List.setIfInBounds_toArray, List.set_cons_zero, List.set_cons_succ]
  refine takeH (i := 3) (d := 5) _ hq rfl rfl (by kernel_rfl) (by kernel_rfl) (by kernel_rfl) (by rfl) (fun W hSw => by (go_simp; try rfl)) hHeld ?_
  try simp only [Act.put, List.setIfInBounds_toArray, List.set_cons_zero, List.set_cons_succ]
  refine takeH (i := 4) (d := 6) _ hq rfl rfl (by kernel_rfl) (by kernel_rfl) (by kernel_rfl) (by rfl) (fun W hSw => by (go_simp; try rfl)) hHeld ?_
  try simp only [Act.put, List.setIfInBounds_toArray, List.set_cons_zero, List.set_cons_succ]

  refine wpAnyH_done (by kernel_rfl) ?_ _
  go_wp2_with fail
  obtain ⟨F1, F2⟩ := new_s5 HO.out HB.out (b := w.heap.size + 1) (by omega) (by omega) B4
  exact bodyPost_ret (results_c3 (g := f2) Tryd.results34 rfl rfl rfl F1) rfl ⟨f2, rfl, F2⟩
end Go.Proofs.YtjchbclkdbojpaaDoor
