import Derived.Test.YtjchbclkdbojpaaDoorAa
import Derived.Test.YtjchbclkdbojpaaDoorPw
namespace Go.Proofs.YtjchbclkdbojpaaDoor
open Go.RowKit Go.Shelf
set_option linter.unusedVariables false
set_option linter.unusedSimpArgs false

/-- The types of awake. -/
def ctA : Ch := .ref true 0 (.ref false 1 (.leaf 1 0))
def ctB : Ch := .ref true 2 (.ref false 3 (.leaf 1 0))
theorem okA : Ok ctA := ⟨⟨by decide, by decide, .inl ⟨.inl rfl, rfl⟩⟩, by decide⟩
theorem okB : Ok ctB := ⟨⟨by decide, by decide, .inl ⟨.inl rfl, rfl⟩⟩, by decide⟩
theorem rgA : ctA.rg := ⟨⟨by decide, by decide⟩, ⟨by decide, by decide⟩, by decide, by decide, by decide⟩
theorem rgB : ctB.rg := ⟨⟨by decide, by decide⟩, ⟨by decide, by decide⟩, by decide, by decide, by decide⟩
abbrev f0 : Fv := ⟨1, false, 0, 0, none, 0, 0⟩
theorem own_two {W : World} {lo g1 g2 : Nat} (m : Bool) (r1 r2 : Int) (h1 : lo ≤ g1) (h2 : lo ≤ g2) (a1 : At W g1 f0.o) (a2 : At W g2 (Fv.o ⟨4, false, r1, 0, some ⟨g1, 0, none⟩, 1, 1⟩)) : Own W lo ⟨4, m, r2, 0, some ⟨g2, 0, none⟩, 1, 1⟩ (.ref m r2 (.ref false r1 (.leaf 1 0))) :=
  .ref m r2 g2 _ _ h2 a2 (.ref false r1 g1 f0 _ h1 a1 (.leaf 1 0))
def aText : List UInt8 := [38, 39, 48, 32, 109, 117, 116, 32, 38, 39, 49, 32, 105, 54, 52]
theorem it0 : Lib.itoa 0 = [48] := by rw [show (0 : Int) = ((0 : Nat) : Int) from rfl, Lib.itoa_nonneg, Lib.decDigits_one (by omega)]; rfl
theorem it1 : Lib.itoa 1 = [49] := by rw [show (1 : Int) = ((1 : Nat) : Int) from rfl, Lib.itoa_nonneg, Lib.decDigits_one (by omega)]; rfl
theorem txtA : txt ctA = aText := by simp [ctA, txt, hdT, Ch.isRef, it0, it1, aText]
theorem rdA : rdT aText 48 0 = (15, some ctA) := by
  have := read_txt ctA okA rgA
  rw [txtA] at this
  exact this
theorem asksA : asksL false ctA ctB = [(0, 2), (1, 3), (3, 1)] := by decide
theorem it_small (w0 : World) (i : Nat) (hi : i < 100) : ItC w0 i := fun W hW => (Tryd.strconv_Itoa_small i hi W).mono fun e w' k => ⟨by rw [k.1, Lib.itoa_nonneg]; rfl, by rw [k.2]; exact Below.refl _ _⟩
theorem itA (w0 : World) : ∀ n ∈ ctA.nums, ItC w0 n := fun n hn => by
  simp [ctA, Ch.nums] at hn
  rcases hn with rfl | rfl
  · exact it_small w0 0 (by omega)
  · exact it_small w0 1 (by omega)
theorem row_three {W : World} {B : Nat} {v : Value} (h : W.ownsRow B 67 2 v 3 (cCells [(0, 2), (1, 3), (3, 1)])) : ∃ g cap, v = .slice (some ⟨g, 0, none⟩) 3 cap ∧ g < W.heap.size ∧ W.cell? ⟨g, 4, none⟩ = some (.int .i64 3) ∧ W.cell? ⟨g, 5, none⟩ = some (.int .i64 1) := by
  rcases h.2 with ⟨_, h0⟩ | ⟨g, cap, cur, rfl, h1, hg, h2, h3, h4, h5⟩
  · omega
  · have hc : ∀ i, W.cell? ⟨g, i, none⟩ = cur[i]? := fun i => by simp [World.cell?, hg]
    have e : ∀ i v, (cCells [(0, 2), (1, 3), (3, 1)])[i]? = some v → cur[i]? = some v := fun i v hv => by
      rw [← h5, List.getElem?_take] at hv
      split at hv
      · simpa using hv
      · cases hv
    exact ⟨g, cap, rfl, lt_of_block hg, (hc 4).trans (e 4 _ rfl), (hc 5).trans (e 5 _ rfl)⟩
set_option maxRecDepth 100000 in
set_option maxHeartbeats 8000000 in
theorem awake_true (w : World) : Calls Tryd.prog 11 #[] w fun e w' => e = .returned (.bool true) ∧ Below w.heap.size w w' := by
  have C47 : Hid (∀ W, Calls Tryd.prog 47 #[] W fun e w' => e = .returned (tyV 1 false 0 0 none 0 0) ∧ Below W.heap.size W w') := i64_any
  have C46 : Hid (∀ m r f W, Calls Tryd.prog 46 #[.bool m, .int .i64 r, Fv.v f] W fun e w' => ∃ g, e = .returned (tyV 4 m r 0 (some ⟨g, 0, none⟩) 1 1) ∧ W.heap.size ≤ g ∧ At w' g (Fv.o f) ∧ Below W.heap.size W w') := fun m r f W => ref_any m r f W
  have st1 : Stg 1 := .mk 1
  go_enter Tryd.func11, Tryd.ntmps11
  go_wp2_with (first
    | (go_at_call 47; refine (C47.out _).mono ?_; rintro e w1 ⟨rfl, hb1⟩)
    | (have _s := st1; clear st1 _s; go_at_call 46; refine (C46.out false 1 f0 _).mono ?_; rintro e w2 ⟨g1, rfl, hg1, a1, hb2⟩; have st2 : Stg 2 := .mk 2)
    | (have _s := st2; clear st2 _s; go_at_call 46; refine (C46.out true 0 ⟨4, false, 1, 0, some ⟨g1, 0, none⟩, 1, 1⟩ _).mono ?_; rintro e w3 ⟨g2, rfl, hg2, a2, hb3⟩))
  have B3 : Below w.heap.size w w3 := below_aft (below_aft hb1 hb2) hb3
  have O3 : Own w3 0 ⟨4, true, 0, 0, some ⟨g2, 0, none⟩, 1, 1⟩ ctA := own_two true 1 0 (Nat.zero_le _) (Nat.zero_le _) (a1.below hb3) a2
  have TA3 : TyAt w3 ⟨4, true, 0, 0, some ⟨g2, 0, none⟩, 1, 1⟩ ctA.ty := O3.ty rgA
  have HTA : Hid (TyAt w3 ⟨4, true, 0, 0, some ⟨g2, 0, none⟩, 1, 1⟩ ctA.ty) := TA3
  change Code.wp _ _ _ _ (w3.alloc (tyO 4 true 0 0 (some ⟨g2, 0, none⟩) 1 1))
  have N1 : C5 (w3.alloc (tyO 4 true 0 0 (some ⟨g2, 0, none⟩) 1 1)) w3.heap.size 0 ⟨4, true, 0, 0, some ⟨g2, 0, none⟩, 1, 1⟩ := (At.new w3 (Fv.o ⟨4, true, 0, 0, some ⟨g2, 0, none⟩, 1, 1⟩)).ty
  have HN1 : Hid (C5 (w3.alloc (tyO 4 true 0 0 (some ⟨g2, 0, none⟩) 1 1)) w3.heap.size 0 ⟨4, true, 0, 0, some ⟨g2, 0, none⟩, 1, 1⟩) := N1
  clear TA3 O3 a1 a2 hg1 hg2 hb1 hb2 hb3
  refine beginH (S := fun W => Below (w3.alloc (tyO 4 true 0 0 (some ⟨g2, 0, none⟩) 1 1)).heap.size (w3.alloc (tyO 4 true 0 0 (some ⟨g2, 0, none⟩) 1 1)) W) (fun _ _ _ _ _ h => h) (by kernel_rfl) (Below.refl _ _).drew (fun hq hHeld => ?_)
  refine takeH (i := 0) (d := 15) (tyV 4 true 0 0 (some ⟨g2, 0, none⟩) 1 1) hq rfl rfl (by kernel_rfl) (by kernel_rfl) (by kernel_rfl) (by rfl) (fun W hSw => by (obtain ⟨-, p0, p1, p2, p3, p4⟩ := HN1.out.below hSw; go_simp; try rfl)) hHeld ?_
  try simp only [Act.put, List.setIfInBounds_toArray, List.set_cons_zero, List.set_cons_succ]
  refine wpAnyH_ready (rs := [1]) (by kernel_rfl) (by simp) ?_
  refine AllReadyH.cons rfl (fun K hK => ?_) AllReadyH.nil
  go_simp
  refine (C47.out _).mono ?_; rintro e w4 ⟨rfl, hb4⟩; have B4 := below_aft hHeld hb4
  go_wp2_with fail
  refine hK.out _ _ ?_ (fun hHeld => ?_)
  · with_reducible exact B4
  clear hK K
  try simp only [Act.put, List.setIfInBounds_toArray, List.set_cons_zero, List.set_cons_succ]
  refine wpAnyH_ready (rs := [2]) (by kernel_rfl) (by simp) ?_
  refine AllReadyH.cons rfl (fun K hK => ?_) AllReadyH.nil
  go_simp
  refine (C46.out false 3 f0 _).mono ?_; rintro e w5 ⟨g3, rfl, hg3, a3, hb5⟩; have B5 := below_aft B4 hb5
  go_wp2_with fail
  refine hK.out _ _ ?_ (fun hHeld => ?_)
  · with_reducible exact B5
  clear hK K
  try simp only [Act.put, List.setIfInBounds_toArray, List.set_cons_zero, List.set_cons_succ]
  refine wpAnyH_ready (rs := [3]) (by kernel_rfl) (by simp) ?_
  refine AllReadyH.cons rfl (fun K hK => ?_) AllReadyH.nil
  go_simp
  refine (C46.out true 2 ⟨4, false, 3, 0, some ⟨g3, 0, none⟩, 1, 1⟩ _).mono ?_; rintro e w6 ⟨g4, rfl, hg4, a4, hb6⟩; have B6 := below_aft B5 hb6; have TB : TyAt w6 ⟨4, true, 2, 0, some ⟨g4, 0, none⟩, 1, 1⟩ ctB.ty := (own_two true 3 2 (Nat.zero_le _) (Nat.zero_le _) (a3.below hb6) a4 : Own w6 0 _ ctB).ty rgB; have TA6 := HTA.out.bel (below1 B6)
  go_wp2_with fail
  refine hK.out _ _ ?_ (fun hHeld => ?_)
  · with_reducible exact B6
  clear hK K
  try simp only [Act.put, List.setIfInBounds_toArray, List.set_cons_zero, List.set_cons_succ]
  refine wpAnyH_ready (rs := [4]) (by kernel_rfl) (by simp) ?_
  refine AllReadyH.cons rfl (fun K hK => ?_) AllReadyH.nil
  go_simp
  refine (Asks_yes ctA ctB ⟨4, true, 0, 0, some ⟨g2, 0, none⟩, 1, 1⟩ ⟨4, true, 2, 0, some ⟨g4, 0, none⟩, 1, 1⟩ w6 okA okB TA6 TB (by decide) (by decide) (by decide)).mono ?_; rintro e w7 ⟨⟨v, rfl, hv⟩, hb7⟩; rw [asksA] at hv; obtain ⟨gr, capr, rfl, hgr, r4, r5⟩ := row_three hv; have B7 := below_aft B6 hb7
  go_wp2_with fail
  refine hK.out _ _ ?_ (fun hHeld => ?_)
  · with_reducible exact B7
  clear hK K
  try simp only [Act.put, List.setIfInBounds_toArray, List.set_cons_zero, List.set_cons_succ]
  refine takeH (i := 5) (d := 14) _ hq rfl rfl (by kernel_rfl) (by kernel_rfl) (by kernel_rfl) (by rfl) (fun W hSw => by (go_simp; try rfl)) hHeld ?_
  try simp only [Act.put, List.setIfInBounds_toArray, List.set_cons_zero, List.set_cons_succ]
  refine takeH (i := 6) (d := 20) (.slice (some ⟨gr, 0, none⟩) 3 capr) hq rfl rfl (by kernel_rfl) (by kernel_rfl) (by kernel_rfl) (by rfl) (fun W hSw => by (go_simp; try rfl)) hHeld ?_
  try simp only [Act.put, List.setIfInBounds_toArray, List.set_cons_zero, List.set_cons_succ]
  refine takeH (i := 7) (d := 21) (.int .i64 0) hq rfl rfl (by kernel_rfl) (by kernel_rfl) (by kernel_rfl) (by rfl) (fun W hSw => by (go_simp; try rfl)) hHeld ?_
  try simp only [Act.put, List.setIfInBounds_toArray, List.set_cons_zero, List.set_cons_succ]
  refine takeH (i := 8) (d := 2) _ hq rfl rfl (by kernel_rfl) (by kernel_rfl) (by kernel_rfl) (by rfl) (fun W hSw => by (go_simp; try rfl)) hHeld ?_
  try simp only [Act.put, List.setIfInBounds_toArray, List.set_cons_zero, List.set_cons_succ]
  refine takeH (i := 9) (d := 3) _ hq rfl rfl (by kernel_rfl) (by kernel_rfl) (by kernel_rfl) (by rfl) (fun W hSw => by (go_simp; try rfl)) hHeld ?_
  try simp only [Act.put, List.setIfInBounds_toArray, List.set_cons_zero, List.set_cons_succ]
  refine wpAnyH_done (by kernel_rfl) ?_ _
  have B7w : Below w3.heap.size w3 w7 := below1 B7
  have HB7 : Hid (Below w3.heap.size w3 w7) := B7w
  have HR : Hid (gr < w7.heap.size ∧ w7.cell? ⟨gr, 4, none⟩ = some (.int .i64 3) ∧ w7.cell? ⟨gr, 5, none⟩ = some (.int .i64 1)) := ⟨hgr, r4, r5⟩
  obtain ⟨hlt, p0, p1, p2, p3, p4⟩ := HN1.out.below B7
  have HB7b : Hid (Below (w3.alloc (tyO 4 true 0 0 (some ⟨g2, 0, none⟩) 1 1)).heap.size (w3.alloc (tyO 4 true 0 0 (some ⟨g2, 0, none⟩) 1 1)) w7) := B7
  clear hHeld hq N1 hb4 hb5 hb6 hb7 B4 B5 B6 TB TA6 a3 a4 hg3 hg4 hv hgr r4 r5 B7w B7
  have CT : Hid (∀ W, Below w3.heap.size w3 W → Calls Tryd.prog 40 #[tyV 4 true 0 0 (some ⟨g2, 0, none⟩) 1 1] W fun e w' => e = .returned (.tuple #[.string (str aText), .int .i64 0]) ∧ Below W.heap.size W w') := fun W hW => by
    have := Text_yes ctA ⟨4, true, 0, 0, some ⟨g2, 0, none⟩, 1, 1⟩ W okA rgA (HTA.out.bel hW) (itA W)
    rw [txtA] at this
    exact this
  have CR : Hid (∀ W, Calls Tryd.prog 42 #[.string (str aText)] W fun e w' => (∃ f : Fv, e = .returned (.tuple #[f.v, .int .i64 0, .int .i64 0]) ∧ Own w' W.heap.size f ctA) ∧ Below W.heap.size W w') := fun W => Read_yes aText W (by decide) 15 rfl 15 (some ctA) ctA rdA rfl rfl
  have CW : Hid (∀ W, Below w3.heap.size w3 W → Calls Tryd.prog 18 #[.slice none 0 0, tyV 4 true 0 0 (some ⟨g2, 0, none⟩) 1 1] W fun e w' => e = .returned (.tuple #[.int .i64 1, .int .i64 0]) ∧ Below W.heap.size W w') := fun W hW => Words_nil ctA.ty ⟨4, true, 0, 0, some ⟨g2, 0, none⟩, 1, 1⟩ W (HTA.out.bel hW) (ch_mayB ⟨by decide, by decide, .inl ⟨.inl rfl, rfl⟩⟩ (by decide)) (by simp)
  have CM : Hid (∀ W, Below w3.heap.size w3 W → Calls Tryd.prog 14 #[.slice none 0 0, tyV 4 true 0 0 (some ⟨g2, 0, none⟩) 1 1] W fun e w' => e = .returned (.bool true) ∧ Below W.heap.size W w') := fun W hW => by
    have := may_nil ctA.ty ⟨4, true, 0, 0, some ⟨g2, 0, none⟩, 1, 1⟩ W (HTA.out.bel hW)
    rw [show mayB 0 48 ctA.ty = true from ch_mayB ⟨by decide, by decide, .inl ⟨.inl rfl, rfl⟩⟩ (by decide)] at this
    exact this
  have CC : Hid (∀ W, Below w3.heap.size w3 W → Calls Tryd.prog 16 #[tyV 4 true 0 0 (some ⟨g2, 0, none⟩) 1 1] W fun e w' => e = .returned (.bool false) ∧ Below W.heap.size W w') := fun W hW => Copies_yes ctA ⟨4, true, 0, 0, some ⟨g2, 0, none⟩, 1, 1⟩ W okA (HTA.out.bel hW)
  have CS : Hid (∀ W (f : Fv), Below w3.heap.size w3 W → TyAt W f ctA.ty → Calls Tryd.prog 30 #[f.v, tyV 4 true 0 0 (some ⟨g2, 0, none⟩) 1 1] W fun e w' => e = .returned (.bool true) ∧ Below W.heap.size W w') := fun W f hW hf => by
    have := Same_yes ctA ctA f ⟨4, true, 0, 0, some ⟨g2, 0, none⟩, 1, 1⟩ W hf (HTA.out.bel hW) okA okA
    rw [same_self ctA] at this
    exact this
  have aTe : (str aText).toList = [38, 39, 48, 32, 109, 117, 116, 32, 38, 39, 49, 32, 105, 54, 52] := str_toList _
  have st5 : Stg 5 := .mk 5
  go_wp2_with (first
    | (go_at_call 40; refine (CT.out _ HB7.out).mono ?_; rintro e w8 ⟨rfl, hb8⟩; clear p0 p1 p2 p3 p4 hlt; obtain ⟨hlt, p0, p1, p2, p3, p4⟩ := HN1.out.below (HB7b.out.trans (hb8.mono HB7b.out.size)))
    | (go_at_call 42; refine (CR.out _).mono ?_; rintro e w9 ⟨⟨fx, rfl, ox⟩, hb9⟩; have Q9 : Below (w3.alloc (tyO 4 true 0 0 (some ⟨g2, 0, none⟩) 1 1)).heap.size (w3.alloc (tyO 4 true 0 0 (some ⟨g2, 0, none⟩) 1 1)) w9 := below_aft (below_aft HB7b.out hb8) hb9; have HQ9 := (show Hid _ from Q9); have HX9 := (show Hid (TyAt w9 fx ctA.ty) from ox.ty rgA); have R9 : Hid (Below w7.heap.size w7 w9) := below_aft hb8 hb9; have AX : At (w9.alloc fx.o) w9.heap.size fx.o := At.new _ _; clear Q9 ox hb8 hb9 p0 p1 p2 p3 p4 hlt; obtain ⟨hlt, p0, p1, p2, p3, p4⟩ := HN1.out.below HQ9.out)
    | (go_at_call 18; refine (CW.out _ (belA (below1 HQ9.out))).mono ?_; rintro e w10 ⟨rfl, hb10⟩; have Q10 : Below w9.heap.size w9 w10 := below1 hb10; have HQ10 := (show Hid (Below w9.heap.size w9 w10) from Q10); clear p0 p1 p2 p3 p4 hlt; obtain ⟨hlt, p0, p1, p2, p3, p4⟩ := HN1.out.below (below_aft HQ9.out Q10); obtain ⟨hlx, x0, x1, x2, x3, x4⟩ := (AX.below hb10).ty; have r4 : w10.cell? ⟨gr, 4, none⟩ = some (.int .i64 3) := ((below_aft R9.out Q10).cell (p := ⟨gr, 4, none⟩) HR.out.1).trans HR.out.2.1; have r5 : w10.cell? ⟨gr, 5, none⟩ = some (.int .i64 1) := ((below_aft R9.out Q10).cell (p := ⟨gr, 5, none⟩) HR.out.1).trans HR.out.2.2; clear Q10 hb10 AX)
    | (go_at_call 30; refine (CS.out _ fx (below_aft (below1 HQ9.out) HQ10.out) (HX9.out.bel HQ10.out)).mono ?_; rintro e w11 ⟨rfl, hb11⟩; have HQ11 := (show Hid (Below w9.heap.size w9 w11) from below_aft HQ10.out hb11); clear p0 p1 p2 p3 p4 hlt x0 x1 x2 x3 x4 hlx r4 r5 hb11; obtain ⟨hlt, p0, p1, p2, p3, p4⟩ := HN1.out.below (below_aft HQ9.out HQ11.out))
    | (go_at_call 14; refine (CM.out _ (below_aft (below1 HQ9.out) HQ11.out)).mono ?_; rintro e w12 ⟨rfl, hb12⟩; have HQ12 := (show Hid (Below w9.heap.size w9 w12) from below_aft HQ11.out hb12); clear p0 p1 p2 p3 p4 hlt hb12; obtain ⟨hlt, p0, p1, p2, p3, p4⟩ := HN1.out.below (below_aft HQ9.out HQ12.out))
    | (go_at_call 16; refine (CC.out _ (below_aft (below1 HQ9.out) HQ12.out)).mono ?_; rintro e w13 ⟨rfl, hb13⟩))
  go_ret
  exact ⟨rfl, below_aft (below_aft B3 (below1 HQ9.out)) (below_aft HQ12.out hb13)⟩
end Go.Proofs.YtjchbclkdbojpaaDoor
