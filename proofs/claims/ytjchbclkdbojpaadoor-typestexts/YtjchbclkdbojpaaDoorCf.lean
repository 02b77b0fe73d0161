import Derived.Test.YtjchbclkdbojpaaDoorCe
import Derived.Test.YtjchbclkdbojpaaDoorV
namespace Go.Proofs.YtjchbclkdbojpaaDoor
open Go.RowKit
set_option linter.unusedVariables false
set_option linter.unusedSimpArgs false

theorem Tryd.results43 : Tryd.f43.results = #[.cell 2 26, .tmp 3, .tmp 4] := rfl
set_option maxRecDepth 100000 in
set_option maxHeartbeats 4000000 in
theorem rRead_yes (S : List UInt8) (w : World) (hS : S.length ≤ 16384) (n : Nat) (hn : S.length = n) (q : Nat) (c : Ch) (hR : rdT S 48 0 = (q, some c)) (hq : q = n) :
    Calls Tryd.prog 43 #[.string (str S)] w fun e w' => ∃ f : Fv, e = .returned (.tuple #[f.v, .int .i64 0, .int .i64 0]) ∧ New w w' f c := by
  have R0 : Rr (w.heap.size + 1) S 0 false ((w.alloc zT.o).alloc (rrO S 0 false)) := at_snd w _ _
  have CR : Hid (Calls Tryd.prog 79 #[.pointer (some ⟨w.heap.size + 1, 0, none⟩), .int .i64 48] ((w.alloc zT.o).alloc (rrO S 0 false)) fun e w' => ∃ f : Fv, e = .returned f.v ∧ RPost (w.heap.size + 1) S ((w.alloc zT.o).alloc (rrO S 0 false)) (q, some c) f w') := rkind_all S hS 48 (by decide) (by decide) (w.heap.size + 1) 0 _ _ 48 hR.symm rfl R0 (Nat.zero_le _)
  have A4 : Hid (At ((w.alloc zT.o).alloc (rrO S 0 false)) w.heap.size zT.o) := (At.new w _).alloc _
  have hB0 : Below w.heap.size w ((w.alloc zT.o).alloc (rrO S 0 false)) := belA (belA (Below.refl _ _))
  have hsz : (str S).size = n := hn
  have n0 : (0 : Int) ≤ (n : Int) := by omega
  clear hR R0
  go_enter Tryd.func43, Tryd.ntmps43
  subst hq
  have z1 : ¬ ((q : Int) < (q : Int)) := by omega
  go_wp2_with (go_at_call 79; refine CR.out.mono ?_; rintro e w1 ⟨f', rfl, hP⟩; have HP := hid0 hP; have RR := hP.rd; obtain ⟨c0, c1, c2⟩ := Rr.c (p := q) (st := false) RR; have A5 := A4.out.but hP.but (by omega); obtain ⟨hl4, d0, d1, d2, d3, d4⟩ := A5.ty; have g0 := A5.tyF 0; have g1 := A5.tyF 1; have g2 := A5.tyF 2; have g3 := A5.tyF 3; have g4 := A5.tyF 4; simp only [Nat.zero_add] at d0 d1 d2 d3 d4; have hbl : w.heap.size + 1 < w1.heap.size := RR.lt; clear hP RR)
  have hp1 := HP.out
  have hB1 : Below w.heap.size w w1 := hB0.trans (below_but hp1.but (by omega) hB0.size)
  have hs1 : w.heap.size + 2 ≤ w1.heap.size := by omega
  have O1 : Own w1 (w.heap.size + 2) f' c := (hp1.own c rfl).low (by simp)
  have O2 : Own ((S5 w1 w.heap.size f').alloc f'.o) (w.heap.size + 2) f' c := O1.keep fun i o hi hA => (hA.S5 (by omega) f').alloc _
  have C := ((A5.set5 f').alloc f'.o).ty
  have B9 := (belA (o := f'.o) (below_s5 hB1 (Nat.le_refl _) f'))
  exact bodyPost_ret (results_c3 (g := f') Tryd.results43 rfl rfl rfl C) rfl ⟨f', rfl, ⟨(O2.low (by omega)).toL, B9⟩⟩
set_option maxRecDepth 100000 in
set_option maxHeartbeats 4000000 in
theorem rRead_none (S : List UInt8) (w : World) (hS : S.length ≤ 16384) (n : Nat) (hn : S.length = n) (q : Nat)  (hR : rdT S 48 0 = (q, none)) :
    Calls Tryd.prog 43 #[.string (str S)] w fun e w' => ∃ f : Fv, e = .returned (.tuple #[f.v, .int .i64 (q : Int), .int .i64 60]) ∧ New w w' f (.leaf 0 0) := by
  have R0 : Rr (w.heap.size + 1) S 0 false ((w.alloc zT.o).alloc (rrO S 0 false)) := at_snd w _ _
  have CR : Hid (Calls Tryd.prog 79 #[.pointer (some ⟨w.heap.size + 1, 0, none⟩), .int .i64 48] ((w.alloc zT.o).alloc (rrO S 0 false)) fun e w' => ∃ f : Fv, e = .returned f.v ∧ RPost (w.heap.size + 1) S ((w.alloc zT.o).alloc (rrO S 0 false)) (q, none) f w') := rkind_all S hS 48 (by decide) (by decide) (w.heap.size + 1) 0 _ _ 48 hR.symm rfl R0 (Nat.zero_le _)
  have A4 : Hid (At ((w.alloc zT.o).alloc (rrO S 0 false)) w.heap.size zT.o) := (At.new w _).alloc _
  have hB0 : Below w.heap.size w ((w.alloc zT.o).alloc (rrO S 0 false)) := belA (belA (Below.refl _ _))
  have hsz : (str S).size = n := hn
  have n0 : (0 : Int) ≤ (n : Int) := by omega
  clear hR R0
  go_enter Tryd.func43, Tryd.ntmps43
  go_wp2_with (go_at_call 79; refine CR.out.mono ?_; rintro e w1 ⟨f', rfl, hP⟩; have HP := hid0 hP; have RR := hP.rd; obtain ⟨c0, c1, c2⟩ := Rr.c (p := q) (st := true) RR; have A5 := A4.out.but hP.but (by omega); obtain ⟨hl4, d0, d1, d2, d3, d4⟩ := A5.ty; have g0 := A5.tyF 0; have g1 := A5.tyF 1; have g2 := A5.tyF 2; have g3 := A5.tyF 3; have g4 := A5.tyF 4; simp only [Nat.zero_add] at d0 d1 d2 d3 d4; have hbl : w.heap.size + 1 < w1.heap.size := RR.lt; clear hP RR)
  refine beginH (S := (fun W' => Rr (w.heap.size + 1) S q true W')) (fun _ _ _ _ _ h => h) (by kernel_rfl) (At.drew (At.alloc HP.out.rd _)) (fun hq hHeld => ?_)
  refine takeH (i := 0) (d := 25) zT.v hq rfl rfl (by kernel_rfl) (by kernel_rfl) (by kernel_rfl) (by rfl) (fun W hSw => by (go_simp; try rfl)) hHeld ?_
  try simp only [Act.put, List.setIfInBounds_toArray, List.set_cons_zero, List.set_cons_succ]
  refine takeH (i := 1) (d := 26) _ hq rfl rfl (by kernel_rfl) (by kernel_rfl) (by kernel_rfl) (by rfl) (fun W hSw => by (go_simp; try rfl)) hHeld ?_
  try simp only [Act.put, List.setIfInBounds_toArray, List.set_cons_zero, List.set_cons_succ]
  refine takeH (i := 2) (d := 27) (.pointer (some ⟨w.heap.size + 1, 0, none⟩)) hq rfl rfl (by kernel_rfl) (by kernel_rfl) (by kernel_rfl) (by rfl) (fun W hSw => by (go_simp; try rfl)) hHeld ?_
  try simp only [Act.put, List.setIfInBounds_toArray, List.set_cons_zero, List.set_cons_succ]
  refine takeH (i := 3) (d := 28) _ hq rfl rfl (by kernel_rfl) (by kernel_rfl) (by kernel_rfl) (by rfl) (fun W hSw => by (go_simp; try rfl)) hHeld ?_
  try simp only [Act.put, List.setIfInBounds_toArray, List.set_cons_zero, List.set_cons_succ]
  refine takeH (i := 4) (d := 29) (.int .i64 (q : Int)) hq rfl rfl (by kernel_rfl) (by kernel_rfl) (by kernel_rfl) (by rfl) (fun W hSw => by (obtain ⟨s0, s1, s2⟩ := Rr.c (p := q) (st := true) hSw; go_simp; try rfl)) hHeld ?_
  try simp only [Act.put, List.setIfInBounds_toArray, List.set_cons_zero, List.set_cons_succ]
  have X8 : Rr (w.heap.size + 1) S q true ((S5 w1 w.heap.size zT).alloc f'.o).drew := At.drew ((At.S5 HP.out.rd (by omega) zT).alloc _)
  simp only [S5, Int.cast_ofNat_Int] at X8
  refine wpAnyH_ready (rs := [5]) (by kernel_rfl) (by simp) ?_
  refine AllReadyH.cons rfl (fun K hK => ?_) AllReadyH.nil
  go_simp
  go_wp2_with fail
  refine hK.out _ _ ?_ (fun hHeld => ?_)
  · with_reducible exact X8
  clear hK K
  try simp only [Act.put, List.setIfInBounds_toArray, List.set_cons_zero, List.set_cons_succ]
  refine takeH (i := 6) (d := 3) _ hq rfl rfl (by kernel_rfl) (by kernel_rfl) (by kernel_rfl) (by rfl) (fun W hSw => by (go_simp; try rfl)) hHeld ?_
  try simp only [Act.put, List.setIfInBounds_toArray, List.set_cons_zero, List.set_cons_succ]
  refine takeH (i := 7) (d := 4) _ hq rfl rfl (by kernel_rfl) (by kernel_rfl) (by kernel_rfl) (by rfl) (fun W hSw => by (go_simp; try rfl)) hHeld ?_
  try simp only [Act.put, List.setIfInBounds_toArray, List.set_cons_zero, List.set_cons_succ]
  refine wpAnyH_done (by kernel_rfl) ?_ _
  clear hHeld hq X8
  go_wp2_with fail
  have hp1 := HP.out
  have hB1 : Below w.heap.size w w1 := hB0.trans (below_but hp1.but (by omega) hB0.size)
  have C := C5.drew ((A5.set5 zT).ty.below (belA (Below.refl _ _) (o := f'.o)))
  have B9 := (belA (o := f'.o) (below_s5 hB1 (Nat.le_refl _) zT)).drew
  exact bodyPost_ret (results_c3 (g := zT) Tryd.results43 rfl rfl rfl C) rfl ⟨zT, rfl, ⟨.leaf 0 0 none 0, B9⟩⟩
set_option maxRecDepth 100000 in
set_option maxHeartbeats 4000000 in
theorem rRead_part (S : List UInt8) (w : World) (hS : S.length ≤ 16384) (n : Nat) (hn : S.length = n) (q : Nat) (c : Ch) (hqn : q < n) (hR : rdT S 48 0 = (q, some c)) :
    Calls Tryd.prog 43 #[.string (str S)] w fun e w' => ∃ f : Fv, e = .returned (.tuple #[f.v, .int .i64 (q : Int), .int .i64 60]) ∧ New w w' f (.leaf 0 0) := by
  have R0 : Rr (w.heap.size + 1) S 0 false ((w.alloc zT.o).alloc (rrO S 0 false)) := at_snd w _ _
  have CR : Hid (Calls Tryd.prog 79 #[.pointer (some ⟨w.heap.size + 1, 0, none⟩), .int .i64 48] ((w.alloc zT.o).alloc (rrO S 0 false)) fun e w' => ∃ f : Fv, e = .returned f.v ∧ RPost (w.heap.size + 1) S ((w.alloc zT.o).alloc (rrO S 0 false)) (q, some c) f w') := rkind_all S hS 48 (by decide) (by decide) (w.heap.size + 1) 0 _ _ 48 hR.symm rfl R0 (Nat.zero_le _)
  have A4 : Hid (At ((w.alloc zT.o).alloc (rrO S 0 false)) w.heap.size zT.o) := (At.new w _).alloc _
  have hB0 : Below w.heap.size w ((w.alloc zT.o).alloc (rrO S 0 false)) := belA (belA (Below.refl _ _))
  have hsz : (str S).size = n := hn
  have n0 : (0 : Int) ≤ (n : Int) := by omega
  clear hR R0
  go_enter Tryd.func43, Tryd.ntmps43
  have z1 : (q : Int) < (n : Int) := by omega
  go_wp2_with (go_at_call 79; refine CR.out.mono ?_; rintro e w1 ⟨f', rfl, hP⟩; have HP := hid0 hP; have RR := hP.rd; obtain ⟨c0, c1, c2⟩ := Rr.c (p := q) (st := false) RR; have A5 := A4.out.but hP.but (by omega); obtain ⟨hl4, d0, d1, d2, d3, d4⟩ := A5.ty; have g0 := A5.tyF 0; have g1 := A5.tyF 1; have g2 := A5.tyF 2; have g3 := A5.tyF 3; have g4 := A5.tyF 4; simp only [Nat.zero_add] at d0 d1 d2 d3 d4; have hbl : w.heap.size + 1 < w1.heap.size := RR.lt; clear hP RR)
  refine beginH (S := (fun W' => Rr (w.heap.size + 1) S q false W')) (fun _ _ _ _ _ h => h) (by kernel_rfl) (At.drew (At.alloc HP.out.rd _)) (fun hq hHeld => ?_)
  refine takeH (i := 0) (d := 25) zT.v hq rfl rfl (by kernel_rfl) (by kernel_rfl) (by kernel_rfl) (by rfl) (fun W hSw => by (go_simp; try rfl)) hHeld ?_
  try simp only [Act.put, List.setIfInBounds_toArray, List.set_cons_zero, List.set_cons_succ]
  refine takeH (i := 1) (d := 26) _ hq rfl rfl (by kernel_rfl) (by kernel_rfl) (by kernel_rfl) (by rfl) (fun W hSw => by (go_simp; try rfl)) hHeld ?_
  try simp only [Act.put, List.setIfInBounds_toArray, List.set_cons_zero, List.set_cons_succ]
  refine takeH (i := 2) (d := 27) (.pointer (some ⟨w.heap.size + 1, 0, none⟩)) hq rfl rfl (by kernel_rfl) (by kernel_rfl) (by kernel_rfl) (by rfl) (fun W hSw => by (go_simp; try rfl)) hHeld ?_
  try simp only [Act.put, List.setIfInBounds_toArray, List.set_cons_zero, List.set_cons_succ]
  refine takeH (i := 3) (d := 28) _ hq rfl rfl (by kernel_rfl) (by kernel_rfl) (by kernel_rfl) (by rfl) (fun W hSw => by (go_simp; try rfl)) hHeld ?_
  try simp only [Act.put, List.setIfInBounds_toArray, List.set_cons_zero, List.set_cons_succ]
  refine takeH (i := 4) (d := 29) (.int .i64 (q : Int)) hq rfl rfl (by kernel_rfl) (by kernel_rfl) (by kernel_rfl) (by rfl) (fun W hSw => by (obtain ⟨s0, s1, s2⟩ := Rr.c (p := q) (st := false) hSw; go_simp; try rfl)) hHeld ?_
  try simp only [Act.put, List.setIfInBounds_toArray, List.set_cons_zero, List.set_cons_succ]
  have X8 : Rr (w.heap.size + 1) S q false ((S5 w1 w.heap.size zT).alloc f'.o).drew := At.drew ((At.S5 HP.out.rd (by omega) zT).alloc _)
  simp only [S5, Int.cast_ofNat_Int] at X8
  refine wpAnyH_ready (rs := [5]) (by kernel_rfl) (by simp) ?_
  refine AllReadyH.cons rfl (fun K hK => ?_) AllReadyH.nil
  go_simp
  go_wp2_with fail
  refine hK.out _ _ ?_ (fun hHeld => ?_)
  · with_reducible exact X8
  clear hK K
  try simp only [Act.put, List.setIfInBounds_toArray, List.set_cons_zero, List.set_cons_succ]
  refine takeH (i := 6) (d := 3) _ hq rfl rfl (by kernel_rfl) (by kernel_rfl) (by kernel_rfl) (by rfl) (fun W hSw => by (go_simp; try rfl)) hHeld ?_
  try simp only [Act.put, List.setIfInBounds_toArray, List.set_cons_zero, List.set_cons_succ]
  refine takeH (i := 7) (d := 4) _ hq rfl rfl (by kernel_rfl) (by kernel_rfl) (by kernel_rfl) (by rfl) (fun W hSw => by (go_simp; try rfl)) hHeld ?_
  try simp only [Act.put, List.setIfInBounds_toArray, List.set_cons_zero, List.set_cons_succ]
  refine wpAnyH_done (by kernel_rfl) ?_ _
  clear hHeld hq X8
  go_wp2_with fail
  have hp1 := HP.out
  have hB1 : Below w.heap.size w w1 := hB0.trans (below_but hp1.but (by omega) hB0.size)
  have C := C5.drew ((A5.set5 zT).ty.below (belA (Below.refl _ _) (o := f'.o)))
  have B9 := (belA (o := f'.o) (below_s5 hB1 (Nat.le_refl _) zT)).drew
  exact bodyPost_ret (results_c3 (g := zT) Tryd.results43 rfl rfl rfl C) rfl ⟨zT, rfl, ⟨.leaf 0 0 none 0, B9⟩⟩
end Go.Proofs.YtjchbclkdbojpaaDoor
