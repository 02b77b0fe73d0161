import Derived.Test.YtahdnfogdnondaaGreatDoorTd
import Derived.BigRegion
import Derived.Deep.Cut
namespace Go.Proofs.YtahdnfogdnondaaGreatDoor
open Go.RowKit Go.Shelf
set_option linter.unusedVariables false
set_option linter.unusedSimpArgs false

theorem belD {B : Nat} {a w : World} (h : Below B a w) : Below B a w.drew := ⟨h.os, h.tape, h.output, h.size, h.block⟩
set_option maxRecDepth 100000 in
set_option maxHeartbeats 4000000 in
/-- bare of a field. -/
theorem bare_27 {w0 w : World} {T : List Nd} {a : Option Addr} {cap o : Nat} {d : Nd} (hB : BIn w0 w T a cap o d) (cs : List (Nat × List UInt8)) (hk : d.x.k = 27) (hs0 : d.x.s.length ≤ 1000000) (q : Nat) (hl : d.l = [(q : Int)]) (c : Nat × List UInt8) (hc : cs[0]? = some c) (hs : (brk c 7).length ≤ 10000002) (hL : LvC w0 T a cap (q : Int) 7 (brk c 7)) :
    Calls Tryz.prog 88 #[.slice a T.length cap, .int .i64 (o : Int)] w fun e w' => e = .returned (.string (str (bareN d.x cs))) ∧ Below w.heap.size w w' := by
  have hres : str (bareN d.x cs) = str (brk c 7) ++ (⟨#[46]⟩ : ByteArray) ++ str d.x.s := by
    unfold bareN
    simp only [hc, hk, Option.getD_some, Nat.reduceEqDiff, ↓reduceIte]
    rw [← str_app, ← str_app]
    rfl
  rw [hres]
  obtain ⟨tb, htb⟩ : ∃ tb, tb = str (brk c 7) := ⟨_, rfl⟩
  have HL := hidD hL
  clear hL
  unfold LvC at HL
  rw [← htb] at HL ⊢
  obtain ⟨z, hz⟩ : ∃ z, tb.size = z := ⟨_, rfl⟩
  have z20 : z ≤ 10000002 := by rw [← hz, htb]; exact hs
  have k1 : ¬ 9223372036854775807 < z + 1 := by omega
  clear htb hres hs
  obtain ⟨g, off, rfl, hN⟩ := nd_at (hB.t.below hB.b) hB.d
  have ho : o < T.length := (List.getElem?_eq_some_iff.1 hB.d).1
  have HB := hidD hB.b
  clear hB
  obtain ⟨⟨k, p, m, s⟩, l⟩ := d
  replace hk : k = 27 := hk
  subst hk
  obtain ⟨hg, n0, n1, n2, n3, al, capl, n4, hrow⟩ := hN
  have o0 : (0 : Int) ≤ (o : Int) := by omega
  have o1 : (o : Int) < (T.length : Int) := by omega
  replace hl : l = [(q : Int)] := hl
  subst hl
  obtain ⟨g2, off2, rfl, hg2, e0⟩ := row_one hrow
  replace hs0 : s.length ≤ 1000000 := hs0
  have k2 : ¬ 9223372036854775807 < z + 1 + s.length := by omega
  clear z20 hs0
  show Calls Tryz.prog 88 #[.slice (some ⟨g, off, none⟩) T.length cap, .int .i64 (o : Int)] w fun e w' => e = .returned (.string (tb ++ (⟨#[46]⟩ : ByteArray) ++ str s)) ∧ Below w.heap.size w w'
  go_enter Tryz.func88, Tryz.ntmps88
  go_upto_region 10 with fail
  obtain ⟨b, hb⟩ : ∃ b, b = w.heap.size := ⟨_, rfl⟩
  obtain ⟨W1, hW1⟩ : ∃ W1, W1 = w.alloc (Ndo ⟨27, p, m, s⟩ (some ⟨g2, off2, none⟩) 1 capl) := ⟨_, rfl⟩
  have HB1 : Hid (Below w0.heap.size w0 W1) := hidD (by rw [hW1]; exact belA HB.out)
  have HW1 : Hid (Below w.heap.size w W1) := hidD (by rw [hW1]; exact belA (Below.refl _ _))
  have HC : Hid (∀ V, Below W1.heap.size W1 V → V.cell? ⟨b, 3, none⟩ = some (.string (str s)) ∧ V.cell? ⟨b, 4, none⟩ = some (.slice (some ⟨g2, off2, none⟩) 1 capl) ∧ V.cell? ⟨g2, off2, none⟩ = some (.int .i64 (q : Int))) := hidD (fun V hV => by
    have A := (At.new w (Ndo ⟨27, p, m, s⟩ (some ⟨g2, off2, none⟩) 1 capl)).belowB (B := W1.heap.size) (by rw [← hW1]; exact hV) (by rw [hW1]; simp)
    obtain ⟨d0, d1, d2, d3, d4, df⟩ := A.nd
    rw [← hb] at d0 d1 d2 d3 d4
    exact ⟨d3, d4, (((HW1.out.trans (hV.mono HW1.out.size)).cell hg2)).trans e0⟩)
  generalize hWW : w.alloc (Obj.cells #[.int .u8 27, .int .i64 p, .int .i64 m, .string (str s), .slice (some ⟨g2, off2, none⟩) 1 capl] 44) = W9
  obtain rfl : W9 = W1 := by rw [← hWW, hW1]; rfl
  rw [← hb]
  clear hWW hW1 hb n0 n1 n2 n3 n4 hrow hg
  refine beginH (S := fun V => Below W9.heap.size W9 V) (fun _ _ _ _ _ h => h) (by kernel_rfl) (belD (Below.refl _ _)) (fun hq hHeld => ?_)
  refine takeH (i := 0) (d := 29) (.slice (some ⟨g, off, none⟩) T.length cap) hq rfl rfl (by kernel_rfl) (by kernel_rfl) (by kernel_rfl) (by rfl) (fun W hSw => by (go_simp; try first | rfl | (rw [IntKind.wrap_i64]; omega) | (intro hh; exfalso; omega))) hHeld ?_
  try simp only [Act.put, List.setIfInBounds_toArray, List.set_cons_zero, List.set_cons_succ]
  refine takeH (i := 1) (d := 30) (.pointer (some ⟨b, 4, none⟩)) hq rfl rfl (by kernel_rfl) (by kernel_rfl) (by kernel_rfl) (by rfl) (fun W hSw => by (go_simp; try first | rfl | (rw [IntKind.wrap_i64]; omega) | (intro hh; exfalso; omega))) hHeld ?_
  try simp only [Act.put, List.setIfInBounds_toArray, List.set_cons_zero, List.set_cons_succ]
  refine takeH (i := 2) (d := 31) (.slice (some ⟨g2, off2, none⟩) 1 capl) hq rfl rfl (by kernel_rfl) (by kernel_rfl) (by kernel_rfl) (by rfl) (fun W hSw => by (obtain ⟨c3, c4, e0⟩ := HC.out _ hSw; go_simp; try rfl)) hHeld ?_
  try simp only [Act.put, List.setIfInBounds_toArray, List.set_cons_zero, List.set_cons_succ]
  refine takeH (i := 3) (d := 32) (.pointer (some ⟨g2, off2, none⟩)) hq rfl rfl (by kernel_rfl) (by kernel_rfl) (by kernel_rfl) (by rfl) (fun W hSw => by (go_simp; try first | rfl | (rw [IntKind.wrap_i64]; omega) | (intro hh; exfalso; omega))) hHeld ?_
  try simp only [Act.put, List.setIfInBounds_toArray, List.set_cons_zero, List.set_cons_succ]
  refine takeH (i := 4) (d := 33) (.int .i64 (q : Int)) hq rfl rfl (by kernel_rfl) (by kernel_rfl) (by kernel_rfl) (by rfl) (fun W hSw => by (obtain ⟨c3, c4, e0⟩ := HC.out _ hSw; go_simp; try rfl)) hHeld ?_
  try simp only [Act.put, List.setIfInBounds_toArray, List.set_cons_zero, List.set_cons_succ]
  refine takeH (i := 7) (d := 36) (.pointer (some ⟨b, 3, none⟩)) hq rfl rfl (by kernel_rfl) (by kernel_rfl) (by kernel_rfl) (by rfl) (fun W hSw => by (go_simp; try first | rfl | (rw [IntKind.wrap_i64]; omega) | (intro hh; exfalso; omega))) hHeld ?_
  try simp only [Act.put, List.setIfInBounds_toArray, List.set_cons_zero, List.set_cons_succ]
  refine takeH (i := 8) (d := 37) (.string (str s)) hq rfl rfl (by kernel_rfl) (by kernel_rfl) (by kernel_rfl) (by rfl) (fun W hSw => by (obtain ⟨c3, c4, e0⟩ := HC.out _ hSw; go_simp; try rfl)) hHeld ?_
  try simp only [Act.put, List.setIfInBounds_toArray, List.set_cons_zero, List.set_cons_succ]
  refine wpAnyH_ready (rs := [5]) (by kernel_rfl) (by simp) ?_
  refine AllReadyH.cons rfl (fun K hK => ?_) AllReadyH.nil
  go_simp
  refine (HL.out _ (below_aft HB1.out (belD (Below.refl _ _)))).mono ?_
  rintro e v1 ⟨rfl, hb1⟩
  have hS1 : Below W9.heap.size W9 v1 := below_aft (belD (Below.refl _ _)) hb1
  go_wp2_with fail
  refine hK.out _ _ hS1 (fun hHeld => ?_)
  clear hK K
  try simp only [Act.put, List.setIfInBounds_toArray, List.set_cons_zero, List.set_cons_succ]
  have HS1 := hidD hS1
  clear hb1 hS1
  refine takeH (i := 6) (d := 35) (.string (tb ++ ⟨#[46]⟩)) hq rfl rfl (by kernel_rfl) (by kernel_rfl) (by kernel_rfl) (by rfl) (fun W hSw => by (go_simp)) hHeld ?_
  try simp only [Act.put, List.setIfInBounds_toArray, List.set_cons_zero, List.set_cons_succ]
  refine takeH (i := 9) (d := 38) (.string ((tb ++ ⟨#[46]⟩) ++ (str s))) hq rfl rfl (by kernel_rfl) (by kernel_rfl) (by kernel_rfl) (by rfl) (fun W hSw => by (go_simp; rw [str_size]; omega)) hHeld ?_
  try simp only [Act.put, List.setIfInBounds_toArray, List.set_cons_zero, List.set_cons_succ]
  refine takeH (i := 10) (d := 4) (.string ((tb ++ ⟨#[46]⟩) ++ (str s))) hq rfl rfl (by kernel_rfl) (by kernel_rfl) (by kernel_rfl) (by rfl) (fun W hSw => by (go_simp; try first | rfl | (rw [IntKind.wrap_i64]; omega) | (intro hh; exfalso; omega))) hHeld ?_
  try simp only [Act.put, List.setIfInBounds_toArray, List.set_cons_zero, List.set_cons_succ]
  refine wpAnyH_done (by kernel_rfl) ?_ _
  go_wp2_with fail
  go_ret
  exact ⟨rfl, below_aft HW1.out HS1.out⟩
set_option maxRecDepth 100000 in
set_option maxHeartbeats 4000000 in
/-- bare of a reference. -/
theorem bare_29 {w0 w : World} {T : List Nd} {a : Option Addr} {cap o : Nat} {d : Nd} (hB : BIn w0 w T a cap o d) (cs : List (Nat × List UInt8)) (hk : d.x.k = 29) (q : Nat) (hl : d.l = [(q : Int)]) (c : Nat × List UInt8) (hc : cs[0]? = some c) (hL : LvC w0 T a cap (q : Int) 6 (brk c 6)) (hR : ∀ W : World, Calls Tryz.prog 59 #[.string ⟨#[]⟩, .bool (decide (d.x.n = 1)), .string (str (brk c 6))] W fun e w' => e = .returned (.string (str (rfr (decide (d.x.n = 1)) (brk c 6)))) ∧ Below W.heap.size W w') :
    Calls Tryz.prog 88 #[.slice a T.length cap, .int .i64 (o : Int)] w fun e w' => e = .returned (.string (str (bareN d.x cs))) ∧ Below w.heap.size w w' := by
  have hres : str (bareN d.x cs) = str (rfr (decide (d.x.n = 1)) (brk c 6)) := by
    unfold bareN
    simp only [hc, hk, Option.getD_some, Nat.reduceEqDiff, ↓reduceIte]
  rw [hres]
  obtain ⟨tb, htb⟩ : ∃ tb, tb = str (brk c 6) := ⟨_, rfl⟩
  obtain ⟨tr, htr⟩ : ∃ tr, tr = str (rfr (decide (d.x.n = 1)) (brk c 6)) := ⟨_, rfl⟩
  rw [← htr] at hR ⊢
  rw [← htb] at hR
  have HL := hidD hL
  clear hL
  unfold LvC at HL
  rw [← htb] at HL
  clear htb hres htr
  obtain ⟨g, off, rfl, hN⟩ := nd_at (hB.t.below hB.b) hB.d
  have ho : o < T.length := (List.getElem?_eq_some_iff.1 hB.d).1
  have HB := hidD hB.b
  clear hB
  obtain ⟨⟨k, p, m, s⟩, l⟩ := d
  replace hk : k = 29 := hk
  subst hk
  obtain ⟨hg, n0, n1, n2, n3, al, capl, n4, hrow⟩ := hN
  have o0 : (0 : Int) ≤ (o : Int) := by omega
  have o1 : (o : Int) < (T.length : Int) := by omega
  replace hl : l = [(q : Int)] := hl
  subst hl
  obtain ⟨g2, off2, rfl, hg2, e0⟩ := row_one hrow
  have HR : Hid (∀ W : World, Calls Tryz.prog 59 #[.string ⟨#[]⟩, .bool (decide (m = 1)), .string tb] W fun e w' => e = .returned (.string tr) ∧ Below W.heap.size W w') := hidD hR
  clear hR
  go_enter Tryz.func88, Tryz.ntmps88
  go_upto_region 18 with fail
  obtain ⟨b, hb⟩ : ∃ b, b = w.heap.size := ⟨_, rfl⟩
  obtain ⟨W1, hW1⟩ : ∃ W1, W1 = w.alloc (Ndo ⟨29, p, m, s⟩ (some ⟨g2, off2, none⟩) 1 capl) := ⟨_, rfl⟩
  have HB1 : Hid (Below w0.heap.size w0 W1) := hidD (by rw [hW1]; exact belA HB.out)
  have HW1 : Hid (Below w.heap.size w W1) := hidD (by rw [hW1]; exact belA (Below.refl _ _))
  have HC : Hid (∀ V, Below W1.heap.size W1 V → V.cell? ⟨b, 2, none⟩ = some (.int .i64 m) ∧ V.cell? ⟨b, 4, none⟩ = some (.slice (some ⟨g2, off2, none⟩) 1 capl) ∧ V.cell? ⟨g2, off2, none⟩ = some (.int .i64 (q : Int))) := hidD (fun V hV => by
    have A := (At.new w (Ndo ⟨29, p, m, s⟩ (some ⟨g2, off2, none⟩) 1 capl)).belowB (B := W1.heap.size) (by rw [← hW1]; exact hV) (by rw [hW1]; simp)
    obtain ⟨d0, d1, d2, d3, d4, df⟩ := A.nd
    rw [← hb] at d0 d1 d2 d3 d4
    exact ⟨d2, d4, (((HW1.out.trans (hV.mono HW1.out.size)).cell hg2)).trans e0⟩)
  generalize hWW : w.alloc (Obj.cells #[.int .u8 29, .int .i64 p, .int .i64 m, .string (str s), .slice (some ⟨g2, off2, none⟩) 1 capl] 44) = W9
  obtain rfl : W9 = W1 := by rw [← hWW, hW1]; rfl
  rw [← hb]
  clear hWW hW1 hb n0 n1 n2 n3 n4 hrow hg
  refine beginH (S := fun V => Below W9.heap.size W9 V) (fun _ _ _ _ _ h => h) (by kernel_rfl) (belD (Below.refl _ _)) (fun hq hHeld => ?_)
  refine takeH (i := 0) (d := 68) (.pointer (some ⟨b, 2, none⟩)) hq rfl rfl (by kernel_rfl) (by kernel_rfl) (by kernel_rfl) (by rfl) (fun W hSw => by (go_simp; try first | rfl | (rw [IntKind.wrap_i64]; omega) | (intro hh; exfalso; omega))) hHeld ?_
  try simp only [Act.put, List.setIfInBounds_toArray, List.set_cons_zero, List.set_cons_succ]
  refine takeH (i := 1) (d := 69) (.int .i64 m) hq rfl rfl (by kernel_rfl) (by kernel_rfl) (by kernel_rfl) (by rfl) (fun W hSw => by (obtain ⟨c2, c4, e0⟩ := HC.out _ hSw; go_simp; try rfl)) hHeld ?_
  try simp only [Act.put, List.setIfInBounds_toArray, List.set_cons_zero, List.set_cons_succ]
  refine takeH (i := 2) (d := 70) (.bool (decide (m = 1))) hq rfl rfl (by kernel_rfl) (by kernel_rfl) (by kernel_rfl) (by rfl) (fun W hSw => by (obtain ⟨c2, c4, e0⟩ := HC.out _ hSw; go_simp; try rfl)) hHeld ?_
  try simp only [Act.put, List.setIfInBounds_toArray, List.set_cons_zero, List.set_cons_succ]
  refine takeH (i := 3) (d := 71) (.slice (some ⟨g, off, none⟩) T.length cap) hq rfl rfl (by kernel_rfl) (by kernel_rfl) (by kernel_rfl) (by rfl) (fun W hSw => by (go_simp; try first | rfl | (rw [IntKind.wrap_i64]; omega) | (intro hh; exfalso; omega))) hHeld ?_
  try simp only [Act.put, List.setIfInBounds_toArray, List.set_cons_zero, List.set_cons_succ]
  refine takeH (i := 4) (d := 72) (.pointer (some ⟨b, 4, none⟩)) hq rfl rfl (by kernel_rfl) (by kernel_rfl) (by kernel_rfl) (by rfl) (fun W hSw => by (go_simp; try first | rfl | (rw [IntKind.wrap_i64]; omega) | (intro hh; exfalso; omega))) hHeld ?_
  try simp only [Act.put, List.setIfInBounds_toArray, List.set_cons_zero, List.set_cons_succ]
  refine takeH (i := 5) (d := 73) (.slice (some ⟨g2, off2, none⟩) 1 capl) hq rfl rfl (by kernel_rfl) (by kernel_rfl) (by kernel_rfl) (by rfl) (fun W hSw => by (obtain ⟨c2, c4, e0⟩ := HC.out _ hSw; go_simp; try rfl)) hHeld ?_
  try simp only [Act.put, List.setIfInBounds_toArray, List.set_cons_zero, List.set_cons_succ]
  refine takeH (i := 6) (d := 74) (.pointer (some ⟨g2, off2, none⟩)) hq rfl rfl (by kernel_rfl) (by kernel_rfl) (by kernel_rfl) (by rfl) (fun W hSw => by (go_simp; try first | rfl | (rw [IntKind.wrap_i64]; omega) | (intro hh; exfalso; omega))) hHeld ?_
  try simp only [Act.put, List.setIfInBounds_toArray, List.set_cons_zero, List.set_cons_succ]
  refine takeH (i := 7) (d := 75) (.int .i64 (q : Int)) hq rfl rfl (by kernel_rfl) (by kernel_rfl) (by kernel_rfl) (by rfl) (fun W hSw => by (obtain ⟨c2, c4, e0⟩ := HC.out _ hSw; go_simp; try rfl)) hHeld ?_
  try simp only [Act.put, List.setIfInBounds_toArray, List.set_cons_zero, List.set_cons_succ]
  refine wpAnyH_ready (rs := [8]) (by kernel_rfl) (by simp) ?_
  refine AllReadyH.cons rfl (fun K hK => ?_) AllReadyH.nil
  go_simp
  refine (HL.out _ (below_aft HB1.out (belD (Below.refl _ _)))).mono ?_
  rintro e v1 ⟨rfl, hb1⟩
  have hS1 : Below W9.heap.size W9 v1 := below_aft (belD (Below.refl _ _)) hb1
  go_wp2_with fail
  refine hK.out _ _ hS1 (fun hHeld => ?_)
  clear hK K
  try simp only [Act.put, List.setIfInBounds_toArray, List.set_cons_zero, List.set_cons_succ]
  have HS1 := hidD hS1
  clear hb1 hS1
  refine wpAnyH_ready (rs := [9]) (by kernel_rfl) (by simp) ?_
  refine AllReadyH.cons rfl (fun K hK => ?_) AllReadyH.nil
  go_simp
  refine (HR.out _).mono ?_
  rintro e v2 ⟨rfl, hb2⟩
  have hS2 : Below W9.heap.size W9 v2 := below_aft HS1.out hb2
  go_wp2_with fail
  refine hK.out _ _ hS2 (fun hHeld => ?_)
  clear hK K
  try simp only [Act.put, List.setIfInBounds_toArray, List.set_cons_zero, List.set_cons_succ]
  have HS2 := hidD hS2
  clear hb2 hS2
  refine takeH (i := 10) (d := 4) (.string tr) hq rfl rfl (by kernel_rfl) (by kernel_rfl) (by kernel_rfl) (by rfl) (fun W hSw => by (go_simp; try first | rfl | (rw [IntKind.wrap_i64]; omega) | (intro hh; exfalso; omega))) hHeld ?_
  try simp only [Act.put, List.setIfInBounds_toArray, List.set_cons_zero, List.set_cons_succ]
  refine wpAnyH_done (by kernel_rfl) ?_ _
  go_wp2_with fail
  go_ret
  exact ⟨rfl, below_aft HW1.out HS2.out⟩
set_option maxRecDepth 100000 in
set_option maxHeartbeats 4000000 in
/-- bare of a call. -/
theorem bare_33 {w0 w : World} {T : List Nd} {a : Option Addr} {cap o : Nat} {d : Nd} (hB : BIn w0 w T a cap o d) (cs : List (Nat × List UInt8)) (hk : d.x.k = 33) (hs0 : d.x.s.length ≤ 1000000) (hs : (jn [44, 32] (cs.map fun c => brk c 1)).length ≤ 100000000) (hL : ∀ (al : Option Addr) (capl : Nat) (W : World), Below w0.heap.size w0 W → IRow W al d.l → Calls Tryz.prog 75 #[.string ⟨#[44, 32]⟩, .slice al d.l.length capl, .func (.func 35) #[.slice a T.length cap] #[]] W fun e w' => e = .returned (.string (str (jn [44, 32] (cs.map fun c => brk c 1)))) ∧ Below W.heap.size W w') :
    Calls Tryz.prog 88 #[.slice a T.length cap, .int .i64 (o : Int)] w fun e w' => e = .returned (.string (str (bareN d.x cs))) ∧ Below w.heap.size w w' := by
  have hres : str (bareN d.x cs) = str d.x.s ++ (⟨#[40]⟩ : ByteArray) ++ str (jn [44, 32] (cs.map fun c => brk c 1)) ++ (⟨#[41]⟩ : ByteArray) := by
    unfold bareN
    simp only [hk, Nat.reduceEqDiff, ↓reduceIte]
    rw [← str_app, ← str_app, ← str_app]
    rfl
  rw [hres]
  obtain ⟨tb, htb⟩ : ∃ tb, tb = str (jn [44, 32] (cs.map fun c => brk c 1)) := ⟨_, rfl⟩
  rw [← htb] at hL ⊢
  obtain ⟨z, hz⟩ : ∃ z, tb.size = z := ⟨_, rfl⟩
  have z20 : z ≤ 100000000 := by rw [← hz, htb]; exact hs
  clear htb hres hs
  obtain ⟨g, off, rfl, hN⟩ := nd_at (hB.t.below hB.b) hB.d
  have ho : o < T.length := (List.getElem?_eq_some_iff.1 hB.d).1
  have HB := hidD hB.b
  clear hB
  obtain ⟨⟨k, p, m, s⟩, l⟩ := d
  replace hk : k = 33 := hk
  subst hk
  obtain ⟨hg, n0, n1, n2, n3, al, capl, n4, hrow⟩ := hN
  have o0 : (0 : Int) ≤ (o : Int) := by omega
  have o1 : (o : Int) < (T.length : Int) := by omega
  replace hs0 : s.length ≤ 1000000 := hs0
  obtain ⟨nl, hnl⟩ : ∃ nl, nl = l.length := ⟨_, rfl⟩
  have HL : Hid (∀ W : World, Below w.heap.size w W → Calls Tryz.prog 75 #[.string ⟨#[44, 32]⟩, .slice al nl capl, .func (.func 35) #[.slice (some ⟨g, off, none⟩) T.length cap] #[]] W fun e w' => e = .returned (.string tb) ∧ Below W.heap.size W w') := hidD (by rw [hnl]; exact fun W hW => hL al capl W (below_aft HB.out hW) (hrow.below hW))
  replace n4 : w.cell? ⟨g, off + o * 5 + 4, none⟩ = some (.slice al nl capl) := by rw [hnl]; exact n4
  show Calls Tryz.prog 88 #[.slice (some ⟨g, off, none⟩) T.length cap, .int .i64 (o : Int)] w fun e w' => e = .returned (.string (str s ++ (⟨#[40]⟩ : ByteArray) ++ tb ++ (⟨#[41]⟩ : ByteArray))) ∧ Below w.heap.size w w'
  clear hL hnl hrow
  go_enter Tryz.func88, Tryz.ntmps88
  go_upto_region 22 with fail
  obtain ⟨b, hb⟩ : ∃ b, b = w.heap.size := ⟨_, rfl⟩
  obtain ⟨W1, hW1⟩ : ∃ W1, W1 = w.alloc (Ndo ⟨33, p, m, s⟩ al nl capl) := ⟨_, rfl⟩
  have HB1 : Hid (Below w0.heap.size w0 W1) := hidD (by rw [hW1]; exact belA HB.out)
  have HW1 : Hid (Below w.heap.size w W1) := hidD (by rw [hW1]; exact belA (Below.refl _ _))
  have HC : Hid (∀ V, Below W1.heap.size W1 V → V.cell? ⟨b, 3, none⟩ = some (.string (str s)) ∧ V.cell? ⟨b, 4, none⟩ = some (.slice al nl capl)) := hidD (fun V hV => by
    have A := (At.new w (Ndo ⟨33, p, m, s⟩ al nl capl)).belowB (B := W1.heap.size) (by rw [← hW1]; exact hV) (by rw [hW1]; simp)
    obtain ⟨d0, d1, d2, d3, d4, df⟩ := A.nd
    rw [← hb] at d0 d1 d2 d3 d4
    exact ⟨d3, d4⟩)
  generalize hWW : w.alloc (Obj.cells #[.int .u8 33, .int .i64 p, .int .i64 m, .string (str s), .slice al nl capl] 44) = W9
  obtain rfl : W9 = W1 := by rw [← hWW, hW1]; rfl
  rw [← hb]
  clear hWW hW1 hb n0 n1 n2 n3 n4 hg
  refine beginH (S := fun V => Below W9.heap.size W9 V) (fun _ _ _ _ _ h => h) (by kernel_rfl) (belD (Below.refl _ _)) (fun hq hHeld => ?_)
  refine takeH (i := 0) (d := 85) (.pointer (some ⟨b, 3, none⟩)) hq rfl rfl (by kernel_rfl) (by kernel_rfl) (by kernel_rfl) (by rfl) (fun W hSw => by (go_simp; try first | rfl | (rw [IntKind.wrap_i64]; omega) | (intro hh; exfalso; omega))) hHeld ?_
  try simp only [Act.put, List.setIfInBounds_toArray, List.set_cons_zero, List.set_cons_succ]
  refine takeH (i := 1) (d := 86) (.string (str s)) hq rfl rfl (by kernel_rfl) (by kernel_rfl) (by kernel_rfl) (by rfl) (fun W hSw => by (obtain ⟨c3, c4⟩ := HC.out _ hSw; go_simp; try rfl)) hHeld ?_
  try simp only [Act.put, List.setIfInBounds_toArray, List.set_cons_zero, List.set_cons_succ]
  refine takeH (i := 2) (d := 87) (.string ((str s) ++ ⟨#[40]⟩)) hq rfl rfl (by kernel_rfl) (by kernel_rfl) (by kernel_rfl) (by rfl) (fun W hSw => by (go_simp; rw [str_size]; omega)) hHeld ?_
  try simp only [Act.put, List.setIfInBounds_toArray, List.set_cons_zero, List.set_cons_succ]
  refine takeH (i := 3) (d := 88) (.pointer (some ⟨b, 4, none⟩)) hq rfl rfl (by kernel_rfl) (by kernel_rfl) (by kernel_rfl) (by rfl) (fun W hSw => by (go_simp; try first | rfl | (rw [IntKind.wrap_i64]; omega) | (intro hh; exfalso; omega))) hHeld ?_
  try simp only [Act.put, List.setIfInBounds_toArray, List.set_cons_zero, List.set_cons_succ]
  refine takeH (i := 4) (d := 89) (.slice al nl capl) hq rfl rfl (by kernel_rfl) (by kernel_rfl) (by kernel_rfl) (by rfl) (fun W hSw => by (obtain ⟨c3, c4⟩ := HC.out _ hSw; go_simp; try rfl)) hHeld ?_
  try simp only [Act.put, List.setIfInBounds_toArray, List.set_cons_zero, List.set_cons_succ]
  refine takeH (i := 5) (d := 90) (.slice (some ⟨g, off, none⟩) T.length cap) hq rfl rfl (by kernel_rfl) (by kernel_rfl) (by kernel_rfl) (by rfl) (fun W hSw => by (go_simp; try first | rfl | (rw [IntKind.wrap_i64]; omega) | (intro hh; exfalso; omega))) hHeld ?_
  try simp only [Act.put, List.setIfInBounds_toArray, List.set_cons_zero, List.set_cons_succ]
  refine takeH (i := 6) (d := 91) (.func (.func 35) #[(.slice (some ⟨g, off, none⟩) T.length cap)] #[]) hq rfl rfl (by kernel_rfl) (by kernel_rfl) (by kernel_rfl) (by rfl) (fun W hSw => by (go_simp; try first | rfl | (rw [IntKind.wrap_i64]; omega) | (intro hh; exfalso; omega))) hHeld ?_
  try simp only [Act.put, List.setIfInBounds_toArray, List.set_cons_zero, List.set_cons_succ]
  refine wpAnyH_ready (rs := [7]) (by kernel_rfl) (by simp) ?_
  refine AllReadyH.cons rfl (fun K hK => ?_) AllReadyH.nil
  go_simp
  refine (HL.out _ (below_aft HW1.out (belD (Below.refl _ _)))).mono ?_
  rintro e v1 ⟨rfl, hb1⟩
  have hS1 : Below W9.heap.size W9 v1 := below_aft (belD (Below.refl _ _)) hb1
  go_wp2_with fail
  refine hK.out _ _ hS1 (fun hHeld => ?_)
  clear hK K
  try simp only [Act.put, List.setIfInBounds_toArray, List.set_cons_zero, List.set_cons_succ]
  have HS1 := hidD hS1
  clear hb1 hS1
  refine takeH (i := 8) (d := 93) (.string (((str s) ++ ⟨#[40]⟩) ++ tb)) hq rfl rfl (by kernel_rfl) (by kernel_rfl) (by kernel_rfl) (by rfl) (fun W hSw => by (go_simp; simp only [ByteArray.size_append, str_size, hz]; first | done | (show _ ≤ _; omega) | trace_state)) hHeld ?_
  try simp only [Act.put, List.setIfInBounds_toArray, List.set_cons_zero, List.set_cons_succ]
  refine takeH (i := 9) (d := 94) (.string ((((str s) ++ ⟨#[40]⟩) ++ tb) ++ ⟨#[41]⟩)) hq rfl rfl (by kernel_rfl) (by kernel_rfl) (by kernel_rfl) (by rfl) (fun W hSw => by (go_simp; simp only [ByteArray.size_append, str_size, hz]; first | done | (show _ ≤ _; omega) | trace_state)) hHeld ?_
  try simp only [Act.put, List.setIfInBounds_toArray, List.set_cons_zero, List.set_cons_succ]
  refine takeH (i := 10) (d := 4) (.string ((((str s) ++ ⟨#[40]⟩) ++ tb) ++ ⟨#[41]⟩)) hq rfl rfl (by kernel_rfl) (by kernel_rfl) (by kernel_rfl) (by rfl) (fun W hSw => by (go_simp; try first | rfl | (rw [IntKind.wrap_i64]; omega) | (intro hh; exfalso; omega))) hHeld ?_
  try simp only [Act.put, List.setIfInBounds_toArray, List.set_cons_zero, List.set_cons_succ]
  refine wpAnyH_done (by kernel_rfl) ?_ _
  go_wp2_with fail
  go_ret
  exact ⟨rfl, below_aft HW1.out HS1.out⟩
set_option maxRecDepth 100000 in
set_option maxHeartbeats 4000000 in
/-- bare of a struct. -/
theorem bare_34 {w0 w : World} {T : List Nd} {a : Option Addr} {cap o : Nat} {d : Nd} (hB : BIn w0 w T a cap o d) (cs : List (Nat × List UInt8)) (hk : d.x.k = 34) (hs0 : d.x.s.length ≤ 1000000) (hs : (jn [44, 32] (cs.map (·.2))).length ≤ 100000000) (hL : ∀ (al : Option Addr) (capl : Nat) (W : World), Below w0.heap.size w0 W → IRow W al d.l → Calls Tryz.prog 75 #[.string ⟨#[44, 32]⟩, .slice al d.l.length capl, .func (.func 76) #[.slice a T.length cap] #[]] W fun e w' => e = .returned (.string (str (jn [44, 32] (cs.map (·.2))))) ∧ Below W.heap.size W w') :
    Calls Tryz.prog 88 #[.slice a T.length cap, .int .i64 (o : Int)] w fun e w' => e = .returned (.string (str (bareN d.x cs))) ∧ Below w.heap.size w w' := by
  have hres : str (bareN d.x cs) = str d.x.s ++ (⟨#[32, 123, 32]⟩ : ByteArray) ++ str (jn [44, 32] (cs.map (·.2))) ++ (⟨#[32, 125]⟩ : ByteArray) := by
    unfold bareN
    simp only [hk, Nat.reduceEqDiff, ↓reduceIte]
    rw [← str_app, ← str_app, ← str_app]
    rfl
  rw [hres]
  obtain ⟨tb, htb⟩ : ∃ tb, tb = str (jn [44, 32] (cs.map (·.2))) := ⟨_, rfl⟩
  rw [← htb] at hL ⊢
  obtain ⟨z, hz⟩ : ∃ z, tb.size = z := ⟨_, rfl⟩
  have z20 : z ≤ 100000000 := by rw [← hz, htb]; exact hs
  clear htb hres hs
  obtain ⟨g, off, rfl, hN⟩ := nd_at (hB.t.below hB.b) hB.d
  have ho : o < T.length := (List.getElem?_eq_some_iff.1 hB.d).1
  have HB := hidD hB.b
  clear hB
  obtain ⟨⟨k, p, m, s⟩, l⟩ := d
  replace hk : k = 34 := hk
  subst hk
  obtain ⟨hg, n0, n1, n2, n3, al, capl, n4, hrow⟩ := hN
  have o0 : (0 : Int) ≤ (o : Int) := by omega
  have o1 : (o : Int) < (T.length : Int) := by omega
  replace hs0 : s.length ≤ 1000000 := hs0
  obtain ⟨nl, hnl⟩ : ∃ nl, nl = l.length := ⟨_, rfl⟩
  have HL : Hid (∀ W : World, Below w.heap.size w W → Calls Tryz.prog 75 #[.string ⟨#[44, 32]⟩, .slice al nl capl, .func (.func 76) #[.slice (some ⟨g, off, none⟩) T.length cap] #[]] W fun e w' => e = .returned (.string tb) ∧ Below W.heap.size W w') := hidD (by rw [hnl]; exact fun W hW => hL al capl W (below_aft HB.out hW) (hrow.below hW))
  replace n4 : w.cell? ⟨g, off + o * 5 + 4, none⟩ = some (.slice al nl capl) := by rw [hnl]; exact n4
  show Calls Tryz.prog 88 #[.slice (some ⟨g, off, none⟩) T.length cap, .int .i64 (o : Int)] w fun e w' => e = .returned (.string (str s ++ (⟨#[32, 123, 32]⟩ : ByteArray) ++ tb ++ (⟨#[32, 125]⟩ : ByteArray))) ∧ Below w.heap.size w w'
  clear hL hnl hrow
  go_enter Tryz.func88, Tryz.ntmps88
  go_upto_region 24 with fail
  obtain ⟨b, hb⟩ : ∃ b, b = w.heap.size := ⟨_, rfl⟩
  obtain ⟨W1, hW1⟩ : ∃ W1, W1 = w.alloc (Ndo ⟨34, p, m, s⟩ al nl capl) := ⟨_, rfl⟩
  have HB1 : Hid (Below w0.heap.size w0 W1) := hidD (by rw [hW1]; exact belA HB.out)
  have HW1 : Hid (Below w.heap.size w W1) := hidD (by rw [hW1]; exact belA (Below.refl _ _))
  have HC : Hid (∀ V, Below W1.heap.size W1 V → V.cell? ⟨b, 3, none⟩ = some (.string (str s)) ∧ V.cell? ⟨b, 4, none⟩ = some (.slice al nl capl)) := hidD (fun V hV => by
    have A := (At.new w (Ndo ⟨34, p, m, s⟩ al nl capl)).belowB (B := W1.heap.size) (by rw [← hW1]; exact hV) (by rw [hW1]; simp)
    obtain ⟨d0, d1, d2, d3, d4, df⟩ := A.nd
    rw [← hb] at d0 d1 d2 d3 d4
    exact ⟨d3, d4⟩)
  generalize hWW : w.alloc (Obj.cells #[.int .u8 34, .int .i64 p, .int .i64 m, .string (str s), .slice al nl capl] 44) = W9
  obtain rfl : W9 = W1 := by rw [← hWW, hW1]; rfl
  rw [← hb]
  clear hWW hW1 hb n0 n1 n2 n3 n4 hg
  refine beginH (S := fun V => Below W9.heap.size W9 V) (fun _ _ _ _ _ h => h) (by kernel_rfl) (belD (Below.refl _ _)) (fun hq hHeld => ?_)
  refine takeH (i := 0) (d := 97) (.pointer (some ⟨b, 3, none⟩)) hq rfl rfl (by kernel_rfl) (by kernel_rfl) (by kernel_rfl) (by rfl) (fun W hSw => by (go_simp; try first | rfl | (rw [IntKind.wrap_i64]; omega) | (intro hh; exfalso; omega))) hHeld ?_
  try simp only [Act.put, List.setIfInBounds_toArray, List.set_cons_zero, List.set_cons_succ]
  refine takeH (i := 1) (d := 98) (.string (str s)) hq rfl rfl (by kernel_rfl) (by kernel_rfl) (by kernel_rfl) (by rfl) (fun W hSw => by (obtain ⟨c3, c4⟩ := HC.out _ hSw; go_simp; try rfl)) hHeld ?_
  try simp only [Act.put, List.setIfInBounds_toArray, List.set_cons_zero, List.set_cons_succ]
  refine takeH (i := 2) (d := 99) (.string ((str s) ++ ⟨#[32, 123, 32]⟩)) hq rfl rfl (by kernel_rfl) (by kernel_rfl) (by kernel_rfl) (by rfl) (fun W hSw => by (go_simp; rw [str_size]; omega)) hHeld ?_
  try simp only [Act.put, List.setIfInBounds_toArray, List.set_cons_zero, List.set_cons_succ]
  refine takeH (i := 3) (d := 100) (.pointer (some ⟨b, 4, none⟩)) hq rfl rfl (by kernel_rfl) (by kernel_rfl) (by kernel_rfl) (by rfl) (fun W hSw => by (go_simp; try first | rfl | (rw [IntKind.wrap_i64]; omega) | (intro hh; exfalso; omega))) hHeld ?_
  try simp only [Act.put, List.setIfInBounds_toArray, List.set_cons_zero, List.set_cons_succ]
  refine takeH (i := 4) (d := 101) (.slice al nl capl) hq rfl rfl (by kernel_rfl) (by kernel_rfl) (by kernel_rfl) (by rfl) (fun W hSw => by (obtain ⟨c3, c4⟩ := HC.out _ hSw; go_simp; try rfl)) hHeld ?_
  try simp only [Act.put, List.setIfInBounds_toArray, List.set_cons_zero, List.set_cons_succ]
  refine takeH (i := 5) (d := 102) (.slice (some ⟨g, off, none⟩) T.length cap) hq rfl rfl (by kernel_rfl) (by kernel_rfl) (by kernel_rfl) (by rfl) (fun W hSw => by (go_simp; try first | rfl | (rw [IntKind.wrap_i64]; omega) | (intro hh; exfalso; omega))) hHeld ?_
  try simp only [Act.put, List.setIfInBounds_toArray, List.set_cons_zero, List.set_cons_succ]
  refine takeH (i := 6) (d := 103) (.func (.func 76) #[(.slice (some ⟨g, off, none⟩) T.length cap)] #[]) hq rfl rfl (by kernel_rfl) (by kernel_rfl) (by kernel_rfl) (by rfl) (fun W hSw => by (go_simp; try first | rfl | (rw [IntKind.wrap_i64]; omega) | (intro hh; exfalso; omega))) hHeld ?_
  try simp only [Act.put, List.setIfInBounds_toArray, List.set_cons_zero, List.set_cons_succ]
  refine wpAnyH_ready (rs := [7]) (by kernel_rfl) (by simp) ?_
  refine AllReadyH.cons rfl (fun K hK => ?_) AllReadyH.nil
  go_simp
  refine (HL.out _ (below_aft HW1.out (belD (Below.refl _ _)))).mono ?_
  rintro e v1 ⟨rfl, hb1⟩
  have hS1 : Below W9.heap.size W9 v1 := below_aft (belD (Below.refl _ _)) hb1
  go_wp2_with fail
  refine hK.out _ _ hS1 (fun hHeld => ?_)
  clear hK K
  try simp only [Act.put, List.setIfInBounds_toArray, List.set_cons_zero, List.set_cons_succ]
  have HS1 := hidD hS1
  clear hb1 hS1
  refine takeH (i := 8) (d := 105) (.string (((str s) ++ ⟨#[32, 123, 32]⟩) ++ tb)) hq rfl rfl (by kernel_rfl) (by kernel_rfl) (by kernel_rfl) (by rfl) (fun W hSw => by (go_simp; simp only [ByteArray.size_append, str_size, hz]; first | done | (show _ ≤ _; omega) | trace_state)) hHeld ?_
  try simp only [Act.put, List.setIfInBounds_toArray, List.set_cons_zero, List.set_cons_succ]
  refine takeH (i := 9) (d := 106) (.string ((((str s) ++ ⟨#[32, 123, 32]⟩) ++ tb) ++ ⟨#[32, 125]⟩)) hq rfl rfl (by kernel_rfl) (by kernel_rfl) (by kernel_rfl) (by rfl) (fun W hSw => by (go_simp; simp only [ByteArray.size_append, str_size, hz]; first | done | (show _ ≤ _; omega) | trace_state)) hHeld ?_
  try simp only [Act.put, List.setIfInBounds_toArray, List.set_cons_zero, List.set_cons_succ]
  refine takeH (i := 10) (d := 4) (.string ((((str s) ++ ⟨#[32, 123, 32]⟩) ++ tb) ++ ⟨#[32, 125]⟩)) hq rfl rfl (by kernel_rfl) (by kernel_rfl) (by kernel_rfl) (by rfl) (fun W hSw => by (go_simp; try first | rfl | (rw [IntKind.wrap_i64]; omega) | (intro hh; exfalso; omega))) hHeld ?_
  try simp only [Act.put, List.setIfInBounds_toArray, List.set_cons_zero, List.set_cons_succ]
  refine wpAnyH_done (by kernel_rfl) ?_ _
  go_wp2_with fail
  go_ret
  exact ⟨rfl, below_aft HW1.out HS1.out⟩
end Go.Proofs.YtahdnfogdnondaaGreatDoor
