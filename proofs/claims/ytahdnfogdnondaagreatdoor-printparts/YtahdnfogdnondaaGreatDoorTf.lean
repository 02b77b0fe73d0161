import Derived.Test.YtahdnfogdnondaaGreatDoorTe
namespace Go.Proofs.YtahdnfogdnondaaGreatDoor
open Go.RowKit Go.Shelf
set_option linter.unusedVariables false
set_option linter.unusedSimpArgs false

set_option maxRecDepth 100000 in
set_option maxHeartbeats 4000000 in
/-- binary. -/
theorem binary_three {w0 w : World} {g off n cap : Nat} (p m : Int) (s : List UInt8) (al : Option Addr) (capl : Nat) (q r : Int) (hB0 : Below w0.heap.size w0 w) (hrow0 : IRow w al [q, r]) (hs0 : s.length ≤ 1000000) (h3 : lvlS s = 3) (ta tb : ByteArray) (hta : ta.size ≤ 10000002) (htb : tb.size ≤ 10000002)
    (hL : ∀ W, Below w0.heap.size w0 W → Calls Tryz.prog 58 #[.slice (some ⟨g, off, none⟩) n cap, .int .i64 q, .int .i64 4] W fun e w' => e = .returned (.string ta) ∧ Below W.heap.size W w')
    (hR : ∀ W, Below w0.heap.size w0 W → Calls Tryz.prog 58 #[.slice (some ⟨g, off, none⟩) n cap, .int .i64 r, .int .i64 4] W fun e w' => e = .returned (.string tb) ∧ Below W.heap.size W w') :
    Calls Tryz.prog 103 #[.slice (some ⟨g, off, none⟩) n cap, ndV ⟨32, p, m, s⟩ al 2 capl] w fun e w' => e = .returned (.string (ta ++ (⟨#[32]⟩ : ByteArray) ++ str s ++ (⟨#[32]⟩ : ByteArray) ++ tb)) ∧ Below w.heap.size w w' := by
  obtain ⟨g2, off2, rfl, hg2, e0, e1⟩ := row_two hrow0
  have HB := hidD hB0
  have HL0 := hidD hL
  have HR0 := hidD hR
  obtain ⟨za, hza⟩ : ∃ z, ta.size = z := ⟨_, rfl⟩
  obtain ⟨zb, hzb⟩ : ∃ z, tb.size = z := ⟨_, rfl⟩
  rw [hza] at hta
  rw [hzb] at htb
  have HV : Hid (∀ W : World, Calls Tryz.prog 46 #[ndV ⟨32, p, m, s⟩ (some ⟨g2, off2, none⟩) 2 capl] W fun e w' => e = .returned (.int .i64 3) ∧ Below W.heap.size W w') := hidD (fun W => by
    refine (levelOf_any ⟨32, p, m, s⟩ (some ⟨g2, off2, none⟩) 2 capl W).mono ?_
    rintro e w' ⟨rfl, hb⟩
    exact ⟨(by rw [show lvlN ⟨32, p, m, s⟩ = lvlS s from rfl, h3]; try rfl), hb⟩)
  clear hL hR hB0 hrow0 h3
  obtain ⟨W1, hW1⟩ : ∃ W1, W1 = w.alloc (Ndo ⟨32, p, m, s⟩ (some ⟨g2, off2, none⟩) 2 capl) := ⟨_, rfl⟩
  have HW0 : Hid (Below w.heap.size w W1) := hidD (by rw [hW1]; exact belA (Below.refl _ _))
  have A0 : Hid (At W1 w.heap.size (Ndo ⟨32, p, m, s⟩ (some ⟨g2, off2, none⟩) 2 capl)) := hidD (by rw [hW1]; exact At.new _ _)
  have HLW : Hid (w.alloc (.cells #[.int .u8 32, .int .i64 p, .int .i64 m, .string (str s), .slice (some ⟨g2, off2, none⟩) 2 capl] 44) = W1) := hidD hW1.symm
  clear hW1
  obtain ⟨d0, d1, d2, d3, d4, df⟩ := A0.out.nd
  go_enter Tryz.func103, Tryz.ntmps103
  go_upto_region 5 with (first
    | (rw [HLW.out])
    | (go_at_call 46; refine (HV.out _).mono ?_; rintro e w2 ⟨rfl, hb2⟩))
  obtain ⟨b, hb⟩ : ∃ b, b = w.heap.size := ⟨_, rfl⟩
  obtain ⟨W9, hW9⟩ : ∃ W9, W9 = w2 := ⟨_, rfl⟩
  have HW1 : Hid (Below w.heap.size w W9) := hidD (by rw [hW9]; exact below_aft HW0.out hb2)
  have HB1 : Hid (Below w0.heap.size w0 W9) := hidD (below_aft HB.out HW1.out)
  have HC : Hid (∀ V, Below W9.heap.size W9 V → V.cell? ⟨b, 3, none⟩ = some (.string (str s)) ∧ V.cell? ⟨b, 4, none⟩ = some (.slice (some ⟨g2, off2, none⟩) 2 capl) ∧ V.cell? ⟨g2, off2, none⟩ = some (.int .i64 q) ∧ V.cell? ⟨g2, off2 + 1, none⟩ = some (.int .i64 r)) := hidD (fun V hV => by
    have A := (A0.out.below hb2).below (w' := V) (by rw [← hW9]; exact hV)
    obtain ⟨x0, x1, x2, x3, x4, xf⟩ := A.nd
    rw [← hb] at x3 x4
    have hV2 : Below w.heap.size w V := HW1.out.trans (hV.mono HW1.out.size)
    exact ⟨x3, x4, (hV2.cell hg2).trans e0, (hV2.cell hg2).trans e1⟩)
  rw [← hW9, ← hb]
  have HL := HL0
  have HR := HR0
  clear hW9 hb hb2 d0 d1 d2 d3 d4 df e0 e1 HLW A0 HL0 HR0 HV HW0
  refine beginH (S := fun V => Below W9.heap.size W9 V) (fun _ _ _ _ _ h => h) (by kernel_rfl) (belD (Below.refl _ _)) (fun hq hHeld => ?_)
  refine takeH (i := 0) (d := 14) (.slice (some ⟨g, off, none⟩) n cap) hq rfl rfl (by kernel_rfl) (by kernel_rfl) (by kernel_rfl) (by rfl) (fun W hSw => by (go_simp; try first | rfl | (rw [IntKind.wrap_i64]; omega) | (intro hh; exfalso; omega))) hHeld ?_
  try simp only [Act.put, List.setIfInBounds_toArray, List.set_cons_zero, List.set_cons_succ]
  refine takeH (i := 1) (d := 15) (.pointer (some ⟨b, 4, none⟩)) hq rfl rfl (by kernel_rfl) (by kernel_rfl) (by kernel_rfl) (by rfl) (fun W hSw => by (go_simp; try first | rfl | (rw [IntKind.wrap_i64]; omega) | (intro hh; exfalso; omega))) hHeld ?_
  try simp only [Act.put, List.setIfInBounds_toArray, List.set_cons_zero, List.set_cons_succ]
  refine takeH (i := 2) (d := 16) (.slice (some ⟨g2, off2, none⟩) 2 capl) hq rfl rfl (by kernel_rfl) (by kernel_rfl) (by kernel_rfl) (by rfl) (fun W hSw => by (obtain ⟨c3, c4, e0, e1⟩ := HC.out _ hSw; go_simp; try rfl)) hHeld ?_
  try simp only [Act.put, List.setIfInBounds_toArray, List.set_cons_zero, List.set_cons_succ]
  refine takeH (i := 3) (d := 17) (.pointer (some ⟨g2, off2, none⟩)) hq rfl rfl (by kernel_rfl) (by kernel_rfl) (by kernel_rfl) (by rfl) (fun W hSw => by (go_simp; try first | rfl | (rw [IntKind.wrap_i64]; omega) | (intro hh; exfalso; omega))) hHeld ?_
  try simp only [Act.put, List.setIfInBounds_toArray, List.set_cons_zero, List.set_cons_succ]
  refine takeH (i := 4) (d := 18) (.int .i64 q) hq rfl rfl (by kernel_rfl) (by kernel_rfl) (by kernel_rfl) (by rfl) (fun W hSw => by (obtain ⟨c3, c4, e0, e1⟩ := HC.out _ hSw; go_simp; try rfl)) hHeld ?_
  try simp only [Act.put, List.setIfInBounds_toArray, List.set_cons_zero, List.set_cons_succ]
  refine takeH (i := 5) (d := 19) (.int .i64 4) hq rfl rfl (by kernel_rfl) (by kernel_rfl) (by kernel_rfl) (by rfl) (fun W hSw => by (go_simp; try first | rfl | (rw [IntKind.wrap_i64]; omega) | (intro hh; exfalso; omega))) hHeld ?_
  try simp only [Act.put, List.setIfInBounds_toArray, List.set_cons_zero, List.set_cons_succ]
  refine takeH (i := 8) (d := 22) (.pointer (some ⟨b, 3, none⟩)) hq rfl rfl (by kernel_rfl) (by kernel_rfl) (by kernel_rfl) (by rfl) (fun W hSw => by (go_simp; try first | rfl | (rw [IntKind.wrap_i64]; omega) | (intro hh; exfalso; omega))) hHeld ?_
  try simp only [Act.put, List.setIfInBounds_toArray, List.set_cons_zero, List.set_cons_succ]
  refine takeH (i := 9) (d := 23) (.string (str s)) hq rfl rfl (by kernel_rfl) (by kernel_rfl) (by kernel_rfl) (by rfl) (fun W hSw => by (obtain ⟨c3, c4, e0, e1⟩ := HC.out _ hSw; go_simp; try rfl)) hHeld ?_
  try simp only [Act.put, List.setIfInBounds_toArray, List.set_cons_zero, List.set_cons_succ]
  refine takeH (i := 12) (d := 26) (.slice (some ⟨g, off, none⟩) n cap) hq rfl rfl (by kernel_rfl) (by kernel_rfl) (by kernel_rfl) (by rfl) (fun W hSw => by (go_simp; try first | rfl | (rw [IntKind.wrap_i64]; omega) | (intro hh; exfalso; omega))) hHeld ?_
  try simp only [Act.put, List.setIfInBounds_toArray, List.set_cons_zero, List.set_cons_succ]
  refine takeH (i := 13) (d := 27) (.pointer (some ⟨b, 4, none⟩)) hq rfl rfl (by kernel_rfl) (by kernel_rfl) (by kernel_rfl) (by rfl) (fun W hSw => by (go_simp; try first | rfl | (rw [IntKind.wrap_i64]; omega) | (intro hh; exfalso; omega))) hHeld ?_
  try simp only [Act.put, List.setIfInBounds_toArray, List.set_cons_zero, List.set_cons_succ]
  refine takeH (i := 14) (d := 28) (.slice (some ⟨g2, off2, none⟩) 2 capl) hq rfl rfl (by kernel_rfl) (by kernel_rfl) (by kernel_rfl) (by rfl) (fun W hSw => by (obtain ⟨c3, c4, e0, e1⟩ := HC.out _ hSw; go_simp; try rfl)) hHeld ?_
  try simp only [Act.put, List.setIfInBounds_toArray, List.set_cons_zero, List.set_cons_succ]
  refine takeH (i := 15) (d := 29) (.pointer (some ⟨g2, off2 + 1, none⟩)) hq rfl rfl (by kernel_rfl) (by kernel_rfl) (by kernel_rfl) (by rfl) (fun W hSw => by (go_simp; try first | rfl | (rw [IntKind.wrap_i64]; omega) | (intro hh; exfalso; omega))) hHeld ?_
  try simp only [Act.put, List.setIfInBounds_toArray, List.set_cons_zero, List.set_cons_succ]
  refine takeH (i := 16) (d := 30) (.int .i64 r) hq rfl rfl (by kernel_rfl) (by kernel_rfl) (by kernel_rfl) (by rfl) (fun W hSw => by (obtain ⟨c3, c4, e0, e1⟩ := HC.out _ hSw; go_simp; try rfl)) hHeld ?_
  try simp only [Act.put, List.setIfInBounds_toArray, List.set_cons_zero, List.set_cons_succ]
  refine takeH (i := 17) (d := 31) (.int .i64 3) hq rfl rfl (by kernel_rfl) (by kernel_rfl) (by kernel_rfl) (by rfl) (fun W hSw => by (go_simp; try first | rfl | (rw [IntKind.wrap_i64]; omega) | (intro hh; exfalso; omega))) hHeld ?_
  try simp only [Act.put, List.setIfInBounds_toArray, List.set_cons_zero, List.set_cons_succ]
  refine takeH (i := 18) (d := 32) (.int .i64 4) hq rfl rfl (by kernel_rfl) (by kernel_rfl) (by kernel_rfl) (by rfl) (fun W hSw => by (go_simp; try first | rfl | (rw [IntKind.wrap_i64]; omega) | (intro hh; exfalso; omega))) hHeld ?_
  try simp only [Act.put, List.setIfInBounds_toArray, List.set_cons_zero, List.set_cons_succ]
  refine wpAnyH_ready (rs := [6]) (by kernel_rfl) (by simp) ?_
  refine AllReadyH.cons rfl (fun K hK => ?_) AllReadyH.nil
  go_simp
  refine (HL.out _ (below_aft HB1.out (belD (Below.refl _ _)))).mono ?_
  rintro e v1 ⟨rfl, hb1⟩
  have hS1 : Below W9.heap.size W9 v1 := below_aft (belD (Below.refl _ _)) hb1
  go_wp2_with fail
  refine hK.out _ _ hS1 (fun hHeld => ?_)
  clear hK K
  try simp only [Act.put, List.setIfInBounds_toArray, List.set_cons_zero, List.set_cons_succ]
  have HS1 := hidD hS1
  clear hb1 hS1
  refine takeH (i := 7) (d := 21) (.string (ta ++ ⟨#[32]⟩)) hq rfl rfl (by kernel_rfl) (by kernel_rfl) (by kernel_rfl) (by rfl) (fun W hSw => by (go_simp; (try simp only [ByteArray.size_append, str_size, hza, hzb]); (try omega))) hHeld ?_
  try simp only [Act.put, List.setIfInBounds_toArray, List.set_cons_zero, List.set_cons_succ]
  refine takeH (i := 10) (d := 24) (.string ((ta ++ ⟨#[32]⟩) ++ (str s))) hq rfl rfl (by kernel_rfl) (by kernel_rfl) (by kernel_rfl) (by rfl) (fun W hSw => by (go_simp; (try simp only [ByteArray.size_append, str_size, hza, hzb]); (try omega))) hHeld ?_
  try simp only [Act.put, List.setIfInBounds_toArray, List.set_cons_zero, List.set_cons_succ]
  refine takeH (i := 11) (d := 25) (.string (((ta ++ ⟨#[32]⟩) ++ (str s)) ++ ⟨#[32]⟩)) hq rfl rfl (by kernel_rfl) (by kernel_rfl) (by kernel_rfl) (by rfl) (fun W hSw => by (go_simp; (try simp only [ByteArray.size_append, str_size, hza, hzb]); (try omega))) hHeld ?_
  try simp only [Act.put, List.setIfInBounds_toArray, List.set_cons_zero, List.set_cons_succ]
  refine wpAnyH_ready (rs := [19]) (by kernel_rfl) (by simp) ?_
  refine AllReadyH.cons rfl (fun K hK => ?_) AllReadyH.nil
  go_simp
  refine (HR.out _ (below_aft HB1.out HS1.out)).mono ?_
  rintro e v2 ⟨rfl, hb2⟩
  have hS2 : Below W9.heap.size W9 v2 := below_aft HS1.out hb2
  go_wp2_with fail
  refine hK.out _ _ hS2 (fun hHeld => ?_)
  clear hK K
  try simp only [Act.put, List.setIfInBounds_toArray, List.set_cons_zero, List.set_cons_succ]
  have HS2 := hidD hS2
  clear hb2 hS2
  refine takeH (i := 20) (d := 34) (.string ((((ta ++ ⟨#[32]⟩) ++ (str s)) ++ ⟨#[32]⟩) ++ tb)) hq rfl rfl (by kernel_rfl) (by kernel_rfl) (by kernel_rfl) (by rfl) (fun W hSw => by (go_simp; (try simp only [ByteArray.size_append, str_size, hza, hzb]); (try omega))) hHeld ?_
  try simp only [Act.put, List.setIfInBounds_toArray, List.set_cons_zero, List.set_cons_succ]
  refine takeH (i := 21) (d := 4) (.string ((((ta ++ ⟨#[32]⟩) ++ (str s)) ++ ⟨#[32]⟩) ++ tb)) hq rfl rfl (by kernel_rfl) (by kernel_rfl) (by kernel_rfl) (by rfl) (fun W hSw => by (go_simp; try first | rfl | (rw [IntKind.wrap_i64]; omega) | (intro hh; exfalso; omega))) hHeld ?_
  try simp only [Act.put, List.setIfInBounds_toArray, List.set_cons_zero, List.set_cons_succ]
  refine wpAnyH_done (by kernel_rfl) ?_ _
  go_wp2_with fail
  go_ret
  exact ⟨rfl, below_aft HW1.out HS2.out⟩
set_option maxRecDepth 100000 in
set_option maxHeartbeats 4000000 in
/-- binary. -/
theorem binary_other {w0 w : World} {g off n cap : Nat} (p m : Int) (s : List UInt8) (al : Option Addr) (capl : Nat) (q r : Int) (hB0 : Below w0.heap.size w0 w) (hrow0 : IRow w al [q, r]) (hs0 : s.length ≤ 1000000) (lv : Nat) (h3 : lvlS s = lv) (hn3 : ¬ (lv : Int) = 3) (hl5 : lv ≤ 5) (ta tb : ByteArray) (hta : ta.size ≤ 10000002) (htb : tb.size ≤ 10000002)
    (hL : ∀ W, Below w0.heap.size w0 W → Calls Tryz.prog 58 #[.slice (some ⟨g, off, none⟩) n cap, .int .i64 q, .int .i64 (lv : Int)] W fun e w' => e = .returned (.string ta) ∧ Below W.heap.size W w')
    (hR : ∀ W, Below w0.heap.size w0 W → Calls Tryz.prog 58 #[.slice (some ⟨g, off, none⟩) n cap, .int .i64 r, .int .i64 ((lv : Int) + 1)] W fun e w' => e = .returned (.string tb) ∧ Below W.heap.size W w') :
    Calls Tryz.prog 103 #[.slice (some ⟨g, off, none⟩) n cap, ndV ⟨32, p, m, s⟩ al 2 capl] w fun e w' => e = .returned (.string (ta ++ (⟨#[32]⟩ : ByteArray) ++ str s ++ (⟨#[32]⟩ : ByteArray) ++ tb)) ∧ Below w.heap.size w w' := by
  obtain ⟨g2, off2, rfl, hg2, e0, e1⟩ := row_two hrow0
  have HB := hidD hB0
  have HL0 := hidD hL
  have HR0 := hidD hR
  obtain ⟨za, hza⟩ : ∃ z, ta.size = z := ⟨_, rfl⟩
  obtain ⟨zb, hzb⟩ : ∃ z, tb.size = z := ⟨_, rfl⟩
  rw [hza] at hta
  rw [hzb] at htb
  have HV : Hid (∀ W : World, Calls Tryz.prog 46 #[ndV ⟨32, p, m, s⟩ (some ⟨g2, off2, none⟩) 2 capl] W fun e w' => e = .returned (.int .i64 (lv : Int)) ∧ Below W.heap.size W w') := hidD (fun W => by
    refine (levelOf_any ⟨32, p, m, s⟩ (some ⟨g2, off2, none⟩) 2 capl W).mono ?_
    rintro e w' ⟨rfl, hb⟩
    exact ⟨(by rw [show lvlN ⟨32, p, m, s⟩ = lvlS s from rfl, h3]; try rfl), hb⟩)
  clear hL hR hB0 hrow0 h3
  obtain ⟨W1, hW1⟩ : ∃ W1, W1 = w.alloc (Ndo ⟨32, p, m, s⟩ (some ⟨g2, off2, none⟩) 2 capl) := ⟨_, rfl⟩
  have HW0 : Hid (Below w.heap.size w W1) := hidD (by rw [hW1]; exact belA (Below.refl _ _))
  have A0 : Hid (At W1 w.heap.size (Ndo ⟨32, p, m, s⟩ (some ⟨g2, off2, none⟩) 2 capl)) := hidD (by rw [hW1]; exact At.new _ _)
  have HLW : Hid (w.alloc (.cells #[.int .u8 32, .int .i64 p, .int .i64 m, .string (str s), .slice (some ⟨g2, off2, none⟩) 2 capl] 44) = W1) := hidD hW1.symm
  clear hW1
  obtain ⟨d0, d1, d2, d3, d4, df⟩ := A0.out.nd
  go_enter Tryz.func103, Tryz.ntmps103
  go_upto_region 5 with (first
    | (rw [HLW.out])
    | (go_at_call 46; refine (HV.out _).mono ?_; rintro e w2 ⟨rfl, hb2⟩))
  obtain ⟨b, hb⟩ : ∃ b, b = w.heap.size := ⟨_, rfl⟩
  obtain ⟨W9, hW9⟩ : ∃ W9, W9 = w2 := ⟨_, rfl⟩
  have HW1 : Hid (Below w.heap.size w W9) := hidD (by rw [hW9]; exact below_aft HW0.out hb2)
  have HB1 : Hid (Below w0.heap.size w0 W9) := hidD (below_aft HB.out HW1.out)
  have HC : Hid (∀ V, Below W9.heap.size W9 V → V.cell? ⟨b, 3, none⟩ = some (.string (str s)) ∧ V.cell? ⟨b, 4, none⟩ = some (.slice (some ⟨g2, off2, none⟩) 2 capl) ∧ V.cell? ⟨g2, off2, none⟩ = some (.int .i64 q) ∧ V.cell? ⟨g2, off2 + 1, none⟩ = some (.int .i64 r)) := hidD (fun V hV => by
    have A := (A0.out.below hb2).below (w' := V) (by rw [← hW9]; exact hV)
    obtain ⟨x0, x1, x2, x3, x4, xf⟩ := A.nd
    rw [← hb] at x3 x4
    have hV2 : Below w.heap.size w V := HW1.out.trans (hV.mono HW1.out.size)
    exact ⟨x3, x4, (hV2.cell hg2).trans e0, (hV2.cell hg2).trans e1⟩)
  rw [← hW9, ← hb]
  have HL := HL0
  have HR := HR0
  clear hW9 hb hb2 d0 d1 d2 d3 d4 df e0 e1 HLW A0 HL0 HR0 HV HW0
  refine beginH (S := fun V => Below W9.heap.size W9 V) (fun _ _ _ _ _ h => h) (by kernel_rfl) (belD (Below.refl _ _)) (fun hq hHeld => ?_)
  refine takeH (i := 0) (d := 14) (.slice (some ⟨g, off, none⟩) n cap) hq rfl rfl (by kernel_rfl) (by kernel_rfl) (by kernel_rfl) (by rfl) (fun W hSw => by (go_simp; try first | rfl | (rw [IntKind.wrap_i64]; omega) | (intro hh; exfalso; omega))) hHeld ?_
  try simp only [Act.put, List.setIfInBounds_toArray, List.set_cons_zero, List.set_cons_succ]
  refine takeH (i := 1) (d := 15) (.pointer (some ⟨b, 4, none⟩)) hq rfl rfl (by kernel_rfl) (by kernel_rfl) (by kernel_rfl) (by rfl) (fun W hSw => by (go_simp; try first | rfl | (rw [IntKind.wrap_i64]; omega) | (intro hh; exfalso; omega))) hHeld ?_
  try simp only [Act.put, List.setIfInBounds_toArray, List.set_cons_zero, List.set_cons_succ]
  refine takeH (i := 2) (d := 16) (.slice (some ⟨g2, off2, none⟩) 2 capl) hq rfl rfl (by kernel_rfl) (by kernel_rfl) (by kernel_rfl) (by rfl) (fun W hSw => by (obtain ⟨c3, c4, e0, e1⟩ := HC.out _ hSw; go_simp; try rfl)) hHeld ?_
  try simp only [Act.put, List.setIfInBounds_toArray, List.set_cons_zero, List.set_cons_succ]
  refine takeH (i := 3) (d := 17) (.pointer (some ⟨g2, off2, none⟩)) hq rfl rfl (by kernel_rfl) (by kernel_rfl) (by kernel_rfl) (by rfl) (fun W hSw => by (go_simp; try first | rfl | (rw [IntKind.wrap_i64]; omega) | (intro hh; exfalso; omega))) hHeld ?_
  try simp only [Act.put, List.setIfInBounds_toArray, List.set_cons_zero, List.set_cons_succ]
  refine takeH (i := 4) (d := 18) (.int .i64 q) hq rfl rfl (by kernel_rfl) (by kernel_rfl) (by kernel_rfl) (by rfl) (fun W hSw => by (obtain ⟨c3, c4, e0, e1⟩ := HC.out _ hSw; go_simp; try rfl)) hHeld ?_
  try simp only [Act.put, List.setIfInBounds_toArray, List.set_cons_zero, List.set_cons_succ]
  refine takeH (i := 5) (d := 19) (.int .i64 (lv : Int)) hq rfl rfl (by kernel_rfl) (by kernel_rfl) (by kernel_rfl) (by rfl) (fun W hSw => by (go_simp; try first | rfl | (rw [IntKind.wrap_i64]; omega) | (intro hh; exfalso; omega))) hHeld ?_
  try simp only [Act.put, List.setIfInBounds_toArray, List.set_cons_zero, List.set_cons_succ]
  refine takeH (i := 8) (d := 22) (.pointer (some ⟨b, 3, none⟩)) hq rfl rfl (by kernel_rfl) (by kernel_rfl) (by kernel_rfl) (by rfl) (fun W hSw => by (go_simp; try first | rfl | (rw [IntKind.wrap_i64]; omega) | (intro hh; exfalso; omega))) hHeld ?_
  try simp only [Act.put, List.setIfInBounds_toArray, List.set_cons_zero, List.set_cons_succ]
  refine takeH (i := 9) (d := 23) (.string (str s)) hq rfl rfl (by kernel_rfl) (by kernel_rfl) (by kernel_rfl) (by rfl) (fun W hSw => by (obtain ⟨c3, c4, e0, e1⟩ := HC.out _ hSw; go_simp; try rfl)) hHeld ?_
  try simp only [Act.put, List.setIfInBounds_toArray, List.set_cons_zero, List.set_cons_succ]
  refine takeH (i := 12) (d := 26) (.slice (some ⟨g, off, none⟩) n cap) hq rfl rfl (by kernel_rfl) (by kernel_rfl) (by kernel_rfl) (by rfl) (fun W hSw => by (go_simp; try first | rfl | (rw [IntKind.wrap_i64]; omega) | (intro hh; exfalso; omega))) hHeld ?_
  try simp only [Act.put, List.setIfInBounds_toArray, List.set_cons_zero, List.set_cons_succ]
  refine takeH (i := 13) (d := 27) (.pointer (some ⟨b, 4, none⟩)) hq rfl rfl (by kernel_rfl) (by kernel_rfl) (by kernel_rfl) (by rfl) (fun W hSw => by (go_simp; try first | rfl | (rw [IntKind.wrap_i64]; omega) | (intro hh; exfalso; omega))) hHeld ?_
  try simp only [Act.put, List.setIfInBounds_toArray, List.set_cons_zero, List.set_cons_succ]
  refine takeH (i := 14) (d := 28) (.slice (some ⟨g2, off2, none⟩) 2 capl) hq rfl rfl (by kernel_rfl) (by kernel_rfl) (by kernel_rfl) (by rfl) (fun W hSw => by (obtain ⟨c3, c4, e0, e1⟩ := HC.out _ hSw; go_simp; try rfl)) hHeld ?_
  try simp only [Act.put, List.setIfInBounds_toArray, List.set_cons_zero, List.set_cons_succ]
  refine takeH (i := 15) (d := 29) (.pointer (some ⟨g2, off2 + 1, none⟩)) hq rfl rfl (by kernel_rfl) (by kernel_rfl) (by kernel_rfl) (by rfl) (fun W hSw => by (go_simp; try first | rfl | (rw [IntKind.wrap_i64]; omega) | (intro hh; exfalso; omega))) hHeld ?_
  try simp only [Act.put, List.setIfInBounds_toArray, List.set_cons_zero, List.set_cons_succ]
  refine takeH (i := 16) (d := 30) (.int .i64 r) hq rfl rfl (by kernel_rfl) (by kernel_rfl) (by kernel_rfl) (by rfl) (fun W hSw => by (obtain ⟨c3, c4, e0, e1⟩ := HC.out _ hSw; go_simp; try rfl)) hHeld ?_
  try simp only [Act.put, List.setIfInBounds_toArray, List.set_cons_zero, List.set_cons_succ]
  refine takeH (i := 17) (d := 31) (.int .i64 (lv : Int)) hq rfl rfl (by kernel_rfl) (by kernel_rfl) (by kernel_rfl) (by rfl) (fun W hSw => by (go_simp; try first | rfl | (rw [IntKind.wrap_i64]; omega) | (intro hh; exfalso; omega))) hHeld ?_
  try simp only [Act.put, List.setIfInBounds_toArray, List.set_cons_zero, List.set_cons_succ]
  refine takeH (i := 18) (d := 32) (.int .i64 ((lv : Int) + 1)) hq rfl rfl (by kernel_rfl) (by kernel_rfl) (by kernel_rfl) (by rfl) (fun W hSw => by (go_simp; try first | rfl | (rw [IntKind.wrap_i64]; omega) | (intro hh; exfalso; omega))) hHeld ?_
  try simp only [Act.put, List.setIfInBounds_toArray, List.set_cons_zero, List.set_cons_succ]
  refine wpAnyH_ready (rs := [6]) (by kernel_rfl) (by simp) ?_
  refine AllReadyH.cons rfl (fun K hK => ?_) AllReadyH.nil
  go_simp
  refine (HL.out _ (below_aft HB1.out (belD (Below.refl _ _)))).mono ?_
  rintro e v1 ⟨rfl, hb1⟩
  have hS1 : Below W9.heap.size W9 v1 := below_aft (belD (Below.refl _ _)) hb1
  go_wp2_with fail
  refine hK.out _ _ hS1 (fun hHeld => ?_)
  clear hK K
  try simp only [Act.put, List.setIfInBounds_toArray, List.set_cons_zero, List.set_cons_succ]
  have HS1 := hidD hS1
  clear hb1 hS1
  refine takeH (i := 7) (d := 21) (.string (ta ++ ⟨#[32]⟩)) hq rfl rfl (by kernel_rfl) (by kernel_rfl) (by kernel_rfl) (by rfl) (fun W hSw => by (go_simp; (try simp only [ByteArray.size_append, str_size, hza, hzb]); (try omega))) hHeld ?_
  try simp only [Act.put, List.setIfInBounds_toArray, List.set_cons_zero, List.set_cons_succ]
  refine takeH (i := 10) (d := 24) (.string ((ta ++ ⟨#[32]⟩) ++ (str s))) hq rfl rfl (by kernel_rfl) (by kernel_rfl) (by kernel_rfl) (by rfl) (fun W hSw => by (go_simp; (try simp only [ByteArray.size_append, str_size, hza, hzb]); (try omega))) hHeld ?_
  try simp only [Act.put, List.setIfInBounds_toArray, List.set_cons_zero, List.set_cons_succ]
  refine takeH (i := 11) (d := 25) (.string (((ta ++ ⟨#[32]⟩) ++ (str s)) ++ ⟨#[32]⟩)) hq rfl rfl (by kernel_rfl) (by kernel_rfl) (by kernel_rfl) (by rfl) (fun W hSw => by (go_simp; (try simp only [ByteArray.size_append, str_size, hza, hzb]); (try omega))) hHeld ?_
  try simp only [Act.put, List.setIfInBounds_toArray, List.set_cons_zero, List.set_cons_succ]
  refine wpAnyH_ready (rs := [19]) (by kernel_rfl) (by simp) ?_
  refine AllReadyH.cons rfl (fun K hK => ?_) AllReadyH.nil
  go_simp
  refine (HR.out _ (below_aft HB1.out HS1.out)).mono ?_
  rintro e v2 ⟨rfl, hb2⟩
  have hS2 : Below W9.heap.size W9 v2 := below_aft HS1.out hb2
  go_wp2_with fail
  refine hK.out _ _ hS2 (fun hHeld => ?_)
  clear hK K
  try simp only [Act.put, List.setIfInBounds_toArray, List.set_cons_zero, List.set_cons_succ]
  have HS2 := hidD hS2
  clear hb2 hS2
  refine takeH (i := 20) (d := 34) (.string ((((ta ++ ⟨#[32]⟩) ++ (str s)) ++ ⟨#[32]⟩) ++ tb)) hq rfl rfl (by kernel_rfl) (by kernel_rfl) (by kernel_rfl) (by rfl) (fun W hSw => by (go_simp; (try simp only [ByteArray.size_append, str_size, hza, hzb]); (try omega))) hHeld ?_
  try simp only [Act.put, List.setIfInBounds_toArray, List.set_cons_zero, List.set_cons_succ]
  refine takeH (i := 21) (d := 4) (.string ((((ta ++ ⟨#[32]⟩) ++ (str s)) ++ ⟨#[32]⟩) ++ tb)) hq rfl rfl (by kernel_rfl) (by kernel_rfl) (by kernel_rfl) (by rfl) (fun W hSw => by (go_simp; try first | rfl | (rw [IntKind.wrap_i64]; omega) | (intro hh; exfalso; omega))) hHeld ?_
  try simp only [Act.put, List.setIfInBounds_toArray, List.set_cons_zero, List.set_cons_succ]
  refine wpAnyH_done (by kernel_rfl) ?_ _
  go_wp2_with fail
  go_ret
  exact ⟨rfl, below_aft HW1.out HS2.out⟩
end Go.Proofs.YtahdnfogdnondaaGreatDoor
