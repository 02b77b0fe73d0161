import Derived.Test.YtahdnfogdnondaaGreatDoorTf
namespace Go.Proofs.YtahdnfogdnondaaGreatDoor
open Go.RowKit Go.Shelf
set_option linter.unusedVariables false
set_option linter.unusedSimpArgs false

set_option maxRecDepth 100000 in
set_option maxHeartbeats 4000000 in
/-- bare of a binary. -/
theorem bare_32 {w0 w : World} {T : List Nd} {a : Option Addr} {cap o : Nat} {d : Nd} (hB : BIn w0 w T a cap o d) (cs : List (Nat × List UInt8)) (hk : d.x.k = 32) (hs0 : d.x.s.length ≤ 1000000) (q r : Nat) (hl : d.l = [(q : Int), (r : Int)]) (c e : Nat × List UInt8) (hc : cs[0]? = some c) (he : cs[1]? = some e) (hs1 : c.2.length ≤ 10000000) (hs2 : e.2.length ≤ 10000000) (hL : ∀ n : Nat, n ≤ 8 → LvC w0 T a cap (q : Int) n (brk c n)) (hR : ∀ n : Nat, n ≤ 8 → LvC w0 T a cap (r : Int) n (brk e n)) :
    Calls Tryz.prog 88 #[.slice a T.length cap, .int .i64 (o : Int)] w fun e w' => e = .returned (.string (str (bareN d.x cs))) ∧ Below w.heap.size w w' := by
  have hres : str (bareN d.x cs) = str (brk c (if lvlS d.x.s = 3 then 4 else lvlS d.x.s)) ++ (⟨#[32]⟩ : ByteArray) ++ str d.x.s ++ (⟨#[32]⟩ : ByteArray) ++ str (brk e (lvlS d.x.s + 1)) := by
    unfold bareN
    simp only [hc, he, hk, Option.getD_some, Nat.reduceEqDiff, ↓reduceIte]
    rw [← str_app, ← str_app, ← str_app, ← str_app]
    rfl
  rw [hres]
  have brl : ∀ (x : Nat × List UInt8) (n : Nat), x.2.length ≤ 10000000 → (str (brk x n)).size ≤ 10000002 := fun x n h => by
    rw [str_size]
    unfold brk
    split
    · simp; omega
    · omega
  have l5 : lvlS d.x.s ≤ 5 := by
    unfold lvlS
    repeat' split
    all_goals omega
  obtain ⟨g, off, rfl, hN⟩ := nd_at (hB.t.below hB.b) hB.d
  have ho : o < T.length := (List.getElem?_eq_some_iff.1 hB.d).1
  have HB := hidD hB.b
  clear hB
  obtain ⟨⟨k, p, m, s⟩, l⟩ := d
  replace hk : k = 32 := hk
  subst hk
  obtain ⟨hg, n0, n1, n2, n3, al, capl, n4, hrow⟩ := hN
  have o0 : (0 : Int) ≤ (o : Int) := by omega
  have o1 : (o : Int) < (T.length : Int) := by omega
  replace hl : l = [(q : Int), (r : Int)] := hl
  subst hl
  replace hs0 : s.length ≤ 1000000 := hs0
  replace l5 : lvlS s ≤ 5 := l5
  have HBN : Hid (∀ W, Below w0.heap.size w0 W → IRow W al [(q : Int), (r : Int)] → Calls Tryz.prog 103 #[.slice (some ⟨g, off, none⟩) T.length cap, ndV ⟨32, p, m, s⟩ al 2 capl] W fun e' w' => e' = .returned (.string (str (brk c (if lvlS s = 3 then 4 else lvlS s)) ++ (⟨#[32]⟩ : ByteArray) ++ str s ++ (⟨#[32]⟩ : ByteArray) ++ str (brk e (lvlS s + 1)))) ∧ Below W.heap.size W w') := hidD (fun W hW hI => by
    by_cases h3 : lvlS s = 3
    · rw [if_pos h3, h3]
      exact binary_three p m s al capl q r hW hI hs0 h3 _ _ (brl _ _ hs1) (brl _ _ hs2) (hL 4 (by omega)) (hR 4 (by omega))
    · rw [if_neg h3]
      exact binary_other p m s al capl q r hW hI hs0 (lvlS s) rfl (by omega) l5 _ _ (brl _ _ hs1) (brl _ _ hs2) (hL _ (by omega)) (by have := hR (lvlS s + 1) (by omega); unfold LvC at this; rw [show ((lvlS s + 1 : Nat) : Int) = (lvlS s : Int) + 1 by omega] at this; exact this))
  obtain ⟨tr, htr⟩ : ∃ tr, tr = str (brk c (if lvlS s = 3 then 4 else lvlS s)) ++ (⟨#[32]⟩ : ByteArray) ++ str s ++ (⟨#[32]⟩ : ByteArray) ++ str (brk e (lvlS s + 1)) := ⟨_, rfl⟩
  show Calls Tryz.prog 88 #[.slice (some ⟨g, off, none⟩) T.length cap, .int .i64 (o : Int)] w fun e' w' => e' = .returned (.string (str (brk c (if lvlS s = 3 then 4 else lvlS s)) ++ (⟨#[32]⟩ : ByteArray) ++ str s ++ (⟨#[32]⟩ : ByteArray) ++ str (brk e (lvlS s + 1)))) ∧ Below w.heap.size w w'
  rw [← htr] at HBN ⊢
  have HI : Hid (IRow w al [(q : Int), (r : Int)]) := hidD hrow
  clear hL hR brl hres htr hs1 hs2 hrow
  go_enter Tryz.func88, Tryz.ntmps88
  go_wp2_with (go_at_call 103; refine (HBN.out _ (belA HB.out) (HI.out.below (belA (Below.refl _ _)))).mono ?_; rintro e w1 ⟨rfl, hb1⟩)
  go_ret
  exact ⟨rfl, below1 hb1⟩
set_option maxRecDepth 100000 in
set_option maxHeartbeats 4000000 in
/-- named. -/
theorem named_35 {w0 w : World} {T : List Nd} {a : Option Addr} {cap o : Nat} {d : Nd} (hB : BIn w0 w T a cap o d) (cs : List (Nat × List UInt8)) (hk : d.x.k = 35) (hs0 : d.x.s.length ≤ 1000000) (q : Nat) (hl : d.l = [(q : Int)]) (c : Nat × List UInt8) (hc : cs[0]? = some c) (hs : (brk c 1).length ≤ 10000002) (hL : TxC 35 w0 T a cap q (brk c 1)) :
    Calls Tryz.prog 76 #[.slice a T.length cap, .int .i64 (o : Int)] w fun e w' => e = .returned (.string (str (bareN d.x cs))) ∧ Below w.heap.size w w' := by
  have hres : str (bareN d.x cs) = str d.x.s ++ (⟨#[58, 32]⟩ : ByteArray) ++ str (brk c 1) := by
    unfold bareN
    simp only [hc, hk, Option.getD_some, Nat.reduceEqDiff, ↓reduceIte]
    rw [← str_app, ← str_app]
    rfl
  rw [hres]
  obtain ⟨tb, htb⟩ : ∃ tb, tb = str (brk c 1) := ⟨_, rfl⟩
  have HL := hidD hL
  clear hL
  unfold TxC at HL
  rw [← htb] at HL ⊢
  obtain ⟨z, hz⟩ : ∃ z, tb.size = z := ⟨_, rfl⟩
  have z20 : z ≤ 10000002 := by rw [← hz, htb]; exact hs
  clear htb hres hs
  obtain ⟨g, off, rfl, hN⟩ := nd_at (hB.t.below hB.b) hB.d
  have ho : o < T.length := (List.getElem?_eq_some_iff.1 hB.d).1
  have HB := hidD hB.b
  clear hB
  obtain ⟨⟨k, p, m, s⟩, l⟩ := d
  replace hk : k = 35 := hk
  subst hk
  obtain ⟨hg, n0, n1, n2, n3, al, capl, n4, hrow⟩ := hN
  have o0 : (0 : Int) ≤ (o : Int) := by omega
  have o1 : (o : Int) < (T.length : Int) := by omega
  replace hl : l = [(q : Int)] := hl
  subst hl
  obtain ⟨g2, off2, rfl, hg2, e0⟩ := row_one hrow
  replace hs0 : s.length ≤ 1000000 := hs0
  show Calls Tryz.prog 76 #[.slice (some ⟨g, off, none⟩) T.length cap, .int .i64 (o : Int)] w fun e w' => e = .returned (.string (str s ++ (⟨#[58, 32]⟩ : ByteArray) ++ tb)) ∧ Below w.heap.size w w'
  go_enter Tryz.func76, Tryz.ntmps76
  go_upto_region 3 with fail
  obtain ⟨b, hb⟩ : ∃ b, b = w.heap.size := ⟨_, rfl⟩
  obtain ⟨W1, hW1⟩ : ∃ W1, W1 = w.alloc (Ndo ⟨35, p, m, s⟩ (some ⟨g2, off2, none⟩) 1 capl) := ⟨_, rfl⟩
  have HB1 : Hid (Below w0.heap.size w0 W1) := hidD (by rw [hW1]; exact belA HB.out)
  have HW1 : Hid (Below w.heap.size w W1) := hidD (by rw [hW1]; exact belA (Below.refl _ _))
  have HC : Hid (∀ V, Below W1.heap.size W1 V → V.cell? ⟨b, 3, none⟩ = some (.string (str s)) ∧ V.cell? ⟨b, 4, none⟩ = some (.slice (some ⟨g2, off2, none⟩) 1 capl) ∧ V.cell? ⟨g2, off2, none⟩ = some (.int .i64 (q : Int))) := hidD (fun V hV => by
    have A := (At.new w (Ndo ⟨35, p, m, s⟩ (some ⟨g2, off2, none⟩) 1 capl)).belowB (B := W1.heap.size) (by rw [← hW1]; exact hV) (by rw [hW1]; simp)
    obtain ⟨d0, d1, d2, d3, d4, df⟩ := A.nd
    rw [← hb] at d0 d1 d2 d3 d4
    exact ⟨d3, d4, (((HW1.out.trans (hV.mono HW1.out.size)).cell hg2)).trans e0⟩)
  generalize hWW : w.alloc (Obj.cells #[.int .u8 35, .int .i64 p, .int .i64 m, .string (str s), .slice (some ⟨g2, off2, none⟩) 1 capl] 44) = W9
  obtain rfl : W9 = W1 := by rw [← hWW, hW1]; rfl
  rw [← hb]
  clear hWW hW1 hb n0 n1 n2 n3 n4 hrow hg
  refine beginH (S := fun V => Below W9.heap.size W9 V) (fun _ _ _ _ _ h => h) (by kernel_rfl) (belD (Below.refl _ _)) (fun hq hHeld => ?_)
  refine takeH (i := 0) (d := 13) (.pointer (some ⟨b, 3, none⟩)) hq rfl rfl (by kernel_rfl) (by kernel_rfl) (by kernel_rfl) (by rfl) (fun W hSw => by (go_simp; try first | rfl | (rw [IntKind.wrap_i64]; omega) | (intro hh; exfalso; omega))) hHeld ?_
  try simp only [Act.put, List.setIfInBounds_toArray, List.set_cons_zero, List.set_cons_succ]
  refine takeH (i := 1) (d := 14) (.string (str s)) hq rfl rfl (by kernel_rfl) (by kernel_rfl) (by kernel_rfl) (by rfl) (fun W hSw => by (obtain ⟨c3, c4, e0⟩ := HC.out _ hSw; go_simp; try rfl)) hHeld ?_
  try simp only [Act.put, List.setIfInBounds_toArray, List.set_cons_zero, List.set_cons_succ]
  refine takeH (i := 2) (d := 15) (.string ((str s) ++ ⟨#[58, 32]⟩)) hq rfl rfl (by kernel_rfl) (by kernel_rfl) (by kernel_rfl) (by rfl) (fun W hSw => by (go_simp; (try simp only [ByteArray.size_append, str_size, hz]); (try omega))) hHeld ?_
  try simp only [Act.put, List.setIfInBounds_toArray, List.set_cons_zero, List.set_cons_succ]
  refine takeH (i := 3) (d := 16) (.slice (some ⟨g, off, none⟩) T.length cap) hq rfl rfl (by kernel_rfl) (by kernel_rfl) (by kernel_rfl) (by rfl) (fun W hSw => by (go_simp; try first | rfl | (rw [IntKind.wrap_i64]; omega) | (intro hh; exfalso; omega))) hHeld ?_
  try simp only [Act.put, List.setIfInBounds_toArray, List.set_cons_zero, List.set_cons_succ]
  refine takeH (i := 4) (d := 17) (.pointer (some ⟨b, 4, none⟩)) hq rfl rfl (by kernel_rfl) (by kernel_rfl) (by kernel_rfl) (by rfl) (fun W hSw => by (go_simp; try first | rfl | (rw [IntKind.wrap_i64]; omega) | (intro hh; exfalso; omega))) hHeld ?_
  try simp only [Act.put, List.setIfInBounds_toArray, List.set_cons_zero, List.set_cons_succ]
  refine takeH (i := 5) (d := 18) (.slice (some ⟨g2, off2, none⟩) 1 capl) hq rfl rfl (by kernel_rfl) (by kernel_rfl) (by kernel_rfl) (by rfl) (fun W hSw => by (obtain ⟨c3, c4, e0⟩ := HC.out _ hSw; go_simp; try rfl)) hHeld ?_
  try simp only [Act.put, List.setIfInBounds_toArray, List.set_cons_zero, List.set_cons_succ]
  refine takeH (i := 6) (d := 19) (.pointer (some ⟨g2, off2, none⟩)) hq rfl rfl (by kernel_rfl) (by kernel_rfl) (by kernel_rfl) (by rfl) (fun W hSw => by (go_simp; try first | rfl | (rw [IntKind.wrap_i64]; omega) | (intro hh; exfalso; omega))) hHeld ?_
  try simp only [Act.put, List.setIfInBounds_toArray, List.set_cons_zero, List.set_cons_succ]
  refine takeH (i := 7) (d := 20) (.int .i64 (q : Int)) hq rfl rfl (by kernel_rfl) (by kernel_rfl) (by kernel_rfl) (by rfl) (fun W hSw => by (obtain ⟨c3, c4, e0⟩ := HC.out _ hSw; go_simp; try rfl)) hHeld ?_
  try simp only [Act.put, List.setIfInBounds_toArray, List.set_cons_zero, List.set_cons_succ]
  refine wpAnyH_ready (rs := [8]) (by kernel_rfl) (by simp) ?_
  refine AllReadyH.cons rfl (fun K hK => ?_) AllReadyH.nil
  go_simp
  refine (HL.out _ (below_aft HB1.out (belD (Below.refl _ _)))).mono ?_
  rintro e v1 ⟨rfl, hb1⟩
  have hS1 : Below W9.heap.size W9 v1 := below_aft (belD (Below.refl _ _)) hb1
  go_wp2_with fail
  refine hK.out _ _ hS1 (fun hHeld => ?_)
  clear hK K
  try simp only [Act.put, List.setIfInBounds_toArray, List.set_cons_zero, List.set_cons_succ]
  have HS1 := hidD hS1
  clear hb1 hS1
  refine takeH (i := 9) (d := 22) (.string (((str s) ++ ⟨#[58, 32]⟩) ++ tb)) hq rfl rfl (by kernel_rfl) (by kernel_rfl) (by kernel_rfl) (by rfl) (fun W hSw => by (go_simp; (try simp only [ByteArray.size_append, str_size, hz]); (try omega))) hHeld ?_
  try simp only [Act.put, List.setIfInBounds_toArray, List.set_cons_zero, List.set_cons_succ]
  refine takeH (i := 10) (d := 4) (.string (((str s) ++ ⟨#[58, 32]⟩) ++ tb)) hq rfl rfl (by kernel_rfl) (by kernel_rfl) (by kernel_rfl) (by rfl) (fun W hSw => by (go_simp; try first | rfl | (rw [IntKind.wrap_i64]; omega) | (intro hh; exfalso; omega))) hHeld ?_
  try simp only [Act.put, List.setIfInBounds_toArray, List.set_cons_zero, List.set_cons_succ]
  refine wpAnyH_done (by kernel_rfl) ?_ _
  go_wp2_with fail
  go_ret
  exact ⟨rfl, below_aft HW1.out HS1.out⟩
set_option maxRecDepth 100000 in
set_option maxHeartbeats 4000000 in
/-- referring, without a lifetime. -/
theorem referring_any (m : Bool) (x : List UInt8) (hx : x.length ≤ 10000002) (hP : ∀ W : World, Calls Tryz.prog 53 #[.string (str x), .string ⟨#[38]⟩] W fun e w' => e = .returned (.bool (decide (x.head? = some 38))) ∧ w' = W) (w : World) :
    Calls Tryz.prog 59 #[.string ⟨#[]⟩, .bool m, .string (str x)] w fun e w' => e = .returned (.string (str (rfr m x))) ∧ Below w.heap.size w w' := by
  obtain ⟨tb, htb⟩ : ∃ tb, tb = str x := ⟨_, rfl⟩
  obtain ⟨z, hz⟩ : ∃ z, tb.size = z := ⟨_, rfl⟩
  have z20 : z ≤ 10000002 := by rw [← hz, htb]; exact hx
  cases m with
  | true =>
    have hres : str (rfr true x) = ((⟨#[38, 109, 117, 116, 32]⟩ : ByteArray) ++ tb) := by
      rw [htb, show rfr true x = [38, 109, 117, 116, 32] ++ x from rfl, ← str_app]
      rfl
    rw [hres, ← htb]
    have k1 : ¬ 9223372036854775807 < 5 + z := by omega
    have hE : ((⟨#[38]⟩ : ByteArray) ++ (⟨#[109, 117, 116, 32]⟩ : ByteArray)) = ⟨#[38, 109, 117, 116, 32]⟩ := rfl
    clear hres htb hP
    go_enter Tryz.func59, Tryz.ntmps59
    go_wp2_with fail
    go_ret
    exact ⟨rfl, Below.refl _ _⟩
  | false =>
    by_cases h : x.head? = some 38
    · have hres : str (rfr false x) = ((⟨#[38, 32]⟩ : ByteArray) ++ tb) := by
        rw [htb, show rfr false x = [38, 32] ++ x by unfold rfr; rw [if_neg (by decide), if_pos h], ← str_app]
        rfl
      have HP := hidD hP
      rw [hres, ← htb]
      rw [← htb] at HP
      rw [decide_eq_true h] at HP
      have k1 : ¬ 9223372036854775807 < 2 + z := by omega
      clear hres htb hP h
      go_enter Tryz.func59, Tryz.ntmps59
      go_wp2_with (go_at_call 53; refine (HP.out _).mono ?_; rintro e w1 ⟨rfl, rfl⟩)
      go_ret
      exact ⟨rfl, Below.refl _ _⟩
    · have hres : str (rfr false x) = ((⟨#[38]⟩ : ByteArray) ++ tb) := by
        rw [htb, show rfr false x = [38] ++ x by unfold rfr; rw [if_neg (by decide), if_neg h], ← str_app]
        rfl
      have HP := hidD hP
      rw [hres, ← htb]
      rw [← htb] at HP
      rw [decide_eq_false h] at HP
      have k1 : ¬ 9223372036854775807 < 1 + z := by omega
      clear hres htb hP h
      go_enter Tryz.func59, Tryz.ntmps59
      go_wp2_with (go_at_call 53; refine (HP.out _).mono ?_; rintro e w1 ⟨rfl, rfl⟩)
      go_ret
      exact ⟨rfl, Below.refl _ _⟩
end Go.Proofs.YtahdnfogdnondaaGreatDoor
