import Derived.Test.YtahdnfogdnondaaGreatDoorTbc
namespace Go.Proofs.YtahdnfogdnondaaGreatDoor
open Go.RowKit Go.Shelf
set_option linter.unusedVariables false
set_option linter.unusedSimpArgs false

theorem row_one {w : World} {al : Option Addr} {q : Int} {l : List Int} (h : IRow w al (q :: l)) : ∃ g2 off2, al = some ⟨g2, off2, none⟩ ∧ g2 < w.heap.size ∧ w.cell? ⟨g2, off2, none⟩ = some (.int .i64 q) := by
  obtain ⟨g, off, e, hg, hc⟩ := h (by simp)
  exact ⟨g, off, e, hg, hc 0 q rfl⟩
theorem row_two {w : World} {al : Option Addr} {q r : Int} {l : List Int} (h : IRow w al (q :: r :: l)) : ∃ g2 off2, al = some ⟨g2, off2, none⟩ ∧ g2 < w.heap.size ∧ w.cell? ⟨g2, off2, none⟩ = some (.int .i64 q) ∧ w.cell? ⟨g2, off2 + 1, none⟩ = some (.int .i64 r) := by
  obtain ⟨g, off, e, hg, hc⟩ := h (by simp)
  exact ⟨g, off, e, hg, hc 0 q rfl, hc 1 r rfl⟩
set_option maxRecDepth 100000 in
set_option maxHeartbeats 4000000 in
/-- bare of a number. -/
theorem bare_24 {w0 w : World} {T : List Nd} {a : Option Addr} {cap o : Nat} {d : Nd} (hB : BIn w0 w T a cap o d) (cs : List (Nat × List UInt8)) (hk : d.x.k = 24) (hI : ItC w0 d.x.n) :
    Calls Tryz.prog 88 #[.slice a T.length cap, .int .i64 (o : Int)] w fun e w' => e = .returned (.string (str (bareN d.x cs))) ∧ Below w.heap.size w w' := by
  have HI := hidD hI
  clear hI
  obtain ⟨g, off, rfl, hN⟩ := nd_at (hB.t.below hB.b) hB.d
  have ho : o < T.length := (List.getElem?_eq_some_iff.1 hB.d).1
  have HB := hidD hB.b
  clear hB
  obtain ⟨⟨k, p, m, s⟩, l⟩ := d
  replace hk : k = 24 := hk
  subst hk
  obtain ⟨hg, n0, n1, n2, n3, al, capl, n4, hrow⟩ := hN
  have o0 : (0 : Int) ≤ (o : Int) := by omega
  have o1 : (o : Int) < (T.length : Int) := by omega
  go_enter Tryz.func88, Tryz.ntmps88
  go_wp2_with (go_at_call 89; refine (HI.out _ (belA HB.out)).mono ?_; rintro e w1 ⟨rfl, hb1⟩)
  go_ret
  exact ⟨rfl, below1 hb1⟩
set_option maxRecDepth 100000 in
set_option maxHeartbeats 4000000 in
/-- bare of a truth. -/
theorem bare_25t {w0 w : World} {T : List Nd} {a : Option Addr} {cap o : Nat} {d : Nd} (hB : BIn w0 w T a cap o d) (cs : List (Nat × List UInt8)) (hk : d.x.k = 25) (hm : d.x.n = 1) (hF : ∀ (b : Bool) (W : World), Calls Tryz.prog 102 #[.bool b] W fun e w' => e = .returned (.string (str (if b = true then [116, 114, 117, 101] else [102, 97, 108, 115, 101]))) ∧ w' = W) :
    Calls Tryz.prog 88 #[.slice a T.length cap, .int .i64 (o : Int)] w fun e w' => e = .returned (.string (str (bareN d.x cs))) ∧ Below w.heap.size w w' := by
  have HF := hidD hF
  clear hF
  obtain ⟨g, off, rfl, hN⟩ := nd_at (hB.t.below hB.b) hB.d
  have ho : o < T.length := (List.getElem?_eq_some_iff.1 hB.d).1
  have HB := hidD hB.b
  clear hB
  obtain ⟨⟨k, p, m, s⟩, l⟩ := d
  replace hk : k = 25 := hk
  subst hk
  obtain ⟨hg, n0, n1, n2, n3, al, capl, n4, hrow⟩ := hN
  have o0 : (0 : Int) ≤ (o : Int) := by omega
  have o1 : (o : Int) < (T.length : Int) := by omega
  replace hm : m = 1 := hm
  subst hm
  go_enter Tryz.func88, Tryz.ntmps88
  go_wp2_with (go_at_call 102; refine (HF.out _ _).mono ?_; rintro e w1 ⟨rfl, rfl⟩)
  go_ret
  refine ⟨?_, belA (Below.refl _ _)⟩
  rfl
set_option maxRecDepth 100000 in
set_option maxHeartbeats 4000000 in
/-- bare of a truth. -/
theorem bare_25f {w0 w : World} {T : List Nd} {a : Option Addr} {cap o : Nat} {d : Nd} (hB : BIn w0 w T a cap o d) (cs : List (Nat × List UInt8)) (hk : d.x.k = 25) (hm : ¬ d.x.n = 1) (hF : ∀ (b : Bool) (W : World), Calls Tryz.prog 102 #[.bool b] W fun e w' => e = .returned (.string (str (if b = true then [116, 114, 117, 101] else [102, 97, 108, 115, 101]))) ∧ w' = W) :
    Calls Tryz.prog 88 #[.slice a T.length cap, .int .i64 (o : Int)] w fun e w' => e = .returned (.string (str (bareN d.x cs))) ∧ Below w.heap.size w w' := by
  have HF := hidD hF
  clear hF
  obtain ⟨g, off, rfl, hN⟩ := nd_at (hB.t.below hB.b) hB.d
  have ho : o < T.length := (List.getElem?_eq_some_iff.1 hB.d).1
  have HB := hidD hB.b
  clear hB
  obtain ⟨⟨k, p, m, s⟩, l⟩ := d
  replace hk : k = 25 := hk
  subst hk
  obtain ⟨hg, n0, n1, n2, n3, al, capl, n4, hrow⟩ := hN
  have o0 : (0 : Int) ≤ (o : Int) := by omega
  have o1 : (o : Int) < (T.length : Int) := by omega
  replace hm : ¬ m = 1 := hm
  go_enter Tryz.func88, Tryz.ntmps88
  go_wp2_with (go_at_call 102; refine (HF.out _ _).mono ?_; rintro e w1 ⟨rfl, rfl⟩)
  go_ret
  refine ⟨?_, belA (Below.refl _ _)⟩
  unfold bareN; simp only [Nat.reduceEqDiff, ↓reduceIte, hm]; rfl
set_option maxRecDepth 100000 in
set_option maxHeartbeats 4000000 in
/-- bare of read(). -/
theorem bare_37 {w0 w : World} {T : List Nd} {a : Option Addr} {cap o : Nat} {d : Nd} (hB : BIn w0 w T a cap o d) (cs : List (Nat × List UInt8)) (hk : d.x.k = 37) :
    Calls Tryz.prog 88 #[.slice a T.length cap, .int .i64 (o : Int)] w fun e w' => e = .returned (.string (str (bareN d.x cs))) ∧ Below w.heap.size w w' := by
  obtain ⟨g, off, rfl, hN⟩ := nd_at (hB.t.below hB.b) hB.d
  have ho : o < T.length := (List.getElem?_eq_some_iff.1 hB.d).1
  have HB := hidD hB.b
  clear hB
  obtain ⟨⟨k, p, m, s⟩, l⟩ := d
  replace hk : k = 37 := hk
  subst hk
  obtain ⟨hg, n0, n1, n2, n3, al, capl, n4, hrow⟩ := hN
  have o0 : (0 : Int) ≤ (o : Int) := by omega
  have o1 : (o : Int) < (T.length : Int) := by omega
  go_enter Tryz.func88, Tryz.ntmps88
  go_wp2_with fail
  go_ret
  exact ⟨rfl, belA (Below.refl _ _)⟩
set_option maxRecDepth 100000 in
set_option maxHeartbeats 4000000 in
/-- bare of a sign ahead of an expression. -/
theorem bare_28 {w0 w : World} {T : List Nd} {a : Option Addr} {cap o : Nat} {d : Nd} (hB : BIn w0 w T a cap o d) (cs : List (Nat × List UInt8)) (hk : d.x.k = 28) (q : Nat) (hl : d.l = [(q : Int)]) (c : Nat × List UInt8) (hc : cs[0]? = some c) (hs : (brk c 6).length ≤ 10000002) (hL : LvC w0 T a cap (q : Int) 6 (brk c 6)) :
    Calls Tryz.prog 88 #[.slice a T.length cap, .int .i64 (o : Int)] w fun e w' => e = .returned (.string (str (bareN d.x cs))) ∧ Below w.heap.size w w' := by
  have hres : str (bareN d.x cs) = (⟨#[42]⟩ : ByteArray) ++ str (brk c 6) := by
    unfold bareN
    simp only [hc, hk, Option.getD_some, Nat.reduceEqDiff, ↓reduceIte]
    rw [← str_app]
    rfl
  rw [hres]
  obtain ⟨tb, htb⟩ : ∃ tb, tb = str (brk c 6) := ⟨_, rfl⟩
  have HL := hidD hL
  clear hL
  unfold LvC at HL
  rw [← htb] at HL ⊢
  obtain ⟨z, hz⟩ : ∃ z, tb.size = z := ⟨_, rfl⟩
  have z20 : z ≤ 10000002 := by rw [← hz, htb]; exact hs
  have k1 : ¬ 9223372036854775807 < 1 + z := by omega
  clear htb hres z20 hs
  obtain ⟨g, off, rfl, hN⟩ := nd_at (hB.t.below hB.b) hB.d
  have ho : o < T.length := (List.getElem?_eq_some_iff.1 hB.d).1
  have HB := hidD hB.b
  clear hB
  obtain ⟨⟨k, p, m, s⟩, l⟩ := d
  replace hk : k = 28 := hk
  subst hk
  obtain ⟨hg, n0, n1, n2, n3, al, capl, n4, hrow⟩ := hN
  have o0 : (0 : Int) ≤ (o : Int) := by omega
  have o1 : (o : Int) < (T.length : Int) := by omega
  replace hl : l = [(q : Int)] := hl
  subst hl
  obtain ⟨g2, off2, rfl, hg2, e0⟩ := row_one hrow
  go_enter Tryz.func88, Tryz.ntmps88
  go_wp2_with (go_at_call 58; refine (HL.out _ (belA HB.out)).mono ?_; rintro e w1 ⟨rfl, hb1⟩)
  go_ret
  exact ⟨rfl, below1 hb1⟩
set_option maxRecDepth 100000 in
set_option maxHeartbeats 4000000 in
/-- bare of a sign ahead of an expression. -/
theorem bare_30 {w0 w : World} {T : List Nd} {a : Option Addr} {cap o : Nat} {d : Nd} (hB : BIn w0 w T a cap o d) (cs : List (Nat × List UInt8)) (hk : d.x.k = 30) (q : Nat) (hl : d.l = [(q : Int)]) (c : Nat × List UInt8) (hc : cs[0]? = some c) (hs : (brk c 6).length ≤ 10000002) (hL : LvC w0 T a cap (q : Int) 6 (brk c 6)) :
    Calls Tryz.prog 88 #[.slice a T.length cap, .int .i64 (o : Int)] w fun e w' => e = .returned (.string (str (bareN d.x cs))) ∧ Below w.heap.size w w' := by
  have hres : str (bareN d.x cs) = (⟨#[45]⟩ : ByteArray) ++ str (brk c 6) := by
    unfold bareN
    simp only [hc, hk, Option.getD_some, Nat.reduceEqDiff, ↓reduceIte]
    rw [← str_app]
    rfl
  rw [hres]
  obtain ⟨tb, htb⟩ : ∃ tb, tb = str (brk c 6) := ⟨_, rfl⟩
  have HL := hidD hL
  clear hL
  unfold LvC at HL
  rw [← htb] at HL ⊢
  obtain ⟨z, hz⟩ : ∃ z, tb.size = z := ⟨_, rfl⟩
  have z20 : z ≤ 10000002 := by rw [← hz, htb]; exact hs
  have k1 : ¬ 9223372036854775807 < 1 + z := by omega
  clear htb hres z20 hs
  obtain ⟨g, off, rfl, hN⟩ := nd_at (hB.t.below hB.b) hB.d
  have ho : o < T.length := (List.getElem?_eq_some_iff.1 hB.d).1
  have HB := hidD hB.b
  clear hB
  obtain ⟨⟨k, p, m, s⟩, l⟩ := d
  replace hk : k = 30 := hk
  subst hk
  obtain ⟨hg, n0, n1, n2, n3, al, capl, n4, hrow⟩ := hN
  have o0 : (0 : Int) ≤ (o : Int) := by omega
  have o1 : (o : Int) < (T.length : Int) := by omega
  replace hl : l = [(q : Int)] := hl
  subst hl
  obtain ⟨g2, off2, rfl, hg2, e0⟩ := row_one hrow
  go_enter Tryz.func88, Tryz.ntmps88
  go_wp2_with (go_at_call 58; refine (HL.out _ (belA HB.out)).mono ?_; rintro e w1 ⟨rfl, hb1⟩)
  go_ret
  exact ⟨rfl, below1 hb1⟩
set_option maxRecDepth 100000 in
set_option maxHeartbeats 4000000 in
/-- bare of a sign ahead of an expression. -/
theorem bare_31 {w0 w : World} {T : List Nd} {a : Option Addr} {cap o : Nat} {d : Nd} (hB : BIn w0 w T a cap o d) (cs : List (Nat × List UInt8)) (hk : d.x.k = 31) (q : Nat) (hl : d.l = [(q : Int)]) (c : Nat × List UInt8) (hc : cs[0]? = some c) (hs : (brk c 6).length ≤ 10000002) (hL : LvC w0 T a cap (q : Int) 6 (brk c 6)) :
    Calls Tryz.prog 88 #[.slice a T.length cap, .int .i64 (o : Int)] w fun e w' => e = .returned (.string (str (bareN d.x cs))) ∧ Below w.heap.size w w' := by
  have hres : str (bareN d.x cs) = (⟨#[33]⟩ : ByteArray) ++ str (brk c 6) := by
    unfold bareN
    simp only [hc, hk, Option.getD_some, Nat.reduceEqDiff, ↓reduceIte]
    rw [← str_app]
    rfl
  rw [hres]
  obtain ⟨tb, htb⟩ : ∃ tb, tb = str (brk c 6) := ⟨_, rfl⟩
  have HL := hidD hL
  clear hL
  unfold LvC at HL
  rw [← htb] at HL ⊢
  obtain ⟨z, hz⟩ : ∃ z, tb.size = z := ⟨_, rfl⟩
  have z20 : z ≤ 10000002 := by rw [← hz, htb]; exact hs
  have k1 : ¬ 9223372036854775807 < 1 + z := by omega
  clear htb hres z20 hs
  obtain ⟨g, off, rfl, hN⟩ := nd_at (hB.t.below hB.b) hB.d
  have ho : o < T.length := (List.getElem?_eq_some_iff.1 hB.d).1
  have HB := hidD hB.b
  clear hB
  obtain ⟨⟨k, p, m, s⟩, l⟩ := d
  replace hk : k = 31 := hk
  subst hk
  obtain ⟨hg, n0, n1, n2, n3, al, capl, n4, hrow⟩ := hN
  have o0 : (0 : Int) ≤ (o : Int) := by omega
  have o1 : (o : Int) < (T.length : Int) := by omega
  replace hl : l = [(q : Int)] := hl
  subst hl
  obtain ⟨g2, off2, rfl, hg2, e0⟩ := row_one hrow
  go_enter Tryz.func88, Tryz.ntmps88
  go_wp2_with (go_at_call 58; refine (HL.out _ (belA HB.out)).mono ?_; rintro e w1 ⟨rfl, hb1⟩)
  go_ret
  exact ⟨rfl, below1 hb1⟩
set_option maxRecDepth 100000 in
set_option maxHeartbeats 4000000 in
/-- bare of a box. -/
theorem bare_36 {w0 w : World} {T : List Nd} {a : Option Addr} {cap o : Nat} {d : Nd} (hB : BIn w0 w T a cap o d) (cs : List (Nat × List UInt8)) (hk : d.x.k = 36) (q : Nat) (hl : d.l = [(q : Int)]) (c : Nat × List UInt8) (hc : cs[0]? = some c) (hs : (brk c 1).length ≤ 10000002) (hL : TxC 35 w0 T a cap q (brk c 1)) :
    Calls Tryz.prog 88 #[.slice a T.length cap, .int .i64 (o : Int)] w fun e w' => e = .returned (.string (str (bareN d.x cs))) ∧ Below w.heap.size w w' := by
  have hres : str (bareN d.x cs) = (⟨#[98, 111, 120, 40]⟩ : ByteArray) ++ str (brk c 1) ++ (⟨#[41]⟩ : ByteArray) := by
    unfold bareN
    simp only [hc, hk, Option.getD_some, Nat.reduceEqDiff, ↓reduceIte]
    rw [← str_app, ← str_app]
    rfl
  rw [hres]
  obtain ⟨tb, htb⟩ : ∃ tb, tb = str (brk c 1) := ⟨_, rfl⟩
  have HL := hidD hL
  clear hL
  unfold TxC at HL
  rw [← htb] at HL ⊢
  obtain ⟨z, hz⟩ : ∃ z, tb.size = z := ⟨_, rfl⟩
  have z20 : z ≤ 10000002 := by rw [← hz, htb]; exact hs
  have k1 : ¬ 9223372036854775807 < 4 + z := by omega
  have k2 : ¬ 9223372036854775807 < 4 + z + 1 := by omega
  clear htb hres z20 hs
  obtain ⟨g, off, rfl, hN⟩ := nd_at (hB.t.below hB.b) hB.d
  have ho : o < T.length := (List.getElem?_eq_some_iff.1 hB.d).1
  have HB := hidD hB.b
  clear hB
  obtain ⟨⟨k, p, m, s⟩, l⟩ := d
  replace hk : k = 36 := hk
  subst hk
  obtain ⟨hg, n0, n1, n2, n3, al, capl, n4, hrow⟩ := hN
  have o0 : (0 : Int) ≤ (o : Int) := by omega
  have o1 : (o : Int) < (T.length : Int) := by omega
  replace hl : l = [(q : Int)] := hl
  subst hl
  obtain ⟨g2, off2, rfl, hg2, e0⟩ := row_one hrow
  go_enter Tryz.func88, Tryz.ntmps88
  go_wp2_with (go_at_call 35; refine (HL.out _ (belA HB.out)).mono ?_; rintro e w1 ⟨rfl, hb1⟩)
  go_ret
  exact ⟨rfl, below1 hb1⟩
end Go.Proofs.YtahdnfogdnondaaGreatDoor
