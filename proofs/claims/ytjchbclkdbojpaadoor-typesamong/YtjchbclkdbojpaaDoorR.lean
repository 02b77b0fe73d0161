import Derived.Test.YtjchbclkdbojpaaDoorQ
namespace Go.Proofs.YtjchbclkdbojpaaDoor
open Go.RowKit
set_option linter.unusedVariables false
set_option linter.unusedSimpArgs false

/-- A reference that is being read. -/
structure RS (b : Nat) (S : List UInt8) (q : Nat) (w : World) (m : Bool) (r : Int) (W : World) : Prop where
  rd : Rd b S q 114 W
  but : But b w W
  a4 : At W w.heap.size zT.o
  a6 : At W (w.heap.size + 1) (Fv.o ⟨4, m, r, 0, none, 0, 0⟩)
theorem RS.step {b : Nat} {S : List UInt8} {q q' : Nat} {w : World} {m : Bool} {r : Int} {W W' : World} (h : RS b S q w m r W) (hbl : b < w.heap.size) (hr : Rd b S q' 114 W') (hb : But b W W') : RS b S q' w m r W' :=
  ⟨hr, h.but.trans hb, h.a4.but hb (by omega), h.a6.but hb (by omega)⟩
theorem RS.stepB {b : Nat} {S : List UInt8} {q : Nat} {w : World} {m : Bool} {r : Int} {W W' : World} (h : RS b S q w m r W) (hb : Below W.heap.size W W') : RS b S q w m r W' :=
  ⟨At.below h.rd hb, h.but.trans (But.below hb), h.a4.below hb, h.a6.below hb⟩
theorem RS.reg {b : Nat} {S : List UInt8} {q : Nat} {w : World} {m : Bool} {r : Int} {W : World} (h : RS b S q w m r W) (hbl : b < w.heap.size) (r' : Int) : RS b S q w m r' (W.setCell ⟨w.heap.size + 1, 2, none⟩ (.int .i64 r')) :=
  ⟨At.set h.rd (by simp only; omega) _, but_hi h.but (by omega) _ _, At.set h.a4 (by simp only; omega) _, by
    have := heap_setCell_same W (w.heap.size + 1) 2 _ 26 (.int .i64 r') h.a6
    unfold At
    simpa [Fv.o, tyO] using this⟩
theorem RS.mut {b : Nat} {S : List UInt8} {q : Nat} {w : World} {m : Bool} {r : Int} {W : World} (h : RS b S q w m r W) (hbl : b < w.heap.size) : RS b S q w true r (W.setCell ⟨w.heap.size + 1, 1, none⟩ (.bool true)) :=
  ⟨At.set h.rd (by simp only; omega) _, but_hi h.but (by omega) _ _, At.set h.a4 (by simp only; omega) _, by
    have := heap_setCell_same W (w.heap.size + 1) 1 _ 26 (.bool true) h.a6
    unfold At
    simpa [Fv.o, tyO] using this⟩
theorem RS.new {b : Nat} {S : List UInt8} {p : Nat} {w : World} (h : Rd b S p 114 w) : RS b S (p + 1) w false (-1) (((w.setCell ⟨b, 1, none⟩ (.int .i64 ((p : Int) + 1))).alloc zT.o).alloc (Fv.o ⟨4, false, -1, 0, none, 0, 0⟩)) := by
  have hg := Rd.go (p := p) h (p + 1)
  have e1 : ((p + 1 : Nat) : Int) = (p : Int) + 1 := by omega
  rw [e1] at hg
  have hs : (w.setCell ⟨b, 1, none⟩ (.int .i64 ((p : Int) + 1))).heap.size = w.heap.size := by simp
  refine ⟨?_, (((But.refl b w).set 1 _).alloc _).alloc _, ?_, ?_⟩
  · unfold Rd
    rw [e1]
    exact (hg.alloc _).alloc _
  · have := (At.new (w.setCell ⟨b, 1, none⟩ (.int .i64 ((p : Int) + 1))) zT.o).alloc (Fv.o ⟨4, false, -1, 0, none, 0, 0⟩)
    rw [hs] at this
    exact this
  · have := at_snd (w.setCell ⟨b, 1, none⟩ (.int .i64 ((p : Int) + 1))) zT.o (Fv.o ⟨4, false, -1, 0, none, 0, 0⟩)
    rw [hs] at this
    exact this
/-- The end, where it is one. -/
theorem RS.fin {b : Nat} {S : List UInt8} {q : Nat} {w : World} {m : Bool} {r : Int} {W : World} (h : RS b S q w m r W) (hbl : b < w.heap.size) (f' : Fv) (s : Nat) (hs : s = W.heap.size) :
    let G : Fv := ⟨4, m, r, 0, some ⟨s + 1, 0, none⟩, 1, 1⟩
    let V : World := ((S5 (W.setCell ⟨w.heap.size + 1, 4, none⟩ (.slice (some ⟨s + 1, 0, none⟩) 1 1)) w.heap.size G).alloc f'.o).alloc f'.o
    Rd b S q 114 V ∧ But b w V ∧ C5 V w.heap.size 0 G ∧ At V (s + 1) f'.o ∧ (∀ lo f c, w.heap.size + 1 < lo → Own W lo f c → Own V lo f c) := by
  intro G V
  subst hs
  have A4 : At (W.setCell ⟨w.heap.size + 1, 4, none⟩ (.slice (some ⟨W.heap.size + 1, 0, none⟩) 1 1)) w.heap.size zT.o := At.set h.a4 (by simp only; omega) _
  have R1 : Rd b S q 114 (W.setCell ⟨w.heap.size + 1, 4, none⟩ (.slice (some ⟨W.heap.size + 1, 0, none⟩) 1 1)) := At.set h.rd (by simp only; omega) _
  obtain ⟨h1, h2, h3, h4, h5⟩ := finB (S := S) (w := w) G f' A4 (Nat.le_refl _) hbl R1 (but_hi h.but (by omega) _ _)
  refine ⟨At.alloc h1 _, h2.alloc _, h3.below (belA (Below.refl _ _)), ?_, fun lo f c hlo ho => ?_⟩
  · have := At.new ((S5 (W.setCell ⟨w.heap.size + 1, 4, none⟩ (.slice (some ⟨W.heap.size + 1, 0, none⟩) 1 1)) w.heap.size G).alloc f'.o) f'.o
    rw [World.size_alloc, size_S5, show (W.setCell ⟨w.heap.size + 1, 4, none⟩ (.slice (some ⟨W.heap.size + 1, 0, none⟩) 1 1)).heap.size = W.heap.size by simp] at this
    exact this
  · have o1 : Own (W.setCell ⟨w.heap.size + 1, 4, none⟩ (.slice (some ⟨W.heap.size + 1, 0, none⟩) 1 1)) lo f c := ho.keep fun i o hi hA => hA.set (by simp only; omega) _
    exact (h5 lo f c (by omega) o1).bel (belA (Below.refl _ _))
set_option maxRecDepth 100000 in
set_option maxHeartbeats 4000000 in
theorem ref_L1 (b : Nat) (S : List UInt8) (p : Nat) (w : World) (deep : Int) (n : Nat) (hdeep : deep = 48 - n) (hn1 : 1 ≤ n) (hn2 : n ≤ 47) (h : Rd b S p 114 w) (hq1 : p + 1 ≤ S.length) (hS : S.length ≤ 16384) (r : Int) (q2 : Nat) (hx1 : ah S (p + 1) = 39) (hG : rgP S (p + 1) = (r, q2, false)) :
    Calls Tryd.prog 93 #[.pointer (some ⟨b, 0, none⟩), .int .i64 deep] w fun e w' => ∃ f : Fv, e = .returned (.tuple #[f.v, .bool false]) ∧ TPost b S w (q2, none) f w' := by
  have hbl : b < w.heap.size := h.lt
  obtain ⟨c0, c1⟩ := h.two
  have f1 := h.twoF 1
  have w3 : IntKind.i64.wrap ((p : Int) + 1) = (p : Int) + 1 := by rw [IntKind.wrap_i64]; omega
  have w9 : IntKind.i64.wrap (deep + 1) = deep + 1 := by rw [IntKind.wrap_i64]; omega
  have R0 := RS.new h
  have CA : Hid (∀ W, Rd b S (p + 1) 114 W → Calls Tryd.prog 89 #[.pointer (some ⟨b, 0, none⟩)] W fun e w' => e = .returned (.int .u8 39) ∧ Below W.heap.size W w') := fun W h => by
    have := ahead_any b S (p + 1) W h (by first | exact hq1 | exact hq2) hS
    rw [hx1] at this
    exact this
  have CG : Hid (∀ W, Rd b S (p + 1) 114 W → Calls Tryd.prog 102 #[.pointer (some ⟨b, 0, none⟩)] W fun e w' => e = .returned (.tuple #[.int .i64 r, .bool false]) ∧ Rd b S q2 114 w' ∧ But b W w' ∧ q2 ≤ S.length) := fun W h => region_any b S (p + 1) W h (ah_lt (by rw [hx1]; simp)) hS r q2 false hG
  have st1 : Stg 1 := .mk 1
  clear h hdeep hn1 hn2 hq1 hS hx1 hG
  go_enter Tryd.func93, Tryd.ntmps93
  go_wp2_with (first
    | (have _s := st1; clear st1 _s; go_at_call 89; refine (CA.out _ R0.rd).mono ?_; rintro e w1 ⟨rfl, hbw1⟩; have st2 : Stg 2 := .mk 2; have R1 := R0.stepB hbw1; obtain ⟨hl4, d0, d1, d2, d3, d4⟩ := R1.a4.ty; have g0 := R1.a4.tyF 0; have g1 := R1.a4.tyF 1; have g2 := R1.a4.tyF 2; have g3 := R1.a4.tyF 3; have g4 := R1.a4.tyF 4; obtain ⟨hl6, e0, e1, e2, e3, e4⟩ := R1.a6.ty; have k1 := R1.a6.tyF 1; have k2 := R1.a6.tyF 2; have k4 := R1.a6.tyF 4)
    | (have _s := st2; clear st2 _s; go_at_call 102; refine (CG.out _ R1.rd).mono ?_; rintro e w2 ⟨rfl, hrw2, hbw2, hiw2⟩; have st3 : Stg 3 := .mk 3; have R2 := R1.step hbl hrw2 hbw2; clear d0 d1 d2 d3 d4 g0 g1 g2 g3 g4 e0 e1 e2 e3 e4 k1 k2 k4 hl4 hl6; obtain ⟨hl4, d0, d1, d2, d3, d4⟩ := R2.a4.ty; have g0 := R2.a4.tyF 0; have g1 := R2.a4.tyF 1; have g2 := R2.a4.tyF 2; have g3 := R2.a4.tyF 3; have g4 := R2.a4.tyF 4; obtain ⟨hl6, e0, e1, e2, e3, e4⟩ := R2.a6.ty; have k1 := R2.a6.tyF 1; have k2 := R2.a6.tyF 2; have k4 := R2.a6.tyF 4))
  obtain ⟨Z1, Z2, Z3, -⟩ := fin5 (S := S) (w := w) zT (R2.reg hbl r).a4 (Nat.le_refl _) hbl (R2.reg hbl r).rd (R2.reg hbl r).but
  exact fin_ret Tryd.results93 rfl rfl rfl Z3 ⟨Z1, Z2, hiw2, fun c hc => by cases hc⟩
set_option maxRecDepth 100000 in
set_option maxHeartbeats 4000000 in
theorem ref_L3 (b : Nat) (S : List UInt8) (p : Nat) (w : World) (deep : Int) (n : Nat) (hdeep : deep = 48 - n) (hn1 : 1 ≤ n) (hn2 : n ≤ 47) (h : Rd b S p 114 w) (hq1 : p + 1 ≤ S.length) (hS : S.length ≤ 16384) (r : Int) (q2 q3 : Nat) (hx1 : ah S (p + 1) = 39) (hG : rgP S (p + 1) = (r, q2, true)) (hq2 : q2 ≤ S.length) (hr0 : 0 ≤ r) (hx2 : ah S q2 = 109) (hT : tk S [109, 117, 116, 32] q2 = (q3, false)) :
    Calls Tryd.prog 93 #[.pointer (some ⟨b, 0, none⟩), .int .i64 deep] w fun e w' => ∃ f : Fv, e = .returned (.tuple #[f.v, .bool false]) ∧ TPost b S w (q3, none) f w' := by
  have hbl : b < w.heap.size := h.lt
  obtain ⟨c0, c1⟩ := h.two
  have f1 := h.twoF 1
  have w3 : IntKind.i64.wrap ((p : Int) + 1) = (p : Int) + 1 := by rw [IntKind.wrap_i64]; omega
  have w9 : IntKind.i64.wrap (deep + 1) = deep + 1 := by rw [IntKind.wrap_i64]; omega
  have R0 := RS.new h
  have CA : Hid (∀ W, Rd b S (p + 1) 114 W → Calls Tryd.prog 89 #[.pointer (some ⟨b, 0, none⟩)] W fun e w' => e = .returned (.int .u8 39) ∧ Below W.heap.size W w') := fun W h => by
    have := ahead_any b S (p + 1) W h (by first | exact hq1 | exact hq2) hS
    rw [hx1] at this
    exact this
  have CB : Hid (∀ W, Rd b S q2 114 W → Calls Tryd.prog 89 #[.pointer (some ⟨b, 0, none⟩)] W fun e w' => e = .returned (.int .u8 109) ∧ Below W.heap.size W w') := fun W h => by
    have := ahead_any b S q2 W h (by first | exact hq1 | exact hq2) hS
    rw [hx2] at this
    exact this
  have CG : Hid (∀ W, Rd b S (p + 1) 114 W → Calls Tryd.prog 102 #[.pointer (some ⟨b, 0, none⟩)] W fun e w' => e = .returned (.tuple #[.int .i64 r, .bool true]) ∧ Rd b S q2 114 w' ∧ But b W w' ∧ q2 ≤ S.length) := fun W h => region_any b S (p + 1) W h (ah_lt (by rw [hx1]; simp)) hS r q2 true hG
  have CT : Hid (∀ W, Rd b S q2 114 W → Calls Tryd.prog 90 #[.pointer (some ⟨b, 0, none⟩), .string (str [109, 117, 116, 32])] W fun e w' => e = .returned (.bool false) ∧ Rd b S q3 114 w' ∧ But b W w' ∧ q3 ≤ S.length) := fun W h => take_c b S [109, 117, 116, 32] q2 W h (by first | exact hq1 | exact hq2) hS (by simp) (by simp) q3 false hT
  have st1 : Stg 1 := .mk 1
  clear h hdeep hn1 hn2 hq1 hS hx1 hG hx2 hT hq2
  go_enter Tryd.func93, Tryd.ntmps93
  go_wp2_with (first
    | (have _s := st1; clear st1 _s; go_at_call 89; refine (CA.out _ R0.rd).mono ?_; rintro e w1 ⟨rfl, hbw1⟩; have st2 : Stg 2 := .mk 2; have R1 := R0.stepB hbw1; obtain ⟨hl4, d0, d1, d2, d3, d4⟩ := R1.a4.ty; have g0 := R1.a4.tyF 0; have g1 := R1.a4.tyF 1; have g2 := R1.a4.tyF 2; have g3 := R1.a4.tyF 3; have g4 := R1.a4.tyF 4; obtain ⟨hl6, e0, e1, e2, e3, e4⟩ := R1.a6.ty; have k1 := R1.a6.tyF 1; have k2 := R1.a6.tyF 2; have k4 := R1.a6.tyF 4)
    | (have _s := st2; clear st2 _s; go_at_call 102; refine (CG.out _ R1.rd).mono ?_; rintro e w2 ⟨rfl, hrw2, hbw2, hiw2⟩; have st3 : Stg 3 := .mk 3; have R2 := R1.step hbl hrw2 hbw2; clear d0 d1 d2 d3 d4 g0 g1 g2 g3 g4 e0 e1 e2 e3 e4 k1 k2 k4 hl4 hl6; obtain ⟨hl4, d0, d1, d2, d3, d4⟩ := R2.a4.ty; have g0 := R2.a4.tyF 0; have g1 := R2.a4.tyF 1; have g2 := R2.a4.tyF 2; have g3 := R2.a4.tyF 3; have g4 := R2.a4.tyF 4; obtain ⟨hl6, e0, e1, e2, e3, e4⟩ := R2.a6.ty; have k1 := R2.a6.tyF 1; have k2 := R2.a6.tyF 2; have k4 := R2.a6.tyF 4)
    | (have _s := st3; clear st3 _s; go_at_call 89; refine (CB.out _ (R2.reg hbl r).rd).mono ?_; rintro e w3 ⟨rfl, hbw3⟩; have st4 : Stg 4 := .mk 4; have R3 := (R2.reg hbl r).stepB hbw3; clear d0 d1 d2 d3 d4 g0 g1 g2 g3 g4 e0 e1 e2 e3 e4 k1 k2 k4 hl4 hl6; obtain ⟨hl4, d0, d1, d2, d3, d4⟩ := R3.a4.ty; have g0 := R3.a4.tyF 0; have g1 := R3.a4.tyF 1; have g2 := R3.a4.tyF 2; have g3 := R3.a4.tyF 3; have g4 := R3.a4.tyF 4; obtain ⟨hl6, e0, e1, e2, e3, e4⟩ := R3.a6.ty; have k1 := R3.a6.tyF 1; have k2 := R3.a6.tyF 2; have k4 := R3.a6.tyF 4)
    | (have _s := st4; clear st4 _s; go_at_call 90; refine (CT.out _ R3.rd).mono ?_; rintro e w4 ⟨rfl, hrw4, hbw4, hiw4⟩; have st5 : Stg 5 := .mk 5; have R4 := R3.step hbl hrw4 hbw4; clear d0 d1 d2 d3 d4 g0 g1 g2 g3 g4 e0 e1 e2 e3 e4 k1 k2 k4 hl4 hl6; obtain ⟨hl4, d0, d1, d2, d3, d4⟩ := R4.a4.ty; have g0 := R4.a4.tyF 0; have g1 := R4.a4.tyF 1; have g2 := R4.a4.tyF 2; have g3 := R4.a4.tyF 3; have g4 := R4.a4.tyF 4; obtain ⟨hl6, e0, e1, e2, e3, e4⟩ := R4.a6.ty; have k1 := R4.a6.tyF 1; have k2 := R4.a6.tyF 2; have k4 := R4.a6.tyF 4))
  obtain ⟨Z1, Z2, Z3, -⟩ := fin5 (S := S) (w := w) zT (R4.mut hbl).a4 (Nat.le_refl _) hbl (R4.mut hbl).rd (R4.mut hbl).but
  exact fin_ret Tryd.results93 rfl rfl rfl Z3 ⟨Z1, Z2, hiw4, fun c hc => by cases hc⟩
set_option maxRecDepth 100000 in
set_option maxHeartbeats 4000000 in
theorem ref_L2 (b : Nat) (S : List UInt8) (p : Nat) (w : World) (deep : Int) (n : Nat) (hdeep : deep = 48 - n) (hn1 : 1 ≤ n) (hn2 : n ≤ 47) (h : Rd b S p 114 w) (hq1 : p + 1 ≤ S.length) (hS : S.length ≤ 16384) (r : Int) (q2 q3 : Nat) (q5 : Nat) (oc : Option Ch) (okc : Bool) (hx1 : ah S (p + 1) = 39) (hG : rgP S (p + 1) = (r, q2, true)) (hq2 : q2 ≤ S.length) (hr0 : 0 ≤ r) (hx2 : ah S q2 = 109) (hT : tk S [109, 117, 116, 32] q2 = (q3, true)) (hqR : q3 ≤ S.length) (hR : rdT S n q3 = (q5, oc)) (hoc : oc.isSome = okc) (ih : TypC n) :
    Calls Tryd.prog 93 #[.pointer (some ⟨b, 0, none⟩), .int .i64 deep] w fun e w' => ∃ f : Fv, e = .returned (.tuple #[f.v, .bool okc]) ∧ TPost b S w (q5, oc.map (fun c => Ch.ref true r c)) f w' := by
  have hbl : b < w.heap.size := h.lt
  obtain ⟨c0, c1⟩ := h.two
  have f1 := h.twoF 1
  have w3 : IntKind.i64.wrap ((p : Int) + 1) = (p : Int) + 1 := by rw [IntKind.wrap_i64]; omega
  have w9 : IntKind.i64.wrap (deep + 1) = deep + 1 := by rw [IntKind.wrap_i64]; omega
  have R0 := RS.new h
  have CA : Hid (∀ W, Rd b S (p + 1) 114 W → Calls Tryd.prog 89 #[.pointer (some ⟨b, 0, none⟩)] W fun e w' => e = .returned (.int .u8 39) ∧ Below W.heap.size W w') := fun W h => by
    have := ahead_any b S (p + 1) W h (by first | exact hq1 | exact hq2) hS
    rw [hx1] at this
    exact this
  have CB : Hid (∀ W, Rd b S q2 114 W → Calls Tryd.prog 89 #[.pointer (some ⟨b, 0, none⟩)] W fun e w' => e = .returned (.int .u8 109) ∧ Below W.heap.size W w') := fun W h => by
    have := ahead_any b S q2 W h (by first | exact hq1 | exact hq2) hS
    rw [hx2] at this
    exact this
  have CG : Hid (∀ W, Rd b S (p + 1) 114 W → Calls Tryd.prog 102 #[.pointer (some ⟨b, 0, none⟩)] W fun e w' => e = .returned (.tuple #[.int .i64 r, .bool true]) ∧ Rd b S q2 114 w' ∧ But b W w' ∧ q2 ≤ S.length) := fun W h => region_any b S (p + 1) W h (ah_lt (by rw [hx1]; simp)) hS r q2 true hG
  have CT : Hid (∀ W, Rd b S q2 114 W → Calls Tryd.prog 90 #[.pointer (some ⟨b, 0, none⟩), .string (str [109, 117, 116, 32])] W fun e w' => e = .returned (.bool true) ∧ Rd b S q3 114 w' ∧ But b W w' ∧ q3 ≤ S.length) := fun W h => take_c b S [109, 117, 116, 32] q2 W h (by first | exact hq1 | exact hq2) hS (by simp) (by simp) q3 true hT
  have CR : Hid (∀ W, Rd b S q3 114 W → Calls Tryd.prog 78 #[.pointer (some ⟨b, 0, none⟩), .int .i64 (deep + 1)] W fun e w' => ∃ f : Fv, e = .returned (.tuple #[f.v, .bool okc]) ∧ TPost b S W (q5, oc) f w') := fun W h => by
    have := ih b S q3 W (deep + 1) (q5, oc) hR.symm (by omega) h (by first | exact hq1 | exact hq2 | exact hqR) hS
    rw [show (q5, oc).2.isSome = okc from hoc] at this
    exact this
  have st1 : Stg 1 := .mk 1
  clear h hdeep hn1 hn2 hq1 hS hx1 hG hx2 hT hq2 hqR hR hoc ih
  go_enter Tryd.func93, Tryd.ntmps93
  go_wp2_with (first
    | (have _s := st1; clear st1 _s; go_at_call 89; refine (CA.out _ R0.rd).mono ?_; rintro e w1 ⟨rfl, hbw1⟩; have st2 : Stg 2 := .mk 2; have R1 := R0.stepB hbw1; obtain ⟨hl4, d0, d1, d2, d3, d4⟩ := R1.a4.ty; have g0 := R1.a4.tyF 0; have g1 := R1.a4.tyF 1; have g2 := R1.a4.tyF 2; have g3 := R1.a4.tyF 3; have g4 := R1.a4.tyF 4; obtain ⟨hl6, e0, e1, e2, e3, e4⟩ := R1.a6.ty; have k1 := R1.a6.tyF 1; have k2 := R1.a6.tyF 2; have k4 := R1.a6.tyF 4)
    | (have _s := st2; clear st2 _s; go_at_call 102; refine (CG.out _ R1.rd).mono ?_; rintro e w2 ⟨rfl, hrw2, hbw2, hiw2⟩; have st3 : Stg 3 := .mk 3; have R2 := R1.step hbl hrw2 hbw2; clear d0 d1 d2 d3 d4 g0 g1 g2 g3 g4 e0 e1 e2 e3 e4 k1 k2 k4 hl4 hl6; obtain ⟨hl4, d0, d1, d2, d3, d4⟩ := R2.a4.ty; have g0 := R2.a4.tyF 0; have g1 := R2.a4.tyF 1; have g2 := R2.a4.tyF 2; have g3 := R2.a4.tyF 3; have g4 := R2.a4.tyF 4; obtain ⟨hl6, e0, e1, e2, e3, e4⟩ := R2.a6.ty; have k1 := R2.a6.tyF 1; have k2 := R2.a6.tyF 2; have k4 := R2.a6.tyF 4)
    | (have _s := st3; clear st3 _s; go_at_call 89; refine (CB.out _ (R2.reg hbl r).rd).mono ?_; rintro e w3 ⟨rfl, hbw3⟩; have st4 : Stg 4 := .mk 4; have R3 := (R2.reg hbl r).stepB hbw3; clear d0 d1 d2 d3 d4 g0 g1 g2 g3 g4 e0 e1 e2 e3 e4 k1 k2 k4 hl4 hl6; obtain ⟨hl4, d0, d1, d2, d3, d4⟩ := R3.a4.ty; have g0 := R3.a4.tyF 0; have g1 := R3.a4.tyF 1; have g2 := R3.a4.tyF 2; have g3 := R3.a4.tyF 3; have g4 := R3.a4.tyF 4; obtain ⟨hl6, e0, e1, e2, e3, e4⟩ := R3.a6.ty; have k1 := R3.a6.tyF 1; have k2 := R3.a6.tyF 2; have k4 := R3.a6.tyF 4)
    | (have _s := st4; clear st4 _s; go_at_call 90; refine (CT.out _ R3.rd).mono ?_; rintro e w4 ⟨rfl, hrw4, hbw4, hiw4⟩; have st5 : Stg 5 := .mk 5; have R4 := R3.step hbl hrw4 hbw4; clear d0 d1 d2 d3 d4 g0 g1 g2 g3 g4 e0 e1 e2 e3 e4 k1 k2 k4 hl4 hl6; obtain ⟨hl4, d0, d1, d2, d3, d4⟩ := R4.a4.ty; have g0 := R4.a4.tyF 0; have g1 := R4.a4.tyF 1; have g2 := R4.a4.tyF 2; have g3 := R4.a4.tyF 3; have g4 := R4.a4.tyF 4; obtain ⟨hl6, e0, e1, e2, e3, e4⟩ := R4.a6.ty; have k1 := R4.a6.tyF 1; have k2 := R4.a6.tyF 2; have k4 := R4.a6.tyF 4)
    | (have _s := st5; clear st5 _s; go_at_call 78; refine (CR.out _ (R4.mut hbl).rd).mono ?_; rintro e w5 ⟨f', rfl, hpw5⟩; have R5 := (R4.mut hbl).step hbl hpw5.rd hpw5.but; have LO : w.heap.size + 1 < w5.heap.size := R5.a6.lt; have LO2 : ∀ c, oc = some c → Own w5 (w.heap.size + 2) f' c := (fun c hc => (hpw5.own c hc).low (by have := (R4.mut hbl).a6.lt; first | omega | (simp at this; omega))); have LE := hpw5.le; have HLO2 := (show Hid _ from LO2); clear LO2; clear d0 d1 d2 d3 d4 g0 g1 g2 g3 g4 e0 e1 e2 e3 e4 k1 k2 k4 hl4 hl6; obtain ⟨hl4, d0, d1, d2, d3, d4⟩ := R5.a4.ty; have g0 := R5.a4.tyF 0; have g1 := R5.a4.tyF 1; have g2 := R5.a4.tyF 2; have g3 := R5.a4.tyF 3; have g4 := R5.a4.tyF 4; obtain ⟨hl6, e0, e1, e2, e3, e4⟩ := R5.a6.ty; have k1 := R5.a6.tyF 1; have k2 := R5.a6.tyF 2; have k4 := R5.a6.tyF 4))
  obtain ⟨Z1, Z2, Z3, Z4, Z5⟩ := R5.fin hbl f' w5.heap.size rfl
  simp only [S5, Int.cast_ofNat_Int] at Z1 Z2 Z3 Z4 Z5
  exact fin_ret Tryd.results93 rfl rfl rfl Z3 ⟨Z1, Z2, LE, fun c' hc => by
    cases oc with
    | none => simp at hc
    | some c =>
      simp at hc
      subst hc
      exact .ref _ _ (w5.heap.size + 1) f' c (by omega) Z4 ((Z5 _ _ _ (by omega) (HLO2.out c rfl)).low (by omega))⟩
set_option maxRecDepth 100000 in
set_option maxHeartbeats 4000000 in
theorem ref_L4 (b : Nat) (S : List UInt8) (p : Nat) (w : World) (deep : Int) (n : Nat) (hdeep : deep = 48 - n) (hn1 : 1 ≤ n) (hn2 : n ≤ 47) (h : Rd b S p 114 w) (hq1 : p + 1 ≤ S.length) (hS : S.length ≤ 16384) (r : Int) (q2 x2 : Nat) (q5 : Nat) (oc : Option Ch) (okc : Bool) (hx1 : ah S (p + 1) = 39) (hG : rgP S (p + 1) = (r, q2, true)) (hq2 : q2 ≤ S.length) (hr0 : 0 ≤ r) (hx2 : ah S q2 = x2) (hn109 : ¬ x2 = 109) (hR : rdT S n q2 = (q5, oc)) (hoc : oc.isSome = okc) (ih : TypC n) :
    Calls Tryd.prog 93 #[.pointer (some ⟨b, 0, none⟩), .int .i64 deep] w fun e w' => ∃ f : Fv, e = .returned (.tuple #[f.v, .bool okc]) ∧ TPost b S w (q5, oc.map (fun c => Ch.ref false r c)) f w' := by
  have hbl : b < w.heap.size := h.lt
  obtain ⟨c0, c1⟩ := h.two
  have f1 := h.twoF 1
  have w3 : IntKind.i64.wrap ((p : Int) + 1) = (p : Int) + 1 := by rw [IntKind.wrap_i64]; omega
  have w9 : IntKind.i64.wrap (deep + 1) = deep + 1 := by rw [IntKind.wrap_i64]; omega
  have R0 := RS.new h
  have CA : Hid (∀ W, Rd b S (p + 1) 114 W → Calls Tryd.prog 89 #[.pointer (some ⟨b, 0, none⟩)] W fun e w' => e = .returned (.int .u8 39) ∧ Below W.heap.size W w') := fun W h => by
    have := ahead_any b S (p + 1) W h (by first | exact hq1 | exact hq2) hS
    rw [hx1] at this
    exact this
  have CB : Hid (∀ W, Rd b S q2 114 W → Calls Tryd.prog 89 #[.pointer (some ⟨b, 0, none⟩)] W fun e w' => e = .returned (.int .u8 (x2 : Int)) ∧ Below W.heap.size W w') := fun W h => by
    have := ahead_any b S q2 W h (by first | exact hq1 | exact hq2) hS
    rw [hx2] at this
    exact this
  have CG : Hid (∀ W, Rd b S (p + 1) 114 W → Calls Tryd.prog 102 #[.pointer (some ⟨b, 0, none⟩)] W fun e w' => e = .returned (.tuple #[.int .i64 r, .bool true]) ∧ Rd b S q2 114 w' ∧ But b W w' ∧ q2 ≤ S.length) := fun W h => region_any b S (p + 1) W h (ah_lt (by rw [hx1]; simp)) hS r q2 true hG
  have CR : Hid (∀ W, Rd b S q2 114 W → Calls Tryd.prog 78 #[.pointer (some ⟨b, 0, none⟩), .int .i64 (deep + 1)] W fun e w' => ∃ f : Fv, e = .returned (.tuple #[f.v, .bool okc]) ∧ TPost b S W (q5, oc) f w') := fun W h => by
    have := ih b S q2 W (deep + 1) (q5, oc) hR.symm (by omega) h (by first | exact hq1 | exact hq2 | exact hqR) hS
    rw [show (q5, oc).2.isSome = okc from hoc] at this
    exact this
  have y2 : ¬ (x2 : Int) = 109 := by omega
  have st1 : Stg 1 := .mk 1
  clear h hdeep hn1 hn2 hq1 hS hx1 hG hx2 hq2 hR hoc ih hn109
  go_enter Tryd.func93, Tryd.ntmps93
  go_wp2_with (first
    | (have _s := st1; clear st1 _s; go_at_call 89; refine (CA.out _ R0.rd).mono ?_; rintro e w1 ⟨rfl, hbw1⟩; have st2 : Stg 2 := .mk 2; have R1 := R0.stepB hbw1; obtain ⟨hl4, d0, d1, d2, d3, d4⟩ := R1.a4.ty; have g0 := R1.a4.tyF 0; have g1 := R1.a4.tyF 1; have g2 := R1.a4.tyF 2; have g3 := R1.a4.tyF 3; have g4 := R1.a4.tyF 4; obtain ⟨hl6, e0, e1, e2, e3, e4⟩ := R1.a6.ty; have k1 := R1.a6.tyF 1; have k2 := R1.a6.tyF 2; have k4 := R1.a6.tyF 4)
    | (have _s := st2; clear st2 _s; go_at_call 102; refine (CG.out _ R1.rd).mono ?_; rintro e w2 ⟨rfl, hrw2, hbw2, hiw2⟩; have st3 : Stg 3 := .mk 3; have R2 := R1.step hbl hrw2 hbw2; clear d0 d1 d2 d3 d4 g0 g1 g2 g3 g4 e0 e1 e2 e3 e4 k1 k2 k4 hl4 hl6; obtain ⟨hl4, d0, d1, d2, d3, d4⟩ := R2.a4.ty; have g0 := R2.a4.tyF 0; have g1 := R2.a4.tyF 1; have g2 := R2.a4.tyF 2; have g3 := R2.a4.tyF 3; have g4 := R2.a4.tyF 4; obtain ⟨hl6, e0, e1, e2, e3, e4⟩ := R2.a6.ty; have k1 := R2.a6.tyF 1; have k2 := R2.a6.tyF 2; have k4 := R2.a6.tyF 4)
    | (have _s := st3; clear st3 _s; go_at_call 89; refine (CB.out _ (R2.reg hbl r).rd).mono ?_; rintro e w3 ⟨rfl, hbw3⟩; have st4 : Stg 4 := .mk 4; have R3 := (R2.reg hbl r).stepB hbw3; clear d0 d1 d2 d3 d4 g0 g1 g2 g3 g4 e0 e1 e2 e3 e4 k1 k2 k4 hl4 hl6; obtain ⟨hl4, d0, d1, d2, d3, d4⟩ := R3.a4.ty; have g0 := R3.a4.tyF 0; have g1 := R3.a4.tyF 1; have g2 := R3.a4.tyF 2; have g3 := R3.a4.tyF 3; have g4 := R3.a4.tyF 4; obtain ⟨hl6, e0, e1, e2, e3, e4⟩ := R3.a6.ty; have k1 := R3.a6.tyF 1; have k2 := R3.a6.tyF 2; have k4 := R3.a6.tyF 4)
    | (have _s := st4; clear st4 _s; go_at_call 78; refine (CR.out _ R3.rd).mono ?_; rintro e w5 ⟨f', rfl, hpw5⟩; have R5 := R3.step hbl hpw5.rd hpw5.but; have LO : w.heap.size + 1 < w5.heap.size := R5.a6.lt; have LO2 : ∀ c, oc = some c → Own w5 (w.heap.size + 2) f' c := (fun c hc => (hpw5.own c hc).low (by have := R3.a6.lt; first | omega | (simp at this; omega))); have LE := hpw5.le; have HLO2 := (show Hid _ from LO2); clear LO2; clear d0 d1 d2 d3 d4 g0 g1 g2 g3 g4 e0 e1 e2 e3 e4 k1 k2 k4 hl4 hl6; obtain ⟨hl4, d0, d1, d2, d3, d4⟩ := R5.a4.ty; have g0 := R5.a4.tyF 0; have g1 := R5.a4.tyF 1; have g2 := R5.a4.tyF 2; have g3 := R5.a4.tyF 3; have g4 := R5.a4.tyF 4; obtain ⟨hl6, e0, e1, e2, e3, e4⟩ := R5.a6.ty; have k1 := R5.a6.tyF 1; have k2 := R5.a6.tyF 2; have k4 := R5.a6.tyF 4))
  obtain ⟨Z1, Z2, Z3, Z4, Z5⟩ := R5.fin hbl f' w5.heap.size rfl
  simp only [S5, Int.cast_ofNat_Int] at Z1 Z2 Z3 Z4 Z5
  exact fin_ret Tryd.results93 rfl rfl rfl Z3 ⟨Z1, Z2, LE, fun c' hc => by
    cases oc with
    | none => simp at hc
    | some c =>
      simp at hc
      subst hc
      exact .ref _ _ (w5.heap.size + 1) f' c (by omega) Z4 ((Z5 _ _ _ (by omega) (HLO2.out c rfl)).low (by omega))⟩
set_option maxRecDepth 100000 in
set_option maxHeartbeats 4000000 in
theorem ref_L6 (b : Nat) (S : List UInt8) (p : Nat) (w : World) (deep : Int) (n : Nat) (hdeep : deep = 48 - n) (hn1 : 1 ≤ n) (hn2 : n ≤ 47) (h : Rd b S p 114 w) (hq1 : p + 1 ≤ S.length) (hS : S.length ≤ 16384) (q3 : Nat) (hx1 : ah S (p + 1) = 109) (hT : tk S [109, 117, 116, 32] (p + 1) = (q3, false)) :
    Calls Tryd.prog 93 #[.pointer (some ⟨b, 0, none⟩), .int .i64 deep] w fun e w' => ∃ f : Fv, e = .returned (.tuple #[f.v, .bool false]) ∧ TPost b S w (q3, none) f w' := by
  have hbl : b < w.heap.size := h.lt
  obtain ⟨c0, c1⟩ := h.two
  have f1 := h.twoF 1
  have w3 : IntKind.i64.wrap ((p : Int) + 1) = (p : Int) + 1 := by rw [IntKind.wrap_i64]; omega
  have w9 : IntKind.i64.wrap (deep + 1) = deep + 1 := by rw [IntKind.wrap_i64]; omega
  have R0 := RS.new h
  have CA : Hid (∀ W, Rd b S (p + 1) 114 W → Calls Tryd.prog 89 #[.pointer (some ⟨b, 0, none⟩)] W fun e w' => e = .returned (.int .u8 109) ∧ Below W.heap.size W w') := fun W h => by
    have := ahead_any b S (p + 1) W h (by first | exact hq1 | exact hq2) hS
    rw [hx1] at this
    exact this
  have CT : Hid (∀ W, Rd b S (p + 1) 114 W → Calls Tryd.prog 90 #[.pointer (some ⟨b, 0, none⟩), .string (str [109, 117, 116, 32])] W fun e w' => e = .returned (.bool false) ∧ Rd b S q3 114 w' ∧ But b W w' ∧ q3 ≤ S.length) := fun W h => take_c b S [109, 117, 116, 32] (p + 1) W h (by first | exact hq1 | exact hq2) hS (by simp) (by simp) q3 false hT
  have st1 : Stg 1 := .mk 1
  clear h hdeep hn1 hn2 hq1 hS hx1 hT
  go_enter Tryd.func93, Tryd.ntmps93
  go_wp2_with (first
    | (have _s := st1; clear st1 _s; go_at_call 89; refine (CA.out _ R0.rd).mono ?_; rintro e w1 ⟨rfl, hbw1⟩; have st2 : Stg 2 := .mk 2; have R1 := R0.stepB hbw1; obtain ⟨hl4, d0, d1, d2, d3, d4⟩ := R1.a4.ty; have g0 := R1.a4.tyF 0; have g1 := R1.a4.tyF 1; have g2 := R1.a4.tyF 2; have g3 := R1.a4.tyF 3; have g4 := R1.a4.tyF 4; obtain ⟨hl6, e0, e1, e2, e3, e4⟩ := R1.a6.ty; have k1 := R1.a6.tyF 1; have k2 := R1.a6.tyF 2; have k4 := R1.a6.tyF 4)
    | (have _s := st2; clear st2 _s; go_at_call 89; refine (CA.out _ R1.rd).mono ?_; rintro e w2 ⟨rfl, hbw2⟩; have st3 : Stg 3 := .mk 3; have R2 := R1.stepB hbw2; clear d0 d1 d2 d3 d4 g0 g1 g2 g3 g4 e0 e1 e2 e3 e4 k1 k2 k4 hl4 hl6; obtain ⟨hl4, d0, d1, d2, d3, d4⟩ := R2.a4.ty; have g0 := R2.a4.tyF 0; have g1 := R2.a4.tyF 1; have g2 := R2.a4.tyF 2; have g3 := R2.a4.tyF 3; have g4 := R2.a4.tyF 4; obtain ⟨hl6, e0, e1, e2, e3, e4⟩ := R2.a6.ty; have k1 := R2.a6.tyF 1; have k2 := R2.a6.tyF 2; have k4 := R2.a6.tyF 4)
    | (have _s := st3; clear st3 _s; go_at_call 90; refine (CT.out _ R2.rd).mono ?_; rintro e w4 ⟨rfl, hrw4, hbw4, hiw4⟩; have st4 : Stg 4 := .mk 4; have R4 := R2.step hbl hrw4 hbw4; clear d0 d1 d2 d3 d4 g0 g1 g2 g3 g4 e0 e1 e2 e3 e4 k1 k2 k4 hl4 hl6; obtain ⟨hl4, d0, d1, d2, d3, d4⟩ := R4.a4.ty; have g0 := R4.a4.tyF 0; have g1 := R4.a4.tyF 1; have g2 := R4.a4.tyF 2; have g3 := R4.a4.tyF 3; have g4 := R4.a4.tyF 4; obtain ⟨hl6, e0, e1, e2, e3, e4⟩ := R4.a6.ty; have k1 := R4.a6.tyF 1; have k2 := R4.a6.tyF 2; have k4 := R4.a6.tyF 4))
  obtain ⟨Z1, Z2, Z3, -⟩ := fin5 (S := S) (w := w) zT (R4.mut hbl).a4 (Nat.le_refl _) hbl (R4.mut hbl).rd (R4.mut hbl).but
  exact fin_ret Tryd.results93 rfl rfl rfl Z3 ⟨Z1, Z2, hiw4, fun c hc => by cases hc⟩
set_option maxRecDepth 100000 in
set_option maxHeartbeats 4000000 in
theorem ref_L5 (b : Nat) (S : List UInt8) (p : Nat) (w : World) (deep : Int) (n : Nat) (hdeep : deep = 48 - n) (hn1 : 1 ≤ n) (hn2 : n ≤ 47) (h : Rd b S p 114 w) (hq1 : p + 1 ≤ S.length) (hS : S.length ≤ 16384) (q3 : Nat) (q5 : Nat) (oc : Option Ch) (okc : Bool) (hx1 : ah S (p + 1) = 109) (hT : tk S [109, 117, 116, 32] (p + 1) = (q3, true)) (hqR : q3 ≤ S.length) (hR : rdT S n q3 = (q5, oc)) (hoc : oc.isSome = okc) (ih : TypC n) :
    Calls Tryd.prog 93 #[.pointer (some ⟨b, 0, none⟩), .int .i64 deep] w fun e w' => ∃ f : Fv, e = .returned (.tuple #[f.v, .bool okc]) ∧ TPost b S w (q5, oc.map (fun c => Ch.ref true (-1) c)) f w' := by
  have hbl : b < w.heap.size := h.lt
  obtain ⟨c0, c1⟩ := h.two
  have f1 := h.twoF 1
  have w3 : IntKind.i64.wrap ((p : Int) + 1) = (p : Int) + 1 := by rw [IntKind.wrap_i64]; omega
  have w9 : IntKind.i64.wrap (deep + 1) = deep + 1 := by rw [IntKind.wrap_i64]; omega
  have R0 := RS.new h
  have CA : Hid (∀ W, Rd b S (p + 1) 114 W → Calls Tryd.prog 89 #[.pointer (some ⟨b, 0, none⟩)] W fun e w' => e = .returned (.int .u8 109) ∧ Below W.heap.size W w') := fun W h => by
    have := ahead_any b S (p + 1) W h (by first | exact hq1 | exact hq2) hS
    rw [hx1] at this
    exact this
  have CT : Hid (∀ W, Rd b S (p + 1) 114 W → Calls Tryd.prog 90 #[.pointer (some ⟨b, 0, none⟩), .string (str [109, 117, 116, 32])] W fun e w' => e = .returned (.bool true) ∧ Rd b S q3 114 w' ∧ But b W w' ∧ q3 ≤ S.length) := fun W h => take_c b S [109, 117, 116, 32] (p + 1) W h (by first | exact hq1 | exact hq2) hS (by simp) (by simp) q3 true hT
  have CR : Hid (∀ W, Rd b S q3 114 W → Calls Tryd.prog 78 #[.pointer (some ⟨b, 0, none⟩), .int .i64 (deep + 1)] W fun e w' => ∃ f : Fv, e = .returned (.tuple #[f.v, .bool okc]) ∧ TPost b S W (q5, oc) f w') := fun W h => by
    have := ih b S q3 W (deep + 1) (q5, oc) hR.symm (by omega) h (by first | exact hq1 | exact hq2 | exact hqR) hS
    rw [show (q5, oc).2.isSome = okc from hoc] at this
    exact this
  have st1 : Stg 1 := .mk 1
  clear h hdeep hn1 hn2 hq1 hS hx1 hT hqR hR hoc ih
  go_enter Tryd.func93, Tryd.ntmps93
  go_wp2_with (first
    | (have _s := st1; clear st1 _s; go_at_call 89; refine (CA.out _ R0.rd).mono ?_; rintro e w1 ⟨rfl, hbw1⟩; have st2 : Stg 2 := .mk 2; have R1 := R0.stepB hbw1; obtain ⟨hl4, d0, d1, d2, d3, d4⟩ := R1.a4.ty; have g0 := R1.a4.tyF 0; have g1 := R1.a4.tyF 1; have g2 := R1.a4.tyF 2; have g3 := R1.a4.tyF 3; have g4 := R1.a4.tyF 4; obtain ⟨hl6, e0, e1, e2, e3, e4⟩ := R1.a6.ty; have k1 := R1.a6.tyF 1; have k2 := R1.a6.tyF 2; have k4 := R1.a6.tyF 4)
    | (have _s := st2; clear st2 _s; go_at_call 89; refine (CA.out _ R1.rd).mono ?_; rintro e w2 ⟨rfl, hbw2⟩; have st3 : Stg 3 := .mk 3; have R2 := R1.stepB hbw2; clear d0 d1 d2 d3 d4 g0 g1 g2 g3 g4 e0 e1 e2 e3 e4 k1 k2 k4 hl4 hl6; obtain ⟨hl4, d0, d1, d2, d3, d4⟩ := R2.a4.ty; have g0 := R2.a4.tyF 0; have g1 := R2.a4.tyF 1; have g2 := R2.a4.tyF 2; have g3 := R2.a4.tyF 3; have g4 := R2.a4.tyF 4; obtain ⟨hl6, e0, e1, e2, e3, e4⟩ := R2.a6.ty; have k1 := R2.a6.tyF 1; have k2 := R2.a6.tyF 2; have k4 := R2.a6.tyF 4)
    | (have _s := st3; clear st3 _s; go_at_call 90; refine (CT.out _ R2.rd).mono ?_; rintro e w4 ⟨rfl, hrw4, hbw4, hiw4⟩; have st4 : Stg 4 := .mk 4; have R4 := R2.step hbl hrw4 hbw4; clear d0 d1 d2 d3 d4 g0 g1 g2 g3 g4 e0 e1 e2 e3 e4 k1 k2 k4 hl4 hl6; obtain ⟨hl4, d0, d1, d2, d3, d4⟩ := R4.a4.ty; have g0 := R4.a4.tyF 0; have g1 := R4.a4.tyF 1; have g2 := R4.a4.tyF 2; have g3 := R4.a4.tyF 3; have g4 := R4.a4.tyF 4; obtain ⟨hl6, e0, e1, e2, e3, e4⟩ := R4.a6.ty; have k1 := R4.a6.tyF 1; have k2 := R4.a6.tyF 2; have k4 := R4.a6.tyF 4)
    | (have _s := st4; clear st4 _s; go_at_call 78; refine (CR.out _ (R4.mut hbl).rd).mono ?_; rintro e w5 ⟨f', rfl, hpw5⟩; have R5 := (R4.mut hbl).step hbl hpw5.rd hpw5.but; have LO : w.heap.size + 1 < w5.heap.size := R5.a6.lt; have LO2 : ∀ c, oc = some c → Own w5 (w.heap.size + 2) f' c := (fun c hc => (hpw5.own c hc).low (by have := (R4.mut hbl).a6.lt; first | omega | (simp at this; omega))); have LE := hpw5.le; have HLO2 := (show Hid _ from LO2); clear LO2; clear d0 d1 d2 d3 d4 g0 g1 g2 g3 g4 e0 e1 e2 e3 e4 k1 k2 k4 hl4 hl6; obtain ⟨hl4, d0, d1, d2, d3, d4⟩ := R5.a4.ty; have g0 := R5.a4.tyF 0; have g1 := R5.a4.tyF 1; have g2 := R5.a4.tyF 2; have g3 := R5.a4.tyF 3; have g4 := R5.a4.tyF 4; obtain ⟨hl6, e0, e1, e2, e3, e4⟩ := R5.a6.ty; have k1 := R5.a6.tyF 1; have k2 := R5.a6.tyF 2; have k4 := R5.a6.tyF 4))
  obtain ⟨Z1, Z2, Z3, Z4, Z5⟩ := R5.fin hbl f' w5.heap.size rfl
  simp only [S5, Int.cast_ofNat_Int] at Z1 Z2 Z3 Z4 Z5
  exact fin_ret Tryd.results93 rfl rfl rfl Z3 ⟨Z1, Z2, LE, fun c' hc => by
    cases oc with
    | none => simp at hc
    | some c =>
      simp at hc
      subst hc
      exact .ref _ _ (w5.heap.size + 1) f' c (by omega) Z4 ((Z5 _ _ _ (by omega) (HLO2.out c rfl)).low (by omega))⟩
set_option maxRecDepth 100000 in
set_option maxHeartbeats 4000000 in
theorem ref_L8 (b : Nat) (S : List UInt8) (p : Nat) (w : World) (deep : Int) (n : Nat) (hdeep : deep = 48 - n) (hn1 : 1 ≤ n) (hn2 : n ≤ 47) (h : Rd b S p 114 w) (hq1 : p + 1 ≤ S.length) (hS : S.length ≤ 16384) (x1 q4 : Nat) (hx1 : ah S (p + 1) = x1) (hn109 : ¬ x1 = 109) (hn39 : ¬ x1 = 39) (hP : apP S (n + 1) (p + 1) = (q4, false)) :
    Calls Tryd.prog 93 #[.pointer (some ⟨b, 0, none⟩), .int .i64 deep] w fun e w' => ∃ f : Fv, e = .returned (.tuple #[f.v, .bool false]) ∧ TPost b S w (q4, none) f w' := by
  have hbl : b < w.heap.size := h.lt
  obtain ⟨c0, c1⟩ := h.two
  have f1 := h.twoF 1
  have w3 : IntKind.i64.wrap ((p : Int) + 1) = (p : Int) + 1 := by rw [IntKind.wrap_i64]; omega
  have w9 : IntKind.i64.wrap (deep + 1) = deep + 1 := by rw [IntKind.wrap_i64]; omega
  have R0 := RS.new h
  have CA : Hid (∀ W, Rd b S (p + 1) 114 W → Calls Tryd.prog 89 #[.pointer (some ⟨b, 0, none⟩)] W fun e w' => e = .returned (.int .u8 (x1 : Int)) ∧ Below W.heap.size W w') := fun W h => by
    have := ahead_any b S (p + 1) W h (by first | exact hq1 | exact hq2) hS
    rw [hx1] at this
    exact this
  have CP : Hid (∀ W, Rd b S (p + 1) 114 W → Calls Tryd.prog 103 #[.pointer (some ⟨b, 0, none⟩), .int .i64 deep] W fun e w' => e = .returned (.bool false) ∧ Rd b S q4 114 w' ∧ But b W w' ∧ q4 ≤ S.length) := fun W h => apart_any b S (n + 1) (p + 1) W h hq1 hS (by omega) (by omega) deep (by omega) q4 false hP
  have y1 : ¬ (x1 : Int) = 109 := by omega
  have y3 : ¬ (x1 : Int) = 39 := by omega
  have st1 : Stg 1 := .mk 1
  clear h hdeep hn1 hn2 hq1 hS hx1 hP hn109 hn39
  go_enter Tryd.func93, Tryd.ntmps93
  go_wp2_with (first
    | (have _s := st1; clear st1 _s; go_at_call 89; refine (CA.out _ R0.rd).mono ?_; rintro e w1 ⟨rfl, hbw1⟩; have st2 : Stg 2 := .mk 2; have R1 := R0.stepB hbw1; obtain ⟨hl4, d0, d1, d2, d3, d4⟩ := R1.a4.ty; have g0 := R1.a4.tyF 0; have g1 := R1.a4.tyF 1; have g2 := R1.a4.tyF 2; have g3 := R1.a4.tyF 3; have g4 := R1.a4.tyF 4; obtain ⟨hl6, e0, e1, e2, e3, e4⟩ := R1.a6.ty; have k1 := R1.a6.tyF 1; have k2 := R1.a6.tyF 2; have k4 := R1.a6.tyF 4)
    | (have _s := st2; clear st2 _s; go_at_call 89; refine (CA.out _ R1.rd).mono ?_; rintro e w2 ⟨rfl, hbw2⟩; have st3 : Stg 3 := .mk 3; have R2 := R1.stepB hbw2; clear d0 d1 d2 d3 d4 g0 g1 g2 g3 g4 e0 e1 e2 e3 e4 k1 k2 k4 hl4 hl6; obtain ⟨hl4, d0, d1, d2, d3, d4⟩ := R2.a4.ty; have g0 := R2.a4.tyF 0; have g1 := R2.a4.tyF 1; have g2 := R2.a4.tyF 2; have g3 := R2.a4.tyF 3; have g4 := R2.a4.tyF 4; obtain ⟨hl6, e0, e1, e2, e3, e4⟩ := R2.a6.ty; have k1 := R2.a6.tyF 1; have k2 := R2.a6.tyF 2; have k4 := R2.a6.tyF 4)
    | (have _s := st3; clear st3 _s; go_at_call 103; refine (CP.out _ R2.rd).mono ?_; rintro e w4 ⟨rfl, hrw4, hbw4, hiw4⟩; have st4 : Stg 4 := .mk 4; have R4 := R2.step hbl hrw4 hbw4; clear d0 d1 d2 d3 d4 g0 g1 g2 g3 g4 e0 e1 e2 e3 e4 k1 k2 k4 hl4 hl6; obtain ⟨hl4, d0, d1, d2, d3, d4⟩ := R4.a4.ty; have g0 := R4.a4.tyF 0; have g1 := R4.a4.tyF 1; have g2 := R4.a4.tyF 2; have g3 := R4.a4.tyF 3; have g4 := R4.a4.tyF 4; obtain ⟨hl6, e0, e1, e2, e3, e4⟩ := R4.a6.ty; have k1 := R4.a6.tyF 1; have k2 := R4.a6.tyF 2; have k4 := R4.a6.tyF 4))
  obtain ⟨Z1, Z2, Z3, -⟩ := fin5 (S := S) (w := w) zT R4.a4 (Nat.le_refl _) hbl R4.rd R4.but
  exact fin_ret Tryd.results93 rfl rfl rfl Z3 ⟨Z1, Z2, hiw4, fun c hc => by cases hc⟩
set_option maxRecDepth 100000 in
set_option maxHeartbeats 4000000 in
theorem ref_L7 (b : Nat) (S : List UInt8) (p : Nat) (w : World) (deep : Int) (n : Nat) (hdeep : deep = 48 - n) (hn1 : 1 ≤ n) (hn2 : n ≤ 47) (h : Rd b S p 114 w) (hq1 : p + 1 ≤ S.length) (hS : S.length ≤ 16384) (x1 q4 : Nat) (q5 : Nat) (oc : Option Ch) (okc : Bool) (hx1 : ah S (p + 1) = x1) (hn109 : ¬ x1 = 109) (hn39 : ¬ x1 = 39) (hP : apP S (n + 1) (p + 1) = (q4, true)) (hqR : q4 ≤ S.length) (hR : rdT S n q4 = (q5, oc)) (hoc : oc.isSome = okc) (ih : TypC n) :
    Calls Tryd.prog 93 #[.pointer (some ⟨b, 0, none⟩), .int .i64 deep] w fun e w' => ∃ f : Fv, e = .returned (.tuple #[f.v, .bool okc]) ∧ TPost b S w (q5, oc.map (fun c => Ch.ref false (-1) c)) f w' := by
  have hbl : b < w.heap.size := h.lt
  obtain ⟨c0, c1⟩ := h.two
  have f1 := h.twoF 1
  have w3 : IntKind.i64.wrap ((p : Int) + 1) = (p : Int) + 1 := by rw [IntKind.wrap_i64]; omega
  have w9 : IntKind.i64.wrap (deep + 1) = deep + 1 := by rw [IntKind.wrap_i64]; omega
  have R0 := RS.new h
  have CA : Hid (∀ W, Rd b S (p + 1) 114 W → Calls Tryd.prog 89 #[.pointer (some ⟨b, 0, none⟩)] W fun e w' => e = .returned (.int .u8 (x1 : Int)) ∧ Below W.heap.size W w') := fun W h => by
    have := ahead_any b S (p + 1) W h (by first | exact hq1 | exact hq2) hS
    rw [hx1] at this
    exact this
  have CP : Hid (∀ W, Rd b S (p + 1) 114 W → Calls Tryd.prog 103 #[.pointer (some ⟨b, 0, none⟩), .int .i64 deep] W fun e w' => e = .returned (.bool true) ∧ Rd b S q4 114 w' ∧ But b W w' ∧ q4 ≤ S.length) := fun W h => apart_any b S (n + 1) (p + 1) W h hq1 hS (by omega) (by omega) deep (by omega) q4 true hP
  have y1 : ¬ (x1 : Int) = 109 := by omega
  have y3 : ¬ (x1 : Int) = 39 := by omega
  have CR : Hid (∀ W, Rd b S q4 114 W → Calls Tryd.prog 78 #[.pointer (some ⟨b, 0, none⟩), .int .i64 (deep + 1)] W fun e w' => ∃ f : Fv, e = .returned (.tuple #[f.v, .bool okc]) ∧ TPost b S W (q5, oc) f w') := fun W h => by
    have := ih b S q4 W (deep + 1) (q5, oc) hR.symm (by omega) h (by first | exact hq1 | exact hq2 | exact hqR) hS
    rw [show (q5, oc).2.isSome = okc from hoc] at this
    exact this
  have st1 : Stg 1 := .mk 1
  clear h hdeep hn1 hn2 hq1 hS hx1 hP hn109 hn39 hqR hR hoc ih
  go_enter Tryd.func93, Tryd.ntmps93
  go_wp2_with (first
    | (have _s := st1; clear st1 _s; go_at_call 89; refine (CA.out _ R0.rd).mono ?_; rintro e w1 ⟨rfl, hbw1⟩; have st2 : Stg 2 := .mk 2; have R1 := R0.stepB hbw1; obtain ⟨hl4, d0, d1, d2, d3, d4⟩ := R1.a4.ty; have g0 := R1.a4.tyF 0; have g1 := R1.a4.tyF 1; have g2 := R1.a4.tyF 2; have g3 := R1.a4.tyF 3; have g4 := R1.a4.tyF 4; obtain ⟨hl6, e0, e1, e2, e3, e4⟩ := R1.a6.ty; have k1 := R1.a6.tyF 1; have k2 := R1.a6.tyF 2; have k4 := R1.a6.tyF 4)
    | (have _s := st2; clear st2 _s; go_at_call 89; refine (CA.out _ R1.rd).mono ?_; rintro e w2 ⟨rfl, hbw2⟩; have st3 : Stg 3 := .mk 3; have R2 := R1.stepB hbw2; clear d0 d1 d2 d3 d4 g0 g1 g2 g3 g4 e0 e1 e2 e3 e4 k1 k2 k4 hl4 hl6; obtain ⟨hl4, d0, d1, d2, d3, d4⟩ := R2.a4.ty; have g0 := R2.a4.tyF 0; have g1 := R2.a4.tyF 1; have g2 := R2.a4.tyF 2; have g3 := R2.a4.tyF 3; have g4 := R2.a4.tyF 4; obtain ⟨hl6, e0, e1, e2, e3, e4⟩ := R2.a6.ty; have k1 := R2.a6.tyF 1; have k2 := R2.a6.tyF 2; have k4 := R2.a6.tyF 4)
    | (have _s := st3; clear st3 _s; go_at_call 103; refine (CP.out _ R2.rd).mono ?_; rintro e w4 ⟨rfl, hrw4, hbw4, hiw4⟩; have st4 : Stg 4 := .mk 4; have R4 := R2.step hbl hrw4 hbw4; clear d0 d1 d2 d3 d4 g0 g1 g2 g3 g4 e0 e1 e2 e3 e4 k1 k2 k4 hl4 hl6; obtain ⟨hl4, d0, d1, d2, d3, d4⟩ := R4.a4.ty; have g0 := R4.a4.tyF 0; have g1 := R4.a4.tyF 1; have g2 := R4.a4.tyF 2; have g3 := R4.a4.tyF 3; have g4 := R4.a4.tyF 4; obtain ⟨hl6, e0, e1, e2, e3, e4⟩ := R4.a6.ty; have k1 := R4.a6.tyF 1; have k2 := R4.a6.tyF 2; have k4 := R4.a6.tyF 4)
    | (have _s := st4; clear st4 _s; go_at_call 78; refine (CR.out _ R4.rd).mono ?_; rintro e w5 ⟨f', rfl, hpw5⟩; have R5 := R4.step hbl hpw5.rd hpw5.but; have LO : w.heap.size + 1 < w5.heap.size := R5.a6.lt; have LO2 : ∀ c, oc = some c → Own w5 (w.heap.size + 2) f' c := (fun c hc => (hpw5.own c hc).low (by have := R4.a6.lt; first | omega | (simp at this; omega))); have LE := hpw5.le; have HLO2 := (show Hid _ from LO2); clear LO2; clear d0 d1 d2 d3 d4 g0 g1 g2 g3 g4 e0 e1 e2 e3 e4 k1 k2 k4 hl4 hl6; obtain ⟨hl4, d0, d1, d2, d3, d4⟩ := R5.a4.ty; have g0 := R5.a4.tyF 0; have g1 := R5.a4.tyF 1; have g2 := R5.a4.tyF 2; have g3 := R5.a4.tyF 3; have g4 := R5.a4.tyF 4; obtain ⟨hl6, e0, e1, e2, e3, e4⟩ := R5.a6.ty; have k1 := R5.a6.tyF 1; have k2 := R5.a6.tyF 2; have k4 := R5.a6.tyF 4))
  obtain ⟨Z1, Z2, Z3, Z4, Z5⟩ := R5.fin hbl f' w5.heap.size rfl
  simp only [S5, Int.cast_ofNat_Int] at Z1 Z2 Z3 Z4 Z5
  exact fin_ret Tryd.results93 rfl rfl rfl Z3 ⟨Z1, Z2, LE, fun c' hc => by
    cases oc with
    | none => simp at hc
    | some c =>
      simp at hc
      subst hc
      exact .ref _ _ (w5.heap.size + 1) f' c (by omega) Z4 ((Z5 _ _ _ (by omega) (HLO2.out c rfl)).low (by omega))⟩
end Go.Proofs.YtjchbclkdbojpaaDoor
