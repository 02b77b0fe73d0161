import Derived.Test.YtjchbclkdbojpaaDoorR
namespace Go.Proofs.YtjchbclkdbojpaaDoor
open Go.RowKit
set_option linter.unusedVariables false
set_option linter.unusedSimpArgs false

set_option maxRecDepth 100000 in
set_option maxHeartbeats 4000000 in
theorem typ_i (b : Nat) (S : List UInt8) (p : Nat) (w : World) (deep : Int) (n : Nat) (hdeep : deep = 48 - n) (hn2 : n ≤ 47) (h : Rd b S p 114 w) (hp : p ≤ S.length) (hS : S.length ≤ 16384) (x : Nat) (hx : ah S p = x) (hxk : x = 105) (q : Nat) (ok : Bool) (hT : tk S [105, 54, 52] p = (q, ok)) (oc : Option Ch) (ho : oc = if ok then some (.leaf 1 0) else none) :
    Calls Tryd.prog 78 #[.pointer (some ⟨b, 0, none⟩), .int .i64 deep] w fun e w' => ∃ f : Fv, e = .returned (.tuple #[f.v, .bool ok]) ∧ TPost b S w (q, oc) f w' := by
  have hbl : b < w.heap.size := h.lt
  have A4 : At (w.alloc zT.o) w.heap.size zT.o := At.new _ _
  have CA : Hid (Calls Tryd.prog 89 #[.pointer (some ⟨b, 0, none⟩)] (w.alloc zT.o) fun e w' => e = .returned (.int .u8 (x : Int)) ∧ Below (w.alloc zT.o).heap.size (w.alloc zT.o) w') := by
    have := ahead_any b S p (w.alloc zT.o) (At.alloc h _) hp hS
    rw [hx] at this
    exact this
  have hRd : Hid (Rd b S p 114 (w.alloc zT.o)) := At.alloc h _
  have HP : Hid (p ≤ S.length) := hp
  have CT : Hid (∀ W, Rd b S p 114 W → Calls Tryd.prog 90 #[.pointer (some ⟨b, 0, none⟩), .string (str [105, 54, 52])] W fun e w' => e = .returned (.bool ok) ∧ Rd b S q 114 w' ∧ But b W w' ∧ q ≤ S.length) := fun W h => take_c b S [105, 54, 52] p W h hp hS (by simp) (by simp) q ok hT
  have HO : Hid (oc = if ok then some (.leaf 1 0) else none) := ho
  subst hxk
  clear h hp hx hn2 hdeep hT ho
  go_enter Tryd.func78, Tryd.ntmps78
  go_wp2_with (first
    | (go_at_call 89; refine CA.out.mono ?_; rintro e w1 ⟨rfl, hb1⟩; have A5 := A4.below hb1; have R1 := At.below hRd.out hb1; have B1 : But b w w1 := ((But.refl b w).alloc _).trans (But.below hb1); have hs1 : w.heap.size + 1 ≤ w1.heap.size := (by have := hb1.size; simp only [World.size_alloc] at this; exact this); obtain ⟨hl4, d0, d1, d2, d3, d4⟩ := A5.ty; have g0 := A5.tyF 0; have g1 := A5.tyF 1; have g2 := A5.tyF 2; have g3 := A5.tyF 3; have g4 := A5.tyF 4)
    | (go_at_call 90; refine (CT.out _ R1).mono ?_; rintro e w2 ⟨rfl, hr2, hb2, hi2⟩; have A6 := A5.but hb2 (by omega); have B2 := B1.trans hb2; clear d0 d1 d2 d3 d4 g0 g1 g2 g3 g4 hl4; obtain ⟨hl4, d0, d1, d2, d3, d4⟩ := A6.ty; have g0 := A6.tyF 0; have g1 := A6.tyF 1; have g2 := A6.tyF 2; have g3 := A6.tyF 3; have g4 := A6.tyF 4))
  obtain ⟨Z1, Z2, Z3, Z5⟩ := fin5 (S := S) (w := w) (⟨1, false, 0, 0, none, 0, 0⟩ : Fv) A6 (Nat.le_refl _) hbl hr2 B2
  simp only [S5, Int.cast_ofNat_Int] at Z1 Z2 Z3
  exact fin_ret Tryd.results78 rfl rfl rfl Z3 ⟨Z1, Z2, hi2, fun c' hc => by
    have e := HO.out
    rw [show oc = some c' from hc] at e
    cases ok with
    | false => simp at e
    | true =>
      simp at e
      subst e
      exact .leaf 1 0⟩
set_option maxRecDepth 100000 in
set_option maxHeartbeats 4000000 in
theorem typ_b (b : Nat) (S : List UInt8) (p : Nat) (w : World) (deep : Int) (n : Nat) (hdeep : deep = 48 - n) (hn2 : n ≤ 47) (h : Rd b S p 114 w) (hp : p ≤ S.length) (hS : S.length ≤ 16384) (x : Nat) (hx : ah S p = x) (hxk : x = 98) (q : Nat) (ok : Bool) (hT : tk S [98, 111, 111, 108] p = (q, ok)) (oc : Option Ch) (ho : oc = if ok then some (.leaf 2 0) else none) :
    Calls Tryd.prog 78 #[.pointer (some ⟨b, 0, none⟩), .int .i64 deep] w fun e w' => ∃ f : Fv, e = .returned (.tuple #[f.v, .bool ok]) ∧ TPost b S w (q, oc) f w' := by
  have hbl : b < w.heap.size := h.lt
  have A4 : At (w.alloc zT.o) w.heap.size zT.o := At.new _ _
  have CA : Hid (Calls Tryd.prog 89 #[.pointer (some ⟨b, 0, none⟩)] (w.alloc zT.o) fun e w' => e = .returned (.int .u8 (x : Int)) ∧ Below (w.alloc zT.o).heap.size (w.alloc zT.o) w') := by
    have := ahead_any b S p (w.alloc zT.o) (At.alloc h _) hp hS
    rw [hx] at this
    exact this
  have hRd : Hid (Rd b S p 114 (w.alloc zT.o)) := At.alloc h _
  have HP : Hid (p ≤ S.length) := hp
  have CT : Hid (∀ W, Rd b S p 114 W → Calls Tryd.prog 90 #[.pointer (some ⟨b, 0, none⟩), .string (str [98, 111, 111, 108])] W fun e w' => e = .returned (.bool ok) ∧ Rd b S q 114 w' ∧ But b W w' ∧ q ≤ S.length) := fun W h => take_c b S [98, 111, 111, 108] p W h hp hS (by simp) (by simp) q ok hT
  have HO : Hid (oc = if ok then some (.leaf 2 0) else none) := ho
  subst hxk
  clear h hp hx hn2 hdeep hT ho
  go_enter Tryd.func78, Tryd.ntmps78
  go_wp2_with (first
    | (go_at_call 89; refine CA.out.mono ?_; rintro e w1 ⟨rfl, hb1⟩; have A5 := A4.below hb1; have R1 := At.below hRd.out hb1; have B1 : But b w w1 := ((But.refl b w).alloc _).trans (But.below hb1); have hs1 : w.heap.size + 1 ≤ w1.heap.size := (by have := hb1.size; simp only [World.size_alloc] at this; exact this); obtain ⟨hl4, d0, d1, d2, d3, d4⟩ := A5.ty; have g0 := A5.tyF 0; have g1 := A5.tyF 1; have g2 := A5.tyF 2; have g3 := A5.tyF 3; have g4 := A5.tyF 4)
    | (go_at_call 90; refine (CT.out _ R1).mono ?_; rintro e w2 ⟨rfl, hr2, hb2, hi2⟩; have A6 := A5.but hb2 (by omega); have B2 := B1.trans hb2; clear d0 d1 d2 d3 d4 g0 g1 g2 g3 g4 hl4; obtain ⟨hl4, d0, d1, d2, d3, d4⟩ := A6.ty; have g0 := A6.tyF 0; have g1 := A6.tyF 1; have g2 := A6.tyF 2; have g3 := A6.tyF 3; have g4 := A6.tyF 4))
  obtain ⟨Z1, Z2, Z3, Z5⟩ := fin5 (S := S) (w := w) (⟨2, false, 0, 0, none, 0, 0⟩ : Fv) A6 (Nat.le_refl _) hbl hr2 B2
  simp only [S5, Int.cast_ofNat_Int] at Z1 Z2 Z3
  exact fin_ret Tryd.results78 rfl rfl rfl Z3 ⟨Z1, Z2, hi2, fun c' hc => by
    have e := HO.out
    rw [show oc = some c' from hc] at e
    cases ok with
    | false => simp at e
    | true =>
      simp at e
      subst e
      exact .leaf 2 0⟩
set_option maxRecDepth 100000 in
set_option maxHeartbeats 4000000 in
theorem typ_s (b : Nat) (S : List UInt8) (p : Nat) (w : World) (deep : Int) (n : Nat) (hdeep : deep = 48 - n) (hn2 : n ≤ 47) (h : Rd b S p 114 w) (hp : p ≤ S.length) (hS : S.length ≤ 16384) (x : Nat) (hx : ah S p = x) (hxk : x = 35) (v : Int) (q : Nat) (ok : Bool) (hN : nm S 31 (p + 1) = (v, q)) (hok : decide (p + 1 < q) = ok) (oc : Option Ch) (ho : oc = if ok then some (.leaf 5 v) else none) :
    Calls Tryd.prog 78 #[.pointer (some ⟨b, 0, none⟩), .int .i64 deep] w fun e w' => ∃ f : Fv, e = .returned (.tuple #[f.v, .bool ok]) ∧ TPost b S w (q, oc) f w' := by
  have hbl : b < w.heap.size := h.lt
  have A4 : At (w.alloc zT.o) w.heap.size zT.o := At.new _ _
  have CA : Hid (Calls Tryd.prog 89 #[.pointer (some ⟨b, 0, none⟩)] (w.alloc zT.o) fun e w' => e = .returned (.int .u8 (x : Int)) ∧ Below (w.alloc zT.o).heap.size (w.alloc zT.o) w') := by
    have := ahead_any b S p (w.alloc zT.o) (At.alloc h _) hp hS
    rw [hx] at this
    exact this
  have hRd : Hid (Rd b S p 114 (w.alloc zT.o)) := At.alloc h _
  have HP : Hid (p ≤ S.length) := hp
  have w3 : IntKind.i64.wrap ((p : Int) + 1) = (p : Int) + 1 := by rw [IntKind.wrap_i64]; omega
  subst hxk
  have hlt : p < S.length := ah_lt (by rw [hx]; simp)
  have e1 : ((p + 1 : Nat) : Int) = (p : Int) + 1 := by omega
  have CN : Hid (∀ W, Rd b S p 114 W → Calls Tryd.prog 91 #[.pointer (some ⟨b, 0, none⟩), .int .i64 31] (W.setCell ⟨b, 1, none⟩ (.int .i64 ((p : Int) + 1))) fun e w' => e = .returned (.tuple #[.int .i64 v, .bool ok]) ∧ Rd b S q 114 w' ∧ But b (W.setCell ⟨b, 1, none⟩ (.int .i64 ((p : Int) + 1))) w' ∧ q ≤ S.length) := fun W h => by
    have hg := Rd.go (p := p) h (p + 1)
    have := number_any b S 31 (by decide) (by decide) (p + 1) (W.setCell ⟨b, 1, none⟩ (.int .i64 ((p + 1 : Nat) : Int))) hg hlt hS
    rw [e1, hN, show decide (p + 1 < (v, q).2) = ok from hok] at this
    exact this.mono fun e w' k => ⟨k.1, k.2.1, k.2.2.1, k.2.2.2.1⟩
  have HO : Hid (oc = if ok then some (.leaf 5 v) else none) := ho
  clear h hp hx hn2 hdeep hN hok ho e1
  go_enter Tryd.func78, Tryd.ntmps78
  go_wp2_with (first
    | (go_at_call 89; refine CA.out.mono ?_; rintro e w1 ⟨rfl, hb1⟩; have A5 := A4.below hb1; have R1 := At.below hRd.out hb1; have B1 : But b w w1 := ((But.refl b w).alloc _).trans (But.below hb1); have hs1 : w.heap.size + 1 ≤ w1.heap.size := (by have := hb1.size; simp only [World.size_alloc] at this; exact this); obtain ⟨hl4, d0, d1, d2, d3, d4⟩ := A5.ty; have g0 := A5.tyF 0; have g1 := A5.tyF 1; have g2 := A5.tyF 2; have g3 := A5.tyF 3; have g4 := A5.tyF 4; obtain ⟨c0, c1⟩ := At.two R1; have f1 := At.twoF R1 1)
    | (go_at_call 91; refine (CN.out w1 R1).mono ?_; rintro e w2 ⟨rfl, hr2, hb2, hi2⟩; have A6 := (A5.set (a := ⟨b, 1, none⟩) (by simp only; omega) (.int .i64 ((p : Int) + 1))).but hb2 (by omega); have B2 := (B1.set 1 (.int .i64 ((p : Int) + 1))).trans hb2; clear d0 d1 d2 d3 d4 g0 g1 g2 g3 g4 hl4; obtain ⟨hl4, d0, d1, d2, d3, d4⟩ := A6.ty; have g0 := A6.tyF 0; have g1 := A6.tyF 1; have g2 := A6.tyF 2; have g3 := A6.tyF 3; have g4 := A6.tyF 4))
  obtain ⟨Z1, Z2, Z3, Z5⟩ := fin5 (S := S) (w := w) (⟨5, false, 0, v, none, 0, 0⟩ : Fv) A6 (Nat.le_refl _) hbl hr2 B2
  simp only [S5, Int.cast_ofNat_Int] at Z1 Z2 Z3
  exact fin_ret Tryd.results78 rfl rfl rfl Z3 ⟨Z1, Z2, hi2, fun c' hc => by
    have e := HO.out
    rw [show oc = some c' from hc] at e
    cases ok with
    | false => simp at e
    | true =>
      simp at e
      subst e
      exact .leaf 5 v⟩
set_option maxRecDepth 100000 in
set_option maxHeartbeats 4000000 in
theorem typ_x (b : Nat) (S : List UInt8) (p : Nat) (w : World) (deep : Int) (n : Nat) (hdeep : deep = 48 - n) (hn2 : n ≤ 47) (h : Rd b S p 114 w) (hp : p ≤ S.length) (hS : S.length ≤ 16384) (x : Nat) (hx : ah S p = x) (hxk : x = 66) (hn1 : 1 ≤ n) (q : Nat) (oc : Option Ch) (ok : Bool) (hB : ∀ W, Rd b S p 114 W → Calls Tryd.prog 92 #[.pointer (some ⟨b, 0, none⟩), .int .i64 deep] W fun e w' => ∃ f : Fv, e = .returned (.tuple #[f.v, .bool ok]) ∧ TPost b S W (q, oc) f w') :
    Calls Tryd.prog 78 #[.pointer (some ⟨b, 0, none⟩), .int .i64 deep] w fun e w' => ∃ f : Fv, e = .returned (.tuple #[f.v, .bool ok]) ∧ TPost b S w (q, oc) f w' := by
  have hbl : b < w.heap.size := h.lt
  have A4 : At (w.alloc zT.o) w.heap.size zT.o := At.new _ _
  have CA : Hid (Calls Tryd.prog 89 #[.pointer (some ⟨b, 0, none⟩)] (w.alloc zT.o) fun e w' => e = .returned (.int .u8 (x : Int)) ∧ Below (w.alloc zT.o).heap.size (w.alloc zT.o) w') := by
    have := ahead_any b S p (w.alloc zT.o) (At.alloc h _) hp hS
    rw [hx] at this
    exact this
  have hRd : Hid (Rd b S p 114 (w.alloc zT.o)) := At.alloc h _
  have HP : Hid (p ≤ S.length) := hp
  subst hxk
  have dl : deep < 48 := by omega
  have CB : Hid (∀ W, Rd b S p 114 W → Calls Tryd.prog 92 #[.pointer (some ⟨b, 0, none⟩), .int .i64 deep] W fun e w' => ∃ f : Fv, e = .returned (.tuple #[f.v, .bool ok]) ∧ TPost b S W (q, oc) f w') := fun W h => hB W h
  clear h hp hx hn2 hdeep hB hn1
  go_enter Tryd.func78, Tryd.ntmps78
  go_wp2_with (first
    | (go_at_call 89; refine CA.out.mono ?_; rintro e w1 ⟨rfl, hb1⟩; have A5 := A4.below hb1; have R1 := At.below hRd.out hb1; have B1 : But b w w1 := ((But.refl b w).alloc _).trans (But.below hb1); have hs1 : w.heap.size + 1 ≤ w1.heap.size := (by have := hb1.size; simp only [World.size_alloc] at this; exact this); obtain ⟨hl4, d0, d1, d2, d3, d4⟩ := A5.ty; have g0 := A5.tyF 0; have g1 := A5.tyF 1; have g2 := A5.tyF 2; have g3 := A5.tyF 3; have g4 := A5.tyF 4)
    | (go_at_call 92; refine (CB.out _ R1).mono ?_; rintro e w2 ⟨f', rfl, hp2⟩; have A6 := A5.but hp2.but (by omega); have B2 := B1.trans hp2.but; have hr2 := hp2.rd; have hi2 := hp2.le; clear d0 d1 d2 d3 d4 g0 g1 g2 g3 g4 hl4; obtain ⟨hl4, d0, d1, d2, d3, d4⟩ := A6.ty; have g0 := A6.tyF 0; have g1 := A6.tyF 1; have g2 := A6.tyF 2; have g3 := A6.tyF 3; have g4 := A6.tyF 4))
  obtain ⟨Z1, Z2, Z3, Z5⟩ := fin5 (S := S) (w := w) f' A6 (Nat.le_refl _) hbl hr2 B2
  exact fin_ret Tryd.results78 rfl rfl rfl Z3 ⟨Z1, Z2, hi2, fun c' hc => (Z5 _ _ _ (by omega) (hp2.own c' hc)).low (by omega)⟩
set_option maxRecDepth 100000 in
set_option maxHeartbeats 4000000 in
theorem typ_r (b : Nat) (S : List UInt8) (p : Nat) (w : World) (deep : Int) (n : Nat) (hdeep : deep = 48 - n) (hn2 : n ≤ 47) (h : Rd b S p 114 w) (hp : p ≤ S.length) (hS : S.length ≤ 16384) (x : Nat) (hx : ah S p = x) (hxk : x = 38) (hn1 : 1 ≤ n) (q : Nat) (oc : Option Ch) (ok : Bool) (hB : ∀ W, Rd b S p 114 W → Calls Tryd.prog 93 #[.pointer (some ⟨b, 0, none⟩), .int .i64 deep] W fun e w' => ∃ f : Fv, e = .returned (.tuple #[f.v, .bool ok]) ∧ TPost b S W (q, oc) f w') :
    Calls Tryd.prog 78 #[.pointer (some ⟨b, 0, none⟩), .int .i64 deep] w fun e w' => ∃ f : Fv, e = .returned (.tuple #[f.v, .bool ok]) ∧ TPost b S w (q, oc) f w' := by
  have hbl : b < w.heap.size := h.lt
  have A4 : At (w.alloc zT.o) w.heap.size zT.o := At.new _ _
  have CA : Hid (Calls Tryd.prog 89 #[.pointer (some ⟨b, 0, none⟩)] (w.alloc zT.o) fun e w' => e = .returned (.int .u8 (x : Int)) ∧ Below (w.alloc zT.o).heap.size (w.alloc zT.o) w') := by
    have := ahead_any b S p (w.alloc zT.o) (At.alloc h _) hp hS
    rw [hx] at this
    exact this
  have hRd : Hid (Rd b S p 114 (w.alloc zT.o)) := At.alloc h _
  have HP : Hid (p ≤ S.length) := hp
  subst hxk
  have dl : deep < 48 := by omega
  have CB : Hid (∀ W, Rd b S p 114 W → Calls Tryd.prog 93 #[.pointer (some ⟨b, 0, none⟩), .int .i64 deep] W fun e w' => ∃ f : Fv, e = .returned (.tuple #[f.v, .bool ok]) ∧ TPost b S W (q, oc) f w') := fun W h => hB W h
  clear h hp hx hn2 hdeep hB hn1
  go_enter Tryd.func78, Tryd.ntmps78
  go_wp2_with (first
    | (go_at_call 89; refine CA.out.mono ?_; rintro e w1 ⟨rfl, hb1⟩; have A5 := A4.below hb1; have R1 := At.below hRd.out hb1; have B1 : But b w w1 := ((But.refl b w).alloc _).trans (But.below hb1); have hs1 : w.heap.size + 1 ≤ w1.heap.size := (by have := hb1.size; simp only [World.size_alloc] at this; exact this); obtain ⟨hl4, d0, d1, d2, d3, d4⟩ := A5.ty; have g0 := A5.tyF 0; have g1 := A5.tyF 1; have g2 := A5.tyF 2; have g3 := A5.tyF 3; have g4 := A5.tyF 4)
    | (go_at_call 93; refine (CB.out _ R1).mono ?_; rintro e w2 ⟨f', rfl, hp2⟩; have A6 := A5.but hp2.but (by omega); have B2 := B1.trans hp2.but; have hr2 := hp2.rd; have hi2 := hp2.le; clear d0 d1 d2 d3 d4 g0 g1 g2 g3 g4 hl4; obtain ⟨hl4, d0, d1, d2, d3, d4⟩ := A6.ty; have g0 := A6.tyF 0; have g1 := A6.tyF 1; have g2 := A6.tyF 2; have g3 := A6.tyF 3; have g4 := A6.tyF 4))
  obtain ⟨Z1, Z2, Z3, Z5⟩ := fin5 (S := S) (w := w) f' A6 (Nat.le_refl _) hbl hr2 B2
  exact fin_ret Tryd.results78 rfl rfl rfl Z3 ⟨Z1, Z2, hi2, fun c' hc => (Z5 _ _ _ (by omega) (hp2.own c' hc)).low (by omega)⟩
set_option maxRecDepth 100000 in
set_option maxHeartbeats 4000000 in
theorem typ_n0 (b : Nat) (S : List UInt8) (p : Nat) (w : World) (deep : Int) (n : Nat) (hdeep : deep = 48 - n) (hn2 : n ≤ 47) (h : Rd b S p 114 w) (hp : p ≤ S.length) (hS : S.length ≤ 16384) (x : Nat) (hx : ah S p = x) (h1 : ¬ x = 105) (h2 : ¬ x = 98) (h3 : ¬ x = 35) (h4 : n = 0) :
    Calls Tryd.prog 78 #[.pointer (some ⟨b, 0, none⟩), .int .i64 deep] w fun e w' => ∃ f : Fv, e = .returned (.tuple #[f.v, .bool false]) ∧ TPost b S w (p, none) f w' := by
  have hbl : b < w.heap.size := h.lt
  have A4 : At (w.alloc zT.o) w.heap.size zT.o := At.new _ _
  have CA : Hid (Calls Tryd.prog 89 #[.pointer (some ⟨b, 0, none⟩)] (w.alloc zT.o) fun e w' => e = .returned (.int .u8 (x : Int)) ∧ Below (w.alloc zT.o).heap.size (w.alloc zT.o) w') := by
    have := ahead_any b S p (w.alloc zT.o) (At.alloc h _) hp hS
    rw [hx] at this
    exact this
  have hRd : Hid (Rd b S p 114 (w.alloc zT.o)) := At.alloc h _
  have HP : Hid (p ≤ S.length) := hp
  have y1 : ¬ (x : Int) = 105 := by omega
  have y2 : ¬ (x : Int) = 98 := by omega
  have y3 : ¬ (x : Int) = 35 := by omega
  have y4 : ¬ deep < 48 := by omega
  clear h hp hx hn2 hdeep h1 h2 h3 h4
  go_enter Tryd.func78, Tryd.ntmps78
  go_wp2_with (first
    | (go_at_call 89; refine CA.out.mono ?_; rintro e w1 ⟨rfl, hb1⟩; have A5 := A4.below hb1; have R1 := At.below hRd.out hb1; have B1 : But b w w1 := ((But.refl b w).alloc _).trans (But.below hb1); have hs1 : w.heap.size + 1 ≤ w1.heap.size := (by have := hb1.size; simp only [World.size_alloc] at this; exact this); obtain ⟨hl4, d0, d1, d2, d3, d4⟩ := A5.ty; have g0 := A5.tyF 0; have g1 := A5.tyF 1; have g2 := A5.tyF 2; have g3 := A5.tyF 3; have g4 := A5.tyF 4))
  all_goals
    obtain ⟨Z1, Z2, Z3, -⟩ := fin5 (S := S) (w := w) zT A5 (Nat.le_refl _) hbl R1 B1
    exact fin_ret Tryd.results78 rfl rfl rfl Z3 ⟨Z1, Z2, HP.out, fun c hc => by cases hc⟩
set_option maxRecDepth 100000 in
set_option maxHeartbeats 4000000 in
theorem typ_n1 (b : Nat) (S : List UInt8) (p : Nat) (w : World) (deep : Int) (n : Nat) (hdeep : deep = 48 - n) (hn2 : n ≤ 47) (h : Rd b S p 114 w) (hp : p ≤ S.length) (hS : S.length ≤ 16384) (x : Nat) (hx : ah S p = x) (h1 : ¬ x = 105) (h2 : ¬ x = 98) (h3 : ¬ x = 35) (h4 : ¬ x = 66) (h5 : ¬ x = 38) :
    Calls Tryd.prog 78 #[.pointer (some ⟨b, 0, none⟩), .int .i64 deep] w fun e w' => ∃ f : Fv, e = .returned (.tuple #[f.v, .bool false]) ∧ TPost b S w (p, none) f w' := by
  have hbl : b < w.heap.size := h.lt
  have A4 : At (w.alloc zT.o) w.heap.size zT.o := At.new _ _
  have CA : Hid (Calls Tryd.prog 89 #[.pointer (some ⟨b, 0, none⟩)] (w.alloc zT.o) fun e w' => e = .returned (.int .u8 (x : Int)) ∧ Below (w.alloc zT.o).heap.size (w.alloc zT.o) w') := by
    have := ahead_any b S p (w.alloc zT.o) (At.alloc h _) hp hS
    rw [hx] at this
    exact this
  have hRd : Hid (Rd b S p 114 (w.alloc zT.o)) := At.alloc h _
  have HP : Hid (p ≤ S.length) := hp
  have y1 : ¬ (x : Int) = 105 := by omega
  have y2 : ¬ (x : Int) = 98 := by omega
  have y3 : ¬ (x : Int) = 35 := by omega
  have y4 : ¬ (x : Int) = 66 := by omega
  have y5 : ¬ (x : Int) = 38 := by omega
  clear h hp hx hn2 hdeep h1 h2 h3 h4 h5
  go_enter Tryd.func78, Tryd.ntmps78
  go_wp2_with (first
    | (go_at_call 89; refine CA.out.mono ?_; rintro e w1 ⟨rfl, hb1⟩; have A5 := A4.below hb1; have R1 := At.below hRd.out hb1; have B1 : But b w w1 := ((But.refl b w).alloc _).trans (But.below hb1); have hs1 : w.heap.size + 1 ≤ w1.heap.size := (by have := hb1.size; simp only [World.size_alloc] at this; exact this); obtain ⟨hl4, d0, d1, d2, d3, d4⟩ := A5.ty; have g0 := A5.tyF 0; have g1 := A5.tyF 1; have g2 := A5.tyF 2; have g3 := A5.tyF 3; have g4 := A5.tyF 4))
  obtain ⟨Z1, Z2, Z3, -⟩ := fin5 (S := S) (w := w) zT A5 (Nat.le_refl _) hbl R1 B1
  exact fin_ret Tryd.results78 rfl rfl rfl Z3 ⟨Z1, Z2, HP.out, fun c hc => by cases hc⟩
end Go.Proofs.YtjchbclkdbojpaaDoor
