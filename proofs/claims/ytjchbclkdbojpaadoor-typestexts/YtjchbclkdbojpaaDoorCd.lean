import Derived.Test.YtjchbclkdbojpaaDoorCc
namespace Go.Proofs.YtjchbclkdbojpaaDoor
open Go.RowKit
set_option linter.unusedVariables false
set_option linter.unusedSimpArgs false

theorem next_v (b : Nat) (S : List UInt8) (p : Nat) (st : Bool) (x : Nat) (hx : nx S p st = x) (w : World) (h : Rr b S p st w) (hp : p ≤ S.length) (hS : S.length ≤ 16384) :
    Calls Tryd.prog 94 #[.pointer (some ⟨b, 0, none⟩)] w fun e w' => e = .returned (.int .u8 (x : Int)) ∧ Below w.heap.size w w' := by
  rw [← hx]
  exact next_any b S p st w h hp hS
theorem word_v (b : Nat) (S ws : List UInt8) (p q : Nat) (ok : Bool) (hq : tk S ws p = (q, ok)) (w : World) (h : Rr b S p false w) (hp : p ≤ S.length) (hS : S.length ≤ 16384) (hw : ws.length ≤ 10) (h0 : ∀ c ∈ ws, c.toNat ≠ 0) :
    Calls Tryd.prog 95 #[.pointer (some ⟨b, 0, none⟩), .string (str ws)] w fun e w' => e = .returned (.tuple #[]) ∧ Rr b S q (!ok) w' ∧ But b w w' := by
  have := word_any b S ws _ rfl p w h hp hS hw h0
  rw [hq] at this
  exact this
theorem num_v (b : Nat) (S : List UInt8) (p : Nat) (r : Int) (q : Nat) (hq : nm S maxR p = (r, q)) (w : World) (h : Rr b S p false w) (hp : p ≤ S.length) (hS : S.length ≤ 16384) :
    Calls Tryd.prog 96 #[.pointer (some ⟨b, 0, none⟩), .int .u64 9223372036854775807] w fun e w' => e = .returned (.int .i64 r) ∧ Rr b S q (!decide (p < q)) w' ∧ But b w w' ∧ InR S 9223372036854775807 (r, q) := by
  have := rnumber_any b S 9223372036854775807 (by decide) (by decide) p w h hp hS
  rw [show nm S 9223372036854775807 p = (r, q) from hq] at this
  exact this
theorem wpg_storeI {w : World} {ops : Array Oper} {rest : List Oper} {a : Act} {Q : Exit → Act → World → Prop} {x : Nat} {y : Operand} {ty t : TypeId} {pos : String} {after : Array Edge} (b o : Nat) (n : Int) (ht : t = 3) (hx : a.eval (.tmp x) = .pointer (some ⟨b, o, none⟩)) (hy : a.eval y = .int .i64 n) {v0 : Value} (hc : w.cell? ⟨b, o, none⟩ = some v0) (hf : w.frozen? ⟨b, o, none⟩ = false)
    (h : ∀ w', w' = w.setCell ⟨b, o, none⟩ (.int .i64 n) → wpList Tryd.prog ops Q rest a w') : wpList Tryd.prog ops Q (⟨none, .store t (.tmp x) y, ty, pos, after, none⟩ :: rest) a w := by
  subst ht
  exact wpl_storeI b o v0 n hc hf hx hy h
theorem wpg_storeB {w : World} {ops : Array Oper} {rest : List Oper} {a : Act} {Q : Exit → Act → World → Prop} {x : Nat} {y : Operand} {ty t : TypeId} {pos : String} {after : Array Edge} (b o : Nat) (n : Bool) (ht : t = 4) (hx : a.eval (.tmp x) = .pointer (some ⟨b, o, none⟩)) (hy : a.eval y = .bool n) {v0 : Value} (hc : w.cell? ⟨b, o, none⟩ = some v0) (hf : w.frozen? ⟨b, o, none⟩ = false)
    (h : ∀ w', w' = w.setCell ⟨b, o, none⟩ (.bool n) → wpList Tryd.prog ops Q rest a w') : wpList Tryd.prog ops Q (⟨none, .store t (.tmp x) y, ty, pos, after, none⟩ :: rest) a w := by
  subst ht
  exact wpl_storeB b o v0 n hc hf hx hy h
theorem At.cell1 {w : World} {b : Nat} {f : Fv} (h : At w b f.o) (m : Bool) : At (w.setCell ⟨b, 1, none⟩ (.bool m)) b (Fv.o ⟨f.k, m, f.r, f.s, f.a, f.n, f.cap⟩) := by
  have := heap_setCell_same w b 1 _ 26 (.bool m) h
  unfold At
  simpa using this
/-- Where the reference's 'reference' stands: its reader, its two variables. -/
structure RSt (b : Nat) (S : List UInt8) (w : World) (p : Nat) (st : Bool) (m : Bool) (r : Int) (W : World) : Prop where
  rd : Rr b S p st W
  v4 : At W w.heap.size zT.o
  v5 : At W (w.heap.size + 1) (Fv.o ⟨4, m, r, 0, none, 0, 0⟩)
  but : But b w W
  lt : b < w.heap.size
  le : p ≤ S.length
theorem RSt.below {b : Nat} {S : List UInt8} {w W W' : World} {p : Nat} {st m : Bool} {r : Int} (h : RSt b S w p st m r W) (k : Below W.heap.size W W') : RSt b S w p st m r W' := ⟨At.below h.rd k, h.v4.below k, h.v5.below k, h.but.trans (But.below k), h.lt, h.le⟩
theorem RSt.step {b : Nat} {S : List UInt8} {w W W' : World} {p q : Nat} {st st' m : Bool} {r : Int} (h : RSt b S w p st m r W) (k : But b W W') (hr : Rr b S q st' W') (hq : q ≤ S.length) : RSt b S w q st' m r W' := ⟨hr, h.v4.but k (by have := h.lt; omega), h.v5.but k (by have := h.lt; omega), h.but.trans k, h.lt, hq⟩
theorem RSt.go {b : Nat} {S : List UInt8} {w W : World} {p : Nat} {st m : Bool} {r : Int} (h : RSt b S w p st m r W) (hp : p < S.length) : RSt b S w (p + 1) st m r (W.setCell ⟨b, 1, none⟩ (.int .i64 ((p : Int) + 1))) := h.step ((But.refl _ _).set 1 _) (Rr.go1 h.rd) hp
theorem RSt.stop {b : Nat} {S : List UInt8} {w W : World} {p : Nat} {st m : Bool} {r : Int} (h : RSt b S w p st m r W) : RSt b S w p true m r (W.setCell ⟨b, 2, none⟩ (.bool true)) := h.step ((But.refl _ _).set 2 _) (Rr.stop h.rd true) h.le
theorem but_over {b j : Nat} {x y : World} (h : But b x y) (hj : x.heap.size ≤ j) (o : Nat) (u : Value) : But b x (y.setCell ⟨j, o, none⟩ u) := but_hi h hj o u
theorem RSt.reg {b : Nat} {S : List UInt8} {w W : World} {p : Nat} {st m : Bool} {r : Int} (h : RSt b S w p st m r W) (r' : Int) : RSt b S w p st m r' (W.setCell ⟨w.heap.size + 1, 2, none⟩ (.int .i64 r')) :=
  ⟨At.set h.rd (by simp only; have := h.lt; omega) _, h.v4.set (by simp) _, h.v5.cell2 r', but_over h.but (by omega) 2 _, h.lt, h.le⟩
theorem RSt.mut {b : Nat} {S : List UInt8} {w W : World} {p : Nat} {st m : Bool} {r : Int} (h : RSt b S w p st m r W) (m' : Bool) : RSt b S w p st m' r (W.setCell ⟨w.heap.size + 1, 1, none⟩ (.bool m')) :=
  ⟨At.set h.rd (by simp only; have := h.lt; omega) _, h.v4.set (by simp) _, h.v5.cell1 m', but_over h.but (by omega) 1 _, h.lt, h.le⟩
theorem RSt.start {b : Nat} {S : List UInt8} {w : World} {p : Nat} (h : Rr b S p false w) (hp : p ≤ S.length) : RSt b S w p false false (-1) ((w.alloc zT.o).alloc (Fv.o ⟨4, false, -1, 0, none, 0, 0⟩)) :=
  ⟨(At.alloc h _).alloc _, (At.new w zT.o).alloc _, at_snd _ _ _, ((But.refl b w).alloc _).alloc _, h.lt, hp⟩
/-- The end, a type behind the reference. -/
theorem rfin {b : Nat} {S : List UInt8} {w W w2 : World} {q q1 : Nat} {st st1 m : Bool} {r : Int} {f2 : Fv} {oc : Option Ch} (h : RSt b S w q st m r W) (hb : But b W w2) (hr : Rr b S q1 st1 w2) (hq : q1 ≤ S.length) (hst : st1 = oc.isNone) (ho : ∀ c, oc = some c → Own w2 W.heap.size f2 c) :
    C5 ((S5 (w2.setCell ⟨w.heap.size + 1, 4, none⟩ (.slice (some ⟨w2.heap.size, 0, none⟩) 1 1)) w.heap.size ⟨4, m, r, 0, some ⟨w2.heap.size, 0, none⟩, 1, 1⟩).alloc f2.o) w.heap.size 0 ⟨4, m, r, 0, some ⟨w2.heap.size, 0, none⟩, 1, 1⟩ ∧
      RPost b S w (q1, oc.map (fun c => .ref m r c)) ⟨4, m, r, 0, some ⟨w2.heap.size, 0, none⟩, 1, 1⟩ ((S5 (w2.setCell ⟨w.heap.size + 1, 4, none⟩ (.slice (some ⟨w2.heap.size, 0, none⟩) 1 1)) w.heap.size ⟨4, m, r, 0, some ⟨w2.heap.size, 0, none⟩, 1, 1⟩).alloc f2.o) := by
  have h2 := h.step hb hr hq
  have hbl := h.lt
  have hW : w.heap.size + 2 ≤ W.heap.size := by have := h.v5.lt; omega
  have hz : w.heap.size + 2 ≤ w2.heap.size := by have := h2.v5.lt; omega
  obtain ⟨V, hV⟩ : ∃ V, V = w2.setCell ⟨w.heap.size + 1, 4, none⟩ (.slice (some ⟨w2.heap.size, 0, none⟩) 1 1) := ⟨_, rfl⟩
  have V4 : At V w.heap.size zT.o := by rw [hV]; exact h2.v4.set (by simp) _
  have VR : Rr b S q1 st1 V := by rw [hV]; exact At.set hr (by simp only; omega) _
  have VB : But b w V := by rw [hV]; exact but_over h2.but (by omega) 4 _
  have VS : V.heap.size = w2.heap.size := by rw [hV]; simp
  have VO : ∀ c, oc = some c → Own V W.heap.size f2 c := fun c hc => (ho c hc).keep fun i o hi hA => by rw [hV]; exact hA.set (by simp only; omega) _
  rw [← hV]
  refine ⟨((V4.set5 _).alloc _).ty, ⟨?_, (but_S5 VB (Nat.le_refl _) _).alloc _, hq, fun c hc => ?_⟩⟩
  · have := (VR.s5 (b' := w.heap.size) (by omega) ⟨4, m, r, 0, some ⟨w2.heap.size, 0, none⟩, 1, 1⟩)
    rw [hst] at this
    cases oc <;> exact At.alloc this _
  · cases oc with
    | none => cases hc
    | some c' =>
      cases hc
      refine .ref m r w2.heap.size f2 c' (by omega) ?_ ((((VO c' rfl).keep fun i o hi hA => (hA.S5 (b := w.heap.size) (by omega) _).alloc _)).low (by omega))
      have := At.new (S5 V w.heap.size ⟨4, m, r, 0, some ⟨w2.heap.size, 0, none⟩, 1, 1⟩) f2.o
      rw [size_S5, VS] at this
      exact this
set_option maxRecDepth 100000 in
set_option maxHeartbeats 4000000 in
theorem ref_plain (b : Nat) (S : List UInt8) (p n : Nat) (d : Int) (w : World) (h : Rr b S p false w) (hp : p ≤ S.length) (hpl : p < S.length) (hS : S.length ≤ 16384) (hd2 : 2 ≤ d) (hd48 : d ≤ 48) (hdd : d - 1 = n) (hK : RKind S n) (R1 : Nat × Option Ch) (x : Nat) (hx : nx S (p + 1) false = x) (ix39 : (((x : Nat) : Int) == 39) = false) (ix109 : (((x : Nat) : Int) == 109) = false) (ix38 : (((x : Nat) : Int) == 38) = false) (ix32 : (((x : Nat) : Int) == 32) = false) (hR1 : R1 = rdT S n (p + 1)) : Calls Tryd.prog 97 #[.pointer (some ⟨b, 0, none⟩), .int .i64 d] w fun e w' => ∃ f : Fv, e = .returned f.v ∧ RPost b S w (R1.1, R1.2.map (fun c => .ref false (-1) c)) f w' := by
  have HDD := hid0 hdd
  clear hdd
  have HK := hid0 hK
  have HR1 := hid0 hR1
  clear hK hR1
  go_enter Tryd.func97, Tryd.ntmps97
  have H0 := hid0 (RSt.start h hp)
  obtain ⟨cw0, cw1, cw2⟩ := h.c
  have hbl := h.lt
  have fw1 := h.f 1
  have pb0 : ((p : Nat) : Int) ≤ 100000 := by omega
  have pc0 : (0 : Int) ≤ ((p : Nat) : Int) := by omega
  go_wp2_with ((with_reducible (show wpList _ _ _ (Oper.mk none (Op.store _ (Operand.tmp _) _) _ _ _ none :: _) _ _)); (show wpList _ _ _ (Oper.mk none (Op.store 3 (Operand.tmp 13) _) _ _ _ _ :: _) _ _); refine wpg_storeI b 1 (((p : Nat) : Int) + 1) ?_ ?_ ?_ (v0 := .int .i64 ((p : Nat) : Int)) ?_ ?_ ?_; exact rfl; exact rfl; exact rfl; (go_simp); (go_simp); intro V1 hV1; have H1 : Hid (RSt b S w (p + 1) false false (-1) V1) := (by rw [hV1]; exact RSt.go (RSt.start h hp) (by omega)); clear hV1 pb0 pc0 cw0 cw1 cw2 fw1)
  refine (next_v b S (p + 1) false x hx _ H1.out.rd H1.out.le hS).mono ?_
  rintro e w2 ⟨rfl, hb2⟩
  have H2 := hid0 (H1.out.below hb2)
  clear hb2
  go_wp2_with fail
  refine (next_v b S (p + 1) false x hx _ H2.out.rd H2.out.le hS).mono ?_
  rintro e w3 ⟨rfl, hb3⟩
  have H3 := hid0 (H2.out.below hb3)
  clear hb3
  obtain ⟨hlp, p0, p1, p2, p3, p4⟩ := H3.out.v5.ty
  simp only [Nat.add_zero, Nat.zero_add] at p0 p1 p2 p3 p4
  go_wp2_with fail
  refine (next_v b S (p + 1) false x hx _ H3.out.rd H3.out.le hS).mono ?_
  rintro e w4 ⟨rfl, hb4⟩
  have H4 := hid0 (H3.out.below hb4)
  clear hb4
  go_wp2_with fail
  refine (next_v b S (p + 1) false x hx _ H4.out.rd H4.out.le hS).mono ?_
  rintro e w5 ⟨rfl, hb5⟩
  have H5 := hid0 (H4.out.below hb5)
  clear hb5
  go_wp2_with fail
  refine (HK.out b (p + 1) _ R1 _ HR1.out HDD.out H5.out.rd H5.out.le).mono ?_
  rintro e w9 ⟨f2, rfl, hP⟩
  have HP := hid0 hP
  have HB9 := hid0 hP.but
  have HR9 := hid0 hP.rd
  clear hP
  clear p0 p1 p2 p3 p4 hlp
  have D5 := H5.out.v5.but HB9.out (by omega)
  have D4 := H5.out.v4.but HB9.out (by omega)
  have g0 := (D4).tyF 0
  have g1 := (D4).tyF 1
  have g2 := (D4).tyF 2
  have g3 := (D4).tyF 3
  have g4 := (D4).tyF 4
  obtain ⟨hlq, q0, q1, q2, q3, q4⟩ := (D4).ty
  simp only [Nat.zero_add] at q0 q1 q2 q3 q4
  have k4 := D5.tyF 4
  obtain ⟨hl5, p0, p1, p2, p3, p4⟩ := D5.ty
  simp only [Nat.zero_add] at p0 p1 p2 p3 p4
  clear D4 D5
  go_wp2_with fail
  obtain ⟨F1, F2⟩ := rfin H5.out HB9.out HR9.out HP.out.le rfl HP.out.own
  exact bodyPost_ret (results_c1 (g := ⟨4, false, (-1), 0, some ⟨w9.heap.size, 0, none⟩, 1, 1⟩) Tryd.results97 rfl F1) rfl ⟨_, rfl, F2⟩
set_option maxRecDepth 100000 in
set_option maxHeartbeats 4000000 in
theorem ref_blank2 (b : Nat) (S : List UInt8) (p n : Nat) (d : Int) (w : World) (h : Rr b S p false w) (hp : p ≤ S.length) (hpl : p < S.length) (hS : S.length ≤ 16384) (hd2 : 2 ≤ d) (hd48 : d ≤ 48) (hdd : d - 1 = n) (hK : RKind S n) (R1 : Nat × Option Ch) (hx : nx S (p + 1) false = 32) (hd3 : ¬ 2 < d) (hR1 : R1 = rdT S n (p + 1)) : Calls Tryd.prog 97 #[.pointer (some ⟨b, 0, none⟩), .int .i64 d] w fun e w' => ∃ f : Fv, e = .returned f.v ∧ RPost b S w (R1.1, R1.2.map (fun c => .ref false (-1) c)) f w' := by
  have HDD := hid0 hdd
  clear hdd
  have HK := hid0 hK
  have HR1 := hid0 hR1
  clear hK hR1
  go_enter Tryd.func97, Tryd.ntmps97
  have H0 := hid0 (RSt.start h hp)
  obtain ⟨cw0, cw1, cw2⟩ := h.c
  have hbl := h.lt
  have fw1 := h.f 1
  have pb0 : ((p : Nat) : Int) ≤ 100000 := by omega
  have pc0 : (0 : Int) ≤ ((p : Nat) : Int) := by omega
  go_wp2_with ((with_reducible (show wpList _ _ _ (Oper.mk none (Op.store _ (Operand.tmp _) _) _ _ _ none :: _) _ _)); (show wpList _ _ _ (Oper.mk none (Op.store 3 (Operand.tmp 13) _) _ _ _ _ :: _) _ _); refine wpg_storeI b 1 (((p : Nat) : Int) + 1) ?_ ?_ ?_ (v0 := .int .i64 ((p : Nat) : Int)) ?_ ?_ ?_; exact rfl; exact rfl; exact rfl; (go_simp); (go_simp); intro V1 hV1; have H1 : Hid (RSt b S w (p + 1) false false (-1) V1) := (by rw [hV1]; exact RSt.go (RSt.start h hp) (by omega)); clear hV1 pb0 pc0 cw0 cw1 cw2 fw1)
  refine (next_v b S (p + 1) false 32 hx _ H1.out.rd H1.out.le hS).mono ?_
  rintro e w2 ⟨rfl, hb2⟩
  have H2 := hid0 (H1.out.below hb2)
  clear hb2
  go_wp2_with fail
  refine (next_v b S (p + 1) false 32 hx _ H2.out.rd H2.out.le hS).mono ?_
  rintro e w3 ⟨rfl, hb3⟩
  have H3 := hid0 (H2.out.below hb3)
  clear hb3
  obtain ⟨hlp, p0, p1, p2, p3, p4⟩ := H3.out.v5.ty
  simp only [Nat.add_zero, Nat.zero_add] at p0 p1 p2 p3 p4
  go_wp2_with fail
  refine (next_v b S (p + 1) false 32 hx _ H3.out.rd H3.out.le hS).mono ?_
  rintro e w4 ⟨rfl, hb4⟩
  have H4 := hid0 (H3.out.below hb4)
  clear hb4
  go_wp2_with fail
  refine (next_v b S (p + 1) false 32 hx _ H4.out.rd H4.out.le hS).mono ?_
  rintro e w5 ⟨rfl, hb5⟩
  have H5 := hid0 (H4.out.below hb5)
  clear hb5
  go_wp2_with fail
  refine (HK.out b (p + 1) _ R1 _ HR1.out HDD.out H5.out.rd H5.out.le).mono ?_
  rintro e w9 ⟨f2, rfl, hP⟩
  have HP := hid0 hP
  have HB9 := hid0 hP.but
  have HR9 := hid0 hP.rd
  clear hP
  clear p0 p1 p2 p3 p4 hlp
  have D5 := H5.out.v5.but HB9.out (by omega)
  have D4 := H5.out.v4.but HB9.out (by omega)
  have g0 := (D4).tyF 0
  have g1 := (D4).tyF 1
  have g2 := (D4).tyF 2
  have g3 := (D4).tyF 3
  have g4 := (D4).tyF 4
  obtain ⟨hlq, q0, q1, q2, q3, q4⟩ := (D4).ty
  simp only [Nat.zero_add] at q0 q1 q2 q3 q4
  have k4 := D5.tyF 4
  obtain ⟨hl5, p0, p1, p2, p3, p4⟩ := D5.ty
  simp only [Nat.zero_add] at p0 p1 p2 p3 p4
  clear D4 D5
  go_wp2_with fail
  obtain ⟨F1, F2⟩ := rfin H5.out HB9.out HR9.out HP.out.le rfl HP.out.own
  exact bodyPost_ret (results_c1 (g := ⟨4, false, (-1), 0, some ⟨w9.heap.size, 0, none⟩, 1, 1⟩) Tryd.results97 rfl F1) rfl ⟨_, rfl, F2⟩
set_option maxRecDepth 100000 in
set_option maxHeartbeats 4000000 in
theorem ref_amp (b : Nat) (S : List UInt8) (p n : Nat) (d : Int) (w : World) (h : Rr b S p false w) (hp : p ≤ S.length) (hpl : p < S.length) (hS : S.length ≤ 16384) (hd2 : 2 ≤ d) (hd48 : d ≤ 48) (hdd : d - 1 = n) (hx : nx S (p + 1) false = 38) : Calls Tryd.prog 97 #[.pointer (some ⟨b, 0, none⟩), .int .i64 d] w fun e w' => ∃ f : Fv, e = .returned f.v ∧ RPost b S w ((p + 1), none) f w' := by
  have HDD := hid0 hdd
  clear hdd
  go_enter Tryd.func97, Tryd.ntmps97
  have H0 := hid0 (RSt.start h hp)
  obtain ⟨cw0, cw1, cw2⟩ := h.c
  have hbl := h.lt
  have fw1 := h.f 1
  have pb0 : ((p : Nat) : Int) ≤ 100000 := by omega
  have pc0 : (0 : Int) ≤ ((p : Nat) : Int) := by omega
  go_wp2_with ((with_reducible (show wpList _ _ _ (Oper.mk none (Op.store _ (Operand.tmp _) _) _ _ _ none :: _) _ _)); (show wpList _ _ _ (Oper.mk none (Op.store 3 (Operand.tmp 13) _) _ _ _ _ :: _) _ _); refine wpg_storeI b 1 (((p : Nat) : Int) + 1) ?_ ?_ ?_ (v0 := .int .i64 ((p : Nat) : Int)) ?_ ?_ ?_; exact rfl; exact rfl; exact rfl; (go_simp); (go_simp); intro V1 hV1; have H1 : Hid (RSt b S w (p + 1) false false (-1) V1) := (by rw [hV1]; exact RSt.go (RSt.start h hp) (by omega)); clear hV1 pb0 pc0 cw0 cw1 cw2 fw1)
  refine (next_v b S (p + 1) false 38 hx _ H1.out.rd H1.out.le hS).mono ?_
  rintro e w2 ⟨rfl, hb2⟩
  have H2 := hid0 (H1.out.below hb2)
  clear hb2
  go_wp2_with fail
  refine (next_v b S (p + 1) false 38 hx _ H2.out.rd H2.out.le hS).mono ?_
  rintro e w3 ⟨rfl, hb3⟩
  have H3 := hid0 (H2.out.below hb3)
  clear hb3
  obtain ⟨hlp, p0, p1, p2, p3, p4⟩ := H3.out.v5.ty
  simp only [Nat.add_zero, Nat.zero_add] at p0 p1 p2 p3 p4
  go_wp2_with fail
  refine (next_v b S (p + 1) false 38 hx _ H3.out.rd H3.out.le hS).mono ?_
  rintro e w4 ⟨rfl, hb4⟩
  have H4 := hid0 (H3.out.below hb4)
  clear hb4
  have c2 := (Rr.c (p := (p + 1)) (st := false) H4.out.rd).2.2
  have f2 := Rr.f (p := (p + 1)) (st := false) H4.out.rd 2
  go_wp2_with ((with_reducible (show wpList _ _ _ (Oper.mk none (Op.store _ (Operand.tmp _) _) _ _ _ none :: _) _ _)); refine wpg_storeB b 2 true ?_ ?_ ?_ c2 f2 ?_; exact rfl; exact rfl; exact rfl; intro V5 hV5; have H5 : Hid (RSt b S w (p + 1) true false (-1) V5) := (by rw [hV5]; exact H4.out.stop); clear hV5 c2 f2; (try clear p0 p1 p2 p3 p4 hlp); obtain ⟨hlp, p0, p1, p2, p3, p4⟩ := H5.out.v5.ty; simp only [Nat.zero_add] at p0 p1 p2 p3 p4; have g0 := H5.out.v4.tyF 0; have g1 := H5.out.v4.tyF 1; have g2 := H5.out.v4.tyF 2; have g3 := H5.out.v4.tyF 3; have g4 := H5.out.v4.tyF 4; obtain ⟨hlq, q0, q1, q2, q3, q4⟩ := H5.out.v4.ty; simp only [Nat.zero_add] at q0 q1 q2 q3 q4)
  obtain ⟨F1, F2⟩ := kfin (R := ((p + 1), none)) ⟨4, false, (-1), 0, none, 0, 0⟩ H5.out.v4 (Nat.le_refl _) H5.out.lt H5.out.rd H5.out.but H5.out.le (fun c hc => by cases hc)
  exact bodyPost_ret (results_c1 (g := ⟨4, false, (-1), 0, none, 0, 0⟩) Tryd.results97 rfl F1) rfl ⟨_, rfl, F2⟩
set_option maxRecDepth 100000 in
set_option maxHeartbeats 4000000 in
theorem ref_blank (b : Nat) (S : List UInt8) (p n : Nat) (d : Int) (w : World) (h : Rr b S p false w) (hp : p ≤ S.length) (hpl : p < S.length) (hS : S.length ≤ 16384) (hd2 : 2 ≤ d) (hd48 : d ≤ 48) (hdd : d - 1 = n) (hK : RKind S n) (R1 : Nat × Option Ch) (hp2 : p + 1 < S.length) (hx : nx S (p + 1) false = 32) (hd3 : 2 < d) (hy : nx S (p + 1 + 1) false = 38) (hR1 : R1 = rdT S n ((p + 1) + 1)) : Calls Tryd.prog 97 #[.pointer (some ⟨b, 0, none⟩), .int .i64 d] w fun e w' => ∃ f : Fv, e = .returned f.v ∧ RPost b S w (R1.1, R1.2.map (fun c => .ref false (-1) c)) f w' := by
  have HDD := hid0 hdd
  clear hdd
  have HK := hid0 hK
  have HR1 := hid0 hR1
  clear hK hR1
  go_enter Tryd.func97, Tryd.ntmps97
  have H0 := hid0 (RSt.start h hp)
  obtain ⟨cw0, cw1, cw2⟩ := h.c
  have hbl := h.lt
  have fw1 := h.f 1
  have pb0 : ((p : Nat) : Int) ≤ 100000 := by omega
  have pc0 : (0 : Int) ≤ ((p : Nat) : Int) := by omega
  go_wp2_with ((with_reducible (show wpList _ _ _ (Oper.mk none (Op.store _ (Operand.tmp _) _) _ _ _ none :: _) _ _)); (show wpList _ _ _ (Oper.mk none (Op.store 3 (Operand.tmp 13) _) _ _ _ _ :: _) _ _); refine wpg_storeI b 1 (((p : Nat) : Int) + 1) ?_ ?_ ?_ (v0 := .int .i64 ((p : Nat) : Int)) ?_ ?_ ?_; exact rfl; exact rfl; exact rfl; (go_simp); (go_simp); intro V1 hV1; have H1 : Hid (RSt b S w (p + 1) false false (-1) V1) := (by rw [hV1]; exact RSt.go (RSt.start h hp) (by omega)); clear hV1 pb0 pc0 cw0 cw1 cw2 fw1)
  refine (next_v b S (p + 1) false 32 hx _ H1.out.rd H1.out.le hS).mono ?_
  rintro e w2 ⟨rfl, hb2⟩
  have H2 := hid0 (H1.out.below hb2)
  clear hb2
  go_wp2_with fail
  refine (next_v b S (p + 1) false 32 hx _ H2.out.rd H2.out.le hS).mono ?_
  rintro e w3 ⟨rfl, hb3⟩
  have H3 := hid0 (H2.out.below hb3)
  clear hb3
  obtain ⟨hlp, p0, p1, p2, p3, p4⟩ := H3.out.v5.ty
  simp only [Nat.add_zero, Nat.zero_add] at p0 p1 p2 p3 p4
  go_wp2_with fail
  refine (next_v b S (p + 1) false 32 hx _ H3.out.rd H3.out.le hS).mono ?_
  rintro e w4 ⟨rfl, hb4⟩
  have H4 := hid0 (H3.out.below hb4)
  clear hb4
  go_wp2_with fail
  refine (next_v b S (p + 1) false 32 hx _ H4.out.rd H4.out.le hS).mono ?_
  rintro e w5 ⟨rfl, hb5⟩
  have H5 := hid0 (H4.out.below hb5)
  clear hb5
  clear p0 p1 p2 p3 p4 hlp
  have c1 := (Rr.c (p := (p + 1)) (st := false) H5.out.rd).2.1
  have f1 := Rr.f (p := (p + 1)) (st := false) H5.out.rd 1
  have pb5 : (((p + 1) : Nat) : Int) ≤ 100000 := by omega
  have pc5 : (0 : Int) ≤ (((p + 1) : Nat) : Int) := by omega
  go_wp2_with ((with_reducible (show wpList _ _ _ (Oper.mk none (Op.store _ (Operand.tmp _) _) _ _ _ none :: _) _ _)); refine wpg_storeI b 1 ((((p + 1) : Nat) : Int) + 1) ?_ ?_ ?_ c1 f1 ?_; exact rfl; exact rfl; exact rfl; intro V6 hV6; have H6 : Hid (RSt b S w ((p + 1) + 1) false false (-1) V6) := (by rw [hV6]; exact H5.out.go (by omega)); clear hV6 c1 f1 pb5 pc5)
  refine (next_v b S ((p + 1) + 1) false 38 hy _ H6.out.rd H6.out.le hS).mono ?_
  rintro e w7 ⟨rfl, hb7⟩
  have H7 := hid0 (H6.out.below hb7)
  clear hb7
  go_wp2_with fail
  refine (HK.out b ((p + 1) + 1) _ R1 _ HR1.out HDD.out H7.out.rd H7.out.le).mono ?_
  rintro e w9 ⟨f2, rfl, hP⟩
  have HP := hid0 hP
  have HB9 := hid0 hP.but
  have HR9 := hid0 hP.rd
  clear hP
  have D5 := H7.out.v5.but HB9.out (by omega)
  have D4 := H7.out.v4.but HB9.out (by omega)
  have g0 := (D4).tyF 0
  have g1 := (D4).tyF 1
  have g2 := (D4).tyF 2
  have g3 := (D4).tyF 3
  have g4 := (D4).tyF 4
  obtain ⟨hlq, q0, q1, q2, q3, q4⟩ := (D4).ty
  simp only [Nat.zero_add] at q0 q1 q2 q3 q4
  have k4 := D5.tyF 4
  obtain ⟨hl5, p0, p1, p2, p3, p4⟩ := D5.ty
  simp only [Nat.zero_add] at p0 p1 p2 p3 p4
  clear D4 D5
  go_wp2_with fail
  obtain ⟨F1, F2⟩ := rfin H7.out HB9.out HR9.out HP.out.le rfl HP.out.own
  exact bodyPost_ret (results_c1 (g := ⟨4, false, (-1), 0, some ⟨w9.heap.size, 0, none⟩, 1, 1⟩) Tryd.results97 rfl F1) rfl ⟨_, rfl, F2⟩
set_option maxRecDepth 100000 in
set_option maxHeartbeats 4000000 in
theorem ref_blank_no (b : Nat) (S : List UInt8) (p n : Nat) (d : Int) (w : World) (h : Rr b S p false w) (hp : p ≤ S.length) (hpl : p < S.length) (hS : S.length ≤ 16384) (hd2 : 2 ≤ d) (hd48 : d ≤ 48) (hdd : d - 1 = n) (hp2 : p + 1 < S.length) (hx : nx S (p + 1) false = 32) (hd3 : 2 < d) (y : Nat) (hy : nx S (p + 1 + 1) false = y) (iy38 : (((y : Nat) : Int) == 38) = false) : Calls Tryd.prog 97 #[.pointer (some ⟨b, 0, none⟩), .int .i64 d] w fun e w' => ∃ f : Fv, e = .returned f.v ∧ RPost b S w (((p + 1) + 1), none) f w' := by
  have HDD := hid0 hdd
  clear hdd
  go_enter Tryd.func97, Tryd.ntmps97
  have H0 := hid0 (RSt.start h hp)
  obtain ⟨cw0, cw1, cw2⟩ := h.c
  have hbl := h.lt
  have fw1 := h.f 1
  have pb0 : ((p : Nat) : Int) ≤ 100000 := by omega
  have pc0 : (0 : Int) ≤ ((p : Nat) : Int) := by omega
  go_wp2_with ((with_reducible (show wpList _ _ _ (Oper.mk none (Op.store _ (Operand.tmp _) _) _ _ _ none :: _) _ _)); (show wpList _ _ _ (Oper.mk none (Op.store 3 (Operand.tmp 13) _) _ _ _ _ :: _) _ _); refine wpg_storeI b 1 (((p : Nat) : Int) + 1) ?_ ?_ ?_ (v0 := .int .i64 ((p : Nat) : Int)) ?_ ?_ ?_; exact rfl; exact rfl; exact rfl; (go_simp); (go_simp); intro V1 hV1; have H1 : Hid (RSt b S w (p + 1) false false (-1) V1) := (by rw [hV1]; exact RSt.go (RSt.start h hp) (by omega)); clear hV1 pb0 pc0 cw0 cw1 cw2 fw1)
  refine (next_v b S (p + 1) false 32 hx _ H1.out.rd H1.out.le hS).mono ?_
  rintro e w2 ⟨rfl, hb2⟩
  have H2 := hid0 (H1.out.below hb2)
  clear hb2
  go_wp2_with fail
  refine (next_v b S (p + 1) false 32 hx _ H2.out.rd H2.out.le hS).mono ?_
  rintro e w3 ⟨rfl, hb3⟩
  have H3 := hid0 (H2.out.below hb3)
  clear hb3
  obtain ⟨hlp, p0, p1, p2, p3, p4⟩ := H3.out.v5.ty
  simp only [Nat.add_zero, Nat.zero_add] at p0 p1 p2 p3 p4
  go_wp2_with fail
  refine (next_v b S (p + 1) false 32 hx _ H3.out.rd H3.out.le hS).mono ?_
  rintro e w4 ⟨rfl, hb4⟩
  have H4 := hid0 (H3.out.below hb4)
  clear hb4
  go_wp2_with fail
  refine (next_v b S (p + 1) false 32 hx _ H4.out.rd H4.out.le hS).mono ?_
  rintro e w5 ⟨rfl, hb5⟩
  have H5 := hid0 (H4.out.below hb5)
  clear hb5
  clear p0 p1 p2 p3 p4 hlp
  have c1 := (Rr.c (p := (p + 1)) (st := false) H5.out.rd).2.1
  have f1 := Rr.f (p := (p + 1)) (st := false) H5.out.rd 1
  have pb5 : (((p + 1) : Nat) : Int) ≤ 100000 := by omega
  have pc5 : (0 : Int) ≤ (((p + 1) : Nat) : Int) := by omega
  go_wp2_with ((with_reducible (show wpList _ _ _ (Oper.mk none (Op.store _ (Operand.tmp _) _) _ _ _ none :: _) _ _)); refine wpg_storeI b 1 ((((p + 1) : Nat) : Int) + 1) ?_ ?_ ?_ c1 f1 ?_; exact rfl; exact rfl; exact rfl; intro V6 hV6; have H6 : Hid (RSt b S w ((p + 1) + 1) false false (-1) V6) := (by rw [hV6]; exact H5.out.go (by omega)); clear hV6 c1 f1 pb5 pc5)
  refine (next_v b S ((p + 1) + 1) false y hy _ H6.out.rd H6.out.le hS).mono ?_
  rintro e w7 ⟨rfl, hb7⟩
  have H7 := hid0 (H6.out.below hb7)
  clear hb7
  have c2 := (Rr.c (p := ((p + 1) + 1)) (st := false) H7.out.rd).2.2
  have f2 := Rr.f (p := ((p + 1) + 1)) (st := false) H7.out.rd 2
  go_wp2_with ((with_reducible (show wpList _ _ _ (Oper.mk none (Op.store _ (Operand.tmp _) _) _ _ _ none :: _) _ _)); refine wpg_storeB b 2 true ?_ ?_ ?_ c2 f2 ?_; exact rfl; exact rfl; exact rfl; intro V8 hV8; have H8 : Hid (RSt b S w ((p + 1) + 1) true false (-1) V8) := (by rw [hV8]; exact H7.out.stop); clear hV8 c2 f2; (try clear p0 p1 p2 p3 p4 hlp); obtain ⟨hlp, p0, p1, p2, p3, p4⟩ := H8.out.v5.ty; simp only [Nat.zero_add] at p0 p1 p2 p3 p4; have g0 := H8.out.v4.tyF 0; have g1 := H8.out.v4.tyF 1; have g2 := H8.out.v4.tyF 2; have g3 := H8.out.v4.tyF 3; have g4 := H8.out.v4.tyF 4; obtain ⟨hlq, q0, q1, q2, q3, q4⟩ := H8.out.v4.ty; simp only [Nat.zero_add] at q0 q1 q2 q3 q4)
  obtain ⟨F1, F2⟩ := kfin (R := (((p + 1) + 1), none)) ⟨4, false, (-1), 0, none, 0, 0⟩ H8.out.v4 (Nat.le_refl _) H8.out.lt H8.out.rd H8.out.but H8.out.le (fun c hc => by cases hc)
  exact bodyPost_ret (results_c1 (g := ⟨4, false, (-1), 0, none, 0, 0⟩) Tryd.results97 rfl F1) rfl ⟨_, rfl, F2⟩
set_option maxRecDepth 100000 in
set_option maxHeartbeats 4000000 in
theorem ref_mut (b : Nat) (S : List UInt8) (p n : Nat) (d : Int) (w : World) (h : Rr b S p false w) (hp : p ≤ S.length) (hpl : p < S.length) (hS : S.length ≤ 16384) (hd2 : 2 ≤ d) (hd48 : d ≤ 48) (hdd : d - 1 = n) (hK : RKind S n) (R1 : Nat × Option Ch) (hx : nx S (p + 1) false = 109) (q : Nat) (hq : tk S [109, 117, 116, 32] (p + 1) = (q, true)) (hR1 : R1 = rdT S n q) : Calls Tryd.prog 97 #[.pointer (some ⟨b, 0, none⟩), .int .i64 d] w fun e w' => ∃ f : Fv, e = .returned f.v ∧ RPost b S w (R1.1, R1.2.map (fun c => .ref true (-1) c)) f w' := by
  have HDD := hid0 hdd
  clear hdd
  have HK := hid0 hK
  have HR1 := hid0 hR1
  clear hK hR1
  go_enter Tryd.func97, Tryd.ntmps97
  have H0 := hid0 (RSt.start h hp)
  obtain ⟨cw0, cw1, cw2⟩ := h.c
  have hbl := h.lt
  have fw1 := h.f 1
  have pb0 : ((p : Nat) : Int) ≤ 100000 := by omega
  have pc0 : (0 : Int) ≤ ((p : Nat) : Int) := by omega
  go_wp2_with ((with_reducible (show wpList _ _ _ (Oper.mk none (Op.store _ (Operand.tmp _) _) _ _ _ none :: _) _ _)); (show wpList _ _ _ (Oper.mk none (Op.store 3 (Operand.tmp 13) _) _ _ _ _ :: _) _ _); refine wpg_storeI b 1 (((p : Nat) : Int) + 1) ?_ ?_ ?_ (v0 := .int .i64 ((p : Nat) : Int)) ?_ ?_ ?_; exact rfl; exact rfl; exact rfl; (go_simp); (go_simp); intro V1 hV1; have H1 : Hid (RSt b S w (p + 1) false false (-1) V1) := (by rw [hV1]; exact RSt.go (RSt.start h hp) (by omega)); clear hV1 pb0 pc0 cw0 cw1 cw2 fw1)
  refine (next_v b S (p + 1) false 109 hx _ H1.out.rd H1.out.le hS).mono ?_
  rintro e w2 ⟨rfl, hb2⟩
  have H2 := hid0 (H1.out.below hb2)
  clear hb2
  go_wp2_with fail
  refine (next_v b S (p + 1) false 109 hx _ H2.out.rd H2.out.le hS).mono ?_
  rintro e w3 ⟨rfl, hb3⟩
  have H3 := hid0 (H2.out.below hb3)
  clear hb3
  go_wp2_with fail
  refine (word_v b S [109, 117, 116, 32] (p + 1) q true hq _ H3.out.rd H3.out.le hS (by simp) (by simp)).mono ?_
  rintro e w4 ⟨rfl, hr4, hb4⟩
  have H4 : Hid (RSt b S w q false false (-1) w4) := H3.out.step hb4 hr4 (by have := tk_le S [109, 117, 116, 32] (p + 1) H3.out.le (by simp); rw [hq] at this; exact this)
  clear hb4 hr4
  have c5 := H4.out.v5.ty.2.2.1
  have f5 := H4.out.v5.tyF 1
  go_wp2_with ((with_reducible (show wpList _ _ _ (Oper.mk none (Op.store _ (Operand.tmp _) _) _ _ _ none :: _) _ _)); refine wpg_storeB (w.heap.size + 1) 1 true ?_ ?_ ?_ c5 f5 ?_; exact rfl; exact rfl; exact rfl; intro V5 hV5; have H5 : Hid (RSt b S w q false true (-1) V5) := (by rw [hV5]; exact H4.out.mut true); clear hV5 c5 f5; obtain ⟨hlp, p0, p1, p2, p3, p4⟩ := H5.out.v5.ty; simp only [Nat.add_zero, Nat.zero_add] at p0 p1 p2 p3 p4)
  refine (HK.out b q _ R1 _ HR1.out HDD.out H5.out.rd H5.out.le).mono ?_
  rintro e w9 ⟨f2, rfl, hP⟩
  have HP := hid0 hP
  have HB9 := hid0 hP.but
  have HR9 := hid0 hP.rd
  clear hP
  clear p0 p1 p2 p3 p4 hlp
  have D5 := H5.out.v5.but HB9.out (by omega)
  have D4 := H5.out.v4.but HB9.out (by omega)
  have g0 := (D4).tyF 0
  have g1 := (D4).tyF 1
  have g2 := (D4).tyF 2
  have g3 := (D4).tyF 3
  have g4 := (D4).tyF 4
  obtain ⟨hlq, q0, q1, q2, q3, q4⟩ := (D4).ty
  simp only [Nat.zero_add] at q0 q1 q2 q3 q4
  have k4 := D5.tyF 4
  obtain ⟨hl5, p0, p1, p2, p3, p4⟩ := D5.ty
  simp only [Nat.zero_add] at p0 p1 p2 p3 p4
  clear D4 D5
  go_wp2_with fail
  obtain ⟨F1, F2⟩ := rfin H5.out HB9.out HR9.out HP.out.le rfl HP.out.own
  exact bodyPost_ret (results_c1 (g := ⟨4, true, (-1), 0, some ⟨w9.heap.size, 0, none⟩, 1, 1⟩) Tryd.results97 rfl F1) rfl ⟨_, rfl, F2⟩
set_option maxRecDepth 100000 in
set_option maxHeartbeats 4000000 in
theorem ref_mut_no (b : Nat) (S : List UInt8) (p n : Nat) (d : Int) (w : World) (h : Rr b S p false w) (hp : p ≤ S.length) (hpl : p < S.length) (hS : S.length ≤ 16384) (hd2 : 2 ≤ d) (hd48 : d ≤ 48) (hdd : d - 1 = n) (hx : nx S (p + 1) false = 109) (q : Nat) (hq : tk S [109, 117, 116, 32] (p + 1) = (q, false)) : Calls Tryd.prog 97 #[.pointer (some ⟨b, 0, none⟩), .int .i64 d] w fun e w' => ∃ f : Fv, e = .returned f.v ∧ RPost b S w (q, none) f w' := by
  have HDD := hid0 hdd
  clear hdd
  go_enter Tryd.func97, Tryd.ntmps97
  have H0 := hid0 (RSt.start h hp)
  obtain ⟨cw0, cw1, cw2⟩ := h.c
  have hbl := h.lt
  have fw1 := h.f 1
  have pb0 : ((p : Nat) : Int) ≤ 100000 := by omega
  have pc0 : (0 : Int) ≤ ((p : Nat) : Int) := by omega
  go_wp2_with ((with_reducible (show wpList _ _ _ (Oper.mk none (Op.store _ (Operand.tmp _) _) _ _ _ none :: _) _ _)); (show wpList _ _ _ (Oper.mk none (Op.store 3 (Operand.tmp 13) _) _ _ _ _ :: _) _ _); refine wpg_storeI b 1 (((p : Nat) : Int) + 1) ?_ ?_ ?_ (v0 := .int .i64 ((p : Nat) : Int)) ?_ ?_ ?_; exact rfl; exact rfl; exact rfl; (go_simp); (go_simp); intro V1 hV1; have H1 : Hid (RSt b S w (p + 1) false false (-1) V1) := (by rw [hV1]; exact RSt.go (RSt.start h hp) (by omega)); clear hV1 pb0 pc0 cw0 cw1 cw2 fw1)
  refine (next_v b S (p + 1) false 109 hx _ H1.out.rd H1.out.le hS).mono ?_
  rintro e w2 ⟨rfl, hb2⟩
  have H2 := hid0 (H1.out.below hb2)
  clear hb2
  go_wp2_with fail
  refine (next_v b S (p + 1) false 109 hx _ H2.out.rd H2.out.le hS).mono ?_
  rintro e w3 ⟨rfl, hb3⟩
  have H3 := hid0 (H2.out.below hb3)
  clear hb3
  go_wp2_with fail
  refine (word_v b S [109, 117, 116, 32] (p + 1) q false hq _ H3.out.rd H3.out.le hS (by simp) (by simp)).mono ?_
  rintro e w4 ⟨rfl, hr4, hb4⟩
  have H4 : Hid (RSt b S w q true false (-1) w4) := H3.out.step hb4 hr4 (by have := tk_le S [109, 117, 116, 32] (p + 1) H3.out.le (by simp); rw [hq] at this; exact this)
  clear hb4 hr4
  have c5 := H4.out.v5.ty.2.2.1
  have f5 := H4.out.v5.tyF 1
  go_wp2_with ((with_reducible (show wpList _ _ _ (Oper.mk none (Op.store _ (Operand.tmp _) _) _ _ _ none :: _) _ _)); refine wpg_storeB (w.heap.size + 1) 1 true ?_ ?_ ?_ c5 f5 ?_; exact rfl; exact rfl; exact rfl; intro V5 hV5; have H5 : Hid (RSt b S w q true true (-1) V5) := (by rw [hV5]; exact H4.out.mut true); clear hV5 c5 f5; obtain ⟨hlp, p0, p1, p2, p3, p4⟩ := H5.out.v5.ty; simp only [Nat.add_zero, Nat.zero_add] at p0 p1 p2 p3 p4)
  refine (kind_stuck b S q _ _ H5.out.rd H5.out.le hS).mono ?_
  rintro e w9 ⟨f2, rfl, hr9, hb9⟩
  have HB9 := hid0 hb9
  have HR9 := hid0 hr9
  clear hb9 hr9
  clear p0 p1 p2 p3 p4 hlp
  have D5 := H5.out.v5.but HB9.out (by omega)
  have D4 := H5.out.v4.but HB9.out (by omega)
  have g0 := (D4).tyF 0
  have g1 := (D4).tyF 1
  have g2 := (D4).tyF 2
  have g3 := (D4).tyF 3
  have g4 := (D4).tyF 4
  obtain ⟨hlq, q0, q1, q2, q3, q4⟩ := (D4).ty
  simp only [Nat.zero_add] at q0 q1 q2 q3 q4
  have k4 := D5.tyF 4
  obtain ⟨hl5, p0, p1, p2, p3, p4⟩ := D5.ty
  simp only [Nat.zero_add] at p0 p1 p2 p3 p4
  clear D4 D5
  go_wp2_with fail
  obtain ⟨F1, F2⟩ := rfin (oc := none) (f2 := f2) H5.out HB9.out HR9.out H5.out.le rfl (fun c hc => by cases hc)
  exact bodyPost_ret (results_c1 (g := ⟨4, true, (-1), 0, some ⟨w9.heap.size, 0, none⟩, 1, 1⟩) Tryd.results97 rfl F1) rfl ⟨_, rfl, F2⟩
set_option maxRecDepth 100000 in
set_option maxHeartbeats 4000000 in
theorem ref_reg_no (b : Nat) (S : List UInt8) (p n : Nat) (d : Int) (w : World) (h : Rr b S p false w) (hp : p ≤ S.length) (hpl : p < S.length) (hS : S.length ≤ 16384) (hd2 : 2 ≤ d) (hd48 : d ≤ 48) (hdd : d - 1 = n) (hp2 : p + 1 < S.length) (hx : nx S (p + 1) false = 39) (r : Int) (q : Nat) (hq : nm S maxR (p + 1 + 1) = (r, q)) (hqn : ¬ p + 1 + 1 < q) : Calls Tryd.prog 97 #[.pointer (some ⟨b, 0, none⟩), .int .i64 d] w fun e w' => ∃ f : Fv, e = .returned f.v ∧ RPost b S w (q, none) f w' := by
  have HDD := hid0 hdd
  clear hdd
  go_enter Tryd.func97, Tryd.ntmps97
  have H0 := hid0 (RSt.start h hp)
  obtain ⟨cw0, cw1, cw2⟩ := h.c
  have hbl := h.lt
  have fw1 := h.f 1
  have pb0 : ((p : Nat) : Int) ≤ 100000 := by omega
  have pc0 : (0 : Int) ≤ ((p : Nat) : Int) := by omega
  go_wp2_with ((with_reducible (show wpList _ _ _ (Oper.mk none (Op.store _ (Operand.tmp _) _) _ _ _ none :: _) _ _)); (show wpList _ _ _ (Oper.mk none (Op.store 3 (Operand.tmp 13) _) _ _ _ _ :: _) _ _); refine wpg_storeI b 1 (((p : Nat) : Int) + 1) ?_ ?_ ?_ (v0 := .int .i64 ((p : Nat) : Int)) ?_ ?_ ?_; exact rfl; exact rfl; exact rfl; (go_simp); (go_simp); intro V1 hV1; have H1 : Hid (RSt b S w (p + 1) false false (-1) V1) := (by rw [hV1]; exact RSt.go (RSt.start h hp) (by omega)); clear hV1 pb0 pc0 cw0 cw1 cw2 fw1)
  refine (next_v b S (p + 1) false 39 hx _ H1.out.rd H1.out.le hS).mono ?_
  rintro e w2 ⟨rfl, hb2⟩
  have H2 := hid0 (H1.out.below hb2)
  clear hb2
  have c1 := (Rr.c (p := (p + 1)) (st := false) H2.out.rd).2.1
  have f1 := Rr.f (p := (p + 1)) (st := false) H2.out.rd 1
  have pb2 : (((p + 1) : Nat) : Int) ≤ 100000 := by omega
  have pc2 : (0 : Int) ≤ (((p + 1) : Nat) : Int) := by omega
  go_wp2_with ((with_reducible (show wpList _ _ _ (Oper.mk none (Op.store _ (Operand.tmp _) _) _ _ _ none :: _) _ _)); refine wpg_storeI b 1 ((((p + 1) : Nat) : Int) + 1) ?_ ?_ ?_ c1 f1 ?_; exact rfl; exact rfl; exact rfl; intro V3 hV3; have H3 : Hid (RSt b S w ((p + 1) + 1) false false (-1) V3) := (by rw [hV3]; exact H2.out.go (by omega)); clear hV3 c1 f1 pb2 pc2)
  refine (num_v b S ((p + 1) + 1) r q hq _ H3.out.rd H3.out.le hS).mono ?_
  rintro e w4 ⟨rfl, hr4, hb4, hin⟩
  rw [show (!decide (((p + 1) + 1) < q)) = true by simp; omega] at hr4
  have H4 : Hid (RSt b S w q true false (-1) w4) := H3.out.step hb4 hr4 hin.1
  have r0 : 0 ≤ r := hin.2.1
  clear hb4 hr4 hin
  have c5 := H4.out.v5.ty.2.2.2.1
  have f5 := H4.out.v5.tyF 2
  go_wp2_with ((with_reducible (show wpList _ _ _ (Oper.mk none (Op.store _ (Operand.tmp _) _) _ _ _ none :: _) _ _)); refine wpg_storeI (w.heap.size + 1) 2 r ?_ ?_ ?_ c5 f5 ?_; exact rfl; exact rfl; exact rfl; intro V5 hV5; have H5 : Hid (RSt b S w q true false r V5) := (by rw [hV5]; exact H4.out.reg r); clear hV5 c5 f5)
  refine (word_stuck b S [32] q _ H5.out.rd (by simp)).mono ?_
  rintro e w6 ⟨rfl, hr6, hb6⟩
  have H6 : Hid (RSt b S w q true false r w6) := H5.out.step hb6 hr6 H5.out.le
  clear hb6 hr6
  go_wp2_with fail
  refine (next_v b S q true 0 rfl _ H6.out.rd H6.out.le hS).mono ?_
  rintro e w7 ⟨rfl, hb7⟩
  have H7 := hid0 (H6.out.below hb7)
  clear hb7
  obtain ⟨hlp, p0, p1, p2, p3, p4⟩ := H7.out.v5.ty
  simp only [Nat.add_zero, Nat.zero_add] at p0 p1 p2 p3 p4
  go_wp2_with fail
  refine (kind_stuck b S q _ _ H7.out.rd H7.out.le hS).mono ?_
  rintro e w9 ⟨f2, rfl, hr9, hb9⟩
  have HB9 := hid0 hb9
  have HR9 := hid0 hr9
  clear hb9 hr9
  clear p0 p1 p2 p3 p4 hlp
  have D5 := H7.out.v5.but HB9.out (by omega)
  have D4 := H7.out.v4.but HB9.out (by omega)
  have g0 := (D4).tyF 0
  have g1 := (D4).tyF 1
  have g2 := (D4).tyF 2
  have g3 := (D4).tyF 3
  have g4 := (D4).tyF 4
  obtain ⟨hlq, q0, q1, q2, q3, q4⟩ := (D4).ty
  simp only [Nat.zero_add] at q0 q1 q2 q3 q4
  have k4 := D5.tyF 4
  obtain ⟨hl5, p0, p1, p2, p3, p4⟩ := D5.ty
  simp only [Nat.zero_add] at p0 p1 p2 p3 p4
  clear D4 D5
  go_wp2_with fail
  obtain ⟨F1, F2⟩ := rfin (oc := none) (f2 := f2) H7.out HB9.out HR9.out H7.out.le rfl (fun c hc => by cases hc)
  exact bodyPost_ret (results_c1 (g := ⟨4, false, r, 0, some ⟨w9.heap.size, 0, none⟩, 1, 1⟩) Tryd.results97 rfl F1) rfl ⟨_, rfl, F2⟩
set_option maxRecDepth 100000 in
set_option maxHeartbeats 4000000 in
theorem ref_reg_bl (b : Nat) (S : List UInt8) (p n : Nat) (d : Int) (w : World) (h : Rr b S p false w) (hp : p ≤ S.length) (hpl : p < S.length) (hS : S.length ≤ 16384) (hd2 : 2 ≤ d) (hd48 : d ≤ 48) (hdd : d - 1 = n) (hp2 : p + 1 < S.length) (hx : nx S (p + 1) false = 39) (r : Int) (q : Nat) (hq : nm S maxR (p + 1 + 1) = (r, q)) (hqn : p + 1 + 1 < q) (q2 : Nat) (hq2 : tk S [32] q = (q2, false)) : Calls Tryd.prog 97 #[.pointer (some ⟨b, 0, none⟩), .int .i64 d] w fun e w' => ∃ f : Fv, e = .returned f.v ∧ RPost b S w (q2, none) f w' := by
  have HDD := hid0 hdd
  clear hdd
  go_enter Tryd.func97, Tryd.ntmps97
  have H0 := hid0 (RSt.start h hp)
  obtain ⟨cw0, cw1, cw2⟩ := h.c
  have hbl := h.lt
  have fw1 := h.f 1
  have pb0 : ((p : Nat) : Int) ≤ 100000 := by omega
  have pc0 : (0 : Int) ≤ ((p : Nat) : Int) := by omega
  go_wp2_with ((with_reducible (show wpList _ _ _ (Oper.mk none (Op.store _ (Operand.tmp _) _) _ _ _ none :: _) _ _)); (show wpList _ _ _ (Oper.mk none (Op.store 3 (Operand.tmp 13) _) _ _ _ _ :: _) _ _); refine wpg_storeI b 1 (((p : Nat) : Int) + 1) ?_ ?_ ?_ (v0 := .int .i64 ((p : Nat) : Int)) ?_ ?_ ?_; exact rfl; exact rfl; exact rfl; (go_simp); (go_simp); intro V1 hV1; have H1 : Hid (RSt b S w (p + 1) false false (-1) V1) := (by rw [hV1]; exact RSt.go (RSt.start h hp) (by omega)); clear hV1 pb0 pc0 cw0 cw1 cw2 fw1)
  refine (next_v b S (p + 1) false 39 hx _ H1.out.rd H1.out.le hS).mono ?_
  rintro e w2 ⟨rfl, hb2⟩
  have H2 := hid0 (H1.out.below hb2)
  clear hb2
  have c1 := (Rr.c (p := (p + 1)) (st := false) H2.out.rd).2.1
  have f1 := Rr.f (p := (p + 1)) (st := false) H2.out.rd 1
  have pb2 : (((p + 1) : Nat) : Int) ≤ 100000 := by omega
  have pc2 : (0 : Int) ≤ (((p + 1) : Nat) : Int) := by omega
  go_wp2_with ((with_reducible (show wpList _ _ _ (Oper.mk none (Op.store _ (Operand.tmp _) _) _ _ _ none :: _) _ _)); refine wpg_storeI b 1 ((((p + 1) : Nat) : Int) + 1) ?_ ?_ ?_ c1 f1 ?_; exact rfl; exact rfl; exact rfl; intro V3 hV3; have H3 : Hid (RSt b S w ((p + 1) + 1) false false (-1) V3) := (by rw [hV3]; exact H2.out.go (by omega)); clear hV3 c1 f1 pb2 pc2)
  refine (num_v b S ((p + 1) + 1) r q hq _ H3.out.rd H3.out.le hS).mono ?_
  rintro e w4 ⟨rfl, hr4, hb4, hin⟩
  rw [show (!decide (((p + 1) + 1) < q)) = false by simp; omega] at hr4
  have H4 : Hid (RSt b S w q false false (-1) w4) := H3.out.step hb4 hr4 hin.1
  have r0 : 0 ≤ r := hin.2.1
  clear hb4 hr4 hin
  have c5 := H4.out.v5.ty.2.2.2.1
  have f5 := H4.out.v5.tyF 2
  go_wp2_with ((with_reducible (show wpList _ _ _ (Oper.mk none (Op.store _ (Operand.tmp _) _) _ _ _ none :: _) _ _)); refine wpg_storeI (w.heap.size + 1) 2 r ?_ ?_ ?_ c5 f5 ?_; exact rfl; exact rfl; exact rfl; intro V5 hV5; have H5 : Hid (RSt b S w q false false r V5) := (by rw [hV5]; exact H4.out.reg r); clear hV5 c5 f5)
  refine (word_v b S [32] q q2 false hq2 _ H5.out.rd H5.out.le hS (by simp) (by simp)).mono ?_
  rintro e w6 ⟨rfl, hr6, hb6⟩
  have H6 : Hid (RSt b S w q2 true false r w6) := H5.out.step hb6 hr6 (by have := tk_le S [32] q H5.out.le (by simp); rw [hq2] at this; exact this)
  clear hb6 hr6
  go_wp2_with fail
  refine (next_v b S q2 true 0 rfl _ H6.out.rd H6.out.le hS).mono ?_
  rintro e w7 ⟨rfl, hb7⟩
  have H7 := hid0 (H6.out.below hb7)
  clear hb7
  obtain ⟨hlp, p0, p1, p2, p3, p4⟩ := H7.out.v5.ty
  simp only [Nat.add_zero, Nat.zero_add] at p0 p1 p2 p3 p4
  go_wp2_with fail
  refine (kind_stuck b S q2 _ _ H7.out.rd H7.out.le hS).mono ?_
  rintro e w9 ⟨f2, rfl, hr9, hb9⟩
  have HB9 := hid0 hb9
  have HR9 := hid0 hr9
  clear hb9 hr9
  clear p0 p1 p2 p3 p4 hlp
  have D5 := H7.out.v5.but HB9.out (by omega)
  have D4 := H7.out.v4.but HB9.out (by omega)
  have g0 := (D4).tyF 0
  have g1 := (D4).tyF 1
  have g2 := (D4).tyF 2
  have g3 := (D4).tyF 3
  have g4 := (D4).tyF 4
  obtain ⟨hlq, q0, q1, q2, q3, q4⟩ := (D4).ty
  simp only [Nat.zero_add] at q0 q1 q2 q3 q4
  have k4 := D5.tyF 4
  obtain ⟨hl5, p0, p1, p2, p3, p4⟩ := D5.ty
  simp only [Nat.zero_add] at p0 p1 p2 p3 p4
  clear D4 D5
  go_wp2_with fail
  obtain ⟨F1, F2⟩ := rfin (oc := none) (f2 := f2) H7.out HB9.out HR9.out H7.out.le rfl (fun c hc => by cases hc)
  exact bodyPost_ret (results_c1 (g := ⟨4, false, r, 0, some ⟨w9.heap.size, 0, none⟩, 1, 1⟩) Tryd.results97 rfl F1) rfl ⟨_, rfl, F2⟩
set_option maxRecDepth 100000 in
set_option maxHeartbeats 4000000 in
theorem ref_reg (b : Nat) (S : List UInt8) (p n : Nat) (d : Int) (w : World) (h : Rr b S p false w) (hp : p ≤ S.length) (hpl : p < S.length) (hS : S.length ≤ 16384) (hd2 : 2 ≤ d) (hd48 : d ≤ 48) (hdd : d - 1 = n) (hK : RKind S n) (R1 : Nat × Option Ch) (hp2 : p + 1 < S.length) (hx : nx S (p + 1) false = 39) (r : Int) (q : Nat) (hq : nm S maxR (p + 1 + 1) = (r, q)) (hqn : p + 1 + 1 < q) (q2 : Nat) (hq2 : tk S [32] q = (q2, true)) (y : Nat) (hy : nx S q2 false = y) (iy109 : (((y : Nat) : Int) == 109) = false) (hR1 : R1 = rdT S n q2) : Calls Tryd.prog 97 #[.pointer (some ⟨b, 0, none⟩), .int .i64 d] w fun e w' => ∃ f : Fv, e = .returned f.v ∧ RPost b S w (R1.1, R1.2.map (fun c => .ref false r c)) f w' := by
  have HDD := hid0 hdd
  clear hdd
  have HK := hid0 hK
  have HR1 := hid0 hR1
  clear hK hR1
  go_enter Tryd.func97, Tryd.ntmps97
  have H0 := hid0 (RSt.start h hp)
  obtain ⟨cw0, cw1, cw2⟩ := h.c
  have hbl := h.lt
  have fw1 := h.f 1
  have pb0 : ((p : Nat) : Int) ≤ 100000 := by omega
  have pc0 : (0 : Int) ≤ ((p : Nat) : Int) := by omega
  go_wp2_with ((with_reducible (show wpList _ _ _ (Oper.mk none (Op.store _ (Operand.tmp _) _) _ _ _ none :: _) _ _)); (show wpList _ _ _ (Oper.mk none (Op.store 3 (Operand.tmp 13) _) _ _ _ _ :: _) _ _); refine wpg_storeI b 1 (((p : Nat) : Int) + 1) ?_ ?_ ?_ (v0 := .int .i64 ((p : Nat) : Int)) ?_ ?_ ?_; exact rfl; exact rfl; exact rfl; (go_simp); (go_simp); intro V1 hV1; have H1 : Hid (RSt b S w (p + 1) false false (-1) V1) := (by rw [hV1]; exact RSt.go (RSt.start h hp) (by omega)); clear hV1 pb0 pc0 cw0 cw1 cw2 fw1)
  refine (next_v b S (p + 1) false 39 hx _ H1.out.rd H1.out.le hS).mono ?_
  rintro e w2 ⟨rfl, hb2⟩
  have H2 := hid0 (H1.out.below hb2)
  clear hb2
  have c1 := (Rr.c (p := (p + 1)) (st := false) H2.out.rd).2.1
  have f1 := Rr.f (p := (p + 1)) (st := false) H2.out.rd 1
  have pb2 : (((p + 1) : Nat) : Int) ≤ 100000 := by omega
  have pc2 : (0 : Int) ≤ (((p + 1) : Nat) : Int) := by omega
  go_wp2_with ((with_reducible (show wpList _ _ _ (Oper.mk none (Op.store _ (Operand.tmp _) _) _ _ _ none :: _) _ _)); refine wpg_storeI b 1 ((((p + 1) : Nat) : Int) + 1) ?_ ?_ ?_ c1 f1 ?_; exact rfl; exact rfl; exact rfl; intro V3 hV3; have H3 : Hid (RSt b S w ((p + 1) + 1) false false (-1) V3) := (by rw [hV3]; exact H2.out.go (by omega)); clear hV3 c1 f1 pb2 pc2)
  refine (num_v b S ((p + 1) + 1) r q hq _ H3.out.rd H3.out.le hS).mono ?_
  rintro e w4 ⟨rfl, hr4, hb4, hin⟩
  rw [show (!decide (((p + 1) + 1) < q)) = false by simp; omega] at hr4
  have H4 : Hid (RSt b S w q false false (-1) w4) := H3.out.step hb4 hr4 hin.1
  have r0 : 0 ≤ r := hin.2.1
  clear hb4 hr4 hin
  have c5 := H4.out.v5.ty.2.2.2.1
  have f5 := H4.out.v5.tyF 2
  go_wp2_with ((with_reducible (show wpList _ _ _ (Oper.mk none (Op.store _ (Operand.tmp _) _) _ _ _ none :: _) _ _)); refine wpg_storeI (w.heap.size + 1) 2 r ?_ ?_ ?_ c5 f5 ?_; exact rfl; exact rfl; exact rfl; intro V5 hV5; have H5 : Hid (RSt b S w q false false r V5) := (by rw [hV5]; exact H4.out.reg r); clear hV5 c5 f5)
  refine (word_v b S [32] q q2 true hq2 _ H5.out.rd H5.out.le hS (by simp) (by simp)).mono ?_
  rintro e w6 ⟨rfl, hr6, hb6⟩
  have H6 : Hid (RSt b S w q2 false false r w6) := H5.out.step hb6 hr6 (by have := tk_le S [32] q H5.out.le (by simp); rw [hq2] at this; exact this)
  clear hb6 hr6
  go_wp2_with fail
  refine (next_v b S q2 false y hy _ H6.out.rd H6.out.le hS).mono ?_
  rintro e w7 ⟨rfl, hb7⟩
  have H7 := hid0 (H6.out.below hb7)
  clear hb7
  obtain ⟨hlp, p0, p1, p2, p3, p4⟩ := H7.out.v5.ty
  simp only [Nat.add_zero, Nat.zero_add] at p0 p1 p2 p3 p4
  go_wp2_with fail
  refine (HK.out b q2 _ R1 _ HR1.out HDD.out H7.out.rd H7.out.le).mono ?_
  rintro e w9 ⟨f2, rfl, hP⟩
  have HP := hid0 hP
  have HB9 := hid0 hP.but
  have HR9 := hid0 hP.rd
  clear hP
  clear p0 p1 p2 p3 p4 hlp
  have D5 := H7.out.v5.but HB9.out (by omega)
  have D4 := H7.out.v4.but HB9.out (by omega)
  have g0 := (D4).tyF 0
  have g1 := (D4).tyF 1
  have g2 := (D4).tyF 2
  have g3 := (D4).tyF 3
  have g4 := (D4).tyF 4
  obtain ⟨hlq, q0, q1, q2, q3, q4⟩ := (D4).ty
  simp only [Nat.zero_add] at q0 q1 q2 q3 q4
  have k4 := D5.tyF 4
  obtain ⟨hl5, p0, p1, p2, p3, p4⟩ := D5.ty
  simp only [Nat.zero_add] at p0 p1 p2 p3 p4
  clear D4 D5
  go_wp2_with fail
  obtain ⟨F1, F2⟩ := rfin H7.out HB9.out HR9.out HP.out.le rfl HP.out.own
  exact bodyPost_ret (results_c1 (g := ⟨4, false, r, 0, some ⟨w9.heap.size, 0, none⟩, 1, 1⟩) Tryd.results97 rfl F1) rfl ⟨_, rfl, F2⟩
set_option maxRecDepth 100000 in
set_option maxHeartbeats 4000000 in
theorem ref_reg_mut (b : Nat) (S : List UInt8) (p n : Nat) (d : Int) (w : World) (h : Rr b S p false w) (hp : p ≤ S.length) (hpl : p < S.length) (hS : S.length ≤ 16384) (hd2 : 2 ≤ d) (hd48 : d ≤ 48) (hdd : d - 1 = n) (hK : RKind S n) (R1 : Nat × Option Ch) (hp2 : p + 1 < S.length) (hx : nx S (p + 1) false = 39) (r : Int) (q : Nat) (hq : nm S maxR (p + 1 + 1) = (r, q)) (hqn : p + 1 + 1 < q) (q2 : Nat) (hq2 : tk S [32] q = (q2, true)) (hy : nx S q2 false = 109) (q3 : Nat) (hq3 : tk S [109, 117, 116, 32] q2 = (q3, true)) (hR1 : R1 = rdT S n q3) : Calls Tryd.prog 97 #[.pointer (some ⟨b, 0, none⟩), .int .i64 d] w fun e w' => ∃ f : Fv, e = .returned f.v ∧ RPost b S w (R1.1, R1.2.map (fun c => .ref true r c)) f w' := by
  have HDD := hid0 hdd
  clear hdd
  have HK := hid0 hK
  have HR1 := hid0 hR1
  clear hK hR1
  go_enter Tryd.func97, Tryd.ntmps97
  have H0 := hid0 (RSt.start h hp)
  obtain ⟨cw0, cw1, cw2⟩ := h.c
  have hbl := h.lt
  have fw1 := h.f 1
  have pb0 : ((p : Nat) : Int) ≤ 100000 := by omega
  have pc0 : (0 : Int) ≤ ((p : Nat) : Int) := by omega
  go_wp2_with ((with_reducible (show wpList _ _ _ (Oper.mk none (Op.store _ (Operand.tmp _) _) _ _ _ none :: _) _ _)); (show wpList _ _ _ (Oper.mk none (Op.store 3 (Operand.tmp 13) _) _ _ _ _ :: _) _ _); refine wpg_storeI b 1 (((p : Nat) : Int) + 1) ?_ ?_ ?_ (v0 := .int .i64 ((p : Nat) : Int)) ?_ ?_ ?_; exact rfl; exact rfl; exact rfl; (go_simp); (go_simp); intro V1 hV1; have H1 : Hid (RSt b S w (p + 1) false false (-1) V1) := (by rw [hV1]; exact RSt.go (RSt.start h hp) (by omega)); clear hV1 pb0 pc0 cw0 cw1 cw2 fw1)
  refine (next_v b S (p + 1) false 39 hx _ H1.out.rd H1.out.le hS).mono ?_
  rintro e w2 ⟨rfl, hb2⟩
  have H2 := hid0 (H1.out.below hb2)
  clear hb2
  have c1 := (Rr.c (p := (p + 1)) (st := false) H2.out.rd).2.1
  have f1 := Rr.f (p := (p + 1)) (st := false) H2.out.rd 1
  have pb2 : (((p + 1) : Nat) : Int) ≤ 100000 := by omega
  have pc2 : (0 : Int) ≤ (((p + 1) : Nat) : Int) := by omega
  go_wp2_with ((with_reducible (show wpList _ _ _ (Oper.mk none (Op.store _ (Operand.tmp _) _) _ _ _ none :: _) _ _)); refine wpg_storeI b 1 ((((p + 1) : Nat) : Int) + 1) ?_ ?_ ?_ c1 f1 ?_; exact rfl; exact rfl; exact rfl; intro V3 hV3; have H3 : Hid (RSt b S w ((p + 1) + 1) false false (-1) V3) := (by rw [hV3]; exact H2.out.go (by omega)); clear hV3 c1 f1 pb2 pc2)
  refine (num_v b S ((p + 1) + 1) r q hq _ H3.out.rd H3.out.le hS).mono ?_
  rintro e w4 ⟨rfl, hr4, hb4, hin⟩
  rw [show (!decide (((p + 1) + 1) < q)) = false by simp; omega] at hr4
  have H4 : Hid (RSt b S w q false false (-1) w4) := H3.out.step hb4 hr4 hin.1
  have r0 : 0 ≤ r := hin.2.1
  clear hb4 hr4 hin
  have c5 := H4.out.v5.ty.2.2.2.1
  have f5 := H4.out.v5.tyF 2
  go_wp2_with ((with_reducible (show wpList _ _ _ (Oper.mk none (Op.store _ (Operand.tmp _) _) _ _ _ none :: _) _ _)); refine wpg_storeI (w.heap.size + 1) 2 r ?_ ?_ ?_ c5 f5 ?_; exact rfl; exact rfl; exact rfl; intro V5 hV5; have H5 : Hid (RSt b S w q false false r V5) := (by rw [hV5]; exact H4.out.reg r); clear hV5 c5 f5)
  refine (word_v b S [32] q q2 true hq2 _ H5.out.rd H5.out.le hS (by simp) (by simp)).mono ?_
  rintro e w6 ⟨rfl, hr6, hb6⟩
  have H6 : Hid (RSt b S w q2 false false r w6) := H5.out.step hb6 hr6 (by have := tk_le S [32] q H5.out.le (by simp); rw [hq2] at this; exact this)
  clear hb6 hr6
  go_wp2_with fail
  refine (next_v b S q2 false 109 hy _ H6.out.rd H6.out.le hS).mono ?_
  rintro e w7 ⟨rfl, hb7⟩
  have H7 := hid0 (H6.out.below hb7)
  clear hb7
  go_wp2_with fail
  refine (word_v b S [109, 117, 116, 32] q2 q3 true hq3 _ H7.out.rd H7.out.le hS (by simp) (by simp)).mono ?_
  rintro e w8 ⟨rfl, hr8, hb8⟩
  have H8 : Hid (RSt b S w q3 false false r w8) := H7.out.step hb8 hr8 (by have := tk_le S [109, 117, 116, 32] q2 H7.out.le (by simp); rw [hq3] at this; exact this)
  clear hb8 hr8
  have c5 := H8.out.v5.ty.2.2.1
  have f5 := H8.out.v5.tyF 1
  go_wp2_with ((with_reducible (show wpList _ _ _ (Oper.mk none (Op.store _ (Operand.tmp _) _) _ _ _ none :: _) _ _)); refine wpg_storeB (w.heap.size + 1) 1 true ?_ ?_ ?_ c5 f5 ?_; exact rfl; exact rfl; exact rfl; intro V9 hV9; have H9 : Hid (RSt b S w q3 false true r V9) := (by rw [hV9]; exact H8.out.mut true); clear hV9 c5 f5; obtain ⟨hlp, p0, p1, p2, p3, p4⟩ := H9.out.v5.ty; simp only [Nat.add_zero, Nat.zero_add] at p0 p1 p2 p3 p4)
  refine (HK.out b q3 _ R1 _ HR1.out HDD.out H9.out.rd H9.out.le).mono ?_
  rintro e w9 ⟨f2, rfl, hP⟩
  have HP := hid0 hP
  have HB9 := hid0 hP.but
  have HR9 := hid0 hP.rd
  clear hP
  clear p0 p1 p2 p3 p4 hlp
  have D5 := H9.out.v5.but HB9.out (by omega)
  have D4 := H9.out.v4.but HB9.out (by omega)
  have g0 := (D4).tyF 0
  have g1 := (D4).tyF 1
  have g2 := (D4).tyF 2
  have g3 := (D4).tyF 3
  have g4 := (D4).tyF 4
  obtain ⟨hlq, q0, q1, q2, q3, q4⟩ := (D4).ty
  simp only [Nat.zero_add] at q0 q1 q2 q3 q4
  have k4 := D5.tyF 4
  obtain ⟨hl5, p0, p1, p2, p3, p4⟩ := D5.ty
  simp only [Nat.zero_add] at p0 p1 p2 p3 p4
  clear D4 D5
  go_wp2_with fail
  obtain ⟨F1, F2⟩ := rfin H9.out HB9.out HR9.out HP.out.le rfl HP.out.own
  exact bodyPost_ret (results_c1 (g := ⟨4, true, r, 0, some ⟨w9.heap.size, 0, none⟩, 1, 1⟩) Tryd.results97 rfl F1) rfl ⟨_, rfl, F2⟩
set_option maxRecDepth 100000 in
set_option maxHeartbeats 4000000 in
theorem ref_reg_mut_no (b : Nat) (S : List UInt8) (p n : Nat) (d : Int) (w : World) (h : Rr b S p false w) (hp : p ≤ S.length) (hpl : p < S.length) (hS : S.length ≤ 16384) (hd2 : 2 ≤ d) (hd48 : d ≤ 48) (hdd : d - 1 = n) (hp2 : p + 1 < S.length) (hx : nx S (p + 1) false = 39) (r : Int) (q : Nat) (hq : nm S maxR (p + 1 + 1) = (r, q)) (hqn : p + 1 + 1 < q) (q2 : Nat) (hq2 : tk S [32] q = (q2, true)) (hy : nx S q2 false = 109) (q3 : Nat) (hq3 : tk S [109, 117, 116, 32] q2 = (q3, false)) : Calls Tryd.prog 97 #[.pointer (some ⟨b, 0, none⟩), .int .i64 d] w fun e w' => ∃ f : Fv, e = .returned f.v ∧ RPost b S w (q3, none) f w' := by
  have HDD := hid0 hdd
  clear hdd
  go_enter Tryd.func97, Tryd.ntmps97
  have H0 := hid0 (RSt.start h hp)
  obtain ⟨cw0, cw1, cw2⟩ := h.c
  have hbl := h.lt
  have fw1 := h.f 1
  have pb0 : ((p : Nat) : Int) ≤ 100000 := by omega
  have pc0 : (0 : Int) ≤ ((p : Nat) : Int) := by omega
  go_wp2_with ((with_reducible (show wpList _ _ _ (Oper.mk none (Op.store _ (Operand.tmp _) _) _ _ _ none :: _) _ _)); (show wpList _ _ _ (Oper.mk none (Op.store 3 (Operand.tmp 13) _) _ _ _ _ :: _) _ _); refine wpg_storeI b 1 (((p : Nat) : Int) + 1) ?_ ?_ ?_ (v0 := .int .i64 ((p : Nat) : Int)) ?_ ?_ ?_; exact rfl; exact rfl; exact rfl; (go_simp); (go_simp); intro V1 hV1; have H1 : Hid (RSt b S w (p + 1) false false (-1) V1) := (by rw [hV1]; exact RSt.go (RSt.start h hp) (by omega)); clear hV1 pb0 pc0 cw0 cw1 cw2 fw1)
  refine (next_v b S (p + 1) false 39 hx _ H1.out.rd H1.out.le hS).mono ?_
  rintro e w2 ⟨rfl, hb2⟩
  have H2 := hid0 (H1.out.below hb2)
  clear hb2
  have c1 := (Rr.c (p := (p + 1)) (st := false) H2.out.rd).2.1
  have f1 := Rr.f (p := (p + 1)) (st := false) H2.out.rd 1
  have pb2 : (((p + 1) : Nat) : Int) ≤ 100000 := by omega
  have pc2 : (0 : Int) ≤ (((p + 1) : Nat) : Int) := by omega
  go_wp2_with ((with_reducible (show wpList _ _ _ (Oper.mk none (Op.store _ (Operand.tmp _) _) _ _ _ none :: _) _ _)); refine wpg_storeI b 1 ((((p + 1) : Nat) : Int) + 1) ?_ ?_ ?_ c1 f1 ?_; exact rfl; exact rfl; exact rfl; intro V3 hV3; have H3 : Hid (RSt b S w ((p + 1) + 1) false false (-1) V3) := (by rw [hV3]; exact H2.out.go (by omega)); clear hV3 c1 f1 pb2 pc2)
  refine (num_v b S ((p + 1) + 1) r q hq _ H3.out.rd H3.out.le hS).mono ?_
  rintro e w4 ⟨rfl, hr4, hb4, hin⟩
  rw [show (!decide (((p + 1) + 1) < q)) = false by simp; omega] at hr4
  have H4 : Hid (RSt b S w q false false (-1) w4) := H3.out.step hb4 hr4 hin.1
  have r0 : 0 ≤ r := hin.2.1
  clear hb4 hr4 hin
  have c5 := H4.out.v5.ty.2.2.2.1
  have f5 := H4.out.v5.tyF 2
  go_wp2_with ((with_reducible (show wpList _ _ _ (Oper.mk none (Op.store _ (Operand.tmp _) _) _ _ _ none :: _) _ _)); refine wpg_storeI (w.heap.size + 1) 2 r ?_ ?_ ?_ c5 f5 ?_; exact rfl; exact rfl; exact rfl; intro V5 hV5; have H5 : Hid (RSt b S w q false false r V5) := (by rw [hV5]; exact H4.out.reg r); clear hV5 c5 f5)
  refine (word_v b S [32] q q2 true hq2 _ H5.out.rd H5.out.le hS (by simp) (by simp)).mono ?_
  rintro e w6 ⟨rfl, hr6, hb6⟩
  have H6 : Hid (RSt b S w q2 false false r w6) := H5.out.step hb6 hr6 (by have := tk_le S [32] q H5.out.le (by simp); rw [hq2] at this; exact this)
  clear hb6 hr6
  go_wp2_with fail
  refine (next_v b S q2 false 109 hy _ H6.out.rd H6.out.le hS).mono ?_
  rintro e w7 ⟨rfl, hb7⟩
  have H7 := hid0 (H6.out.below hb7)
  clear hb7
  go_wp2_with fail
  refine (word_v b S [109, 117, 116, 32] q2 q3 false hq3 _ H7.out.rd H7.out.le hS (by simp) (by simp)).mono ?_
  rintro e w8 ⟨rfl, hr8, hb8⟩
  have H8 : Hid (RSt b S w q3 true false r w8) := H7.out.step hb8 hr8 (by have := tk_le S [109, 117, 116, 32] q2 H7.out.le (by simp); rw [hq3] at this; exact this)
  clear hb8 hr8
  have c5 := H8.out.v5.ty.2.2.1
  have f5 := H8.out.v5.tyF 1
  go_wp2_with ((with_reducible (show wpList _ _ _ (Oper.mk none (Op.store _ (Operand.tmp _) _) _ _ _ none :: _) _ _)); refine wpg_storeB (w.heap.size + 1) 1 true ?_ ?_ ?_ c5 f5 ?_; exact rfl; exact rfl; exact rfl; intro V9 hV9; have H9 : Hid (RSt b S w q3 true true r V9) := (by rw [hV9]; exact H8.out.mut true); clear hV9 c5 f5; obtain ⟨hlp, p0, p1, p2, p3, p4⟩ := H9.out.v5.ty; simp only [Nat.add_zero, Nat.zero_add] at p0 p1 p2 p3 p4)
  refine (kind_stuck b S q3 _ _ H9.out.rd H9.out.le hS).mono ?_
  rintro e w9 ⟨f2, rfl, hr9, hb9⟩
  have HB9 := hid0 hb9
  have HR9 := hid0 hr9
  clear hb9 hr9
  clear p0 p1 p2 p3 p4 hlp
  have D5 := H9.out.v5.but HB9.out (by omega)
  have D4 := H9.out.v4.but HB9.out (by omega)
  have g0 := (D4).tyF 0
  have g1 := (D4).tyF 1
  have g2 := (D4).tyF 2
  have g3 := (D4).tyF 3
  have g4 := (D4).tyF 4
  obtain ⟨hlq, q0, q1, q2, q3, q4⟩ := (D4).ty
  simp only [Nat.zero_add] at q0 q1 q2 q3 q4
  have k4 := D5.tyF 4
  obtain ⟨hl5, p0, p1, p2, p3, p4⟩ := D5.ty
  simp only [Nat.zero_add] at p0 p1 p2 p3 p4
  clear D4 D5
  go_wp2_with fail
  obtain ⟨F1, F2⟩ := rfin (oc := none) (f2 := f2) H9.out HB9.out HR9.out H9.out.le rfl (fun c hc => by cases hc)
  exact bodyPost_ret (results_c1 (g := ⟨4, true, r, 0, some ⟨w9.heap.size, 0, none⟩, 1, 1⟩) Tryd.results97 rfl F1) rfl ⟨_, rfl, F2⟩
end Go.Proofs.YtjchbclkdbojpaaDoor
