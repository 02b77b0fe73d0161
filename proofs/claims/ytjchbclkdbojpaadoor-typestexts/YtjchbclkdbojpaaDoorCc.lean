import Derived.Test.YtjchbclkdbojpaaDoorCb
import Derived.Test.YtjchbclkdbojpaaDoorAp
namespace Go.Proofs.YtjchbclkdbojpaaDoor
open Go.RowKit
set_option linter.unusedVariables false
set_option linter.unusedSimpArgs false

/-- One cell is written: the walk goes on in whatever world that is. -/
theorem wpl_storeI {w : World} {ops : Array Oper} {rest : List Oper} {a : Act} {Q : Exit → Act → World → Prop} {x : Nat} {y : Operand} {ty : TypeId} {pos : String} {after : Array Edge} (b o : Nat) (v0 : Value) (n : Int) (hc : w.cell? ⟨b, o, none⟩ = some v0) (hf : w.frozen? ⟨b, o, none⟩ = false)
    (hx : a.eval (.tmp x) = .pointer (some ⟨b, o, none⟩)) (hy : a.eval y = .int .i64 n) (h : ∀ w', w' = w.setCell ⟨b, o, none⟩ (.int .i64 n) → wpList Tryd.prog ops Q rest a w') : wpList Tryd.prog ops Q (⟨none, .store 3 (.tmp x) y, ty, pos, after, none⟩ :: rest) a w := by
  refine wpList_plain rfl fun K hK => ?_
  have hx2 : a.tmps[x]?.getD undef = .pointer (some ⟨b, o, none⟩) := by rw [← hx]; simp [Act.eval]
  cases y with
  | tmp j =>
    have hy2 : a.tmps[j]?.getD undef = .int .i64 n := by rw [← hy]; simp [Act.eval]
    unfold Oper.wp
    simp [execOp, hx2, hy2, go_sem, hc, hf]
    exact hK _ _ (h _ rfl)
  | const v =>
    have hv : v = .int .i64 n := by simpa [Act.eval] using hy
    subst hv
    unfold Oper.wp
    simp [execOp, hx2, go_sem, hc, hf]
    exact hK _ _ (h _ rfl)
  | global g => simp [Act.eval] at hy
  | func g => simp [Act.eval] at hy
theorem wpl_storeB {w : World} {ops : Array Oper} {rest : List Oper} {a : Act} {Q : Exit → Act → World → Prop} {x : Nat} {y : Operand} {ty : TypeId} {pos : String} {after : Array Edge} (b o : Nat) (v0 : Value) (n : Bool) (hc : w.cell? ⟨b, o, none⟩ = some v0) (hf : w.frozen? ⟨b, o, none⟩ = false)
    (hx : a.eval (.tmp x) = .pointer (some ⟨b, o, none⟩)) (hy : a.eval y = .bool n) (h : ∀ w', w' = w.setCell ⟨b, o, none⟩ (.bool n) → wpList Tryd.prog ops Q rest a w') : wpList Tryd.prog ops Q (⟨none, .store 4 (.tmp x) y, ty, pos, after, none⟩ :: rest) a w := by
  refine wpList_plain rfl fun K hK => ?_
  have hx2 : a.tmps[x]?.getD undef = .pointer (some ⟨b, o, none⟩) := by rw [← hx]; simp [Act.eval]
  cases y with
  | tmp j =>
    have hy2 : a.tmps[j]?.getD undef = .bool n := by rw [← hy]; simp [Act.eval]
    unfold Oper.wp
    simp [execOp, hx2, hy2, go_sem, hc, hf]
    exact hK _ _ (h _ rfl)
  | const v =>
    have hv : v = .bool n := by simpa [Act.eval] using hy
    subst hv
    unfold Oper.wp
    simp [execOp, hx2, go_sem, hc, hf]
    exact hK _ _ (h _ rfl)
  | global g => simp [Act.eval] at hy
  | func g => simp [Act.eval] at hy
theorem Rr.go1 {b : Nat} {S : List UInt8} {p : Nat} {st : Bool} {W : World} (h : Rr b S p st W) : Rr b S (p + 1) st (W.setCell ⟨b, 1, none⟩ (.int .i64 ((p : Int) + 1))) := by
  have := Rr.go h (p + 1)
  have e : ((p + 1 : Nat) : Int) = (p : Int) + 1 := by omega
  rw [e] at this
  exact this
/-- What the reference's reader gives. -/
structure RPost (b : Nat) (S : List UInt8) (w : World) (R : Nat × Option Ch) (f : Fv) (w' : World) : Prop where
  rd : Rr b S R.1 R.2.isNone w'
  but : But b w w'
  le : R.1 ≤ S.length
  own : ∀ c, R.2 = some c → Own w' w.heap.size f c
def RKind (S : List UInt8) (n : Nat) : Prop := ∀ (b p : Nat) (w : World) (R : Nat × Option Ch) (d : Int), R = rdT S n p → d = n → Rr b S p false w → p ≤ S.length → Calls Tryd.prog 79 #[.pointer (some ⟨b, 0, none⟩), .int .i64 d] w fun e w' => ∃ f : Fv, e = .returned f.v ∧ RPost b S w R f w'
theorem Tryd.results79 : Tryd.f79.results = #[.cell 4 26] := rfl
theorem Tryd.results97 : Tryd.f97.results = #[.cell 4 26] := rfl
theorem Rr.at_but {b i : Nat} {w w' : World} {o : Obj} (h : At w i o) (k : But b w w') (hn : i ≠ b) : At w' i o := h.but k hn
theorem but1 {b : Nat} {w w1 : World} {o : Obj} (h : But b (w.alloc o) w1) : But b w w1 := ((But.refl b w).alloc o).trans h
theorem Rr.s5 {b b' : Nat} {S : List UInt8} {p : Nat} {st : Bool} {W : World} (h : Rr b S p st W) (hn : b ≠ b') (g : Fv) : Rr b S p st (S5 W b' g) := At.S5 h hn g
/-- The end: the answer is laid into its variable. -/
theorem kfin {b : Nat} {S : List UInt8} {w w1 : World} {b4 : Nat} {f4 : Fv} {R : Nat × Option Ch} (g : Fv) (hA : At w1 b4 f4.o) (hb4 : w.heap.size ≤ b4) (hbl : b < w.heap.size) (hr : Rr b S R.1 R.2.isNone w1) (hb : But b w w1) (hle : R.1 ≤ S.length) (ho : ∀ c, R.2 = some c → Own w1 (b4 + 1) g c) :
    C5 (S5 w1 b4 g) b4 0 g ∧ RPost b S w R g (S5 w1 b4 g) :=
  ⟨(hA.set5 g).ty, ⟨hr.s5 (by omega) g, but_S5 hb hb4 g, hle, fun c hc => ((ho c hc).keep fun i o hi hA => hA.S5 (by omega) g).low (by omega)⟩⟩
set_option maxRecDepth 100000 in
set_option maxHeartbeats 1000000 in
theorem kind_stuck (b : Nat) (S : List UInt8) (p : Nat) (d : Int) (w : World) (h : Rr b S p true w) (hp : p ≤ S.length) (hS : S.length ≤ 16384) : Calls Tryd.prog 79 #[.pointer (some ⟨b, 0, none⟩), .int .i64 d] w fun e w' => ∃ f : Fv, e = .returned f.v ∧ Rr b S p true w' ∧ But b w w' := by
  have CN : Hid (Calls Tryd.prog 94 #[.pointer (some ⟨b, 0, none⟩)] (w.alloc zT.o) fun e w' => e = .returned (.int .u8 ((0 : Nat) : Int)) ∧ Below (w.alloc zT.o).heap.size (w.alloc zT.o) w') := next_any b S p true _ (At.alloc h _) hp hS
  have A4 : Hid (At (w.alloc zT.o) w.heap.size zT.o) := At.new _ _
  have HH := hid0 h
  have hbl := h.lt
  clear h
  go_enter Tryd.func79, Tryd.ntmps79
  go_wp2_with (first
    | (go_at_call 94; refine CN.out.mono ?_; rintro e w1 ⟨rfl, hb1⟩; have R1 := (At.alloc HH.out zT.o).below hb1; obtain ⟨c0, c1, c2⟩ := Rr.c (p := p) (st := true) R1; have f2 := Rr.f (p := p) (st := true) R1 2; have B1 := A4.out.below hb1)
    | (refine wpl_storeB b 2 _ true c2 f2 rfl rfl ?_; intro V hV; have HV : Hid (Rr b S p true V) := (by rw [hV]; exact Rr.stop (p := p) (st := true) R1 true); have B4 : At V w.heap.size zT.o := (by rw [hV]; exact B1.set (by simp; omega) _); have HB : Hid (But b w V) := (by rw [hV]; exact (but1 (But.below hb1)).set 2 _); clear hV c0 c1 c2 f2 R1 B1; have g0 := (B4).tyF 0; have g1 := (B4).tyF 1; have g2 := (B4).tyF 2; have g3 := (B4).tyF 3; have g4 := (B4).tyF 4; obtain ⟨hlq, q0, q1, q2, q3, q4⟩ := (B4).ty; simp only [Nat.zero_add] at q0 q1 q2 q3 q4))
  exact bodyPost_ret (results_c1 (g := zT) Tryd.results79 rfl (B4.set5 zT).ty) rfl ⟨zT, rfl, HV.out.s5 (by omega) zT, but_S5 HB.out (Nat.le_refl _) zT⟩
set_option maxRecDepth 100000 in
set_option maxHeartbeats 2000000 in
theorem kind_i (b : Nat) (S : List UInt8) (p : Nat) (d : Int) (w : World) (x : Nat) (hx : x = ah S p) (hxv : x = 105) (h : Rr b S p false w) (hp : p ≤ S.length) (hS : S.length ≤ 16384) (q : Nat) (ok : Bool) (hq : tk S [105, 54, 52] p = (q, ok)) (R : Nat × Option Ch) (hR : R = (q, if ok then some (.leaf 1 0) else none)) : Calls Tryd.prog 79 #[.pointer (some ⟨b, 0, none⟩), .int .i64 d] w fun e w' => ∃ f : Fv, e = .returned f.v ∧ RPost b S w R f w' := by
  have HR := hid0 hR
  clear hR
  have CN : Hid (Calls Tryd.prog 94 #[.pointer (some ⟨b, 0, none⟩)] (w.alloc zT.o) fun e w' => e = .returned (.int .u8 (x : Int)) ∧ Below (w.alloc zT.o).heap.size (w.alloc zT.o) w') := by
    rw [hx]
    exact next_any b S p false _ (At.alloc h _) hp hS
  have A4 : Hid (At (w.alloc zT.o) w.heap.size zT.o) := At.new _ _
  have HH := hid0 h
  have hbl := h.lt
  have CW : Hid (∀ W, Rr b S p false W → Calls Tryd.prog 95 #[.pointer (some ⟨b, 0, none⟩), .string (str [105, 54, 52])] W fun e w' => e = .returned (.tuple #[]) ∧ Rr b S q (!ok) w' ∧ But b W w') := fun W hW => by
    have := word_any b S [105, 54, 52] _ rfl p W hW hp hS (by simp) (by simp)
    rw [hq] at this
    exact this
  have hql : q ≤ S.length := by
    have := tk_le S [105, 54, 52] p hp (by simp)
    rw [hq] at this
    exact this
  subst hxv
  clear h hx hq
  go_enter Tryd.func79, Tryd.ntmps79
  go_wp2_with (first
    | (go_at_call 94; refine CN.out.mono ?_; rintro e w1 ⟨rfl, hb1⟩; have R1 := hid0 ((At.alloc HH.out zT.o).below hb1); have B1 := hid0 (A4.out.below hb1); have hs1 : w.heap.size < w1.heap.size := B1.out.lt)
    | (go_at_call 95; refine (CW.out _ R1.out).mono ?_; rintro e w2 ⟨rfl, hr2, hb2⟩; have B4 := B1.out.but hb2 (by omega); have g0 := (B4).tyF 0; have g1 := (B4).tyF 1; have g2 := (B4).tyF 2; have g3 := (B4).tyF 3; have g4 := (B4).tyF 4; obtain ⟨hlq, q0, q1, q2, q3, q4⟩ := (B4).ty; simp only [Nat.zero_add] at q0 q1 q2 q3 q4))
  rw [HR.out]
  obtain ⟨F1, F2⟩ := kfin (R := (q, if ok then some (.leaf 1 0) else none)) ⟨1, false, 0, 0, none, 0, 0⟩ B4 (Nat.le_refl _) hbl (by cases ok <;> exact hr2) ((but1 (But.below hb1)).trans hb2) hql (fun c hc => by cases ok <;> simp at hc; subst hc; exact .leaf 1 0)
  exact bodyPost_ret (results_c1 (g := ⟨1, false, 0, 0, none, 0, 0⟩) Tryd.results79 rfl F1) rfl ⟨_, rfl, F2⟩
set_option maxRecDepth 100000 in
set_option maxHeartbeats 2000000 in
theorem kind_b (b : Nat) (S : List UInt8) (p : Nat) (d : Int) (w : World) (x : Nat) (hx : x = ah S p) (hxv : x = 98) (h : Rr b S p false w) (hp : p ≤ S.length) (hS : S.length ≤ 16384) (q : Nat) (ok : Bool) (hq : tk S [98, 111, 111, 108] p = (q, ok)) (R : Nat × Option Ch) (hR : R = (q, if ok then some (.leaf 2 0) else none)) : Calls Tryd.prog 79 #[.pointer (some ⟨b, 0, none⟩), .int .i64 d] w fun e w' => ∃ f : Fv, e = .returned f.v ∧ RPost b S w R f w' := by
  have HR := hid0 hR
  clear hR
  have CN : Hid (Calls Tryd.prog 94 #[.pointer (some ⟨b, 0, none⟩)] (w.alloc zT.o) fun e w' => e = .returned (.int .u8 (x : Int)) ∧ Below (w.alloc zT.o).heap.size (w.alloc zT.o) w') := by
    rw [hx]
    exact next_any b S p false _ (At.alloc h _) hp hS
  have A4 : Hid (At (w.alloc zT.o) w.heap.size zT.o) := At.new _ _
  have HH := hid0 h
  have hbl := h.lt
  have CW : Hid (∀ W, Rr b S p false W → Calls Tryd.prog 95 #[.pointer (some ⟨b, 0, none⟩), .string (str [98, 111, 111, 108])] W fun e w' => e = .returned (.tuple #[]) ∧ Rr b S q (!ok) w' ∧ But b W w') := fun W hW => by
    have := word_any b S [98, 111, 111, 108] _ rfl p W hW hp hS (by simp) (by simp)
    rw [hq] at this
    exact this
  have hql : q ≤ S.length := by
    have := tk_le S [98, 111, 111, 108] p hp (by simp)
    rw [hq] at this
    exact this
  subst hxv
  clear h hx hq
  go_enter Tryd.func79, Tryd.ntmps79
  go_wp2_with (first
    | (go_at_call 94; refine CN.out.mono ?_; rintro e w1 ⟨rfl, hb1⟩; have R1 := hid0 ((At.alloc HH.out zT.o).below hb1); have B1 := hid0 (A4.out.below hb1); have hs1 : w.heap.size < w1.heap.size := B1.out.lt)
    | (go_at_call 95; refine (CW.out _ R1.out).mono ?_; rintro e w2 ⟨rfl, hr2, hb2⟩; have B4 := B1.out.but hb2 (by omega); have g0 := (B4).tyF 0; have g1 := (B4).tyF 1; have g2 := (B4).tyF 2; have g3 := (B4).tyF 3; have g4 := (B4).tyF 4; obtain ⟨hlq, q0, q1, q2, q3, q4⟩ := (B4).ty; simp only [Nat.zero_add] at q0 q1 q2 q3 q4))
  rw [HR.out]
  obtain ⟨F1, F2⟩ := kfin (R := (q, if ok then some (.leaf 2 0) else none)) ⟨2, false, 0, 0, none, 0, 0⟩ B4 (Nat.le_refl _) hbl (by cases ok <;> exact hr2) ((but1 (But.below hb1)).trans hb2) hql (fun c hc => by cases ok <;> simp at hc; subst hc; exact .leaf 2 0)
  exact bodyPost_ret (results_c1 (g := ⟨2, false, 0, 0, none, 0, 0⟩) Tryd.results79 rfl F1) rfl ⟨_, rfl, F2⟩
set_option maxRecDepth 100000 in
set_option maxHeartbeats 2000000 in
theorem kind_n (b : Nat) (S : List UInt8) (p : Nat) (d : Int) (w : World) (x : Nat) (hx : x = ah S p) (hxv : x = 35) (h : Rr b S p false w) (hp : p ≤ S.length) (hS : S.length ≤ 16384) (N : Int) (q : Nat) (hq : nm S 31 (p + 1) = (N, q)) (R : Nat × Option Ch) (hR : R = (q, if p + 1 < q then some (.leaf 5 N) else none)) : Calls Tryd.prog 79 #[.pointer (some ⟨b, 0, none⟩), .int .i64 d] w fun e w' => ∃ f : Fv, e = .returned f.v ∧ RPost b S w R f w' := by
  have HR := hid0 hR
  clear hR
  have CN : Hid (Calls Tryd.prog 94 #[.pointer (some ⟨b, 0, none⟩)] (w.alloc zT.o) fun e w' => e = .returned (.int .u8 (x : Int)) ∧ Below (w.alloc zT.o).heap.size (w.alloc zT.o) w') := by
    rw [hx]
    exact next_any b S p false _ (At.alloc h _) hp hS
  have A4 : Hid (At (w.alloc zT.o) w.heap.size zT.o) := At.new _ _
  have HH := hid0 h
  have hbl := h.lt
  have hpl : p < S.length := ah_lt (by rw [← hx, hxv]; decide)
  have CM : Hid (∀ W, Rr b S (p + 1) false W → Calls Tryd.prog 96 #[.pointer (some ⟨b, 0, none⟩), .int .u64 31] W fun e w' => e = .returned (.int .i64 N) ∧ Rr b S q (!decide (p + 1 < q)) w' ∧ But b W w' ∧ InR S 31 (N, q)) := fun W hW => by
    have := rnumber_any b S 31 (by decide) (by decide) (p + 1) W hW (by omega) hS
    rw [hq] at this
    exact this
  have pb : (p : Int) ≤ 100000 := by omega
  have p0 : (0 : Int) ≤ (p : Int) := by omega
  subst hxv
  clear h hx hq
  go_enter Tryd.func79, Tryd.ntmps79
  go_wp2_with (first
    | (go_at_call 94; refine CN.out.mono ?_; rintro e w1 ⟨rfl, hb1⟩; have R1 := hid0 ((At.alloc HH.out zT.o).below hb1); have B1 := hid0 (A4.out.below hb1); have hs1 : w.heap.size < w1.heap.size := B1.out.lt; obtain ⟨c0, c1, c2⟩ := Rr.c (p := p) (st := false) R1.out; have f1 := Rr.f (p := p) (st := false) R1.out 1)
    | (refine wpl_storeI b 1 _ ((p : Int) + 1) c1 f1 rfl rfl ?_; intro V hV; have HV : Hid (Rr b S (p + 1) false V) := (by rw [hV]; exact Rr.go1 (p := p) R1.out); have BV : Hid (At V w.heap.size zT.o) := (by rw [hV]; exact B1.out.set (by simp; omega) _); have HB : Hid (But b w V) := (by rw [hV]; exact (but1 (But.below hb1)).set 1 _); clear hV c0 c1 c2 f1)
    | (go_at_call 96; refine (CM.out _ HV.out).mono ?_; rintro e w2 ⟨rfl, hr2, hb2, hin⟩; have B4 := BV.out.but hb2 (by omega); have g0 := (B4).tyF 0; have g1 := (B4).tyF 1; have g2 := (B4).tyF 2; have g3 := (B4).tyF 3; have g4 := (B4).tyF 4; obtain ⟨hlq, q0, q1, q2, q3, q4⟩ := (B4).ty; simp only [Nat.zero_add] at q0 q1 q2 q3 q4))
  rw [HR.out]
  obtain ⟨F1, F2⟩ := kfin (R := (q, if p + 1 < q then some (.leaf 5 N) else none)) ⟨5, false, 0, N, none, 0, 0⟩ B4 (Nat.le_refl _) hbl (by by_cases hh : p + 1 < q <;> simpa [hh] using hr2) (HB.out.trans hb2) hin.1 (fun c hc => by by_cases hh : p + 1 < q <;> simp [hh] at hc; subst hc; exact .leaf 5 N)
  exact bodyPost_ret (results_c1 (g := ⟨5, false, 0, N, none, 0, 0⟩) Tryd.results79 rfl F1) rfl ⟨_, rfl, F2⟩
set_option maxRecDepth 100000 in
set_option maxHeartbeats 2000000 in
theorem kind_deepB (b : Nat) (S : List UInt8) (p : Nat) (d : Int) (w : World) (x : Nat) (hx : x = ah S p) (hxv : x = 66) (hd : d < 2) (h : Rr b S p false w) (hp : p ≤ S.length) (hS : S.length ≤ 16384) : Calls Tryd.prog 79 #[.pointer (some ⟨b, 0, none⟩), .int .i64 d] w fun e w' => ∃ f : Fv, e = .returned f.v ∧ RPost b S w (p, none) f w' := by
  have CN : Hid (Calls Tryd.prog 94 #[.pointer (some ⟨b, 0, none⟩)] (w.alloc zT.o) fun e w' => e = .returned (.int .u8 (x : Int)) ∧ Below (w.alloc zT.o).heap.size (w.alloc zT.o) w') := by
    rw [hx]
    exact next_any b S p false _ (At.alloc h _) hp hS
  have A4 : Hid (At (w.alloc zT.o) w.heap.size zT.o) := At.new _ _
  have HH := hid0 h
  have hbl := h.lt
  subst hxv
  clear h hx
  go_enter Tryd.func79, Tryd.ntmps79
  go_wp2_with (first
    | (go_at_call 94; refine CN.out.mono ?_; rintro e w1 ⟨rfl, hb1⟩; have R1 := hid0 ((At.alloc HH.out zT.o).below hb1); have B1 := hid0 (A4.out.below hb1); have hs1 : w.heap.size < w1.heap.size := B1.out.lt; obtain ⟨c0, c1, c2⟩ := Rr.c (p := p) (st := false) R1.out; have f2 := Rr.f (p := p) (st := false) R1.out 2)
    | (refine wpl_storeB b 2 _ true c2 f2 rfl rfl ?_; intro V hV; have HV : Hid (Rr b S p true V) := (by rw [hV]; exact Rr.stop (p := p) (st := false) R1.out true); have B4 : At V w.heap.size zT.o := (by rw [hV]; exact B1.out.set (by simp; omega) _); have HB : Hid (But b w V) := (by rw [hV]; exact (but1 (But.below hb1)).set 2 _); clear hV c0 c1 c2 f2; have g0 := (B4).tyF 0; have g1 := (B4).tyF 1; have g2 := (B4).tyF 2; have g3 := (B4).tyF 3; have g4 := (B4).tyF 4; obtain ⟨hlq, q0, q1, q2, q3, q4⟩ := (B4).ty; simp only [Nat.zero_add] at q0 q1 q2 q3 q4))
  obtain ⟨F1, F2⟩ := kfin (R := (p, none)) zT B4 (Nat.le_refl _) hbl HV.out HB.out hp (fun c hc => by cases hc)
  exact bodyPost_ret (results_c1 (g := zT) Tryd.results79 rfl F1) rfl ⟨_, rfl, F2⟩
set_option maxRecDepth 100000 in
set_option maxHeartbeats 2000000 in
theorem kind_deepR (b : Nat) (S : List UInt8) (p : Nat) (d : Int) (w : World) (x : Nat) (hx : x = ah S p) (hxv : x = 38) (hd : d < 2) (h : Rr b S p false w) (hp : p ≤ S.length) (hS : S.length ≤ 16384) : Calls Tryd.prog 79 #[.pointer (some ⟨b, 0, none⟩), .int .i64 d] w fun e w' => ∃ f : Fv, e = .returned f.v ∧ RPost b S w (p, none) f w' := by
  have CN : Hid (Calls Tryd.prog 94 #[.pointer (some ⟨b, 0, none⟩)] (w.alloc zT.o) fun e w' => e = .returned (.int .u8 (x : Int)) ∧ Below (w.alloc zT.o).heap.size (w.alloc zT.o) w') := by
    rw [hx]
    exact next_any b S p false _ (At.alloc h _) hp hS
  have A4 : Hid (At (w.alloc zT.o) w.heap.size zT.o) := At.new _ _
  have HH := hid0 h
  have hbl := h.lt
  subst hxv
  clear h hx
  go_enter Tryd.func79, Tryd.ntmps79
  go_wp2_with (first
    | (go_at_call 94; refine CN.out.mono ?_; rintro e w1 ⟨rfl, hb1⟩; have R1 := hid0 ((At.alloc HH.out zT.o).below hb1); have B1 := hid0 (A4.out.below hb1); have hs1 : w.heap.size < w1.heap.size := B1.out.lt; obtain ⟨c0, c1, c2⟩ := Rr.c (p := p) (st := false) R1.out; have f2 := Rr.f (p := p) (st := false) R1.out 2)
    | (refine wpl_storeB b 2 _ true c2 f2 rfl rfl ?_; intro V hV; have HV : Hid (Rr b S p true V) := (by rw [hV]; exact Rr.stop (p := p) (st := false) R1.out true); have B4 : At V w.heap.size zT.o := (by rw [hV]; exact B1.out.set (by simp; omega) _); have HB : Hid (But b w V) := (by rw [hV]; exact (but1 (But.below hb1)).set 2 _); clear hV c0 c1 c2 f2; have g0 := (B4).tyF 0; have g1 := (B4).tyF 1; have g2 := (B4).tyF 2; have g3 := (B4).tyF 3; have g4 := (B4).tyF 4; obtain ⟨hlq, q0, q1, q2, q3, q4⟩ := (B4).ty; simp only [Nat.zero_add] at q0 q1 q2 q3 q4))
  obtain ⟨F1, F2⟩ := kfin (R := (p, none)) zT B4 (Nat.le_refl _) hbl HV.out HB.out hp (fun c hc => by cases hc)
  exact bodyPost_ret (results_c1 (g := zT) Tryd.results79 rfl F1) rfl ⟨_, rfl, F2⟩
set_option maxRecDepth 100000 in
set_option maxHeartbeats 2000000 in
theorem kind_other (b : Nat) (S : List UInt8) (p : Nat) (d : Int) (w : World) (x : Nat) (hx : x = ah S p) (h1 : x ≠ 105) (h2 : x ≠ 35) (h3 : x ≠ 98) (h4 : x ≠ 66) (h5 : x ≠ 38) (h : Rr b S p false w) (hp : p ≤ S.length) (hS : S.length ≤ 16384) : Calls Tryd.prog 79 #[.pointer (some ⟨b, 0, none⟩), .int .i64 d] w fun e w' => ∃ f : Fv, e = .returned f.v ∧ RPost b S w (p, none) f w' := by
  have CN : Hid (Calls Tryd.prog 94 #[.pointer (some ⟨b, 0, none⟩)] (w.alloc zT.o) fun e w' => e = .returned (.int .u8 (x : Int)) ∧ Below (w.alloc zT.o).heap.size (w.alloc zT.o) w') := by
    rw [hx]
    exact next_any b S p false _ (At.alloc h _) hp hS
  have A4 : Hid (At (w.alloc zT.o) w.heap.size zT.o) := At.new _ _
  have HH := hid0 h
  have hbl := h.lt
  have i1 : ((x : Int) == 105) = false := by simpa using (by omega : ¬ (x : Int) = 105)
  have i2 : ((x : Int) == 35) = false := by simpa using (by omega : ¬ (x : Int) = 35)
  have i3 : ((x : Int) == 98) = false := by simpa using (by omega : ¬ (x : Int) = 98)
  have i4 : ((x : Int) == 66) = false := by simpa using (by omega : ¬ (x : Int) = 66)
  have i5 : ((x : Int) == 38) = false := by simpa using (by omega : ¬ (x : Int) = 38)
  clear h hx
  go_enter Tryd.func79, Tryd.ntmps79
  go_wp2_with (first
    | (go_at_call 94; refine CN.out.mono ?_; rintro e w1 ⟨rfl, hb1⟩; have R1 := hid0 ((At.alloc HH.out zT.o).below hb1); have B1 := hid0 (A4.out.below hb1); have hs1 : w.heap.size < w1.heap.size := B1.out.lt; obtain ⟨c0, c1, c2⟩ := Rr.c (p := p) (st := false) R1.out; have f2 := Rr.f (p := p) (st := false) R1.out 2)
    | (refine wpl_storeB b 2 _ true c2 f2 rfl rfl ?_; intro V hV; have HV : Hid (Rr b S p true V) := (by rw [hV]; exact Rr.stop (p := p) (st := false) R1.out true); have B4 : At V w.heap.size zT.o := (by rw [hV]; exact B1.out.set (by simp; omega) _); have HB : Hid (But b w V) := (by rw [hV]; exact (but1 (But.below hb1)).set 2 _); clear hV c0 c1 c2 f2; have g0 := (B4).tyF 0; have g1 := (B4).tyF 1; have g2 := (B4).tyF 2; have g3 := (B4).tyF 3; have g4 := (B4).tyF 4; obtain ⟨hlq, q0, q1, q2, q3, q4⟩ := (B4).ty; simp only [Nat.zero_add] at q0 q1 q2 q3 q4))
  obtain ⟨F1, F2⟩ := kfin (R := (p, none)) zT B4 (Nat.le_refl _) hbl HV.out HB.out hp (fun c hc => by cases hc)
  exact bodyPost_ret (results_c1 (g := zT) Tryd.results79 rfl F1) rfl ⟨_, rfl, F2⟩
end Go.Proofs.YtjchbclkdbojpaaDoor
