import Derived.Test.YtnohcppipkpgmaaDoorRe
namespace Go.Proofs.YtnohcppipkpgmaaDoor
open Go.RowKit Go.Shelf
set_option linter.unusedVariables false
set_option linter.unusedSimpArgs false

/-- A place is laid into a variable. -/
abbrev S2 (w : World) (b : Nat) (x : Pt) : World := (w.setCell ⟨b, 0, none⟩ (.int .i64 x.l)).setCell ⟨b, 1, none⟩ (.slice x.a x.n x.cap)
theorem At.plF {w : World} {b : Nat} {x : Pt} (h : At w b x.o) (o : Nat) : w.frozen? ⟨b, o, none⟩ = false := frozen_of_row w b o _ 26 h
theorem At.set2 {w : World} {b : Nat} {x : Pt} (h : At w b x.o) (y : Pt) : At (S2 w b y) b y.o := by
  have h1 := heap_setCell_same w b 0 _ 26 (.int .i64 y.l) h
  have h2 := heap_setCell_same _ b 1 _ 26 (.slice y.a y.n y.cap) h1
  exact h2
theorem At.set2_0 {w : World} {b : Nat} {l v : Int} {a : Option Addr} {n cap : Nat} (h : At w b (plO l a n cap)) : At (w.setCell ⟨b, 0, none⟩ (.int .i64 v)) b (plO v a n cap) := heap_setCell_same w b 0 _ 26 (.int .i64 v) h
theorem At.set2_1 {w : World} {b : Nat} {l : Int} {a a' : Option Addr} {n cap n' cap' : Nat} (h : At w b (plO l a n cap)) : At (w.setCell ⟨b, 1, none⟩ (.slice a' n' cap')) b (plO l a' n' cap') := heap_setCell_same w b 1 _ 26 (.slice a' n' cap') h
theorem At.S2 {w : World} {b i : Nat} {o : Obj} (h : At w i o) (hi : i ≠ b) (y : Pt) : At (S2 w b y) i o := (h.set hi _).set hi _
theorem but_s2 (w : World) (b : Nat) (y : Pt) : But b w (S2 w b y) := ((But.refl b w).set 0 _).set 1 _
theorem below_s2 {w w1 : World} (h : Below w.heap.size w w1) {b : Nat} (hb : w.heap.size ≤ b) (y : Pt) : Below w.heap.size w (S2 w1 b y) := h.grown (but_s2 w1 b y) h.size (fun k hk => by cases hk; exact hb)
theorem size_S2 (w : World) (b : Nat) (y : Pt) : (S2 w b y).heap.size = w.heap.size := by simp [S2]
set_option maxRecDepth 100000 in
theorem results_p3 {fn : Func} {i j l : Nat} (h : fn.results = #[.cell i 26, .tmp j, .tmp l]) {tmps : Array Value} {W : World} {b4 : Nat} {g : Pt} {v u : Value} (ht : tmps.getD i undef = .pointer (some ⟨b4, 0, none⟩)) (hv : tmps.getD j undef = v) (hu : tmps.getD l undef = u) (hC : At W b4 g.o) : (results fn tmps).run Tryd.prog W = .ok (.tuple #[g.v, v, u]) W := by
  obtain ⟨e0, e1⟩ := hC.pl
  have ht2 : tmps[i]?.getD undef = .pointer (some ⟨b4, 0, none⟩) := by rw [← ht]; simp
  have hv2 : tmps[j]?.getD undef = v := by rw [← hv]; simp
  have hu2 : tmps[l]?.getD undef = u := by rw [← hu]; simp
  simp only [results, h]
  simp [go_sem, ht2, hv2, hu2, e0, e1]
set_option maxRecDepth 100000 in
theorem results_p2 {fn : Func} {i j : Nat} (h : fn.results = #[.cell i 26, .tmp j]) {tmps : Array Value} {W : World} {b4 : Nat} {g : Pt} {v : Value} (ht : tmps.getD i undef = .pointer (some ⟨b4, 0, none⟩)) (hv : tmps.getD j undef = v) (hC : At W b4 g.o) : (results fn tmps).run Tryd.prog W = .ok (.tuple #[g.v, v]) W := by
  obtain ⟨e0, e1⟩ := hC.pl
  have ht2 : tmps[i]?.getD undef = .pointer (some ⟨b4, 0, none⟩) := by rw [← ht]; simp
  have hv2 : tmps[j]?.getD undef = v := by rw [← hv]; simp
  simp only [results, h]
  simp [go_sem, ht2, hv2, e0, e1]
theorem Tryd.results53 : Tryd.f53.results = #[.cell 2 26, .tmp 3, .tmp 4] := rfl
theorem Tryd.results33 : Tryd.f33.results = #[.cell 2 26, .tmp 3] := rfl
/-- A place is laid into a variable: the walk goes on in whatever world that is. -/
theorem wpl_storeP {w : World} {ops : Array Oper} {rest : List Oper} {a : Act} {Q : Exit → Act → World → Prop} {x y : Nat} {ty : TypeId} {pos : String} {after : Array Edge} (b : Nat) (f0 f : Pt) (hA : At w b f0.o)
    (hx : a.eval (.tmp x) = .pointer (some ⟨b, 0, none⟩)) (hy : a.eval (.tmp y) = f.v) (h : ∀ w', w' = S2 w b f → wpList Tryd.prog ops Q rest a w') : wpList Tryd.prog ops Q (⟨none, .store 26 (.tmp x) (.tmp y), ty, pos, after, none⟩ :: rest) a w := by
  refine wpList_plain rfl fun K hK => ?_
  have g0 := hA.plF 0
  have g1 := hA.plF 1
  obtain ⟨q0, q1⟩ := hA.pl
  have hx2 : a.tmps[x]?.getD undef = .pointer (some ⟨b, 0, none⟩) := by rw [← hx]; simp [Act.eval]
  have hy2 : a.tmps[y]?.getD undef = f.v := by rw [← hy]; simp [Act.eval]
  unfold Oper.wp
  simp [execOp, hx2, hy2, go_sem, q0, q1, g0, g1]
  exact hK _ _ (h _ rfl)
/-- The local with which a text begins. -/
def lcR (S : List UInt8) : Option (Int × List UInt8) := if S.head? = some 95 then dgs 0 0 S.tail else none
def LocPost (R : Option (Int × List UInt8)) (e : Ending) : Prop := match R with
  | some x => e = .returned (.tuple #[plV x.1 none 0 0, .string (str x.2), .bool true])
  | none => ∃ (n : Int) (r : ByteArray), e = .returned (.tuple #[plV n none 0 0, .string r, .bool false])
set_option maxRecDepth 100000 in
set_option maxHeartbeats 4000000 in
/-- localAhead. -/
theorem local_any (S : List UInt8) (hS : S.length ≤ 100000) (w : World) (R : Option (Int × List UInt8)) (hR : R = lcR S) :
    Calls Tryd.prog 53 #[.string (str S)] w fun e w' => LocPost R e ∧ Below w.heap.size w w' := by
  have C1 := hidD (fun W => cut_any 95 S W)
  have A0 : At (w.alloc (plO 0 none 0 0)) w.heap.size (plO 0 none 0 0) := At.new _ _
  have HA0 := hidD A0
  unfold lcR at hR
  by_cases h1 : S.head? = some 95
  · rw [if_pos h1] at hR
    have e1 : cutH 95 S = S.tail := if_pos h1
    rw [e1, decide_eq_true h1] at C1
    have hT : S.tail.length ≤ 100000 := by rw [List.length_tail]; omega
    generalize S.tail = T at *
    have C3 := hidD (fun W => num_any T hT W R hR)
    clear hR h1 e1
    obtain ⟨v, r, bb, hC4, hP⟩ : ∃ (v : Int) (r : ByteArray) (bb : Bool), (∀ W, Calls Tryd.prog 67 #[.string (str T)] W fun e w' => (∃ v r, NumPost R e ∧ e = .returned (.tuple #[.int .i64 v, .string r, .bool R.isSome])) ∧ ∃ d, w' = W.drewN d) ∧ True := by
      refine ⟨0, ⟨#[]⟩, true, fun W => (C3.out W).mono ?_, trivial⟩
      rintro e w' ⟨hN, hd⟩
      refine ⟨?_, hd⟩
      cases R with
      | some x => exact ⟨x.1, str x.2, hN, hN⟩
      | none =>
        obtain ⟨n, r, hN2⟩ := hN
        exact ⟨n, r, ⟨n, r, hN2⟩, hN2⟩
    clear v r bb hP C3
    have C4 := hidD hC4
    obtain ⟨ok, hok⟩ : ∃ ok, ok = R.isSome := ⟨_, rfl⟩
    rw [← hok] at C4
    have HOK := hidD hok
    clear hC4 hok
    have g0 := A0.plF (x := ⟨0, none, 0, 0⟩) 0
    have g1 := A0.plF (x := ⟨0, none, 0, 0⟩) 1
    clear A0
    go_enter Tryd.func53, Tryd.ntmps53
    go_wp2_with (first
      | (go_at_call 66; refine (C1.out _).mono ?_; rintro e w' ⟨rfl, hw⟩; subst hw)
      | (go_at_call 67; refine (C4.out _).mono ?_; rintro e w1 ⟨⟨v, r, hN, rfl⟩, d, hw⟩; subst hw; have HNN := hidD hN; clear hN))
    have F : At (((((w.alloc (Obj.cells #[Value.int IntKind.i64 0, Value.slice none 0 0] 26)).drewN d).setCell ⟨w.heap.size, 0, none⟩ (Value.int IntKind.i64 v)).setCell ⟨w.heap.size, 0, none⟩ (Value.int IntKind.i64 v)).setCell ⟨w.heap.size, 1, none⟩ (Value.slice none 0 0)) w.heap.size (plO v none 0 0) :=
      (At.set2 (x := ⟨v, none, 0, 0⟩) (HA0.out.drewN d).set2_0 ⟨v, none, 0, 0⟩)
    refine bodyPost_ret (results_p3 (g := ⟨v, none, 0, 0⟩) Tryd.results53 rfl rfl rfl F) rfl ⟨?_, ?_⟩
    · have hN := HNN.out
      rw [HOK.out] at hN ⊢
      cases R with
      | some x =>
        have e : Ending.returned (.tuple #[.int .i64 v, .string r, .bool true]) = Ending.returned (.tuple #[.int .i64 x.1, .string (str x.2), .bool true]) := hN
        injection e with e
        injection e with e
        simp at e
        show Ending.returned _ = Ending.returned _
        rw [e.1, e.2]
        rfl
      | none => exact ⟨v, r, rfl⟩
    · have b0 : Below w.heap.size w ((w.alloc (Obj.cells #[Value.int IntKind.i64 0, Value.slice none 0 0] 26)).drewN d) := belN (belA (Below.refl _ _)) d
      have b1 := b0.grown (((But.refl w.heap.size _).set 0 (.int .i64 v)).trans (but_s2 _ w.heap.size ⟨v, none, 0, 0⟩)) b0.size (fun k hk => by cases hk; exact Nat.le_refl _)
      exact b1
  · rw [if_neg h1] at hR
    have e1 : cutH 95 S = S := if_neg h1
    rw [e1, decide_eq_false h1] at C1
    subst hR
    clear h1 e1
    have g0 := A0.plF (x := ⟨0, none, 0, 0⟩) 0
    have g1 := A0.plF (x := ⟨0, none, 0, 0⟩) 1
    clear A0
    go_enter Tryd.func53, Tryd.ntmps53
    go_wp2_with (go_at_call 66; refine (C1.out _).mono ?_; rintro e w' ⟨rfl, hw⟩; subst hw)
    refine bodyPost_ret (results_p3 (g := ⟨0, none, 0, 0⟩) Tryd.results53 rfl rfl rfl HA0.out) rfl ⟨⟨0, _, rfl⟩, ?_⟩
    exact belA (Below.refl _ _)
/-- What Read tells. -/
def ReadPost (R : Option (Int × List Int)) (w w' : World) (e : Ending) : Prop := ∃ (x : Pt) (p : List Int) (er : Int), e = .returned (.tuple #[x.v, .int .i64 er]) ∧ PAt w' x p ∧ (R = some (x.l, p) ∧ er = 0 ∨ R = none ∧ x = ⟨0, none, 0, 0⟩ ∧ p = [] ∧ er = 90) ∧ ∀ ad, x.a = some ad → w.heap.size ≤ ad.block
/-- While steps are read. -/
structure RdS (w V : World) (b1 : Nat) (l : Int) (q : List Int) (a : Option Addr) (cap : Nat) : Prop where
  row : V.ownsRow w.heap.size 62 1 (.slice a q.length cap) q.length (q.map (.int .i64))
  var : At V b1 (plO l a q.length cap)
  res : At V w.heap.size (plO 0 none 0 0)
  bel : Below w.heap.size w V
  lo : w.heap.size < b1
/-- What is still to come. -/
def RdR (R : Option (Int × List Int)) (l : Int) (q : List Int) (T : List UInt8) : Prop := q.length ≤ 8 ∧ T.length ≤ 100000 ∧ R = (stsR (8 - q.length) T).map (fun p => (l, q ++ p)) ∧ (∀ s ∈ q, -1 ≤ s ∧ s ≤ 9223372036854775807) ∧ 0 ≤ l ∧ l ≤ 9223372036854775807
theorem RdR.step {R : Option (Int × List Int)} {l : Int} {q : List Int} {T : List UInt8} (h : RdR R l q T) (hq : q.length < 8) (hT : ¬ T = []) {s : Int} {r : List UInt8} (hs : stR T = some (s, r)) : RdR R l (q ++ [s]) r := by
  obtain ⟨h1, h2, h3, h4, h5, h6⟩ := h
  obtain ⟨g1, g2, g3⟩ := stR_text hs
  refine ⟨by simp; omega, ?_, ?_, ?_, h5, h6⟩
  · have := congrArg List.length g3
    rw [List.length_append] at this
    omega
  · rw [h3, show 8 - q.length = (8 - (q ++ [s]).length) + 1 by simp; omega, stsR, if_neg hT, hs]
    show Option.map _ (Option.map _ _) = _
    rw [Option.map_map]
    congr 1
    funext p
    simp
  · intro y hy
    rcases List.mem_append.1 hy with hy | hy
    · exact h4 y hy
    · simp at hy
      subst hy
      exact ⟨g1, g2⟩
theorem RdR.stuck {R : Option (Int × List Int)} {l : Int} {q : List Int} {T : List UInt8} (h : RdR R l q T) (hq : q.length < 8) (hT : ¬ T = []) (hs : stR T = none) : R = none := by
  obtain ⟨h1, h2, h3, h4, h5, h6⟩ := h
  rw [h3, show 8 - q.length = (7 - q.length) + 1 by omega, stsR, if_neg hT, hs]
  rfl
theorem RdR.full {R : Option (Int × List Int)} {l : Int} {q : List Int} {T : List UInt8} (h : RdR R l q T) (hq : q.length = 8) (hT : ¬ T = []) : R = none := by
  obtain ⟨h1, h2, h3, h4, h5, h6⟩ := h
  rw [h3, hq, stsR, if_neg hT]
  rfl
theorem RdR.done {R : Option (Int × List Int)} {l : Int} {q : List Int} (h : RdR R l q []) : R = some (l, q) := by
  obtain ⟨h1, h2, h3, h4, h5, h6⟩ := h
  rw [h3]
  have : ∀ k, stsR k [] = some [] := fun k => by cases k <;> rfl
  rw [this]
  simp
theorem row_int {V : World} {B n cap : Nat} {a : Option Addr} {q : List Int} (h : V.ownsRow B 62 1 (.slice a q.length cap) q.length (q.map (.int .i64))) (hr : ∀ x ∈ q, -9223372036854775808 ≤ x ∧ x ≤ 9223372036854775807) : IntR V a q.length cap q := by
  rcases h.2 with ⟨e, h0⟩ | ⟨g, cap', cur, e, h1, hg, h2, h3, h4, ht⟩
  · injection e with e1 e2 e3
    subst e1 e3
    refine ⟨rfl, by omega, by simp, fun hne => ?_, hr, fun _ => rfl⟩
    exact absurd (List.length_eq_zero_iff.1 h0) hne
  · injection e with e1 e2 e3
    subst e1 e3
    refine ⟨rfl, h2, h3, fun hne => ⟨g, 0, rfl, lt_of_block hg, fun i x hx => ?_⟩, hr, fun e => by cases e⟩
    rw [Nat.zero_add]
    exact (own_cell h (j := i) (u := .int .i64 x) (by rw [List.getElem?_map, hx]; rfl)).1
theorem row_ne {V : World} {B n cap b1 : Nat} {a : Option Addr} {xs : List Value} {x : Pt} (h : V.ownsRow B 62 1 (.slice a n cap) n xs) (hA : At V b1 x.o) : some b1 ≠ (Value.slice a n cap).ownBlock := by
  rcases h.2 with ⟨e, h0⟩ | ⟨g, cap', cur, e, h1, hg, h2, h3, h4, ht⟩
  · injection e with e1 e2 e3
    subst e1
    simp [Value.ownBlock]
  · injection e with e1 e2 e3
    subst e1
    intro e
    have e2 : b1 = g := by simpa [Value.ownBlock] using e
    subst e2
    unfold At at hA
    rw [hg] at hA
    simp at hA
theorem new1 (W : World) (u : Value) (t : Nat) : ∀ j x, [u][j]? = some x → (W.alloc (.cells #[u] t)).cell? ((⟨W.heap.size, 0, none⟩ : Addr).add j) = some x := fun j x hx => by
  rw [Addr.add_lit, Nat.zero_add]
  have hA : At (W.alloc (.cells #[u] t)) W.heap.size (.cells #[u] t) := At.new _ _
  generalize W.alloc (.cells #[u] t) = W' at hA ⊢
  unfold At at hA
  have : W'.cell? ⟨W.heap.size, j, none⟩ = #[u][j]? := by simp [World.cell?, hA]
  rw [this]
  simpa using hx
/-- Behind an append and the store of what came of it. -/
theorem RdS.next {w V V2 : World} {b1 : Nat} {l s : Int} {q : List Int} {a a' : Option Addr} {cap cap' : Nat} (h : RdS w V b1 l q a cap) (ho : V2.ownsRow w.heap.size 62 1 (.slice a' (q.length + 1) cap') (q.length + 1) (q.map (.int .i64) ++ [.int .i64 s])) (hg : (V.alloc (.cells #[.int .i64 s] 62)).grownBy V2 (Value.slice a q.length cap).ownBlock) :
    RdS w (V2.setCell ⟨b1, 1, none⟩ (.slice a' (q.length + 1) cap')) b1 l (q ++ [s]) a' cap' := by
  have hv2 : At V2 b1 (plO l a q.length cap) := (h.var.alloc _).grown hg (row_ne h.row (x := ⟨l, a, q.length, cap⟩) h.var)
  have hr2 : At V2 w.heap.size (plO 0 none 0 0) := (h.res.alloc _).grown hg (row_ne h.row (x := ⟨0, none, 0, 0⟩) h.res)
  have hb2 : Below w.heap.size w V2 := by
    refine (belA h.bel).grown hg (by have := h.bel.size; simp; omega) (fun g e => ?_)
    rcases h.row.2 with ⟨e1, h0⟩ | ⟨g', cap', cur, e1, h1, hg', -⟩
    · injection e1 with e2 e3 e4
      subst e2
      simp [Value.ownBlock] at e
    · injection e1 with e2 e3 e4
      subst e2
      simp [Value.ownBlock] at e
      omega
  have el : (q ++ [s]).length = q.length + 1 := by simp
  refine ⟨?_, ?_, hr2.set (by have := h.lo; simp; omega) _, ?_, h.lo⟩
  · rw [el, List.map_append]
    have hne := row_ne ho (x := ⟨l, a, q.length, cap⟩) hv2
    refine ⟨ho.1, ?_⟩
    rcases ho.2 with ⟨e1, h0⟩ | ⟨g', cap2, cur, e1, h1, hg', h2⟩
    · omega
    · injection e1 with e2 e3 e4
      subst e2 e4
      refine .inr ⟨g', _, cur, rfl, h1, ?_, h2⟩
      have hn : g' ≠ b1 := fun e => hne (by simp [Value.ownBlock, e])
      exact (At.set (a := ⟨b1, 1, none⟩) hg' hn _ : At _ g' _)
  · rw [el]
    exact hv2.set2_1
  · exact hb2.grown ((But.refl b1 V2).set 1 _) hb2.size (fun k hk => by cases hk; have := h.lo; omega)
end Go.Proofs.YtnohcppipkpgmaaDoor
