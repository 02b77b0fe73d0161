import Derived.Test.YtjchbclkdbojpaaDoorAu
import Derived.Test.YtjchbclkdbojpaaDoorAf
namespace Go.Proofs.YtjchbclkdbojpaaDoor
open Go.RowKit Go.Shelf
set_option linter.unusedVariables false
set_option linter.unusedSimpArgs false

theorem TyAt.rg {w : World} : ∀ {c : Ch} {f : Fv}, TyAt w f c.ty → c.rg
  | .leaf k s, f, h => by obtain ⟨a, cap, rfl, h1, h2, h3⟩ := h.leaf; exact ⟨h1, h2, h3⟩
  | .box c, f, h => by obtain ⟨g, off, cap, f', rfl, _, h2⟩ := h.box; exact TyAt.rg (c := c) h2
  | .ref m r c, f, h => by obtain ⟨g, off, cap, f', rfl, _, h2, h3, h4⟩ := h.ref; exact ⟨⟨h3, h4⟩, TyAt.rg (c := c) h2⟩
theorem Ok.rg {c : Ch} {w : World} {f : Fv} (h : TyAt w f c.ty) : c.rg := TyAt.rg h
/-- The two types of a law lie in its variables. -/
structure Lw (w : World) (f f' : Fv) (W : World) : Prop where
  bel : Below w.heap.size w W
  a : At W w.heap.size f.o
  b : At W (w.heap.size + 1) f'.o
theorem Lw.lt {w W : World} {f f' : Fv} (h : Lw w f f' W) : w.heap.size + 2 ≤ W.heap.size := by have := h.b.lt; omega
theorem Lw.below {w W W' : World} {f f' : Fv} (h : Lw w f f' W) (k : Below W.heap.size W W') : Lw w f f' W' := ⟨below_aft h.bel k, h.a.below k, h.b.below k⟩
theorem Lw.alloc {w W : World} {f f' : Fv} (h : Lw w f f' W) (o : Obj) : Lw w f f' (W.alloc o) := h.below (belA (Below.refl _ _))
theorem Lw.drew {w W : World} {f f' : Fv} (h : Lw w f f' W) : Lw w f f' W.drew := h.below (Below.refl _ _).drew
theorem Lw.out {w W W' : World} {f f' : Fv} {lo hi : Nat} (h : Lw w f f' W) (k : Out lo hi W W') (hl : w.heap.size + 2 ≤ lo) : Lw w f f' W' := ⟨h.bel.trans (k.bel.mono (by omega)), k.at h.a (.inl (by omega)), k.at h.b (.inl (by omega))⟩
theorem Lw.s5 {w W : World} {f f' : Fv} {b : Nat} (h : Lw w f f' W) (hb : w.heap.size + 2 ≤ b) (g : Fv) : Lw w f f' (S5 W b g) := ⟨below_s5 h.bel (by omega) g, h.a.S5 (by omega) g, h.b.S5 (by omega) g⟩
theorem lw_two {w w1 w2 : World} {f f' : Fv} (h1 : Below ((w.alloc f.o).alloc f'.o).heap.size ((w.alloc f.o).alloc f'.o) w1) (h2 : Below w1.heap.size w1 w2) : Lw w f f' w2 :=
  ((⟨belB w f f', (At.new w f.o).alloc f'.o, at_snd w f.o f'.o⟩ : Lw w f f' ((w.alloc f.o).alloc f'.o)).below h1).below h2
/-- A variable that holds a type in memory of its own. -/
structure Vr (W : World) (b : Nat) (f : Fv) (lo hi : Nat) (C : Ch) : Prop where
  v : At W b f.o
  own : OwnL W lo hi f C
  apart : b < lo ∨ hi ≤ b
theorem Vr.below {W W' : World} {b lo hi : Nat} {f : Fv} {C : Ch} (h : Vr W b f lo hi C) (k : Below W.heap.size W W') : Vr W' b f lo hi C := ⟨h.v.below k, h.own.bel k, h.apart⟩
theorem Vr.alloc {W : World} {b lo hi : Nat} {f : Fv} {C : Ch} (h : Vr W b f lo hi C) (o : Obj) : Vr (W.alloc o) b f lo hi C := h.below (belA (Below.refl _ _))
theorem Vr.drew {W : World} {b lo hi : Nat} {f : Fv} {C : Ch} (h : Vr W b f lo hi C) : Vr W.drew b f lo hi C := h.below (Below.refl _ _).drew
theorem Vr.out {W W' : World} {b lo hi lo' hi' : Nat} {f : Fv} {C : Ch} (h : Vr W b f lo hi C) (k : Out lo' hi' W W') (h1 : hi ≤ lo' ∨ hi' ≤ lo) (h2 : b < lo' ∨ hi' ≤ b) : Vr W' b f lo hi C := ⟨k.at h.v h2, h.own.out k h1, h.apart⟩
theorem Vr.s5 {W : World} {b b' lo hi : Nat} {f : Fv} {C : Ch} (h : Vr W b f lo hi C) (hn : b ≠ b') (ha : b' < lo ∨ hi ≤ b') (g : Fv) : Vr (S5 W b' g) b f lo hi C := ⟨h.v.S5 hn g, h.own.keep fun i o h1 h2 hA => hA.S5 (by omega) g, h.apart⟩
theorem Vr.new {W w' : World} {f : Fv} {C : Ch} (h : New W w' f C) : Vr (w'.alloc f.o) w'.heap.size f W.heap.size w'.heap.size C := ⟨At.new _ _, h.own.bel (belA (Below.refl _ _)), .inr (Nat.le_refl _)⟩
theorem Vr.put {W w' : World} {f f0 : Fv} {C : Ch} {b : Nat} (h : New W w' f C) (hA : At W b f0.o) : Vr (S5 w' b f) b f W.heap.size w'.heap.size C :=
  ⟨(hA.below h.bel).set5 f, h.own.keep fun i o h1 h2 hB => hB.S5 (by have := hA.lt; omega) f, .inl hA.lt⟩
theorem Vr.ty {W : World} {b lo hi : Nat} {f : Fv} {C : Ch} (h : Vr W b f lo hi C) (hr : C.rg) : TyAt W f C.ty := h.own.ty hr
/-- What 'New' and a number is told. -/
def NewC (fn : Nat) (av : Array Value) (no : Int) (C : Ch) (w : World) : Prop := ∀ W, Below w.heap.size w W → Calls Tryd.prog fn av W fun e w' => ∃ f' : Fv, e = .returned (.tuple #[f'.v, .int .i64 no]) ∧ New W w' f' C
def NewD (fn : Nat) (av : Array Value) (m no : Int) (C : Ch) (w : World) : Prop := ∀ W, Below w.heap.size w W → Calls Tryd.prog fn av W fun e w' => ∃ f' : Fv, e = .returned (.tuple #[f'.v, .int .i64 m, .int .i64 no]) ∧ New W w' f' C
def AnewC (fn : Nat) (f : Fv) (X : List Int) (no : Int) (C : Ch) (w : World) : Prop := ∀ W a n cap, Below w.heap.size w W → IntR W a n cap X → Calls Tryd.prog fn #[f.v, .slice a n cap] W fun e w' => ∃ f' : Fv, e = .returned (.tuple #[f'.v, .int .i64 no]) ∧ New W w' f' C
def BoolC (fn : Nat) (av : Array Value) (b : Bool) (w : World) : Prop := ∀ W, Below w.heap.size w W → Calls Tryd.prog fn av W fun e w' => e = .returned (.bool b) ∧ Below W.heap.size W w'
def RowC (fn : Nat) (f : Fv) (R : List Int) (w : World) : Prop := ∀ W, Below w.heap.size w W → Calls Tryd.prog fn #[f.v] W fun e w' => (∃ v, e = .returned v ∧ w'.ownsRow W.heap.size 3 1 v R.length (iCells R)) ∧ Below W.heap.size W w'
/-- All that the law asks of its two types, said of both sides at once. -/
structure TurnAll (w : World) (f f' : Fv) (fr : Int) (X : List Int) (is : Bool) (c : Ch) (no0 : Int) (C0 : Ch) (al sa : Bool) (R : List Int) (m1 no1 : Int) (C1 : Ch) (no2 : Int) (C2 : Ch) : Prop where
  is_yes : is = true → no0 = 0 ∧ C0 = c ∧ TyAt w f c.ty
  is_no : is = false → no0 = 2 ∧ C0 = .leaf 0 0
  own : NewC 26 #[f.v] no0 C0 w
  isb : BoolC 27 #[f.v] is w
  al1 : BoolC 28 #[f.v, f'.v] al w
  al2 : BoolC 29 #[f.v, f'.v] al w
  sa1 : BoolC 30 #[f.v, f'.v] sa w
  sa2 : BoolC 31 #[f.v, f'.v] sa w
  r1 : RowC 32 f R w
  r2 : RowC 33 f R w
  n1 : NewD 34 #[f.v, .int .i64 fr] m1 no1 C1 w
  n2 : NewD 35 #[f.v, .int .i64 fr] m1 no1 C1 w
  a1 : AnewC 36 f X no2 C2 w
  a2 : AnewC 37 f X no2 C2 w
  rg0 : C0.rg
  rg1 : C1.rg
  rg2 : C2.rg
  len : R.length ≤ 60
theorem rg_zero : (Ch.leaf 0 0).rg := ⟨by decide, by decide, by decide⟩
theorem row_none {fn : Nat} {f : Fv} {w : World} (h : ∀ W, Below w.heap.size w W → Calls Tryd.prog fn #[f.v] W fun e w' => e = .returned (.slice none 0 0) ∧ Below W.heap.size W w') : RowC fn f [] w := fun W hW => (h W hW).mono (by
  rintro e w' ⟨rfl, hb⟩
  exact ⟨⟨_, rfl, World.ownsRow_nil _ _ _ _⟩, hb⟩)
theorem same_pair (t u : Ty) (f f' : Fv) (w : World) (h : TyAt w f t) (h' : TyAt w f' u) : ∃ al sa, BoolC 28 #[f.v, f'.v] al w ∧ BoolC 29 #[f.v, f'.v] al w ∧ BoolC 30 #[f.v, f'.v] sa w ∧ BoolC 31 #[f.v, f'.v] sa w := by
  by_cases hn : isT t = false ∨ isT u = false
  · have hA : ∀ W, Below w.heap.size w W → Calls Tryd.prog 28 #[f.v, f'.v] W fun e w' => e = .returned (.bool false) ∧ Below W.heap.size W w' := fun W hW => Alike_no t u f f' W (h.bel hW) (h'.bel hW) hn
    exact ⟨false, false, hA, fun W hW => rAlike_no t u f f' W (h.bel hW) (h'.bel hW) hn, fun W hW => Same_no f f' W (fun V hV => hA V (below_aft hW hV)), fun W hW => rSame_no t u f f' W (h.bel hW) (h'.bel hW) hn⟩
  · have h1 : isT t = true := by cases e : isT t <;> simp_all
    have h2 : isT u = true := by cases e : isT u <;> simp_all
    obtain ⟨c, rfl, hc⟩ := ok_of h1
    obtain ⟨d, rfl, hd⟩ := ok_of h2
    exact ⟨alikeB c d, sameC c d, fun W hW => Alike_yes c d f f' W (h.bel hW) (h'.bel hW) hc hd, fun W hW => rAlike_yes c d f f' W (h.bel hW) (h'.bel hW) hc hd, fun W hW => Same_yes c d f f' W (h.bel hW) (h'.bel hW) hc hd, fun W hW => rSame_yes c d f f' W (h.bel hW) (h'.bel hW) hc hd⟩
theorem number_both (t : Ty) (f : Fv) (fr : Int) (w : World) (h : TyAt w f t) : ∃ m no C, NewD 34 #[f.v, .int .i64 fr] m no C w ∧ NewD 35 #[f.v, .int .i64 fr] m no C w ∧ C.rg := by
  by_cases hn : isT t = false ∨ fr < 0 ∨ 512 < fr
  · exact ⟨0, 2, _, fun W hW => Number_no t f fr W (h.bel hW) _ rfl hn, fun W hW => rNumber_no t f fr W (h.bel hW) _ rfl hn, rg_zero⟩
  · have h1 : isT t = true := by cases e : isT t <;> simp_all
    obtain ⟨c, rfl, hc⟩ := ok_of h1
    have h0 : 0 ≤ fr ∧ fr ≤ 512 := by constructor <;> (apply Classical.byContradiction; intro hh; apply hn; omega)
    refine ⟨_, 0, _, fun W hW => Number_yes c f fr W hc (h.bel hW) h0.1 h0.2, fun W hW => rNumber_yes c f fr W hc (h.bel hW) h0.1 h0.2, lay_rg c _ (TyAt.rg h) (fun x hx => ?_)⟩
    obtain ⟨i, hi⟩ := List.mem_iff_getElem?.1 hx
    have hil := (List.getElem?_eq_some_iff.1 hi).1
    rw [numL_len] at hil
    rw [numL_get _ _ _ hil] at hi
    cases hi
    have := hc.deep
    have := regs_le c
    omega
theorem anew_both (t : Ty) (f : Fv) (X : List Int) (w : World) (h : TyAt w f t) (hX : ∀ x ∈ X, -9223372036854775808 ≤ x ∧ x ≤ 9223372036854775807) : ∃ no C, AnewC 36 f X no C w ∧ AnewC 37 f X no C w ∧ C.rg := by
  cases hb : isT t with
  | false => exact ⟨2, _, fun W a n cap hW hr => Anew_un t f a n cap W (h.bel hW) hb, fun W a n cap hW hr => rAnew_un t f a n cap W (h.bel hW) hb, rg_zero⟩
  | true =>
    obtain ⟨c, rfl, hc⟩ := ok_of hb
    by_cases hl : X.length = c.regs.length
    · refine ⟨anN X, anC c X, fun W a n cap hW hr => Anew_yes c f a n cap X W hc (h.bel hW) hr hl, fun W a n cap hW hr => rAnew_yes c f a n cap X W hc (h.bel hW) hr hl, ?_⟩
      unfold anC
      split
      · exact lay_rg c X (TyAt.rg h) hX
      · exact rg_zero
    · exact ⟨2, _, fun W a n cap hW hr => Anew_len c f a n cap W hc (h.bel hW) (by rw [hr.len]; exact hl), fun W a n cap hW hr => rAnew_len c f a n cap W hc (h.bel hW) (by rw [hr.len]; exact hl), rg_zero⟩
theorem turn_all (t u : Ty) (f f' : Fv) (fr : Int) (X : List Int) (w : World) (h : TyAt w f t) (h' : TyAt w f' u) (hX : ∀ x ∈ X, -9223372036854775808 ≤ x ∧ x ≤ 9223372036854775807) : ∃ is c no0 C0 al sa R m1 no1 C1 no2 C2, TurnAll w f f' fr X is c no0 C0 al sa R m1 no1 C1 no2 C2 := by
  obtain ⟨al, sa, s1, s2, s3, s4⟩ := same_pair t u f f' w h h'
  obtain ⟨m1, no1, C1, n1, n2, n3⟩ := number_both t f fr w h
  obtain ⟨no2, C2, a1, a2, a3⟩ := anew_both t f X w h hX
  cases hb : isT t with
  | false =>
    refine ⟨false, .leaf 0 0, 2, .leaf 0 0, al, sa, [], m1, no1, C1, no2, C2, ⟨fun e => (by cases e), fun _ => ⟨rfl, rfl⟩, fun W hW => Own_no t f W hb (h.bel hW), fun W hW => ?_, s1, s2, s3, s4, row_none fun W hW => Regions_no t f W (h.bel hW) hb, row_none fun W hW => rRegions_no t f W (h.bel hW) hb, n1, n2, a1, a2, rg_zero, n3, a3, by simp⟩⟩
    have := is_any t f W (h.bel hW)
    rw [hb] at this
    exact this
  | true =>
    obtain ⟨c, rfl, hc⟩ := ok_of hb
    refine ⟨true, c, 0, c, al, sa, c.regs, m1, no1, C1, no2, C2, ⟨fun _ => ⟨rfl, rfl, h⟩, fun e => (by cases e), fun W hW => Own_yes c f W hc (h.bel hW), fun W hW => ?_, s1, s2, s3, s4, fun W hW => Regions_yes c f W hc (h.bel hW), fun W hW => rRegions_yes c f W hc (h.bel hW), n1, n2, a1, a2, TyAt.rg h, n3, a3, by have := hc.deep; have := regs_le c; omega⟩⟩
    have := is_any c.ty f W (h.bel hW)
    rw [hb] at this
    exact this
/-- A row of numbers, whoever's it is, is appended to a row of one's own. -/
theorem wpl_append_int {w : World} {ops : Array Oper} {rest : List Oper} {o : Oper} {a : Act} {Q : Exit → Act → World → Prop} (hgd : o.guard = none) (s x : Operand)
    (ho : o.op = .call { callee := .builtin .append, args := #[s, x], argTypes := #[49, 49] }) (base : Nat)
    (v : Value) (n : Nat) (xs : List Value) (hs : a.eval s = v) (hown : w.ownsRow base 3 1 v n xs)
    (ad : Option Addr) (m c : Nat) (L : List Int) (hx : a.eval x = .slice ad m c) (hI : IntR w ad m c L) (h63 : n + m ≤ maxLen) (hbytes : (n + m) * 8 ≤ 140737488355328) (hbase : base ≤ w.heap.size)
    (h : ∀ v' w', w'.ownsRow base 3 1 v' (n + m) (xs ++ iCells L) → w.grownBy w' v.ownBlock → wpList Tryd.prog ops Q rest (a.put o.dst v') w') : wpList Tryd.prog ops Q (o :: rest) a w := by
  obtain ⟨i0, hi, hz0, hz1, hz2⟩ := info_parts Tryd.info3
  refine wpList_plain hgd fun K hK => ?_
  cases ad with
  | none =>
    have hL : L = [] := Classical.byContradiction fun hne => by obtain ⟨g, off, e, _⟩ := hI.cells hne; cases e
    subst hL
    obtain rfl : m = 0 := hI.len
    obtain rfl : c = 0 := hI.nil rfl
    have hrun := run_append_owned_none (P := Tryd.prog) (w := w) base 49 o.type 3 i0 1 Tryd.underlying49 hi v n xs hown
    unfold Oper.wp
    simp [execOp, ho, resolve, invoke, builtin, hs, hx, hrun, Result.andThen]
    exact hK _ _ (h v w (by simpa [iCells] using hown) (World.grownBy.refl w _))
  | some ad =>
    refine wp_append_own w s x 49 ho base 3 i0 (.int .i64 0) 1 8 Tryd.underlying49 hi hz0 hz1 hz2 rfl (by decide) v n xs hs hown ad m c (iCells L) hx (by rw [hI.len]; simp [iCells]) (fun j u hu => ?_) (i_ones L) h63 hbytes hbase (fun v' w' h2 h3 _ => hK _ _ (h v' w' h2 h3))
    have hne : L ≠ [] := fun e => by subst e; simp [iCells] at hu
    obtain ⟨g, off, e, _, hc⟩ := hI.cells hne
    cases e
    simp only [iCells, List.getElem?_map, Option.map_eq_some_iff] at hu
    obtain ⟨y, hy, rfl⟩ := hu
    rw [show (⟨g, off, none⟩ : Addr).add j = ⟨g, off + j, none⟩ by cases j <;> simp [Addr.add]]
    exact hc j y hy
end Go.Proofs.YtjchbclkdbojpaaDoor
