import Derived.Test.YtjchbclkdbojpaaDoorAi
namespace Go.Proofs.YtjchbclkdbojpaaDoor
open Go.RowKit Go.Shelf
set_option linter.unusedVariables false
set_option linter.unusedSimpArgs false

/-- What 'Asks' gives of two types, and when. -/
theorem asks_one (t u : Ty) (f f' : Fv) (w : World) (h : TyAt w f t) (h' : TyAt w f' u) : ∃ X no, AskC 38 f f' X no w ∧ ((no = 2 ∧ X = []) ∨ (no = 0 ∧ ∃ c d, t = c.ty ∧ u = d.ty ∧ Ok c ∧ Ok d ∧ alikeB c d = true ∧ bareB c = false ∧ bareB d = false ∧ X = asksL false c d)) := by
  by_cases hn : isT t = false ∨ isT u = false
  · exact ⟨[], 2, ask_none fun W hW => Asks_no t u f f' W (h.bel hW) (h'.bel hW) false (fun W' hW' => Alike_no t u f f' W' ((h.bel hW).bel hW') ((h'.bel hW).bel hW') hn) (fun e => by cases e), .inl ⟨rfl, rfl⟩⟩
  · have h1 : isT t = true := by cases e : isT t <;> simp_all
    have h2 : isT u = true := by cases e : isT u <;> simp_all
    obtain ⟨c, rfl, hc⟩ := ok_of h1
    obtain ⟨d, rfl, hd⟩ := ok_of h2
    cases ha : alikeB c d with
    | false => exact ⟨[], 2, ask_none fun W hW => Asks_no c.ty d.ty f f' W (h.bel hW) (h'.bel hW) false (fun W' hW' => ha ▸ Alike_yes c d f f' W' ((h.bel hW).bel hW') ((h'.bel hW).bel hW') hc hd) (fun e => by cases e), .inl ⟨rfl, rfl⟩⟩
    | true =>
      by_cases hb : bareB c = true ∨ bareB d = true
      · exact ⟨[], 2, ask_none fun W hW => Asks_no c.ty d.ty f f' W (h.bel hW) (h'.bel hW) true (fun W' hW' => ha ▸ Alike_yes c d f f' W' ((h.bel hW).bel hW') ((h'.bel hW).bel hW') hc hd) (fun _ => ⟨c, d, rfl, rfl, hc, hd, hb⟩), .inl ⟨rfl, rfl⟩⟩
      · have b1 : bareB c = false := by cases e : bareB c <;> simp_all
        have b2 : bareB d = false := by cases e : bareB d <;> simp_all
        exact ⟨asksL false c d, 0, fun W hW => Asks_yes c d f f' W hc hd (h.bel hW) (h'.bel hW) ha b1 b2, .inr ⟨rfl, c, d, rfl, rfl, hc, hd, ha, b1, b2, rfl⟩⟩
set_option maxRecDepth 100000 in
set_option maxHeartbeats 8000000 in
theorem ord_22 (t u x : Ty) (f f' f'' : Fv) (w : World) (h : TyAt w f t) (h' : TyAt w f' u) (h'' : TyAt w f'' x) (hF : FitC 14 t true) (hF' : FitC 14 u true) (hF'' : FitC 14 x true) (Xs X1 X2 X3 : List (Int × Int)) (e3 e2 : Int) (hAs : AskC 38 f f Xs 2 w) (hA1 : AskC 38 f f' X1 2 w) (hA2 : AskC 38 f' f'' X2 e2 w) (hA3 : AskC 38 f f'' X3 e3 w) (hs : ∀ p ∈ Xs, p.1 = p.2) (hls : Xs.length ≤ 96) :
    Calls Tryd.prog 7 #[f.v, f'.v, f''.v] w fun e w' => e = .returned (.bool true) ∧ Below w.heap.size w w' := by
  have CA : Hid (∀ W, Calls Tryd.prog 11 #[] W fun e w' => e = .returned (.bool true) ∧ Below W.heap.size W w') := hid awake_true
  obtain ⟨w0, hw0⟩ : ∃ w0, w0 = ((w.alloc f.o).alloc f'.o).alloc f''.o := ⟨_, rfl⟩
  have B0 : Below w.heap.size w w0 := by rw [hw0]; exact belA (belB w f f')
  have HN1 : Hid (At w0 w.heap.size f.o) := hid (by rw [hw0]; exact ((At.new w f.o).alloc f'.o).alloc f''.o)
  have HN2 : Hid (At w0 (w.heap.size + 1) f'.o) := hid (by rw [hw0]; exact (at_snd w f.o f'.o).alloc f''.o)
  have HN3 : Hid (At w0 (w.heap.size + 1 + 1) f''.o) := hid (by rw [hw0]; have := at_snd (w.alloc f.o) f'.o f''.o; simpa using this)
  have C1 : Hid (Calls Tryd.prog 10 #[f.v, .int .i64 14] (((w.alloc f.o).alloc f'.o).alloc f''.o) fun e w' => e = .returned (.bool true) ∧ Below (((w.alloc f.o).alloc f'.o).alloc f''.o).heap.size (((w.alloc f.o).alloc f'.o).alloc f''.o) w') := hid (hF f _ (h.bel (belA (belB w f f'))))
  have C2 : Hid (∀ W, Below w.heap.size w W → Calls Tryd.prog 10 #[f'.v, .int .i64 14] W fun e w' => e = .returned (.bool true) ∧ Below W.heap.size W w') := hid (fun W hW => hF' f' W (h'.bel hW))
  have C3 : Hid (∀ W, Below w.heap.size w W → Calls Tryd.prog 10 #[f''.v, .int .i64 14] W fun e w' => e = .returned (.bool true) ∧ Below W.heap.size W w') := hid (fun W hW => hF'' f'' W (h''.bel hW))
  have HAS := hid hAs
  have HA1 := hid hA1
  have HA2 := hid hA2
  have HA3 := hid hA3
  have HSS := hid hs
  have EQ0 : Hid (w0 = ((w.alloc f.o).alloc f'.o).alloc f''.o) := hid hw0
  obtain ⟨k, m, r, s, a, n, cap⟩ := f
  obtain ⟨k', m', r', s', a', n', cap'⟩ := f'
  obtain ⟨k'', m'', r'', s'', a'', n'', cap''⟩ := f''
  show Calls Tryd.prog 7 #[tyV k m r s a n cap, tyV k' m' r' s' a' n' cap', tyV k'' m'' r'' s'' a'' n'' cap''] w _
  clear h h' h'' hF hF' hF'' hAs hA1 hA2 hA3 hw0 hs
  have st1 : Stg 1 := .mk 1
  go_enter Tryd.func7, Tryd.ntmps7
  go_wp2_with (first
    | (have _s := st1; clear st1 _s; go_at_call 10; refine C1.out.mono ?_; rintro e w1 ⟨rfl, hb1'⟩; have hb1 : Below w0.heap.size w0 w1 := (by rw [EQ0.out]; exact hb1'); clear hb1'; obtain ⟨-, p0, p1, p2, p3, p4⟩ := (HN1.out.below hb1).ty; obtain ⟨-, q0, q1, q2, q3, q4⟩ := (HN2.out.below hb1).ty; obtain ⟨-, r0, r1, r2, r3, r4⟩ := (HN3.out.below hb1).ty; have st2 : Stg 2 := .mk 2)
    | (have _s := st2; clear st2 _s; go_at_call 10; refine (C2.out _ (below_aft B0 hb1)).mono ?_; rintro e w2 ⟨rfl, hb2⟩; have K2 := below_aft hb1 hb2; clear p0 p1 p2 p3 p4 q0 q1 q2 q3 q4 r0 r1 r2 r3 r4; obtain ⟨-, p0, p1, p2, p3, p4⟩ := (HN1.out.below K2).ty; obtain ⟨-, q0, q1, q2, q3, q4⟩ := (HN2.out.below K2).ty; obtain ⟨-, r0, r1, r2, r3, r4⟩ := (HN3.out.below K2).ty; have st3 : Stg 3 := .mk 3)
    | (have _s := st3; clear st3 _s; go_at_call 10; refine (C3.out _ (below_aft B0 K2)).mono ?_; rintro e w3 ⟨rfl, hb3⟩; have K3 := below_aft K2 hb3; clear p0 p1 p2 p3 p4 q0 q1 q2 q3 q4 r0 r1 r2 r3 r4; obtain ⟨-, p0, p1, p2, p3, p4⟩ := (HN1.out.below K3).ty; obtain ⟨-, q0, q1, q2, q3, q4⟩ := (HN2.out.below K3).ty; obtain ⟨-, r0, r1, r2, r3, r4⟩ := (HN3.out.below K3).ty; have st4 : Stg 4 := .mk 4)
    | (have _s := st4; clear st4 _s; go_at_call 38; refine (HAS.out _ (below_aft B0 K3)).mono ?_; rintro e w4 ⟨⟨vs, rfl, os⟩, hb4⟩; have K4 := below_aft K3 hb4; clear p0 p1 p2 p3 p4 q0 q1 q2 q3 q4 r0 r1 r2 r3 r4; obtain ⟨-, p0, p1, p2, p3, p4⟩ := (HN1.out.below K4).ty; obtain ⟨-, q0, q1, q2, q3, q4⟩ := (HN2.out.below K4).ty; obtain ⟨-, r0, r1, r2, r3, r4⟩ := (HN3.out.below K4).ty; have HOS := hid os; obtain ⟨a5, c5, rfl⟩ := own_sl HOS.out; clear os; have st5 : Stg 5 := .mk 5)
    | (have _s := st5; clear st5 _s; go_at_call 38; refine (HA1.out _ (below_aft B0 K4)).mono ?_; rintro e w5 ⟨⟨v1, rfl, o1⟩, hb5⟩; have K5 := below_aft K4 hb5; clear p0 p1 p2 p3 p4 q0 q1 q2 q3 q4 r0 r1 r2 r3 r4; obtain ⟨-, p0, p1, p2, p3, p4⟩ := (HN1.out.below K5).ty; obtain ⟨-, q0, q1, q2, q3, q4⟩ := (HN2.out.below K5).ty; obtain ⟨-, r0, r1, r2, r3, r4⟩ := (HN3.out.below K5).ty; have HO1 := hid o1; clear o1; have st6 : Stg 6 := .mk 6)
    | (have _s := st6; clear st6 _s; go_at_call 38; refine (HA2.out _ (below_aft B0 K5)).mono ?_; rintro e w6 ⟨⟨v2, rfl, o2⟩, hb6⟩; have K6 := below_aft K5 hb6; clear p0 p1 p2 p3 p4 q0 q1 q2 q3 q4 r0 r1 r2 r3 r4; obtain ⟨-, p0, p1, p2, p3, p4⟩ := (HN1.out.below K6).ty; obtain ⟨-, q0, q1, q2, q3, q4⟩ := (HN2.out.below K6).ty; obtain ⟨-, r0, r1, r2, r3, r4⟩ := (HN3.out.below K6).ty; have HO2 := hid o2; have HO1b := hid (own_below HO1.out hb6); clear o2; have st7 : Stg 7 := .mk 7)
    | (have _s := st7; clear st7 _s; go_at_call 38; refine (HA3.out _ (below_aft B0 K6)).mono ?_; rintro e w7 ⟨⟨v3, rfl, o3⟩, hb7⟩; have K7 := below_aft K6 hb7; clear p0 p1 p2 p3 p4 q0 q1 q2 q3 q4 r0 r1 r2 r3 r4; obtain ⟨-, p0, p1, p2, p3, p4⟩ := (HN1.out.below K7).ty; obtain ⟨-, q0, q1, q2, q3, q4⟩ := (HN2.out.below K7).ty; obtain ⟨-, r0, r1, r2, r3, r4⟩ := (HN3.out.below K7).ty; have HO3 := hid o3; have HO2b := hid (own_below HO2.out hb7); have HO1c := hid (own_below HO1b.out hb7); clear o3)
    | (go_at_call 11; refine (CA.out _).mono ?_; rintro e w9 ⟨rfl, hb9⟩))
  go_ret
  exact ⟨rfl, below_aft (below_aft B0 K7) hb9⟩
set_option maxRecDepth 100000 in
set_option maxHeartbeats 8000000 in
theorem ord_02 (t u x : Ty) (f f' f'' : Fv) (w : World) (h : TyAt w f t) (h' : TyAt w f' u) (h'' : TyAt w f'' x) (hF : FitC 14 t true) (hF' : FitC 14 u true) (hF'' : FitC 14 x true) (Xs X1 X2 X3 : List (Int × Int)) (e3 e2 : Int) (hAs : AskC 38 f f Xs 0 w) (hA1 : AskC 38 f f' X1 2 w) (hA2 : AskC 38 f' f'' X2 e2 w) (hA3 : AskC 38 f f'' X3 e3 w) (hs : ∀ p ∈ Xs, p.1 = p.2) (hls : Xs.length ≤ 96) :
    Calls Tryd.prog 7 #[f.v, f'.v, f''.v] w fun e w' => e = .returned (.bool true) ∧ Below w.heap.size w w' := by
  have CA : Hid (∀ W, Calls Tryd.prog 11 #[] W fun e w' => e = .returned (.bool true) ∧ Below W.heap.size W w') := hid awake_true
  obtain ⟨w0, hw0⟩ : ∃ w0, w0 = ((w.alloc f.o).alloc f'.o).alloc f''.o := ⟨_, rfl⟩
  have B0 : Below w.heap.size w w0 := by rw [hw0]; exact belA (belB w f f')
  have HN1 : Hid (At w0 w.heap.size f.o) := hid (by rw [hw0]; exact ((At.new w f.o).alloc f'.o).alloc f''.o)
  have HN2 : Hid (At w0 (w.heap.size + 1) f'.o) := hid (by rw [hw0]; exact (at_snd w f.o f'.o).alloc f''.o)
  have HN3 : Hid (At w0 (w.heap.size + 1 + 1) f''.o) := hid (by rw [hw0]; have := at_snd (w.alloc f.o) f'.o f''.o; simpa using this)
  have C1 : Hid (Calls Tryd.prog 10 #[f.v, .int .i64 14] (((w.alloc f.o).alloc f'.o).alloc f''.o) fun e w' => e = .returned (.bool true) ∧ Below (((w.alloc f.o).alloc f'.o).alloc f''.o).heap.size (((w.alloc f.o).alloc f'.o).alloc f''.o) w') := hid (hF f _ (h.bel (belA (belB w f f'))))
  have C2 : Hid (∀ W, Below w.heap.size w W → Calls Tryd.prog 10 #[f'.v, .int .i64 14] W fun e w' => e = .returned (.bool true) ∧ Below W.heap.size W w') := hid (fun W hW => hF' f' W (h'.bel hW))
  have C3 : Hid (∀ W, Below w.heap.size w W → Calls Tryd.prog 10 #[f''.v, .int .i64 14] W fun e w' => e = .returned (.bool true) ∧ Below W.heap.size W w') := hid (fun W hW => hF'' f'' W (h''.bel hW))
  have HAS := hid hAs
  have HA1 := hid hA1
  have HA2 := hid hA2
  have HA3 := hid hA3
  have HSS := hid hs
  have EQ0 : Hid (w0 = ((w.alloc f.o).alloc f'.o).alloc f''.o) := hid hw0
  obtain ⟨k, m, r, s, a, n, cap⟩ := f
  obtain ⟨k', m', r', s', a', n', cap'⟩ := f'
  obtain ⟨k'', m'', r'', s'', a'', n'', cap''⟩ := f''
  show Calls Tryd.prog 7 #[tyV k m r s a n cap, tyV k' m' r' s' a' n' cap', tyV k'' m'' r'' s'' a'' n'' cap''] w _
  clear h h' h'' hF hF' hF'' hAs hA1 hA2 hA3 hw0 hs
  have st1 : Stg 1 := .mk 1
  go_enter Tryd.func7, Tryd.ntmps7
  go_wp2_with (first
    | (have _s := st1; clear st1 _s; go_at_call 10; refine C1.out.mono ?_; rintro e w1 ⟨rfl, hb1'⟩; have hb1 : Below w0.heap.size w0 w1 := (by rw [EQ0.out]; exact hb1'); clear hb1'; obtain ⟨-, p0, p1, p2, p3, p4⟩ := (HN1.out.below hb1).ty; obtain ⟨-, q0, q1, q2, q3, q4⟩ := (HN2.out.below hb1).ty; obtain ⟨-, r0, r1, r2, r3, r4⟩ := (HN3.out.below hb1).ty; have st2 : Stg 2 := .mk 2)
    | (have _s := st2; clear st2 _s; go_at_call 10; refine (C2.out _ (below_aft B0 hb1)).mono ?_; rintro e w2 ⟨rfl, hb2⟩; have K2 := below_aft hb1 hb2; clear p0 p1 p2 p3 p4 q0 q1 q2 q3 q4 r0 r1 r2 r3 r4; obtain ⟨-, p0, p1, p2, p3, p4⟩ := (HN1.out.below K2).ty; obtain ⟨-, q0, q1, q2, q3, q4⟩ := (HN2.out.below K2).ty; obtain ⟨-, r0, r1, r2, r3, r4⟩ := (HN3.out.below K2).ty; have st3 : Stg 3 := .mk 3)
    | (have _s := st3; clear st3 _s; go_at_call 10; refine (C3.out _ (below_aft B0 K2)).mono ?_; rintro e w3 ⟨rfl, hb3⟩; have K3 := below_aft K2 hb3; clear p0 p1 p2 p3 p4 q0 q1 q2 q3 q4 r0 r1 r2 r3 r4; obtain ⟨-, p0, p1, p2, p3, p4⟩ := (HN1.out.below K3).ty; obtain ⟨-, q0, q1, q2, q3, q4⟩ := (HN2.out.below K3).ty; obtain ⟨-, r0, r1, r2, r3, r4⟩ := (HN3.out.below K3).ty; have st4 : Stg 4 := .mk 4)
    | (have _s := st4; clear st4 _s; go_at_call 38; refine (HAS.out _ (below_aft B0 K3)).mono ?_; rintro e w4 ⟨⟨vs, rfl, os⟩, hb4⟩; have K4 := below_aft K3 hb4; clear p0 p1 p2 p3 p4 q0 q1 q2 q3 q4 r0 r1 r2 r3 r4; obtain ⟨-, p0, p1, p2, p3, p4⟩ := (HN1.out.below K4).ty; obtain ⟨-, q0, q1, q2, q3, q4⟩ := (HN2.out.below K4).ty; obtain ⟨-, r0, r1, r2, r3, r4⟩ := (HN3.out.below K4).ty; have HOS := hid os; obtain ⟨a5, c5, rfl⟩ := own_sl HOS.out; clear os; have st5 : Stg 5 := .mk 5))
  go_loopw [9] (fun i W => ∃ j : Nat, j ≤ Xs.length ∧ i = .int .i64 j ∧ Below w4.heap.size w4 W) (fun i _ => Xs.length - (intOf i).toNat)
  case atStart => exact ⟨0, Nat.zero_le _, rfl, Below.refl _ _⟩
  case round =>
    obtain ⟨j, hj, rfl, hbl⟩ := hrel
    have K4w := below_aft K4 hbl
    clear p0 p1 p2 p3 p4 q0 q1 q2 q3 q4 r0 r1 r2 r3 r4
    by_cases hlt : j < Xs.length
    · obtain ⟨⟨xa, xb⟩, hx⟩ : ∃ x, Xs[j]? = some x := ⟨_, List.getElem?_eq_getElem hlt⟩
      have e : xa = xb := HSS.out _ (List.mem_of_getElem? hx)
      subst e
      obtain ⟨g, rfl, hB3, hg, x1, x2⟩ := row_pair (own_below HOS.out hbl) rfl hx
      have k0 : (0 : Int) ≤ (j : Int) := by omega
      have k1 : (j : Int) < (Xs.length : Int) := by omega
      have w9' : IntKind.i64.wrap ((j : Int) + 1) = (j : Int) + 1 := by rw [IntKind.wrap_i64]; omega
      have HBL := hid hbl
      clear hx hB3 hbl
      simp only at x1 x2
      go_wp2_with fail
      go_quiet (fail)
      go_wp2_with fail
      refine ⟨⟨j + 1, hlt, rfl, belN HBL.out _⟩, ?_⟩
      show Xs.length - ((j : Int) + 1).toNat < Xs.length - (j : Int).toNat
      omega
    · obtain rfl : j = Xs.length := by omega
      obtain ⟨-, p0, p1, p2, p3, p4⟩ := (HN1.out.below K4w).ty; obtain ⟨-, q0, q1, q2, q3, q4⟩ := (HN2.out.below K4w).ty; obtain ⟨-, r0, r1, r2, r3, r4⟩ := (HN3.out.below K4w).ty
      go_wp2_with (first
        | (have _s := st5; clear st5 _s; go_at_call 38; refine (HA1.out _ (below_aft B0 K4w)).mono ?_; rintro e w5 ⟨⟨v1, rfl, o1⟩, hb5⟩; have K5 := below_aft K4w hb5; clear p0 p1 p2 p3 p4 q0 q1 q2 q3 q4 r0 r1 r2 r3 r4; obtain ⟨-, p0, p1, p2, p3, p4⟩ := (HN1.out.below K5).ty; obtain ⟨-, q0, q1, q2, q3, q4⟩ := (HN2.out.below K5).ty; obtain ⟨-, r0, r1, r2, r3, r4⟩ := (HN3.out.below K5).ty; have HO1 := hid o1; clear o1; have st6 : Stg 6 := .mk 6)
        | (have _s := st6; clear st6 _s; go_at_call 38; refine (HA2.out _ (below_aft B0 K5)).mono ?_; rintro e w6 ⟨⟨v2, rfl, o2⟩, hb6⟩; have K6 := below_aft K5 hb6; clear p0 p1 p2 p3 p4 q0 q1 q2 q3 q4 r0 r1 r2 r3 r4; obtain ⟨-, p0, p1, p2, p3, p4⟩ := (HN1.out.below K6).ty; obtain ⟨-, q0, q1, q2, q3, q4⟩ := (HN2.out.below K6).ty; obtain ⟨-, r0, r1, r2, r3, r4⟩ := (HN3.out.below K6).ty; have HO2 := hid o2; have HO1b := hid (own_below HO1.out hb6); clear o2; have st7 : Stg 7 := .mk 7)
        | (have _s := st7; clear st7 _s; go_at_call 38; refine (HA3.out _ (below_aft B0 K6)).mono ?_; rintro e w7 ⟨⟨v3, rfl, o3⟩, hb7⟩; have K7 := below_aft K6 hb7; clear p0 p1 p2 p3 p4 q0 q1 q2 q3 q4 r0 r1 r2 r3 r4; obtain ⟨-, p0, p1, p2, p3, p4⟩ := (HN1.out.below K7).ty; obtain ⟨-, q0, q1, q2, q3, q4⟩ := (HN2.out.below K7).ty; obtain ⟨-, r0, r1, r2, r3, r4⟩ := (HN3.out.below K7).ty; have HO3 := hid o3; have HO2b := hid (own_below HO2.out hb7); have HO1c := hid (own_below HO1b.out hb7); clear o3)
        | (go_at_call 11; refine (CA.out _).mono ?_; rintro e w9 ⟨rfl, hb9⟩))
      go_ret
      exact ⟨rfl, below_aft (below_aft B0 K7) hb9⟩
set_option maxRecDepth 100000 in
set_option maxHeartbeats 8000000 in
theorem ord_002 (t u x : Ty) (f f' f'' : Fv) (w : World) (h : TyAt w f t) (h' : TyAt w f' u) (h'' : TyAt w f'' x) (hF : FitC 14 t true) (hF' : FitC 14 u true) (hF'' : FitC 14 x true) (Xs X1 X2 X3 : List (Int × Int)) (e3 : Int) (hAs : AskC 38 f f Xs 0 w) (hA1 : AskC 38 f f' X1 0 w) (hA2 : AskC 38 f' f'' X2 2 w) (hA3 : AskC 38 f f'' X3 e3 w) (hs : ∀ p ∈ Xs, p.1 = p.2) (hls : Xs.length ≤ 96) :
    Calls Tryd.prog 7 #[f.v, f'.v, f''.v] w fun e w' => e = .returned (.bool true) ∧ Below w.heap.size w w' := by
  have CA : Hid (∀ W, Calls Tryd.prog 11 #[] W fun e w' => e = .returned (.bool true) ∧ Below W.heap.size W w') := hid awake_true
  obtain ⟨w0, hw0⟩ : ∃ w0, w0 = ((w.alloc f.o).alloc f'.o).alloc f''.o := ⟨_, rfl⟩
  have B0 : Below w.heap.size w w0 := by rw [hw0]; exact belA (belB w f f')
  have HN1 : Hid (At w0 w.heap.size f.o) := hid (by rw [hw0]; exact ((At.new w f.o).alloc f'.o).alloc f''.o)
  have HN2 : Hid (At w0 (w.heap.size + 1) f'.o) := hid (by rw [hw0]; exact (at_snd w f.o f'.o).alloc f''.o)
  have HN3 : Hid (At w0 (w.heap.size + 1 + 1) f''.o) := hid (by rw [hw0]; have := at_snd (w.alloc f.o) f'.o f''.o; simpa using this)
  have C1 : Hid (Calls Tryd.prog 10 #[f.v, .int .i64 14] (((w.alloc f.o).alloc f'.o).alloc f''.o) fun e w' => e = .returned (.bool true) ∧ Below (((w.alloc f.o).alloc f'.o).alloc f''.o).heap.size (((w.alloc f.o).alloc f'.o).alloc f''.o) w') := hid (hF f _ (h.bel (belA (belB w f f'))))
  have C2 : Hid (∀ W, Below w.heap.size w W → Calls Tryd.prog 10 #[f'.v, .int .i64 14] W fun e w' => e = .returned (.bool true) ∧ Below W.heap.size W w') := hid (fun W hW => hF' f' W (h'.bel hW))
  have C3 : Hid (∀ W, Below w.heap.size w W → Calls Tryd.prog 10 #[f''.v, .int .i64 14] W fun e w' => e = .returned (.bool true) ∧ Below W.heap.size W w') := hid (fun W hW => hF'' f'' W (h''.bel hW))
  have HAS := hid hAs
  have HA1 := hid hA1
  have HA2 := hid hA2
  have HA3 := hid hA3
  have HSS := hid hs
  have EQ0 : Hid (w0 = ((w.alloc f.o).alloc f'.o).alloc f''.o) := hid hw0
  obtain ⟨k, m, r, s, a, n, cap⟩ := f
  obtain ⟨k', m', r', s', a', n', cap'⟩ := f'
  obtain ⟨k'', m'', r'', s'', a'', n'', cap''⟩ := f''
  show Calls Tryd.prog 7 #[tyV k m r s a n cap, tyV k' m' r' s' a' n' cap', tyV k'' m'' r'' s'' a'' n'' cap''] w _
  clear h h' h'' hF hF' hF'' hAs hA1 hA2 hA3 hw0 hs
  have st1 : Stg 1 := .mk 1
  go_enter Tryd.func7, Tryd.ntmps7
  go_wp2_with (first
    | (have _s := st1; clear st1 _s; go_at_call 10; refine C1.out.mono ?_; rintro e w1 ⟨rfl, hb1'⟩; have hb1 : Below w0.heap.size w0 w1 := (by rw [EQ0.out]; exact hb1'); clear hb1'; obtain ⟨-, p0, p1, p2, p3, p4⟩ := (HN1.out.below hb1).ty; obtain ⟨-, q0, q1, q2, q3, q4⟩ := (HN2.out.below hb1).ty; obtain ⟨-, r0, r1, r2, r3, r4⟩ := (HN3.out.below hb1).ty; have st2 : Stg 2 := .mk 2)
    | (have _s := st2; clear st2 _s; go_at_call 10; refine (C2.out _ (below_aft B0 hb1)).mono ?_; rintro e w2 ⟨rfl, hb2⟩; have K2 := below_aft hb1 hb2; clear p0 p1 p2 p3 p4 q0 q1 q2 q3 q4 r0 r1 r2 r3 r4; obtain ⟨-, p0, p1, p2, p3, p4⟩ := (HN1.out.below K2).ty; obtain ⟨-, q0, q1, q2, q3, q4⟩ := (HN2.out.below K2).ty; obtain ⟨-, r0, r1, r2, r3, r4⟩ := (HN3.out.below K2).ty; have st3 : Stg 3 := .mk 3)
    | (have _s := st3; clear st3 _s; go_at_call 10; refine (C3.out _ (below_aft B0 K2)).mono ?_; rintro e w3 ⟨rfl, hb3⟩; have K3 := below_aft K2 hb3; clear p0 p1 p2 p3 p4 q0 q1 q2 q3 q4 r0 r1 r2 r3 r4; obtain ⟨-, p0, p1, p2, p3, p4⟩ := (HN1.out.below K3).ty; obtain ⟨-, q0, q1, q2, q3, q4⟩ := (HN2.out.below K3).ty; obtain ⟨-, r0, r1, r2, r3, r4⟩ := (HN3.out.below K3).ty; have st4 : Stg 4 := .mk 4)
    | (have _s := st4; clear st4 _s; go_at_call 38; refine (HAS.out _ (below_aft B0 K3)).mono ?_; rintro e w4 ⟨⟨vs, rfl, os⟩, hb4⟩; have K4 := below_aft K3 hb4; clear p0 p1 p2 p3 p4 q0 q1 q2 q3 q4 r0 r1 r2 r3 r4; obtain ⟨-, p0, p1, p2, p3, p4⟩ := (HN1.out.below K4).ty; obtain ⟨-, q0, q1, q2, q3, q4⟩ := (HN2.out.below K4).ty; obtain ⟨-, r0, r1, r2, r3, r4⟩ := (HN3.out.below K4).ty; have HOS := hid os; obtain ⟨a5, c5, rfl⟩ := own_sl HOS.out; clear os; have st5 : Stg 5 := .mk 5))
  go_loopw [9] (fun i W => ∃ j : Nat, j ≤ Xs.length ∧ i = .int .i64 j ∧ Below w4.heap.size w4 W) (fun i _ => Xs.length - (intOf i).toNat)
  case atStart => exact ⟨0, Nat.zero_le _, rfl, Below.refl _ _⟩
  case round =>
    obtain ⟨j, hj, rfl, hbl⟩ := hrel
    have K4w := below_aft K4 hbl
    clear p0 p1 p2 p3 p4 q0 q1 q2 q3 q4 r0 r1 r2 r3 r4
    by_cases hlt : j < Xs.length
    · obtain ⟨⟨xa, xb⟩, hx⟩ : ∃ x, Xs[j]? = some x := ⟨_, List.getElem?_eq_getElem hlt⟩
      have e : xa = xb := HSS.out _ (List.mem_of_getElem? hx)
      subst e
      obtain ⟨g, rfl, hB3, hg, x1, x2⟩ := row_pair (own_below HOS.out hbl) rfl hx
      have k0 : (0 : Int) ≤ (j : Int) := by omega
      have k1 : (j : Int) < (Xs.length : Int) := by omega
      have w9' : IntKind.i64.wrap ((j : Int) + 1) = (j : Int) + 1 := by rw [IntKind.wrap_i64]; omega
      have HBL := hid hbl
      clear hx hB3 hbl
      simp only at x1 x2
      go_wp2_with fail
      go_quiet (fail)
      go_wp2_with fail
      refine ⟨⟨j + 1, hlt, rfl, belN HBL.out _⟩, ?_⟩
      show Xs.length - ((j : Int) + 1).toNat < Xs.length - (j : Int).toNat
      omega
    · obtain rfl : j = Xs.length := by omega
      obtain ⟨-, p0, p1, p2, p3, p4⟩ := (HN1.out.below K4w).ty; obtain ⟨-, q0, q1, q2, q3, q4⟩ := (HN2.out.below K4w).ty; obtain ⟨-, r0, r1, r2, r3, r4⟩ := (HN3.out.below K4w).ty
      go_wp2_with (first
        | (have _s := st5; clear st5 _s; go_at_call 38; refine (HA1.out _ (below_aft B0 K4w)).mono ?_; rintro e w5 ⟨⟨v1, rfl, o1⟩, hb5⟩; have K5 := below_aft K4w hb5; clear p0 p1 p2 p3 p4 q0 q1 q2 q3 q4 r0 r1 r2 r3 r4; obtain ⟨-, p0, p1, p2, p3, p4⟩ := (HN1.out.below K5).ty; obtain ⟨-, q0, q1, q2, q3, q4⟩ := (HN2.out.below K5).ty; obtain ⟨-, r0, r1, r2, r3, r4⟩ := (HN3.out.below K5).ty; have HO1 := hid o1; clear o1; have st6 : Stg 6 := .mk 6)
        | (have _s := st6; clear st6 _s; go_at_call 38; refine (HA2.out _ (below_aft B0 K5)).mono ?_; rintro e w6 ⟨⟨v2, rfl, o2⟩, hb6⟩; have K6 := below_aft K5 hb6; clear p0 p1 p2 p3 p4 q0 q1 q2 q3 q4 r0 r1 r2 r3 r4; obtain ⟨-, p0, p1, p2, p3, p4⟩ := (HN1.out.below K6).ty; obtain ⟨-, q0, q1, q2, q3, q4⟩ := (HN2.out.below K6).ty; obtain ⟨-, r0, r1, r2, r3, r4⟩ := (HN3.out.below K6).ty; have HO2 := hid o2; have HO1b := hid (own_below HO1.out hb6); clear o2; have st7 : Stg 7 := .mk 7)
        | (have _s := st7; clear st7 _s; go_at_call 38; refine (HA3.out _ (below_aft B0 K6)).mono ?_; rintro e w7 ⟨⟨v3, rfl, o3⟩, hb7⟩; have K7 := below_aft K6 hb7; clear p0 p1 p2 p3 p4 q0 q1 q2 q3 q4 r0 r1 r2 r3 r4; obtain ⟨-, p0, p1, p2, p3, p4⟩ := (HN1.out.below K7).ty; obtain ⟨-, q0, q1, q2, q3, q4⟩ := (HN2.out.below K7).ty; obtain ⟨-, r0, r1, r2, r3, r4⟩ := (HN3.out.below K7).ty; have HO3 := hid o3; have HO2b := hid (own_below HO2.out hb7); have HO1c := hid (own_below HO1b.out hb7); clear o3)
        | (go_at_call 11; refine (CA.out _).mono ?_; rintro e w9 ⟨rfl, hb9⟩))
      go_ret
      exact ⟨rfl, below_aft (below_aft B0 K7) hb9⟩
end Go.Proofs.YtjchbclkdbojpaaDoor
