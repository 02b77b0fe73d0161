/-
  TypesTurn returns true for every two types, every number and every list of numbers, and leaves them as they were: the row of 'loanwordlaw06.TypesTurn', and its card, tied to the program's text. No condition beyond the statement's own (the library's tables laid).
-/
import Derived.Test.YtjchbclkdbojpaaDoorAw
import Derived.Test.YtjchbclkdbojpaaDoorAx
import Derived.Test.YtjchbclkdbojpaaDoorAg
namespace Go.Proofs.YtjchbclkdbojpaaDoor
open Go.ChangeShapes Go.WideShapes Go.ChangeAt Go.RowKit Go.Joins Go.Shelf Go.WideElems Go.Maps
set_option linter.unusedVariables false
set_option linter.unusedSimpArgs false

set_option maxRecDepth 100000 in
set_option maxHeartbeats 1000000 in
theorem turn_big1 (t u : Ty) (f f' : Fv) (fr : Int) (v : Value) (w : World) (h : TyAt w f t) (h' : TyAt w f' u) (hF : FitC 60 t false) :
    Calls Tryd.prog 4 #[f.v, f'.v, .int .i64 fr, v] w fun e w' => e = .returned (.bool true) ∧ Below w.heap.size w w' := by
  have CA : Hid (∀ W, Calls Tryd.prog 11 #[] W fun e w' => e = .returned (.bool true) ∧ Below W.heap.size W w') := awake_true
  have CF : Hid (Calls Tryd.prog 10 #[f.v, .int .i64 60] ((w.alloc f.o).alloc f'.o) fun e w' => e = .returned (.bool false) ∧ Below ((w.alloc f.o).alloc f'.o).heap.size ((w.alloc f.o).alloc f'.o) w') := hF f _ (h.bel (belB w f f'))
  obtain ⟨k, m, r, s, a, n, cap⟩ := f
  obtain ⟨k', m', r', s', a', n', cap'⟩ := f'
  show Calls Tryd.prog 4 #[tyV k m r s a n cap, tyV k' m' r' s' a' n' cap', .int .i64 fr, v] w _
  clear h h' hF
  go_enter Tryd.func4, Tryd.ntmps4
  go_wp2_with (first
    | (go_at_call 10; refine CF.out.mono ?_; rintro e w1 ⟨rfl, hb1⟩)
    | (go_at_call 11; refine (CA.out _).mono ?_; rintro e w7 ⟨rfl, hb7⟩))
  go_ret
  exact ⟨rfl, below_aft (below2 hb1) hb7⟩
set_option maxRecDepth 100000 in
set_option maxHeartbeats 1000000 in
theorem turn_big2 (t u : Ty) (f f' : Fv) (fr : Int) (v : Value) (w : World) (h : TyAt w f t) (h' : TyAt w f' u) (hF : FitC 60 t true) (hF' : FitC 60 u false) :
    Calls Tryd.prog 4 #[f.v, f'.v, .int .i64 fr, v] w fun e w' => e = .returned (.bool true) ∧ Below w.heap.size w w' := by
  have CA : Hid (∀ W, Calls Tryd.prog 11 #[] W fun e w' => e = .returned (.bool true) ∧ Below W.heap.size W w') := awake_true
  have CF : Hid (Calls Tryd.prog 10 #[f.v, .int .i64 60] ((w.alloc f.o).alloc f'.o) fun e w' => e = .returned (.bool true) ∧ Below ((w.alloc f.o).alloc f'.o).heap.size ((w.alloc f.o).alloc f'.o) w') := hF f _ (h.bel (belB w f f'))
  have CG : Hid (∀ W, Below w.heap.size w W → Calls Tryd.prog 10 #[f'.v, .int .i64 60] W fun e w' => e = .returned (.bool false) ∧ Below W.heap.size W w') := fun W hW => hF' f' _ (h'.bel hW)
  have HN2 : Hid (At ((w.alloc f.o).alloc f'.o) (w.heap.size + 1) f'.o) := at_snd w f.o f'.o
  obtain ⟨k, m, r, s, a, n, cap⟩ := f
  obtain ⟨k', m', r', s', a', n', cap'⟩ := f'
  show Calls Tryd.prog 4 #[tyV k m r s a n cap, tyV k' m' r' s' a' n' cap', .int .i64 fr, v] w _
  clear h h' hF hF'
  have st1 : Stg 1 := .mk 1
  go_enter Tryd.func4, Tryd.ntmps4
  go_wp2_with (first
    | (have _s := st1; clear st1 _s; go_at_call 10; refine CF.out.mono ?_; rintro e w1 ⟨rfl, hb1⟩; have st2 : Stg 2 := .mk 2; obtain ⟨-, p0, p1, p2, p3, p4⟩ := (HN2.out.below hb1).ty)
    | (have _s := st2; clear st2 _s; go_at_call 10; refine (CG.out _ (below2 hb1)).mono ?_; rintro e w2 ⟨rfl, hb2⟩)
    | (go_at_call 11; refine (CA.out _).mono ?_; rintro e w7 ⟨rfl, hb7⟩))
  go_ret
  exact ⟨rfl, below_aft (below_aft (below2 hb1) hb2) hb7⟩
set_option maxRecDepth 100000 in
set_option maxHeartbeats 1000000 in
theorem turn_big3 (t u : Ty) (f f' : Fv) (fr : Int) (a3 : Option Addr) (n3 cap3 : Nat) (w : World) (h : TyAt w f t) (h' : TyAt w f' u) (hF : FitC 60 t true) (hF' : FitC 60 u true) (hn : 100 < n3) :
    Calls Tryd.prog 4 #[f.v, f'.v, .int .i64 fr, .slice a3 n3 cap3] w fun e w' => e = .returned (.bool true) ∧ Below w.heap.size w w' := by
  have CA : Hid (∀ W, Calls Tryd.prog 11 #[] W fun e w' => e = .returned (.bool true) ∧ Below W.heap.size W w') := awake_true
  have CF : Hid (Calls Tryd.prog 10 #[f.v, .int .i64 60] ((w.alloc f.o).alloc f'.o) fun e w' => e = .returned (.bool true) ∧ Below ((w.alloc f.o).alloc f'.o).heap.size ((w.alloc f.o).alloc f'.o) w') := hF f _ (h.bel (belB w f f'))
  have CG : Hid (∀ W, Below w.heap.size w W → Calls Tryd.prog 10 #[f'.v, .int .i64 60] W fun e w' => e = .returned (.bool true) ∧ Below W.heap.size W w') := fun W hW => hF' f' _ (h'.bel hW)
  have HN2 : Hid (At ((w.alloc f.o).alloc f'.o) (w.heap.size + 1) f'.o) := at_snd w f.o f'.o
  have nb : (100 : Int) < (n3 : Int) := by omega
  obtain ⟨k, m, r, s, a, n, cap⟩ := f
  obtain ⟨k', m', r', s', a', n', cap'⟩ := f'
  show Calls Tryd.prog 4 #[tyV k m r s a n cap, tyV k' m' r' s' a' n' cap', .int .i64 fr, .slice a3 n3 cap3] w _
  clear h h' hF hF'
  have st1 : Stg 1 := .mk 1
  go_enter Tryd.func4, Tryd.ntmps4
  go_wp2_with (first
    | (have _s := st1; clear st1 _s; go_at_call 10; refine CF.out.mono ?_; rintro e w1 ⟨rfl, hb1⟩; have st2 : Stg 2 := .mk 2; obtain ⟨-, p0, p1, p2, p3, p4⟩ := (HN2.out.below hb1).ty)
    | (have _s := st2; clear st2 _s; go_at_call 10; refine (CG.out _ (below2 hb1)).mono ?_; rintro e w2 ⟨rfl, hb2⟩)
    | (go_at_call 11; refine (CA.out _).mono ?_; rintro e w7 ⟨rfl, hb7⟩))
  go_ret
  exact ⟨rfl, below_aft (below_aft (below2 hb1) hb2) hb7⟩
theorem turn_walk (t u : Ty) (f f' : Fv) (fr : Int) (a3 : Option Addr) (n cap3 : Nat) (X : List Int) (w : World) (h : TyAt w f t) (h' : TyAt w f' u) (hI : IntR w a3 n cap3 X) :
    Calls Tryd.prog 4 #[f.v, f'.v, .int .i64 fr, .slice a3 n cap3] w fun e w' => e = .returned (.bool true) ∧ Below w.heap.size w w' := by
  obtain ⟨b1, hF⟩ := fits_ex 60 60 rfl (by decide) t
  obtain ⟨b2, hF'⟩ := fits_ex 60 60 rfl (by decide) u
  cases b1 with
  | false => exact turn_big1 t u f f' fr _ w h h' hF
  | true =>
    cases b2 with
    | false => exact turn_big2 t u f f' fr _ w h h' hF hF'
    | true =>
      rcases Nat.lt_or_ge 100 n with hn | hn
      · exact turn_big3 t u f f' fr a3 n cap3 w h h' hF hF' hn
      · obtain ⟨is, c, no0, C0, al, sa, R, m1, no1, C1, no2, C2, T⟩ := turn_all t u f f' fr X w h h' hI.rng
        cases is with
        | true => exact turn_is t u f f' fr a3 n cap3 X w h h' hF hF' hI hn c no0 C0 al sa R m1 no1 C1 no2 C2 T
        | false => exact turn_not t u f f' fr a3 n cap3 X w h h' hF hF' hI hn c no0 C0 al sa R m1 no1 C1 no2 C2 T
set_option maxRecDepth 100000 in
/-- A list of numbers opened. -/
theorem open_ints {H : Type} {enc : TypeId × Value → H} {W : World} {r : Reach} {b0 base : Nat} {v : Value} {d : DataW H} {p : List MemPlace} {held : Bool} (hval : Value.okWide Tryd.prog W r b0 49 v) (h : DataW.Trod enc Tryd.prog W base (fun _ => true) held 49 v d p) :
    ∃ a n cap X, v = .slice a n cap ∧ IntR W a n cap X := by
  obtain ⟨a0, len0, cap0, rfl⟩ := okWide_slice Tryd.underlying49 hval
  obtain ⟨fuel, hf⟩ := h
  rcases DataW.trod_slice Tryd.underlying49 hf with ⟨hcs, _⟩ | ⟨a, len, cap, elems, rest, m2, hm2, hcs, _, hb, hl, hc, hel, hx, _, _⟩
  · simp [Value.cells] at hcs
    obtain ⟨rfl, rfl, rfl⟩ := hcs
    exact ⟨none, 0, 0, [], rfl, ⟨rfl, Nat.le_refl _, by simp, fun hne => absurd rfl hne, fun x hx => by simp at hx, fun _ => rfl⟩⟩
  · simp [Value.cells] at hcs
    obtain ⟨rfl, rfl, rfl⟩ := hcs
    have k1 := ones26.2.2.1
    rw [k1] at hx
    have each : ∀ i, i < len0 → ∃ x : Int, W.cell? (a.add i) = some (.int .i64 x) ∧ (-9223372036854775808 ≤ x ∧ x ≤ 9223372036854775807) := fun i hi => by
      have hxi := hx i hi
      rw [List.getElem?_eq_getElem (by omega), Option.bind_eq_some_iff] at hxi
      obtain ⟨cs', hc1, hc2⟩ := hxi
      obtain ⟨x, q0, _, w0⟩ := DataW.trod_int Tryd.underlying3 hc2
      subst q0
      obtain ⟨_, hln, hcell⟩ := World.cells?_some hc1
      have g0 := hcell 0 (by omega)
      simp [Lit.wf, IntKind.min, IntKind.max, IntKind.signed, IntKind.bits] at w0
      refine ⟨x, by simpa [Addr.add] using g0, by omega⟩
    obtain ⟨q, hq⟩ := Deep.choose_lt each
    refine ⟨some a, len0, cap0, (List.range len0).map q, rfl, ⟨by simp, by omega, by omega, fun hne => ?_, fun x hx => ?_, fun e => by cases e⟩⟩
    · have hpos : 0 < len0 := by
        rcases Nat.eq_zero_or_pos len0 with h | h
        · subst h; exact absurd rfl hne
        · exact h
      obtain ⟨b, off, spot⟩ := a
      have hc0 := (hq 0 hpos).1
      have hspot : spot = none := by simpa [Addr.add] using World.cell?_spot hc0
      subst hspot
      refine ⟨b, off, rfl, ?_, fun i x hxi => ?_⟩
      · have := (hq 0 hpos).1
        rw [Addr.add_lit] at this
        exact lt_of_cell0 this
      · have hi : i < len0 := by simpa using (List.getElem?_eq_some_iff.1 hxi).1
        rw [List.getElem?_map, List.getElem?_range hi] at hxi
        cases hxi
        have := (hq i hi).1
        rw [Addr.add_lit] at this
        exact this
    · simp at hx
      obtain ⟨i, hi, rfl⟩ := hx
      exact (hq i hi).2
set_option maxRecDepth 100000 in
theorem typesTurn_lifted (os : Os) (started : os.Started) (H : Type) (enc : TypeId × Value → H) :
    ReturnsInHanded {} Tryd.checked os 4 .any (fun w args => (Rows.typesTurnSpec.pre enc Tryd.prog Tryd.f4 [] false w args ∧ laidMetH Tryd.prog laidT w) ∧ sizedMet enc Tryd.prog Tryd.f4 (OpenSpec.ofChange Rows.typesTurnSpec) false w args)
      (Rows.typesTurnSpec.post enc Tryd.prog Tryd.f4 false true false false) := by
  refine lift_shaped (C := Tryd.checked) (X := fun w _ => laidMetH Tryd.prog laidT w) (fun _ _ _ hh h => h.of_heap hh) own started (by kernel_rfl) Tryd.func4
    (ChangeSpec.witness_shaped (enc := enc) (C := Tryd.checked) (os := os) (X := fun w _ => laidMetH Tryd.prog laidT w) false (World.laidAll Tryd.prog os laidT) #[.agg #[.int .u8 0, .bool false, .int .i64 0, .int .i64 0, .slice none 0 0], .agg #[.int .u8 0, .bool false, .int .i64 0, .int .i64 0, .slice none 0 0], .int .i64 0, .slice none 0 0] 8 (World.laidAll_os _ _ _) (World.shaped_of_ZipB (by kernel_rfl) (by kernel_rfl)) (by kernel_rfl) (by kernel_rfl) (by kernel_rfl) (door_metT os _)) ?_
  intro W base args ds gs before hval0 hW hL hsh
  have hval : ∀ (j : Nat) t v, Tryd.f4.params[j]? = some t → args[j]? = some v → Value.okWide Tryd.prog W .any base t v := hval0
  have hW' := hW
  obtain ⟨p, q, hA0, hV, rfl, hfz, hnd⟩ := hW
  have hA : DataW.TrodAll enc Tryd.prog W 0 (fun _ => true) true Tryd.f4.params.toList args.toList ds p := hA0
  rw [Tryd.params4] at hA hval
  obtain ⟨v0, vs0, d0, ds0, p0, q0, hargs, rfl, rfl, h0, r0⟩ := trodAll_cons hA
  obtain ⟨v1, vs1, d1, ds1, p1, q1, rfl, rfl, rfl, h1, r1⟩ := trodAll_cons r0
  obtain ⟨v2, vs2, d2, ds2, p2, q2, rfl, rfl, rfl, h2, r2⟩ := trodAll_cons r1
  obtain ⟨v3, vs3, d3, ds3, p3, q3, rfl, rfl, rfl, h3, r3⟩ := trodAll_cons r2
  obtain ⟨rfl, rfl, rfl⟩ := trodAll_nil r3
  obtain rfl : args = #[v0, v1, v2, v3] := by cases args; simp_all
  obtain ⟨rfl, rfl⟩ := trodVars_none hV
  have k0 := h0
  have k1 := h1
  have k2 := h2
  have k3 := h3
  have lt0 : ∀ x ∈ p0, x.block < W.heap.size := by obtain ⟨m, hm⟩ := k0; exact DataW.trod_lt m _ _ _ hm
  have lt1 : ∀ x ∈ p1, x.block < W.heap.size := by obtain ⟨m, hm⟩ := k1; exact DataW.trod_lt m _ _ _ hm
  have lt2 : ∀ x ∈ p2, x.block < W.heap.size := by obtain ⟨m, hm⟩ := k2; exact DataW.trod_lt m _ _ _ hm
  have lt3 : ∀ x ∈ p3, x.block < W.heap.size := by obtain ⟨m, hm⟩ := k3; exact DataW.trod_lt m _ _ _ hm
  obtain ⟨f, t, rfl, hT⟩ := open_type (hval 0 26 v0 rfl rfl) h0
  obtain ⟨f', u, rfl, hU⟩ := open_type (hval 1 26 v1 rfl rfl) h1
  obtain ⟨fr, rfl⟩ := okWide_int Tryd.underlying3 (hval 2 3 v2 rfl rfl)
  obtain ⟨a3, n3, cap3, X, rfl, hI⟩ := open_ints (hval 3 49 v3 rfl rfl) h3
  clear hA0 hval0
  refine (turn_walk t u f f' fr a3 n3 cap3 X W hT hU hI).mono fun e W' ⟨he, bel⟩ => ?_
  subst he
  exact ⟨_, rfl, _, _, _, [], _, [], hW', trodAll_mk1 (shut_bool Tryd.underlying4 _), (trodAll_cons_mk (Below.trod laidOut (by kernel_rfl) (of_decide_eq_true (by kernel_rfl)) k0 bel lt0) (trodAll_cons_mk (Below.trod laidOut (by kernel_rfl) (of_decide_eq_true (by kernel_rfl)) k1 bel lt1) (trodAll_cons_mk (Below.trod laidOut (by kernel_rfl) (of_decide_eq_true (by kernel_rfl)) k2 bel lt2) (trodAll_cons_mk (Below.trod laidOut (by kernel_rfl) (of_decide_eq_true (by kernel_rfl)) k3 bel lt3) trodAll_mk0)))), rfl, bel.frame _, fun h => by cases h⟩
theorem typesTurn_row : Rows.TypesTurnSaid :=
  OpenClaim.holds_of_wide 4 Tryd.f4 rfl rfl rfl rfl rfl rfl rfl ⟨rfl, rfl, rfl, rfl, rfl⟩ rfl rfl rfl rfl rfl (by kernel_rfl) Tryd.func4 (by kernel_rfl)
    (of_decide_eq_true (by kernel_rfl)) (by unfold Func.isWrapper; first | (rw [if_pos (by decide +kernel)]; kernel_rfl) | (rw [if_neg (by decide +kernel)]; exact ⟨rfl, rfl⟩))
    (fun os started H enc _ => typesTurn_lifted os started H enc)
theorem typesTurn_holds : Rows.TypesTurnCardSaid :=
  Claim7.holds_tied_plain_at .later [] [.data, .data, .data] true (true, "1452669d7a3223c60428030cae66f8ebb1e5237a8679f11303ec3cf39a5f89b7") false
    typesTurn_row (fun _ h => by cases h) (by kernel_rfl) (fun _ h => by cases h) typesTurn_row_tie rfl ⟨rfl, rfl⟩ (by kernel_rfl) rfl
    (fun f fn hf hfn => by
      obtain rfl : f = 4 := Option.some.inj ((show Tryd.prog.funcNamed "loanword/loanwordlaw06.TypesTurn" = some 4 by kernel_rfl).symm.trans hf) |>.symm
      obtain rfl : fn = Tryd.f4 := (Option.some.inj (Tryd.func4.symm.trans hfn)).symm
      exact ⟨by kernel_rfl, fun j t ht => by
        rw [Tryd.params4] at ht
        have hm : t ∈ [26, 26, 3, 49] := by simpa using Array.mem_of_getElem? ht
        have hall : ([26, 26, 3, 49].all fun u => !Tryd.prog.wantsStandIn u) = true := by kernel_rfl
        exact (show Tryd.prog.wantsStandIn t = false by simpa using List.all_eq_true.1 hall t hm)⟩)
    (by kernel_rfl)
#print axioms typesTurn_holds
end Go.Proofs.YtjchbclkdbojpaaDoor
